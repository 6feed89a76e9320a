/-
  The commands of bytes: the closure that reads them. Contract. Own work.
-/
import Derived.Test.YthjcmgjmdjihnaaDoorRespG
namespace Go.Proofs.YthjcmgjmdjihnaaDoor
open Go.RowKit Go.Shelf
set_option linter.unusedVariables false
set_option linter.unusedSimpArgs false
theorem int_size1 : (Tryd.prog.info? 3).map (·.size) = some 1 := by kernel_rfl
theorem ll_size1 : (Tryd.prog.info? 27).map (·.size) = some 1 := by kernel_rfl
theorem ownsRow_lo {w : World} {base base' size n : Nat} {e : TypeId} {v : Value} {xs : List Value} (h : w.ownsRow base e size v n xs) (hb : base' ≤ base) : w.ownsRow base' e size v n xs :=
  ⟨h.1, h.2.elim Or.inl (fun ⟨g, cap, cur, hv, hg, r⟩ => Or.inr ⟨g, cap, cur, hv, Nat.le_trans hb hg, r⟩)⟩
def CL1 (gd gv gb gn : Nat) (A A2 : Option Addr) (nn m2 c c2 : Nat) (opn : Nat) (v : Value) : Prop :=
  match opn with
  | 0 => v = .slice A nn c
  | 1 => v = .int .i64 (nn : Int)
  | 2 | 3 | 4 => v = .pointer (some ⟨gd, 0, none⟩)
  | 5 => v = .slice A2 m2 c2
  | 6 => v = .int .i64 (m2 : Int)
  | 7 => v = .int .i64 ((nn - m2 : Nat) : Int)
  | _ => True

def CL3 (lv : Value) (A9 : Option Addr) (n9 c9 : Nat) (opn : Nat) (v : Value) : Prop :=
  match opn with
  | 0 => v = lv
  | 1 => v = .slice A9 n9 c9
  | _ => True

/-- The words of a list of a row's values. -/
def NOf (Bd : Nat) (vs : List Value) (L : List (List Wd)) (w : World) : Prop := ∀ (i : Nat) (u : Value) (l : List Wd), vs[i]? = some u → L[i]? = some l → OwnW w Bd u l
/-- What the closure leaves. -/
def CloR (s : Wd) (T gd gn gl : Nat) (er : Int) (w' : World) : Prop :=
  ((pars s).2.2 : Int) = (if er = 4 then 0 else er) ∧ Row w' 3 gn [.int .i64 ((s.length - (pars s).2.1.length : Nat) : Int)] ∧ ∃ lv, Row w' 27 gl [lv] ∧ OwC w' T lv (pars s).1
set_option maxRecDepth 100000 in
set_option maxHeartbeats 4000000 in
theorem clo_any (w : World) (gd gv gb gn gl B : Nat) (A : Option Addr) (c : Nat) (s : Wd) (h : DecAt w gd B s) (hs : s.length ≤ 150000000000000) (hcnt : (pars s).1.length ≤ 100000) (hT : TabB w B)
    (rv : Row w 56 gv [.pointer (some ⟨gd, 0, none⟩)]) (rb : Row w 26 gb [.slice A s.length c]) (rn : Row w 3 gn [.int .i64 0]) (rl : Row w 27 gl [.slice none 0 0])
    (hn : B ≤ gn) (hl : B ≤ gl) (d1 : gd ≠ gv) (d2 : gd ≠ gb) (d3 : gd ≠ gn) (d4 : gd ≠ gl) (d5 : gn ≠ gv) (d6 : gn ≠ gb) (d7 : gn ≠ gl) (d8 : gl ≠ gv) (d9 : gl ≠ gb) :
    Calls Tryd.prog 24 #[.pointer (some ⟨gv, 0, none⟩), .pointer (some ⟨gb, 0, none⟩), .pointer (some ⟨gn, 0, none⟩), .pointer (some ⟨gl, 0, none⟩)] w fun en w' =>
      ∃ er, en = .panicked (Pn er) ∧ CloR s w.heap.size gd gn gl er w' ∧ ButZ [gd, gn, gl] w w' := by
  have hgd := h.lt.1
  have hSd : ∀ k ∈ [gd, gn, gl], k < w.heap.size := by
    intro k hk
    have := rn.lt; have := rl.lt
    simp at hk
    omega
  have hSB : ∀ k ∈ [gd, gn, gl], B ≤ k := by
    intro k hk
    have := h.lt.2
    simp at hk
    omega
  have hB := h.hB
  have hvS : gv ∉ [gd, gn, gl] := by simp; omega
  have hbS : gb ∉ [gd, gn, gl] := by simp; omega
  have HC := hide (fun (w2 : World) (q : Wd) (hq : DecAt w2 gd B q) (hl : q.length ≤ s.length) (hb : ButZ [gd, gn, gl] w w2) => command_dec gd B q w2 hq (Nat.le_trans hl hs) (hT.below (hb.below hSB hB)))
  obtain ⟨ip, hip, hiz, his, hib⟩ := liInfo
  have hs9 := hide hs
  have hcnt9 := hide hcnt
  have h9 := hide h
  have rn9 := hide rn
  have rl9 := hide rl
  have rv9 := hide rv
  have rb9 := hide rb
  have hSd9 := hide hSd
  have hSB9 := hide hSB
  have D := hide (show gd ≠ gv ∧ gd ≠ gb ∧ gd ≠ gn ∧ gd ≠ gl ∧ gn ≠ gv ∧ gn ≠ gb ∧ gn ≠ gl ∧ gl ≠ gv ∧ gl ≠ gb from ⟨d1, d2, d3, d4, d5, d6, d7, d8, d9⟩)
  clear h hs hT hcnt rv rb rn rl hn hl hSd hSB d1 d2 d3 d4 d5 d6 d7 d8 d9
  go_enter Tryd.func24, Tryd.ntmps24
  go_wp2_with fail
  go_loopw [4] (fun wv wr => ∃ (L0 : List (List Wd)) (q : Wd) (lv : Value) (x0 : Nat), wv = wv ∧ ButZ [gd, gn, gl] w wr ∧ DecAt wr gd B q ∧ Row wr 3 gn [.int .i64 (x0 : Int)] ∧ x0 = s.length - q.length ∧ Row wr 27 gl [lv] ∧ OwC wr w.heap.size lv L0 ∧ q.length ≤ s.length ∧ L0.length + q.length ≤ s.length ∧ pars s = (L0 ++ (pars q).1, (pars q).2)) (fun _ wr => match wr.cell? ⟨gd, 0, none⟩ with | some (.slice _ n _) => n | _ => 0)
  case atStart => exact ⟨[], s, .slice none 0 0, 0, rfl, ButZ.refl _ _, h9.out, rn9.out, by omega, rl9.out, OwC.nil _ _, Nat.le_refl _, by simp, rfl⟩
  case round =>
    obtain ⟨L0, q, lv, x0, -, bz, dq, rn, hx0, rl, oc, hq, hL, hp⟩ := hrel
    have hwb := bz.size
    have rv := rv9.out.butz bz hvS
    have rb := rb9.out.butz bz hbS
    have c5 := rv.cell (j := 0) rfl
    have HC2 := HC.out wr q dq hq bz
    obtain ⟨Aq, cq, rdq, _, _, _⟩ := id dq
    have mq := hide (rdq.cell (j := 0) rfl)
    replace hx0 := hide hx0
    replace hq := hide hq
    replace hL := hide hL
    replace hp := hide hp
    replace oc := hide oc
    clear rdq
    go_wp2_with fail
    refine HC2.mono ?_
    intro e w2 hr
    clear HC2
    cases hcm : cmdL q with
    | error er =>
      unfold CmdRes at hr
      rw [hcm] at hr
      obtain ⟨bu, rfl⟩ := hr
      have rn2 := rn.but bu (fun e => D.out.2.2.1 e.symm)
      have rl2 := rl.but bu (fun e => D.out.2.2.2.1 e.symm)
      have hpe := hide (pars_err hcm)
      have bz2 : ButZ [gd, gn, gl] wr w2 := ButZ.ofBut bu (by simp)
      clear hcm
      go_wp2_with fail
      refine ⟨rfl, er, rfl, ⟨?_, ?_, lv, rl2, ?_⟩, bz.trans bz2⟩
      · rw [hp.out, hpe.out]
        show ((if er = 4 then 0 else er : Nat) : Int) = _
        by_cases h4 : er = 4
        · rw [if_pos h4, if_pos (by omega)]; rfl
        · rw [if_neg h4, if_neg (by omega)]
      · rw [hp.out, hpe.out, ← hx0.out]
        exact rn2
      · rw [hp.out, hpe.out, List.append_nil]
        exact oc.out.butz bz2 hSd9.out
    | ok p =>
      obtain ⟨ws, r⟩ := p
      unfold CmdRes at hr
      rw [hcm] at hr
      obtain ⟨bu, ⟨v, rfl, hv⟩, d2⟩ := hr
      simp only at hv d2
      have hpo := hide (pars_ok hcm)
      have hrl := hide (cmdL_less hcm)
      have bz2 : ButZ [gd, gn, gl] w w2 := bz.trans (ButZ.ofBut bu (by simp))
      have rn2 := rn.but bu (fun e => D.out.2.2.1 e.symm)
      have rl2 := rl.but bu (fun e => D.out.2.2.2.1 e.symm)
      have rv2 := rv.but bu (fun e => D.out.1 e.symm)
      have rb2 := rb.but bu (fun e => D.out.2.1 e.symm)
      have oc2 := hide (oc.out.butz (ButZ.ofBut (S := [gd, gn, gl]) bu (by simp)) hSd9.out)
      obtain ⟨A2, c2, rd2, _, _, _⟩ := id d2
      have hw2 := bz2.size
      have hws := bu.size
      have hcb := hide (show ∀ w1, But gn w2 w1 → w1.cell? ⟨gb, 0, none⟩ = some (.slice A s.length c) from fun w1 hb1 => (rb2.but hb1 (fun e => D.out.2.2.2.2.2.1 e.symm)).cell rfl)
      have hcv := hide (show ∀ w1, But gn w2 w1 → w1.cell? ⟨gv, 0, none⟩ = some (.pointer (some ⟨gd, 0, none⟩)) from fun w1 hb1 => (rv2.but hb1 (fun e => D.out.2.2.2.2.1 e.symm)).cell rfl)
      have hcd := hide (show ∀ w1, But gn w2 w1 → w1.cell? ⟨gd, 0, none⟩ = some (.slice A2 r.length c2) from fun w1 hb1 => (rd2.but hb1 (fun e => D.out.2.2.1 e)).cell rfl)
      have hsub := hide (show IntKind.i64.wrap ((s.length : Int) - (r.length : Int)) = ((s.length - r.length : Nat) : Int) from wrap_id (by have := hrl.out.1; have := hq.out; omega) (by omega) (by have := hs9.out; omega))
      obtain ⟨nn, hnn⟩ : ∃ n, n = s.length := ⟨_, rfl⟩
      obtain ⟨m2, hm2⟩ : ∃ n, n = r.length := ⟨_, rfl⟩
      rw [← hnn] at hcb hsub
      rw [← hm2] at hcd hsub
      obtain ⟨n9, hn9⟩ : ∃ n, n = ws.length := ⟨_, rfl⟩
      obtain ⟨A9, c9, hv9⟩ : ∃ A9 c9, v = .slice A9 n9 c9 := by
        obtain ⟨vs9, ow9, _⟩ := id hv
        obtain ⟨A9, c9, e9⟩ := own_slB ow9
        exact ⟨A9, c9, by rw [e9, hn9]⟩
      subst hv9
      replace hnn := hide hnn
      replace hm2 := hide hm2
      replace hn9 := hide hn9
      replace hv := hide hv
      clear hcm rn rl rv rb c5 rd2 oc bu
      go_wp2_with fail
      rename_i K1 hK1
      refine wp_region_vals [8] (CL1 gd gv gb gn A A2 nn m2 c c2) (JB gn 3 w2 0 [.int .i64 (x0 : Int)] [.int .i64 ((nn - m2 : Nat) : Int)]) (by kernel_rfl) (by kernel_rfl) (by kernel_rfl) (by kernel_rfl) (by kernel_rfl) (JB.start rn2 rfl) ?obs1 ?he1
      case obs1 =>
        refine ⟨?_, ?_, ?_, ?_, ?_, ?_, ?_, ?_, ?_, trivial⟩
        · exact .inl ⟨by kernel_rfl, fun L a1 w1 n h => ⟨_, rfl, run_load1 26 (.tmp 1) gb 0 (.slice A nn c) rfl Tryd.isAgg26 (h.var n 1 (by kernel_rfl)) (hcb.out w1 h.inv.2.2)⟩⟩
        · exact .inl ⟨by kernel_rfl, fun L a1 w1 n h => ⟨_, rfl, run_lenSl 26 (.tmp 7) A nn c rfl ⟨_, Tryd.underlying26⟩ (h.dep n 0 7 (by kernel_rfl) rfl)⟩⟩
        · exact .inl ⟨by kernel_rfl, fun L a1 w1 n h => ⟨_, rfl, run_load1 56 (.tmp 0) gv 0 (.pointer (some ⟨gd, 0, none⟩)) rfl Tryd.isAgg56 (h.var n 0 (by kernel_rfl)) (hcv.out w1 h.inv.2.2)⟩⟩
        · refine .inl ⟨by kernel_rfl, fun L a1 w1 n h => ⟨.pointer (some ⟨gd, 0, none⟩), rfl, ?_⟩⟩
          have e0 : a1.eval (.tmp 9) = _ := h.dep n 2 9 (by kernel_rfl) rfl
          unfold execOp
          simp only [e0]
          go_simp
        · refine .inl ⟨by kernel_rfl, fun L a1 w1 n h => ⟨.pointer (some ⟨gd, 0, none⟩), rfl, ?_⟩⟩
          have e0 : a1.eval (.tmp 10) = _ := h.dep n 3 10 (by kernel_rfl) rfl
          unfold execOp
          simp only [e0]
          go_simp
        · exact .inl ⟨by kernel_rfl, fun L a1 w1 n h => ⟨_, rfl, run_load1 26 (.tmp 11) gd 0 (.slice A2 m2 c2) rfl Tryd.isAgg26 (h.dep n 4 11 (by kernel_rfl) rfl) (hcd.out w1 h.inv.2.2)⟩⟩
        · exact .inl ⟨by kernel_rfl, fun L a1 w1 n h => ⟨_, rfl, run_lenSl 26 (.tmp 12) A2 m2 c2 rfl ⟨_, Tryd.underlying26⟩ (h.dep n 5 12 (by kernel_rfl) rfl)⟩⟩
        · exact .inl ⟨by kernel_rfl, fun L a1 w1 n h => ⟨_, rfl, run_subZ (.tmp 8) (.tmp 13) rfl (h.dep n 1 8 (by kernel_rfl) rfl) (h.dep n 6 13 (by kernel_rfl) rfl) hsub.out⟩⟩
        · refine .inr fun L a1 w1 n h K hK => ?_
          have no : L.getD 8 false = false := n.not_yet
          refine st_store 3 (.tmp 2) (.tmp 14) gn 0 3 [.int .i64 x0] (.int .i64 ((nn - m2 : Nat) : Int)) rfl int_size1 (h.var n 2 (by kernel_rfl)) (h.dep n 7 14 (by kernel_rfl) rfl) (h.inv.1 ((bits_at rfl).trans no)) (Nat.succ_pos _) rfl ?_
          intro w3 r3 o3
          exact hK undef w3 trivial (JB.store h.inv o3 r3 rfl)
      case he1 =>
        intro V w3 hV hJ
        have rn3 : Row w3 3 gn [.int .i64 ((nn - m2 : Nat) : Int)] := hJ.2.1 rfl
        have bu3 : But gn w2 w3 := hJ.2.2
        clear hV hJ
        simp only [putOps, List.setIfInBounds_toArray, List.set_cons_succ, List.set_cons_zero, Nat.reduceAdd]
        refine hK1 _ _ ?_
        have bz3 : ButZ [gd, gn, gl] w w3 := bz2.trans (ButZ.ofBut bu3 (by simp))
        have rl3 := rl2.but bu3 (fun e => D.out.2.2.2.2.2.2.1 e.symm)
        have oc3 := hide (oc2.out.butz (ButZ.ofBut (S := [gd, gn, gl]) bu3 (by simp)) hSd9.out)
        have d3 : DecAt w3 gd B r := by
          obtain ⟨A8, c8, r8, h81, h82, h83⟩ := d2
          exact ⟨A8, c8, r8.but bu3 (fun e => D.out.2.2.1 e), h81.below (bu3.below (hSB9.out gn (by simp)) (Nat.le_trans hB hw2)), h82, h83⟩
        have md := hide (hcd.out w3 bu3)
        have hw3 := bz3.size
        clear rn2 rl2 rv2 rb2 oc2 hcb hcv hcd hsub d2
        have hn3 := hide (show nn - m2 = s.length - r.length by rw [hnn.out, hm2.out])
        by_cases hws0 : ws = []
        · have hpn := hide (show pars s = (L0 ++ (pars r).1, (pars r).2) by rw [hp.out, hpo.out, if_pos hws0])
          have hnI : ¬ (0 : Int) < (n9 : Int) := by have := hn9.out; rw [hws0] at this; simp at this; omega
          clear hws0
          go_wp2_with fail
          go_roundw
          case rel =>
            refine ⟨L0, r, lv, nn - m2, trivial, bz3, d3, rn3, hn3.out, rl3, oc3.out, ?_, ?_, hpn.out⟩
            · have := hrl.out.1; have := hq.out; omega
            · have := hrl.out.1; have := hL.out; omega
          case measure =>
            rw [md.out, mq.out]
            have := hrl.out.1; have := hm2.out
            simp; omega
        · have hpn := hide (show pars s = ((L0 ++ [ws]) ++ (pars r).1, (pars r).2) by rw [hp.out, hpo.out, if_neg hws0, List.append_assoc]; rfl)
          have hnI : (0 : Int) < (n9 : Int) := by have := hn9.out; have := List.length_pos_iff.2 hws0; omega
          obtain ⟨Bd, hBd0⟩ : ∃ b, b = w.heap.size := ⟨_, rfl⟩
          have hBd : Bd ≤ w3.heap.size := by rw [hBd0]; exact hw3
          have hglB : gl < Bd := by rw [hBd0]; exact hSd9.out gl (by simp)
          obtain ⟨vs, ow3, hN3⟩ := oc3.out
          rw [← hBd0] at ow3 hN3
          have hvl := hide (show vs.length = L0.length by have := ow3.1; omega)
          have HTx := hide (show ∀ w1, Below w3.heap.size w3 w1 → Calls Tryd.prog 26 #[.slice A9 n9 c9] w1 fun e w' => ∃ v', e = .returned v' ∧ OwnW w' w1.heap.size v' ws ∧ Below w1.heap.size w1 w' from fun w1 hb1 => by
            have hgn : gn < wr.heap.size := Nat.lt_of_lt_of_le (hSd9.out gn (by simp)) hwb
            have q3 := hv.out.but bu3 hgn (hSB9.out gn (by simp)) (Nat.le_trans hB hw2)
            exact texts_any w1 _ B _ ws (q3.below hb1 (Nat.le_trans hB hw3)) (Nat.le_trans (Nat.le_trans hB hw3) hb1.size) hrl.out.2)
          have hlL : L0.length ≤ 100000 := by
            have h1 := hcnt9.out
            rw [hpn.out] at h1
            simp only [List.length_append] at h1
            omega
          have hm1 := hide (show L0.length + 1 ≤ maxLen by simp only [maxLen]; omega)
          have hm24 := hide (show (L0.length + 1) * 24 ≤ 140737488355328 by omega)
          have NL : ∀ (wa wb : World), NOf Bd vs L0 wa → Below wa.heap.size wa wb → NOf Bd vs L0 wb := fun wa wb hN hb i u l hu hl => own_later (hN i u l hu hl) hb
          have NG : ∀ (wa wb : World), NOf Bd vs L0 wa → wa.ownsRow Bd 40 1 lv L0.length vs → wa.grownBy wb lv.ownBlock → NOf Bd vs L0 wb := fun wa wb hN o gr i u l hu hl => own_grown (hN i u l hu hl) o (by decide) gr
          have NO9 : ∀ (wa wb : World), NOf Bd vs L0 wa → Only gl wa wb → NOf Bd vs L0 wb := fun wa wb hN o i u l hu hl => by
            have q := hN i u l hu hl
            exact own_at q fun k hk => o.block k (fun e => by have := (q.lt k hk).1; omega)
          replace NL := hide NL
          replace NG := hide NG
          replace NO9 := hide NO9
          replace hBd0 := hide hBd0
          have hv2 := hv
          clear hws0 hlL hv oc3
          go_wp2_with fail
          rename_i K3 hK3
          refine wp_region_vals [2, 3, 4, 5] (CL3 lv A9 n9 c9) (JE Bd w3 (fun u wz => OwnW wz Bd u ws) (NOf Bd vs L0) 40 L0.length lv vs 27 gl) (by kernel_rfl) (by kernel_rfl) (by kernel_rfl) (by kernel_rfl) (by kernel_rfl) (JE.start ow3 rl3 hN3) ?obs3 ?he3
          case obs3 =>
            refine ⟨?_, ?_, ?_, ?_, ?_, ?_, trivial⟩
            · exact .inl ⟨by kernel_rfl, fun L a1 w1 n h => ⟨_, rfl, run_load1 27 (.tmp 3) gl 0 lv rfl Tryd.isAgg27 (h.var n 3 (by kernel_rfl)) ((h.inv.2.2.2.2.2.2.1 ((bits_at (E := [2, 3, 4, 5]) (ks := 3) (s := 5) rfl).trans (n.later (by kernel_rfl)))).cell (j := 0) rfl)⟩⟩
            · exact .inl ⟨by kernel_rfl, fun L a1 w1 n h => ⟨_, rfl, run_move (.tmp 4) rfl (h.var n 4 (by kernel_rfl))⟩⟩
            · refine .inr fun L a1 w1 n h K hK => ?_
              have no0 : L.getD 2 false = false := n.not_yet
              have no1 : L.getD 3 false = false := n.later (by kernel_rfl)
              have no2 : L.getD 4 false = false := n.later (by kernel_rfl)
              have no3 : L.getD 5 false = false := n.later (by kernel_rfl)
              have e0 : a1.eval (.tmp 19) = .slice A9 n9 c9 := h.dep n 1 19 (by kernel_rfl) rfl
              have b9 := h.inv.2.1 ((bits_at rfl).trans no0)
              refine st_call 26 _ _ #[.slice A9 n9 c9] rfl Tryd.call26 ?_ (HTx.out w1 b9) ?_
              · simp only [List.map_toArray, List.map_cons, List.map_nil, e0]
              rintro e9 w9 ⟨u9, rfl, ow9, b10⟩
              exact ⟨_, rfl, hK _ w9 trivial (JE.called h.inv hBd b10 (ownsRow_lo ow9 (Nat.le_trans hBd h.inv.1.size)) (fun hN => NL.out _ _ hN b10) ((bits_at rfl).trans no0) ((bits_at rfl).trans no2) ((bits_at rfl).trans no3) rfl no1 no2 no3)⟩
            · refine .inr fun L a1 w1 n h K hK => ?_
              have yes0 : L.getD 2 false = true := n.dep (by kernel_rfl)
              have no2 : L.getD 4 false = false := n.later (by kernel_rfl)
              have no3 : L.getD 5 false = false := n.later (by kernel_rfl)
              have hd := h.inv.2.2.1 ((bits_at rfl).trans yes0) ((bits_at rfl).trans no2)
              obtain ⟨A9, c9, hsl⟩ := own_slB hd
              have hsl2 : a1.tmps.getD 20 undef = .slice A9 _ c9 := hsl
              refine st_build1 27 (.tmp 20) rfl 40 ip (.slice none 0 0) (a1.tmps.getD 20 undef) Tryd.underlying27 hip hiz his rfl rfl (by rw [hsl2]; rfl) ?_
              intro g9 w9 r9 p9 l9 b9
              exact hK _ w9 trivial (JE.built h.inv hBd b9 rfl r9 rfl (fun u hu => own_later hu b9) (fun hN => NL.out _ _ hN b9) ((bits_at rfl).trans yes0) ((bits_at rfl).trans no2) ((bits_at rfl).trans no3) rfl yes0 no2 no3)
            · refine .inr fun L a1 w1 n h K hK => ?_
              have yes0 : L.getD 2 false = true := n.dep (by kernel_rfl)
              have yes1 : L.getD 3 false = true := n.dep (by kernel_rfl)
              have no2 : L.getD 4 false = false := n.not_yet
              have no3 : L.getD 5 false = false := n.later (by kernel_rfl)
              obtain ⟨g2, u2, eu, r2, hd⟩ := h.inv.2.2.2.1 ((bits_at rfl).trans yes1) ((bits_at rfl).trans no2)
              have own2 := h.inv.2.2.2.2.1 ((bits_at rfl).trans no2)
              have hsz2 := h.inv.1.size
              have e18 : a1.eval (.tmp 18) = lv := h.dep n 0 18 (by kernel_rfl) rfl
              have ho1 : ∀ u ∈ [u2], u.oneCell' = true := by
                obtain ⟨A9, c9, hsl⟩ := own_slB hd
                rw [hsl]; simp [Value.oneCell']
              refine st_append_at (.tmp 18) (.tmp 21) 27 rfl Bd 40 ip _ 1 24 Tryd.underlying27 hip hiz his hib rfl (by decide) lv L0.length vs e18 own2 ⟨g2, 0, none⟩ 1 1 [u2] eu rfl (row_src r2) ho1 hm1.out hm24.out (Nat.le_trans hBd hsz2) ?_
              intro v9 w9 own9 gr9 at9
              exact hK _ w9 trivial (JE.appended h.inv hBd gr9 own9 hd (by decide) (fun u hu o => own_grown hu o (by decide) gr9) (fun hN o => NG.out _ _ hN o gr9) ((bits_at rfl).trans yes0) ((bits_at rfl).trans no2) ((bits_at rfl).trans no3) yes0 rfl no3)
            · refine .inr fun L a1 w1 n h K hK => ?_
              have yes0 : L.getD 2 false = true := n.dep (by kernel_rfl)
              have yes2 : L.getD 4 false = true := n.dep (by kernel_rfl)
              have no3 : L.getD 5 false = false := n.not_yet
              obtain ⟨u9, ow9, hd9⟩ := h.inv.2.2.2.2.2.1 ((bits_at rfl).trans yes2)
              obtain ⟨A9, c9, hsl⟩ := own_slB ow9
              have hsl2 : a1.eval (.tmp 22) = .slice A9 _ c9 := hsl
              refine st_store 27 (.tmp 3) (.tmp 22) gl 0 27 [lv] (a1.eval (.tmp 22)) rfl ll_size1 (h.var n 3 (by kernel_rfl)) rfl (h.inv.2.2.2.2.2.2.1 ((bits_at rfl).trans no3)) (Nat.succ_pos _) (by rw [hsl2]; rfl) ?_
              intro w9 r9 o9
              exact hK undef w9 trivial (JE.stored h.inv o9 r9 hglB (fun u hu => own_at hu fun k hk => o9.block k (fun e => by have := (hu.lt k hk).1; omega)) (fun hN => NO9.out _ _ hN o9) ((bits_at rfl).trans yes2) rfl yes0 yes2 rfl)
          case he3 =>
            intro V w4 hV hJ
            have kp4 : Keep Bd gl w3 w4 := hJ.1
            obtain ⟨u4, ow4, wd4⟩ := hJ.2.2.2.2.2.1 rfl
            have rl4 : Row w4 27 gl [V 4] := hJ.2.2.2.2.2.2.2.1 rfl
            have hN4 : NOf Bd vs L0 w4 := hJ.2.2.2.2.2.2.2.2
            have oc4 : OwC w4 Bd (V 4) (L0 ++ [ws]) := OwC.push hN4 hvl.out ow4 wd4
            have hgdB : gd < Bd := by rw [hBd0.out]; exact hgd
            have hgnB : gn < Bd := by rw [hBd0.out]; exact hSd9.out gn (by simp)
            have d4 := d3.keep kp4 hgdB D.out.2.2.2.1 (hSB9.out gl (by simp))
            have rn4 := rn3.keep kp4 hgnB D.out.2.2.2.2.2.2.1
            have bz4 : ButZ [gd, gn, gl] w w4 := bz3.keep (hBd0.out ▸ kp4) (by simp)
            have md4 : w4.cell? ⟨gd, 0, none⟩ = some (.slice A2 m2 c2) := by rw [← md.out]; exact World.cell?_of_block (kp4.block gd hgdB D.out.2.2.2.1)
            rw [hBd0.out] at oc4
            clear hV hJ
            simp only [putOps, List.setIfInBounds_toArray, List.set_cons_succ, List.set_cons_zero, Nat.reduceAdd]
            have md5 := hide md4
            have oc5 := hide oc4
            clear md4 oc4
            go_wp2_with fail
            go_roundw
            case rel =>
              refine ⟨L0 ++ [ws], r, V 4, nn - m2, trivial, bz4, d4, rn4, hn3.out, rl4, oc5.out, ?_, ?_, hpn.out⟩
              · have := hrl.out.1; have := hq.out; omega
              · rw [List.length_append]; have := hrl.out.1; have := hL.out; simp; omega
            case measure =>
              rw [md5.out, mq.out]
              have := hrl.out.1; have := hm2.out
              simp; omega
end Go.Proofs.YthjcmgjmdjihnaaDoor
