/-
  Several own texts in one: ValQb, ValQc, ValQd, ValQe. Own work.
-/
import Derived.Test.YtpbkejmffddelaaGreatGS
set_option linter.unusedVariables false
set_option linter.unusedSimpArgs false
/-
  The law's 'looks', of a value of any kind. Own work.
-/
namespace Go.Proofs.YtpbkejmffddelaaGreat
open Go.RowKit Go.Shelf Go.Maps
def PlX (x : Vl) (v : Value) (w : World) : Prop := ∃ p l s, v = vlV x p l s ∧ VlM w w.heap.size x p l s
theorem PlX.later {x : Vl} {v : Value} {w w' : World} (h : PlX x v w) (hb : Below w.heap.size w w') : PlX x v w' := by
  obtain ⟨p, l, s, e, m⟩ := h
  exact ⟨p, l, s, e, m.p.later hb, m.l.later hb, m.s.later hb⟩
theorem VlM.later' {x : Vl} {p l s : Value} {w w' : World} (m : VlM w w.heap.size x p l s) (hb : Below w.heap.size w w') : VlM w' w'.heap.size x p l s := ⟨m.p.later hb, m.l.later hb, m.s.later hb⟩
def FNq (opn : Nat) (v : Value) (w : World) : Prop := True
theorem FNq_mono : ∀ j v w w', FNq j v w → Below w.heap.size w w' → FNq j v w' := fun _ _ _ _ _ _ => trivial
theorem eqBoolQ (c : Bool) (w : World) : (Op.equal 4 (.bool c) (.bool c)).run Tryz.prog w = .ok true w := by cases c <;> kernel_rfl
def SLk (g4 ga oa ca gb ob i c1 : Nat) (A1 : Option Addr) (x : Vl) (f1 : Nm) (opn : Nat) (v : Value) : Prop :=
  match opn with
  | 0 => v = .slice (some ⟨ga, oa, none⟩) x.ls.length ca
  | 1 | 6 => v = .int .i64 (i : Int)
  | 2 => v = .pointer (some ⟨ga, oa + i * 1, none⟩)
  | 3 | 8 => v = encStr f1
  | 4 => v = .pointer (some ⟨g4, 3, none⟩)
  | 5 => v = .slice A1 x.ls.length c1
  | 7 => v = .pointer (some ⟨gb, ob + i * 1, none⟩)
  | 9 => v = .bool false
  | _ => True

def FLk (x : Vl) (opn : Nat) (v : Value) (w : World) : Prop :=
  match opn with
  | 35 => PlX x v w
  | _ => True
theorem FLk_mono (x : Vl) : ∀ j v w w', FLk x j v w → Below w.heap.size w w' → FLk x j v w' := by
  intro j v w w' h hb
  unfold FLk at h ⊢
  split at h
  · exact h.later hb
  · trivial

def SLt (gv g4 c0 c1 c2 : Nat) (A0 A1 A2 : Option Addr) (x : Vl) (f : Nm) (b : Bool) (n10 : Int) (opn : Nat) (v : Value) : Prop :=
  match opn with
  | 0 | 5 | 12 | 27 | 34 => v = ptr gv
  | 1 | 2 => v = .int .i64 n10
  | 3 | 4 | 9 | 10 | 11 | 17 | 18 | 24 | 25 | 26 | 31 | 32 | 33 | 37 | 38 | 39 => v = .bool true
  | 6 | 8 => v = encStr x.t
  | 7 => v = .pointer (some ⟨g4, 1, none⟩)
  | 13 | 21 => v = encStr f
  | 14 | 22 | 23 => v = .bool b
  | 15 | 29 => v = .pointer (some ⟨g4, 0, none⟩)
  | 16 | 28 | 30 => v = .int .i64 x.k
  | 19 => v = .pointer (some ⟨g4, 3, none⟩)
  | 20 => v = .slice A1 x.ls.length c1
  | 36 => v = .agg (vlC x (.slice A0 x.ps.length c0) (.slice A1 x.ls.length c1) (.slice A2 x.ss.length c2)).toArray
  | _ => True

def SLf (gv g4 c0 c1 c2 : Nat) (A0 A1 A2 : Option Addr) (x : Vl) (f : Nm) (b : Bool) (n10 : Int) (opn : Nat) (v : Value) : Prop :=
  match opn with
  | 0 | 5 | 12 | 27 | 34 => v = ptr gv
  | 1 | 2 => v = .int .i64 n10
  | 3 | 4 | 9 | 10 | 11 | 24 | 25 | 26 | 31 | 32 | 33 | 37 | 38 | 39 => v = .bool true
  | 6 | 8 => v = encStr x.t
  | 7 => v = .pointer (some ⟨g4, 1, none⟩)
  | 13 => v = encStr f
  | 14 | 17 | 18 | 23 => v = .bool false
  | 15 | 29 => v = .pointer (some ⟨g4, 0, none⟩)
  | 16 | 28 | 30 => v = .int .i64 x.k
  | 19 | 20 | 21 | 22 => v = undef
  | 36 => v = .agg (vlC x (.slice A0 x.ps.length c0) (.slice A1 x.ls.length c1) (.slice A2 x.ss.length c2)).toArray
  | _ => True

set_option maxRecDepth 100000 in
set_option maxHeartbeats 4000000 in
theorem looks_any (w : World) (B gv : Nat) (x : Vl) (vp vl vs : Value) (f : Nm) (hV : VX w B gv x) (hM : VlM w w.heap.size x vp vl vs) (hone : ∀ u ∈ vlC x vp vl vs, u.oneCell' = true) (hf : f.length ≤ maxLen) (hb : VBd 1000 x) :
    Calls Tryz.prog 20 #[ptr gv, vlV x vp vl vs, encStr f] w fun e w' => e = .returned (.bool true) ∧ Below w.heap.size w w' := by
  obtain ⟨A0, c0, rfl⟩ := hM.p.sl
  obtain ⟨A1, c1, rfl⟩ := hM.l.sl
  obtain ⟨A2, c2, rfl⟩ := hM.s.sl
  have h1t := hb.t; have h1p := hb.p; have h1l := hb.l; have h1s := hb.s
  have hfit : x.Fits := ⟨by omega, by omega, by omega, by omega⟩
  obtain ⟨T, hT⟩ : ∃ T, ((prAt x.ps f).getD pr0).t = T := ⟨_, rfl⟩
  obtain ⟨bf, hbf⟩ : ∃ bf, (prAt x.ps f).isSome = bf := ⟨_, rfl⟩
  obtain ⟨n10, hn10⟩ : ∃ n10, ((x.ps.length : Int) + x.ls.length + x.ss.length + x.t.length) = n10 := ⟨_, rfl⟩
  have hb1 : (x.ps.length : Int) ≤ 1000 := by omega
  have hb2 : (x.ls.length : Int) ≤ 1000 := by omega
  have hb3 : (x.ss.length : Int) ≤ 1000 := by omega
  have hb4 : (x.t.length : Int) ≤ 1000 := by omega
  have hszv := szVl x (.slice A0 x.ps.length c0) (.slice A1 x.ls.length c1) (.slice A2 x.ss.length c2)
  go_enter Tryz.func20, Tryz.ntmps20
  go_wp2_with (first
    | ((with_reducible refine wl_box (o := ⟨some 4, _, _, _, _, _⟩) rfl 26 (.tmp 1) _ (vlC x (.slice A0 x.ps.length c0) (.slice A1 x.ls.length c1) (.slice A2 x.ss.length c2)) rfl rfl rfl ?_); intro g4 w1 r4 p4 l4 b1))
  have hV1 := hV.later b1
  have HF := field_x hV1 f hf
  rw [hT, hbf] at HF
  refine HF.mono ?_
  rintro e w2 ⟨rfl, b2⟩
  have B2 := b1.trans (b2.mono b1.size)
  have r42 := r4.later b2
  go_wp2_with (first
    | (with_reducible refine wl_load_row (o := ⟨some 19, _, _, _, _, _⟩) rfl 26 (.tmp 4) g4 26 (vlC x (.slice A0 x.ps.length c0) (.slice A1 x.ls.length c1) (.slice A2 x.ss.length c2)) _ rfl rfl r42 Tryz.underlying26 rfl hszv ?_))
  refine (rfield_any w2 x _ _ _ f (hM.p.later B2) (by omega)).mono ?_
  rintro e w3 ⟨⟨r, rfl, hr⟩, b3⟩
  have B3 := B2.trans (b3.mono B2.size)
  have r43 := r42.later b3
  have k0 := r43.cell (j := 0) rfl
  have k1 := r43.cell (j := 1) rfl
  have k2 := r43.cell (j := 2) rfl
  have k3 := r43.cell (j := 3) rfl
  have k4 := r43.cell (j := 4) rfl
  clear r4 r42 HF b1 b2 b3
  rcases hr with ⟨rfl, hat⟩ | ⟨i, q, rfl, hq, hat⟩
  · obtain rfl : T = [] := by rw [← hT, hat]; rfl
    obtain rfl : bf = false := by rw [← hbf, hat]; rfl
    clear hT hbf hat
    go_wp2_with fail
    refine (items_x (hV.later B3) (by omega)).mono ?_
    rintro e w4 ⟨v4, rfl, own4, b4⟩
    have sl4 := OwnW.slv own4
    obtain ⟨A4, ca, rfl⟩ := sl4.sl
    have B4 := B3.trans (b4.mono B3.size)
    have r44 := r43.later b4
    clear k0 k1 k2 k3 k4
    have k3 := r44.cell (j := 3) rfl
    have hM4 := hM.later' B4
    have hV4 := hV.later B4
    clear own4 b4 r43 hM hV
    go_wp2_with fail
    go_loopw [12] (fun iv wr => ∃ i : Nat, i ≤ x.ls.length ∧ iv = .int .i64 (i : Int) ∧ Below w4.heap.size w4 wr) (fun iv _ => x.ls.length - (intOf iv).toNat)
    case atStart => exact ⟨0, by omega, rfl, Below.refl _ _⟩
    case round =>
      obtain ⟨i, hi, rfl, BW⟩ := hrel
      have r4 := r44.later BW
      by_cases hlt : i < x.ls.length
      · have hltI : (i : Int) < (x.ls.length : Int) := by omega
        obtain ⟨f1, hf1⟩ : ∃ f1, x.ls[i]? = some f1 := ⟨_, List.getElem?_eq_getElem hlt⟩
        obtain ⟨x1, ga, oa, rfl, hga, hca⟩ := (sl4.later BW).at hf1
        obtain ⟨x2, gb, ob, hA1, hgb, hcb⟩ := (hM4.l.later BW).at hf1
        have q0 := hca 0 _ rfl
        rw [Nat.add_zero] at q0
        have z0 := hcb 0 _ rfl
        rw [Nat.add_zero] at z0
        replace hA1 := hide (show Value.slice A1 x.ls.length c1 = .slice (some ⟨gb, ob, none⟩) x.ls.length c1 by rw [hA1])
        replace hga := hide hga
        replace hgb := hide hgb
        replace q0 := hide q0
        replace z0 := hide z0
        replace hlt := hide hlt
        clear hca hcb x1 x2 hf1
        go_wp2_with fail
        rename_i K7 hK7
        refine wp_region_vals [] (SLk g4 ga oa ca gb ob i c1 A1 x f1) (JF wr [] FNq) (by kernel_rfl) (by kernel_rfl) (by kernel_rfl) (by kernel_rfl) (by kernel_rfl) (JF.start _) ?obs ?he
        case obs =>
          refine ⟨?_, ?_, ?_, ?_, ?_, ?_, ?_, ?_, ?_, ?_, trivial⟩
          · exact .inl ⟨by kernel_rfl, fun L a1 w1 n h => ⟨_, rfl, run_move (.tmp 11) rfl (h.var n 11 (by kernel_rfl))⟩⟩
          · exact .inl ⟨by kernel_rfl, fun L a1 w1 n h => ⟨_, rfl, run_move (.tmp 12) rfl (h.var n 12 (by kernel_rfl))⟩⟩
          · exact .inl ⟨by kernel_rfl, fun L a1 w1 n h => ⟨_, rfl, run_idxO 23 (.tmp 76) (.tmp 77) 9 1 ga oa _ _ i rfl Tryz.underlying23 Tryz.sizeOf9 (h.dep n 0 76 (by kernel_rfl) rfl) (h.dep n 1 77 (by kernel_rfl) rfl) hlt.out⟩⟩
          · exact .inl ⟨by kernel_rfl, fun L a1 w1 n h => ⟨_, rfl, run_load1 9 (.tmp 78) ga (oa + i * 1) _ rfl Tryz.isAgg9 (h.dep n 2 78 (by kernel_rfl) rfl) ((h.inv.1.cell (p := ⟨ga, _, none⟩) hga.out).trans q0.out)⟩⟩
          · refine .inl ⟨by kernel_rfl, fun L a1 w1 n h => ⟨.pointer (some ⟨g4, 3, none⟩), rfl, ?_⟩⟩
            have e0 : a1.eval (.tmp 4) = _ := h.var n 4 (by kernel_rfl)
            unfold execOp
            simp only [e0]
            go_simp
          · exact .inl ⟨by kernel_rfl, fun L a1 w1 n h => ⟨_, rfl, run_load1 23 (.tmp 80) g4 3 _ rfl Tryz.isAgg23 (h.dep n 4 80 (by kernel_rfl) rfl) ((r4.later (h.inv.1)).cell (j := 3) rfl)⟩⟩
          · exact .inl ⟨by kernel_rfl, fun L a1 w1 n h => ⟨_, rfl, run_move (.tmp 12) rfl (h.var n 12 (by kernel_rfl))⟩⟩
          · exact .inl ⟨by kernel_rfl, fun L a1 w1 n h => ⟨_, rfl, run_idxO 23 (.tmp 81) (.tmp 82) 9 1 gb ob _ _ i rfl Tryz.underlying23 Tryz.sizeOf9 ((h.dep n 5 81 (by kernel_rfl) rfl).trans hA1.out) (h.dep n 6 82 (by kernel_rfl) rfl) hlt.out⟩⟩
          · exact .inl ⟨by kernel_rfl, fun L a1 w1 n h => ⟨_, rfl, run_load1 9 (.tmp 83) gb (ob + i * 1) _ rfl Tryz.isAgg9 (h.dep n 7 83 (by kernel_rfl) rfl) ((h.inv.1.cell (p := ⟨gb, _, none⟩) hgb.out).trans z0.out)⟩⟩
          · refine .inl ⟨by kernel_rfl, fun L a1 w1 n h => ⟨.bool false, rfl, ?_⟩⟩
            have e0 : a1.eval (.tmp 79) = encStr f1 := h.dep n 3 79 (by kernel_rfl) rfl
            have e1 : a1.eval (.tmp 84) = encStr f1 := h.dep n 8 84 (by kernel_rfl) rfl
            exact run_neStr (.tmp 79) (.tmp 84) rfl e0 e1 (by simp)
        case he =>
          intro V w5 hV2 hJ
          have h9 : V 9 = .bool false := hV2 9 85 rfl
          have b5 : Below wr.heap.size wr w5 := hJ.1
          clear hV2 hJ
          simp only [putOps, List.setIfInBounds_toArray, List.set_cons_succ, List.set_cons_zero, Nat.reduceAdd]
          rw [h9]
          refine hK7 _ _ ?_
          go_wp2_with fail
          go_roundw
          case rel => exact ⟨i + 1, by have := hlt.out; omega, by go_num, BW.trans (b5.mono BW.size)⟩
          case measure => have := hlt.out; simp [intOf]; omega
      · obtain rfl : i = x.ls.length := by omega
        have B6 := B4.trans (BW.mono B4.size)
        have hV6 := hV4.later BW
        have hM6 := hM4.later' BW
        have HLen := hide (fun (wz : World) (hz : Below wr.heap.size wr wz) => len_x (hV6.later hz) hb)
        rw [hn10] at HLen
        have HText := hide (fun (wz : World) (hz : Below wr.heap.size wr wz) => text_x (hV6.later hz))
        have HKind := hide (fun (wz : World) (hz : Below wr.heap.size wr wz) => kind_x (hV6.later hz))
        have HPlain := hide (fun (wz : World) (hz : Below wr.heap.size wr wz) => plain_x (hV6.later hz) hb)
        have HSame := hide (fun (wz : World) (hz : Below wr.heap.size wr wz) (p l s : Value) (m : VlM wz wz.heap.size x p l s) => by
          have := rsameV_any wz x x p l s _ _ _ m (hM6.later' hz) hfit hfit
          rw [decide_eq_true (rfl : x = x)] at this
          exact this)
        obtain ⟨b, hbb⟩ : ∃ b, decide (f ∈ x.ls) = b := ⟨_, rfl⟩
        clear hb hi BW r44 sl4 hM4
        by_cases hk : x.k = 4
        · have hk4 := hide (decide_eq_true hk)
          have HHas := hide (fun (wz : World) (hz : Below wr.heap.size wr wz) => has_x (hV6.later hz) f hf)
          rw [hbb, hk4.out, Bool.true_and] at HHas
          have HrHas := hide (fun (wz : World) (hz : Below wr.heap.size wr wz) => rhas_any wz _ x.ls f (hM6.later' hz).l (by omega))
          rw [hbb] at HrHas
          clear hV6 hM6 hk
          go_wp2_with fail
          rename_i K8 hK8
          refine wp_region_valsS [1, 6, 14, 22, 28, 35, 37] (SLt gv g4 c0 c1 c2 A0 A1 A2 x f b n10) (JF wr [1, 6, 14, 22, 28, 35, 37] (FLk x)) (by kernel_rfl) (by kernel_rfl) (by kernel_rfl) (by kernel_rfl) (JF.start _) ?obs ?he
          case obs =>
            refine ⟨?_, ?_, ?_, ?_, ?_, ?_, ?_, ?_, ?_, ?_, ?_, ?_, ?_, ?_, ?_, ?_, ?_, ?_, ?_, ?_, ?_, ?_, ?_, ?_, ?_, ?_, ?_, ?_, ?_, ?_, ?_, ?_, ?_, ?_, ?_, ?_, ?_, ?_, ?_, ?_, trivial⟩
            · refine .inl ⟨.inl rfl, ?_⟩
              exact .inl ⟨by kernel_rfl, fun L a1 w1 n h => ⟨_, rfl, run_move (.tmp 0) rfl (h.var n 0 (by kernel_rfl))⟩⟩
            · refine .inl ⟨.inl rfl, ?_⟩
              refine .inr fun L a1 w1 n h K hK => ?_
              have e0 : a1.eval (.tmp 86) = ptr gv := h.dep n 0 86 (by kernel_rfl) rfl
              refine JF.call (FLk_mono x) h hK 87 rfl 35 _ _ #[ptr gv] rfl Tryz.call35 ?_ (HLen.out w1 h.inv.1) ?_
              · simp only [List.map_toArray, List.map_cons, List.map_nil, e0]
              · rintro e w3 ⟨rfl, b9⟩
                exact ⟨_, rfl, rfl, trivial, b9⟩
            · refine .inl ⟨.inl rfl, ?_⟩
              exact .inl ⟨by kernel_rfl, fun L a1 w1 n h => ⟨_, rfl, run_move (.tmp 10) rfl (h.var n 10 (by kernel_rfl))⟩⟩
            · refine .inl ⟨.inl rfl, ?_⟩
              exact .inl ⟨by kernel_rfl, fun L a1 w1 n h => ⟨_, rfl, run_eqlI (.tmp 87) (.tmp 88) rfl (h.dep n 1 87 (by kernel_rfl) rfl) (h.dep n 2 88 (by kernel_rfl) rfl) (decide_eq_true rfl)⟩⟩
            · refine .inl ⟨.inl rfl, ?_⟩
              exact .inl ⟨by kernel_rfl, fun L a1 w1 n h => ⟨_, rfl, run_move (.tmp 89) rfl (h.dep n 3 89 (by kernel_rfl) rfl)⟩⟩
            · refine .inl ⟨.inr ⟨4, true, 90, rfl, by kernel_rfl, rfl, by simp, fun v h => h⟩, ?_⟩
              exact .inl ⟨by kernel_rfl, fun L a1 w1 n h => ⟨_, rfl, run_move (.tmp 0) rfl (h.var n 0 (by kernel_rfl))⟩⟩
            · refine .inl ⟨.inr ⟨4, true, 90, rfl, by kernel_rfl, rfl, by simp, fun v h => h⟩, ?_⟩
              refine .inr fun L a1 w1 n h K hK => ?_
              have e0 : a1.eval (.tmp 91) = ptr gv := h.dep n 5 91 (by kernel_rfl) rfl
              refine JF.call (FLk_mono x) h hK 92 rfl 34 _ _ #[ptr gv] rfl Tryz.call34 ?_ (HText.out w1 h.inv.1) ?_
              · simp only [List.map_toArray, List.map_cons, List.map_nil, e0]
              · rintro e w3 ⟨rfl, b9⟩
                exact ⟨_, rfl, rfl, trivial, b9⟩
            · refine .inl ⟨.inr ⟨4, true, 90, rfl, by kernel_rfl, rfl, by simp, fun v h => h⟩, ?_⟩
              refine .inl ⟨by kernel_rfl, fun L a1 w1 n h => ⟨.pointer (some ⟨g4, 1, none⟩), rfl, ?_⟩⟩
              have e0 : a1.eval (.tmp 4) = _ := h.var n 4 (by kernel_rfl)
              unfold execOp
              simp only [e0]
              go_simp
            · refine .inl ⟨.inr ⟨4, true, 90, rfl, by kernel_rfl, rfl, by simp, fun v h => h⟩, ?_⟩
              exact .inl ⟨by kernel_rfl, fun L a1 w1 n h => ⟨_, rfl, run_loadA 9 (.tmp 93) ⟨g4, 1, none⟩ rfl Tryz.isAgg9 (h.dep n 7 93 (by kernel_rfl) rfl) (((r4.later h.inv.1)).cell (j := 1) (v := encStr x.t) rfl)⟩⟩
            · refine .inl ⟨.inr ⟨4, true, 90, rfl, by kernel_rfl, rfl, by simp, fun v h => h⟩, ?_⟩
              refine .inl ⟨by kernel_rfl, fun L a1 w1 n h => ⟨.bool true, rfl, ?_⟩⟩
              have e0 : a1.eval (.tmp 92) = encStr x.t := h.dep n 6 92 (by kernel_rfl) rfl
              have e1 : a1.eval (.tmp 94) = encStr x.t := h.dep n 8 94 (by kernel_rfl) rfl
              exact run_eqStr (.tmp 92) (.tmp 94) rfl e0 e1 (by simp)
            · refine .inl ⟨.inl rfl, ?_⟩
              exact .inl ⟨by kernel_rfl, fun L a1 w1 n h => ⟨_, rfl, run_pickT (.tmp 90) _ _ rfl (h.dep n 4 90 (by kernel_rfl) rfl) (h.dep n 9 95 (by kernel_rfl) rfl)⟩⟩
            · refine .inl ⟨.inl rfl, ?_⟩
              exact .inl ⟨by kernel_rfl, fun L a1 w1 n h => ⟨_, rfl, run_move (.tmp 96) rfl (h.dep n 10 96 (by kernel_rfl) rfl)⟩⟩
            · refine .inl ⟨.inr ⟨11, true, 97, rfl, by kernel_rfl, rfl, by simp, fun v h => h⟩, ?_⟩
              exact .inl ⟨by kernel_rfl, fun L a1 w1 n h => ⟨_, rfl, run_move (.tmp 0) rfl (h.var n 0 (by kernel_rfl))⟩⟩
            · refine .inl ⟨.inr ⟨11, true, 97, rfl, by kernel_rfl, rfl, by simp, fun v h => h⟩, ?_⟩
              exact .inl ⟨by kernel_rfl, fun L a1 w1 n h => ⟨_, rfl, run_move (.tmp 2) rfl (h.var n 2 (by kernel_rfl))⟩⟩
            · refine .inl ⟨.inr ⟨11, true, 97, rfl, by kernel_rfl, rfl, by simp, fun v h => h⟩, ?_⟩
              refine .inr fun L a1 w1 n h K hK => ?_
              have e0 : a1.eval (.tmp 98) = ptr gv := h.dep n 12 98 (by kernel_rfl) rfl
              have e1 : a1.eval (.tmp 99) = encStr f := h.dep n 13 99 (by kernel_rfl) rfl
              refine JF.call (FLk_mono x) h hK 100 rfl 33 _ _ #[ptr gv, encStr f] rfl Tryz.call33 ?_ (HHas.out w1 h.inv.1) ?_
              · simp only [List.map_toArray, List.map_cons, List.map_nil, e0, e1]
              · rintro e w3 ⟨rfl, b9⟩
                exact ⟨_, rfl, rfl, trivial, b9⟩
            · refine .inl ⟨.inr ⟨11, true, 97, rfl, by kernel_rfl, rfl, by simp, fun v h => h⟩, ?_⟩
              refine .inl ⟨by kernel_rfl, fun L a1 w1 n h => ⟨.pointer (some ⟨g4, 0, none⟩), rfl, ?_⟩⟩
              have e0 : a1.eval (.tmp 4) = _ := h.var n 4 (by kernel_rfl)
              unfold execOp
              simp only [e0]
              go_simp
            · refine .inl ⟨.inr ⟨11, true, 97, rfl, by kernel_rfl, rfl, by simp, fun v h => h⟩, ?_⟩
              exact .inl ⟨by kernel_rfl, fun L a1 w1 n h => ⟨_, rfl, run_loadA 3 (.tmp 101) ⟨g4, 0, none⟩ rfl Tryz.isAgg3 (h.dep n 15 101 (by kernel_rfl) rfl) (((r4.later h.inv.1)).cell (j := 0) (v := .int .i64 x.k) rfl)⟩⟩
            · refine .inl ⟨.inr ⟨11, true, 97, rfl, by kernel_rfl, rfl, by simp, fun v h => h⟩, ?_⟩
              exact .inl ⟨by kernel_rfl, fun L a1 w1 n h => ⟨_, rfl, run_eqlI (.tmp 102) (.const (.int .i64 4)) rfl (h.dep n 16 102 (by kernel_rfl) rfl) rfl hk4.out⟩⟩
            · refine .inl ⟨.inr ⟨11, true, 97, rfl, by kernel_rfl, rfl, by simp, fun v h => h⟩, ?_⟩
              exact .inl ⟨by kernel_rfl, fun L a1 w1 n h => ⟨_, rfl, run_move (.tmp 103) rfl (h.dep n 17 103 (by kernel_rfl) rfl)⟩⟩
            · refine .inl ⟨.inr ⟨18, true, 104, rfl, by kernel_rfl, rfl, by simp, fun v h => h⟩, ?_⟩
              refine .inl ⟨by kernel_rfl, fun L a1 w1 n h => ⟨.pointer (some ⟨g4, 3, none⟩), rfl, ?_⟩⟩
              have e0 : a1.eval (.tmp 4) = _ := h.var n 4 (by kernel_rfl)
              unfold execOp
              simp only [e0]
              go_simp
            · refine .inl ⟨.inr ⟨18, true, 104, rfl, by kernel_rfl, rfl, by simp, fun v h => h⟩, ?_⟩
              exact .inl ⟨by kernel_rfl, fun L a1 w1 n h => ⟨_, rfl, run_loadA 23 (.tmp 105) ⟨g4, 3, none⟩ rfl Tryz.isAgg23 (h.dep n 19 105 (by kernel_rfl) rfl) (((r4.later h.inv.1)).cell (j := 3) (v := .slice A1 x.ls.length c1) rfl)⟩⟩
            · refine .inl ⟨.inr ⟨18, true, 104, rfl, by kernel_rfl, rfl, by simp, fun v h => h⟩, ?_⟩
              exact .inl ⟨by kernel_rfl, fun L a1 w1 n h => ⟨_, rfl, run_move (.tmp 2) rfl (h.var n 2 (by kernel_rfl))⟩⟩
            · refine .inl ⟨.inr ⟨18, true, 104, rfl, by kernel_rfl, rfl, by simp, fun v h => h⟩, ?_⟩
              refine .inr fun L a1 w1 n h K hK => ?_
              have e0 : a1.eval (.tmp 106) = .slice A1 x.ls.length c1 := h.dep n 20 106 (by kernel_rfl) rfl
              have e1 : a1.eval (.tmp 107) = encStr f := h.dep n 21 107 (by kernel_rfl) rfl
              refine JF.call (FLk_mono x) h hK 108 rfl 71 _ _ #[.slice A1 x.ls.length c1, encStr f] rfl Tryz.call71 ?_ (HrHas.out w1 h.inv.1) ?_
              · simp only [List.map_toArray, List.map_cons, List.map_nil, e0, e1]
              · rintro e w3 ⟨rfl, b9⟩
                exact ⟨_, rfl, rfl, trivial, b9⟩
            · refine .inl ⟨.inr ⟨11, true, 97, rfl, by kernel_rfl, rfl, by simp, fun v h => h⟩, ?_⟩
              exact .inl ⟨by kernel_rfl, fun L a1 w1 n h => ⟨_, rfl, run_pickT (.tmp 104) _ _ rfl (h.dep n 18 104 (by kernel_rfl) rfl) (h.dep n 22 108 (by kernel_rfl) rfl)⟩⟩
            · refine .inl ⟨.inr ⟨11, true, 97, rfl, by kernel_rfl, rfl, by simp, fun v h => h⟩, ?_⟩
              exact .inl ⟨by kernel_rfl, fun L a1 w1 n h => ⟨_, rfl, run_eqlB (.tmp 100) (.tmp 109) _ _ rfl (h.dep n 14 100 (by kernel_rfl) rfl) (h.dep n 23 109 (by kernel_rfl) rfl) (eqBoolQ b)⟩⟩
            · refine .inl ⟨.inl rfl, ?_⟩
              exact .inl ⟨by kernel_rfl, fun L a1 w1 n h => ⟨_, rfl, run_pickT (.tmp 97) _ _ rfl (h.dep n 11 97 (by kernel_rfl) rfl) (h.dep n 24 110 (by kernel_rfl) rfl)⟩⟩
            · refine .inl ⟨.inl rfl, ?_⟩
              exact .inl ⟨by kernel_rfl, fun L a1 w1 n h => ⟨_, rfl, run_move (.tmp 111) rfl (h.dep n 25 111 (by kernel_rfl) rfl)⟩⟩
            · refine .inl ⟨.inr ⟨26, true, 112, rfl, by kernel_rfl, rfl, by simp, fun v h => h⟩, ?_⟩
              exact .inl ⟨by kernel_rfl, fun L a1 w1 n h => ⟨_, rfl, run_move (.tmp 0) rfl (h.var n 0 (by kernel_rfl))⟩⟩
            · refine .inl ⟨.inr ⟨26, true, 112, rfl, by kernel_rfl, rfl, by simp, fun v h => h⟩, ?_⟩
              refine .inr fun L a1 w1 n h K hK => ?_
              have e0 : a1.eval (.tmp 113) = ptr gv := h.dep n 27 113 (by kernel_rfl) rfl
              refine JF.call (FLk_mono x) h hK 114 rfl 36 _ _ #[ptr gv] rfl Tryz.call36 ?_ (HKind.out w1 h.inv.1) ?_
              · simp only [List.map_toArray, List.map_cons, List.map_nil, e0]
              · rintro e w3 ⟨rfl, b9⟩
                exact ⟨_, rfl, rfl, trivial, b9⟩
            · refine .inl ⟨.inr ⟨26, true, 112, rfl, by kernel_rfl, rfl, by simp, fun v h => h⟩, ?_⟩
              refine .inl ⟨by kernel_rfl, fun L a1 w1 n h => ⟨.pointer (some ⟨g4, 0, none⟩), rfl, ?_⟩⟩
              have e0 : a1.eval (.tmp 4) = _ := h.var n 4 (by kernel_rfl)
              unfold execOp
              simp only [e0]
              go_simp
            · refine .inl ⟨.inr ⟨26, true, 112, rfl, by kernel_rfl, rfl, by simp, fun v h => h⟩, ?_⟩
              exact .inl ⟨by kernel_rfl, fun L a1 w1 n h => ⟨_, rfl, run_loadA 3 (.tmp 115) ⟨g4, 0, none⟩ rfl Tryz.isAgg3 (h.dep n 29 115 (by kernel_rfl) rfl) (((r4.later h.inv.1)).cell (j := 0) (v := .int .i64 x.k) rfl)⟩⟩
            · refine .inl ⟨.inr ⟨26, true, 112, rfl, by kernel_rfl, rfl, by simp, fun v h => h⟩, ?_⟩
              exact .inl ⟨by kernel_rfl, fun L a1 w1 n h => ⟨_, rfl, run_eqlI (.tmp 114) (.tmp 116) rfl (h.dep n 28 114 (by kernel_rfl) rfl) (h.dep n 30 116 (by kernel_rfl) rfl) (decide_eq_true rfl)⟩⟩
            · refine .inl ⟨.inl rfl, ?_⟩
              exact .inl ⟨by kernel_rfl, fun L a1 w1 n h => ⟨_, rfl, run_pickT (.tmp 112) _ _ rfl (h.dep n 26 112 (by kernel_rfl) rfl) (h.dep n 31 117 (by kernel_rfl) rfl)⟩⟩
            · refine .inl ⟨.inl rfl, ?_⟩
              exact .inl ⟨by kernel_rfl, fun L a1 w1 n h => ⟨_, rfl, run_move (.tmp 118) rfl (h.dep n 32 118 (by kernel_rfl) rfl)⟩⟩
            · refine .inl ⟨.inr ⟨33, true, 119, rfl, by kernel_rfl, rfl, by simp, fun v h => h⟩, ?_⟩
              exact .inl ⟨by kernel_rfl, fun L a1 w1 n h => ⟨_, rfl, run_move (.tmp 0) rfl (h.var n 0 (by kernel_rfl))⟩⟩
            · refine .inl ⟨.inr ⟨33, true, 119, rfl, by kernel_rfl, rfl, by simp, fun v h => h⟩, ?_⟩
              refine .inr fun L a1 w1 n h K hK => ?_
              have e0 : a1.eval (.tmp 120) = ptr gv := h.dep n 34 120 (by kernel_rfl) rfl
              refine JF.call (FLk_mono x) h hK 121 rfl 25 _ _ #[ptr gv] rfl Tryz.call25 ?_ (HPlain.out w1 h.inv.1) ?_
              · simp only [List.map_toArray, List.map_cons, List.map_nil, e0]
              · rintro e w3 ⟨p9, l9, s9, rfl, m9, b9⟩
                exact ⟨_, rfl, trivial, ⟨p9, l9, s9, rfl, m9⟩, b9⟩
            · refine .inl ⟨.inr ⟨33, true, 119, rfl, by kernel_rfl, rfl, by simp, fun v h => h⟩, ?_⟩
              exact .inl ⟨by kernel_rfl, fun L a1 w1 n h => ⟨_, rfl, run_loadRow 26 (.tmp 4) g4 26 _ _ rfl (h.var n 4 (by kernel_rfl)) ((r4.later h.inv.1)) Tryz.underlying26 rfl (by kernel_rfl)⟩⟩
            · refine .inl ⟨.inr ⟨33, true, 119, rfl, by kernel_rfl, rfl, by simp, fun v h => h⟩, ?_⟩
              refine .inr fun L a1 w1 n h K hK => ?_
              obtain ⟨p9, l9, s9, v9, m9⟩ := JF.get h n 35 121 (by kernel_rfl) (by kernel_rfl) rfl
              have e0 : a1.eval (.tmp 121) = vlV x p9 l9 s9 := v9
              have e1 : a1.eval (.tmp 122) = vlV x (.slice A0 x.ps.length c0) (.slice A1 x.ls.length c1) (.slice A2 x.ss.length c2) := h.dep n 36 122 (by kernel_rfl) rfl
              refine JF.call (FLk_mono x) h hK 123 rfl 24 _ _ #[vlV x p9 l9 s9, vlV x (.slice A0 x.ps.length c0) (.slice A1 x.ls.length c1) (.slice A2 x.ss.length c2)] rfl Tryz.call24 ?_ (HSame.out w1 h.inv.1 p9 l9 s9 m9) ?_
              · simp only [List.map_toArray, List.map_cons, List.map_nil, e0, e1]
              · rintro e w3 ⟨rfl, b9⟩
                exact ⟨_, rfl, rfl, trivial, b9⟩
            · refine .inl ⟨.inl rfl, ?_⟩
              exact .inl ⟨by kernel_rfl, fun L a1 w1 n h => ⟨_, rfl, run_pickT (.tmp 119) _ _ rfl (h.dep n 33 119 (by kernel_rfl) rfl) (h.dep n 37 123 (by kernel_rfl) rfl)⟩⟩
            · refine .inl ⟨.inl rfl, ?_⟩
              exact .inl ⟨by kernel_rfl, fun L a1 w1 n h => ⟨_, rfl, run_assign (.tmp 124) rfl (h.dep n 38 124 (by kernel_rfl) rfl)⟩⟩
          case he =>
            intro V w9 hV9 hJ
            have h39 : V 39 = .bool true := hV9 39 6 rfl
            have b9 : Below wr.heap.size wr w9 := hJ.1
            clear hV9 hJ
            simp only [putOps, List.setIfInBounds_toArray, List.set_cons_succ, List.set_cons_zero, Nat.reduceAdd]
            rw [h39]
            refine hK8 _ _ ?_
            go_wp2_with fail
            go_ret
            exact ⟨rfl, B6.trans (b9.mono B6.size)⟩
        · have hk4 := hide (decide_eq_false hk)
          have HHas := hide (fun (wz : World) (hz : Below wr.heap.size wr wz) => has_x (hV6.later hz) f hf)
          rw [hk4.out, Bool.false_and] at HHas
          clear hV6 hM6 hk
          go_wp2_with fail
          rename_i K8 hK8
          refine wp_region_valsS [1, 6, 14, 28, 35, 37] (SLf gv g4 c0 c1 c2 A0 A1 A2 x f b n10) (JF wr [1, 6, 14, 28, 35, 37] (FLk x)) (by kernel_rfl) (by kernel_rfl) (by kernel_rfl) (by kernel_rfl) (JF.start _) ?obs ?he
          case obs =>
            refine ⟨?_, ?_, ?_, ?_, ?_, ?_, ?_, ?_, ?_, ?_, ?_, ?_, ?_, ?_, ?_, ?_, ?_, ?_, ?_, ?_, ?_, ?_, ?_, ?_, ?_, ?_, ?_, ?_, ?_, ?_, ?_, ?_, ?_, ?_, ?_, ?_, ?_, ?_, ?_, ?_, trivial⟩
            · refine .inl ⟨.inl rfl, ?_⟩
              exact .inl ⟨by kernel_rfl, fun L a1 w1 n h => ⟨_, rfl, run_move (.tmp 0) rfl (h.var n 0 (by kernel_rfl))⟩⟩
            · refine .inl ⟨.inl rfl, ?_⟩
              refine .inr fun L a1 w1 n h K hK => ?_
              have e0 : a1.eval (.tmp 86) = ptr gv := h.dep n 0 86 (by kernel_rfl) rfl
              refine JF.call (FLk_mono x) h hK 87 rfl 35 _ _ #[ptr gv] rfl Tryz.call35 ?_ (HLen.out w1 h.inv.1) ?_
              · simp only [List.map_toArray, List.map_cons, List.map_nil, e0]
              · rintro e w3 ⟨rfl, b9⟩
                exact ⟨_, rfl, rfl, trivial, b9⟩
            · refine .inl ⟨.inl rfl, ?_⟩
              exact .inl ⟨by kernel_rfl, fun L a1 w1 n h => ⟨_, rfl, run_move (.tmp 10) rfl (h.var n 10 (by kernel_rfl))⟩⟩
            · refine .inl ⟨.inl rfl, ?_⟩
              exact .inl ⟨by kernel_rfl, fun L a1 w1 n h => ⟨_, rfl, run_eqlI (.tmp 87) (.tmp 88) rfl (h.dep n 1 87 (by kernel_rfl) rfl) (h.dep n 2 88 (by kernel_rfl) rfl) (decide_eq_true rfl)⟩⟩
            · refine .inl ⟨.inl rfl, ?_⟩
              exact .inl ⟨by kernel_rfl, fun L a1 w1 n h => ⟨_, rfl, run_move (.tmp 89) rfl (h.dep n 3 89 (by kernel_rfl) rfl)⟩⟩
            · refine .inl ⟨.inr ⟨4, true, 90, rfl, by kernel_rfl, rfl, by simp, fun v h => h⟩, ?_⟩
              exact .inl ⟨by kernel_rfl, fun L a1 w1 n h => ⟨_, rfl, run_move (.tmp 0) rfl (h.var n 0 (by kernel_rfl))⟩⟩
            · refine .inl ⟨.inr ⟨4, true, 90, rfl, by kernel_rfl, rfl, by simp, fun v h => h⟩, ?_⟩
              refine .inr fun L a1 w1 n h K hK => ?_
              have e0 : a1.eval (.tmp 91) = ptr gv := h.dep n 5 91 (by kernel_rfl) rfl
              refine JF.call (FLk_mono x) h hK 92 rfl 34 _ _ #[ptr gv] rfl Tryz.call34 ?_ (HText.out w1 h.inv.1) ?_
              · simp only [List.map_toArray, List.map_cons, List.map_nil, e0]
              · rintro e w3 ⟨rfl, b9⟩
                exact ⟨_, rfl, rfl, trivial, b9⟩
            · refine .inl ⟨.inr ⟨4, true, 90, rfl, by kernel_rfl, rfl, by simp, fun v h => h⟩, ?_⟩
              refine .inl ⟨by kernel_rfl, fun L a1 w1 n h => ⟨.pointer (some ⟨g4, 1, none⟩), rfl, ?_⟩⟩
              have e0 : a1.eval (.tmp 4) = _ := h.var n 4 (by kernel_rfl)
              unfold execOp
              simp only [e0]
              go_simp
            · refine .inl ⟨.inr ⟨4, true, 90, rfl, by kernel_rfl, rfl, by simp, fun v h => h⟩, ?_⟩
              exact .inl ⟨by kernel_rfl, fun L a1 w1 n h => ⟨_, rfl, run_loadA 9 (.tmp 93) ⟨g4, 1, none⟩ rfl Tryz.isAgg9 (h.dep n 7 93 (by kernel_rfl) rfl) (((r4.later h.inv.1)).cell (j := 1) (v := encStr x.t) rfl)⟩⟩
            · refine .inl ⟨.inr ⟨4, true, 90, rfl, by kernel_rfl, rfl, by simp, fun v h => h⟩, ?_⟩
              refine .inl ⟨by kernel_rfl, fun L a1 w1 n h => ⟨.bool true, rfl, ?_⟩⟩
              have e0 : a1.eval (.tmp 92) = encStr x.t := h.dep n 6 92 (by kernel_rfl) rfl
              have e1 : a1.eval (.tmp 94) = encStr x.t := h.dep n 8 94 (by kernel_rfl) rfl
              exact run_eqStr (.tmp 92) (.tmp 94) rfl e0 e1 (by simp)
            · refine .inl ⟨.inl rfl, ?_⟩
              exact .inl ⟨by kernel_rfl, fun L a1 w1 n h => ⟨_, rfl, run_pickT (.tmp 90) _ _ rfl (h.dep n 4 90 (by kernel_rfl) rfl) (h.dep n 9 95 (by kernel_rfl) rfl)⟩⟩
            · refine .inl ⟨.inl rfl, ?_⟩
              exact .inl ⟨by kernel_rfl, fun L a1 w1 n h => ⟨_, rfl, run_move (.tmp 96) rfl (h.dep n 10 96 (by kernel_rfl) rfl)⟩⟩
            · refine .inl ⟨.inr ⟨11, true, 97, rfl, by kernel_rfl, rfl, by simp, fun v h => h⟩, ?_⟩
              exact .inl ⟨by kernel_rfl, fun L a1 w1 n h => ⟨_, rfl, run_move (.tmp 0) rfl (h.var n 0 (by kernel_rfl))⟩⟩
            · refine .inl ⟨.inr ⟨11, true, 97, rfl, by kernel_rfl, rfl, by simp, fun v h => h⟩, ?_⟩
              exact .inl ⟨by kernel_rfl, fun L a1 w1 n h => ⟨_, rfl, run_move (.tmp 2) rfl (h.var n 2 (by kernel_rfl))⟩⟩
            · refine .inl ⟨.inr ⟨11, true, 97, rfl, by kernel_rfl, rfl, by simp, fun v h => h⟩, ?_⟩
              refine .inr fun L a1 w1 n h K hK => ?_
              have e0 : a1.eval (.tmp 98) = ptr gv := h.dep n 12 98 (by kernel_rfl) rfl
              have e1 : a1.eval (.tmp 99) = encStr f := h.dep n 13 99 (by kernel_rfl) rfl
              refine JF.call (FLk_mono x) h hK 100 rfl 33 _ _ #[ptr gv, encStr f] rfl Tryz.call33 ?_ (HHas.out w1 h.inv.1) ?_
              · simp only [List.map_toArray, List.map_cons, List.map_nil, e0, e1]
              · rintro e w3 ⟨rfl, b9⟩
                exact ⟨_, rfl, rfl, trivial, b9⟩
            · refine .inl ⟨.inr ⟨11, true, 97, rfl, by kernel_rfl, rfl, by simp, fun v h => h⟩, ?_⟩
              refine .inl ⟨by kernel_rfl, fun L a1 w1 n h => ⟨.pointer (some ⟨g4, 0, none⟩), rfl, ?_⟩⟩
              have e0 : a1.eval (.tmp 4) = _ := h.var n 4 (by kernel_rfl)
              unfold execOp
              simp only [e0]
              go_simp
            · refine .inl ⟨.inr ⟨11, true, 97, rfl, by kernel_rfl, rfl, by simp, fun v h => h⟩, ?_⟩
              exact .inl ⟨by kernel_rfl, fun L a1 w1 n h => ⟨_, rfl, run_loadA 3 (.tmp 101) ⟨g4, 0, none⟩ rfl Tryz.isAgg3 (h.dep n 15 101 (by kernel_rfl) rfl) (((r4.later h.inv.1)).cell (j := 0) (v := .int .i64 x.k) rfl)⟩⟩
            · refine .inl ⟨.inr ⟨11, true, 97, rfl, by kernel_rfl, rfl, by simp, fun v h => h⟩, ?_⟩
              exact .inl ⟨by kernel_rfl, fun L a1 w1 n h => ⟨_, rfl, run_eqlI (.tmp 102) (.const (.int .i64 4)) rfl (h.dep n 16 102 (by kernel_rfl) rfl) rfl hk4.out⟩⟩
            · refine .inl ⟨.inr ⟨11, true, 97, rfl, by kernel_rfl, rfl, by simp, fun v h => h⟩, ?_⟩
              exact .inl ⟨by kernel_rfl, fun L a1 w1 n h => ⟨_, rfl, run_move (.tmp 103) rfl (h.dep n 17 103 (by kernel_rfl) rfl)⟩⟩
            · exact .inr ⟨⟨18, true, 104, rfl, by kernel_rfl, rfl, by simp, fun v h => by rw [show v = .bool false from h]; first | exact ne_tf | exact ne_ft | exact ne_undef _⟩, by kernel_rfl, rfl⟩
            · exact .inr ⟨⟨18, true, 104, rfl, by kernel_rfl, rfl, by simp, fun v h => by rw [show v = .bool false from h]; first | exact ne_tf | exact ne_ft | exact ne_undef _⟩, by kernel_rfl, rfl⟩
            · exact .inr ⟨⟨18, true, 104, rfl, by kernel_rfl, rfl, by simp, fun v h => by rw [show v = .bool false from h]; first | exact ne_tf | exact ne_ft | exact ne_undef _⟩, by kernel_rfl, rfl⟩
            · exact .inr ⟨⟨18, true, 104, rfl, by kernel_rfl, rfl, by simp, fun v h => by rw [show v = .bool false from h]; first | exact ne_tf | exact ne_ft | exact ne_undef _⟩, by kernel_rfl, rfl⟩
            · refine .inl ⟨.inr ⟨11, true, 97, rfl, by kernel_rfl, rfl, by simp, fun v h => h⟩, ?_⟩
              exact .inl ⟨by kernel_rfl, fun L a1 w1 n h => ⟨_, rfl, run_pickF (.tmp 104) _ _ rfl (h.dep n 18 104 (by kernel_rfl) rfl) rfl⟩⟩
            · refine .inl ⟨.inr ⟨11, true, 97, rfl, by kernel_rfl, rfl, by simp, fun v h => h⟩, ?_⟩
              exact .inl ⟨by kernel_rfl, fun L a1 w1 n h => ⟨_, rfl, run_eqlB (.tmp 100) (.tmp 109) _ _ rfl (h.dep n 14 100 (by kernel_rfl) rfl) (h.dep n 23 109 (by kernel_rfl) rfl) (eqBoolQ false)⟩⟩
            · refine .inl ⟨.inl rfl, ?_⟩
              exact .inl ⟨by kernel_rfl, fun L a1 w1 n h => ⟨_, rfl, run_pickT (.tmp 97) _ _ rfl (h.dep n 11 97 (by kernel_rfl) rfl) (h.dep n 24 110 (by kernel_rfl) rfl)⟩⟩
            · refine .inl ⟨.inl rfl, ?_⟩
              exact .inl ⟨by kernel_rfl, fun L a1 w1 n h => ⟨_, rfl, run_move (.tmp 111) rfl (h.dep n 25 111 (by kernel_rfl) rfl)⟩⟩
            · refine .inl ⟨.inr ⟨26, true, 112, rfl, by kernel_rfl, rfl, by simp, fun v h => h⟩, ?_⟩
              exact .inl ⟨by kernel_rfl, fun L a1 w1 n h => ⟨_, rfl, run_move (.tmp 0) rfl (h.var n 0 (by kernel_rfl))⟩⟩
            · refine .inl ⟨.inr ⟨26, true, 112, rfl, by kernel_rfl, rfl, by simp, fun v h => h⟩, ?_⟩
              refine .inr fun L a1 w1 n h K hK => ?_
              have e0 : a1.eval (.tmp 113) = ptr gv := h.dep n 27 113 (by kernel_rfl) rfl
              refine JF.call (FLk_mono x) h hK 114 rfl 36 _ _ #[ptr gv] rfl Tryz.call36 ?_ (HKind.out w1 h.inv.1) ?_
              · simp only [List.map_toArray, List.map_cons, List.map_nil, e0]
              · rintro e w3 ⟨rfl, b9⟩
                exact ⟨_, rfl, rfl, trivial, b9⟩
            · refine .inl ⟨.inr ⟨26, true, 112, rfl, by kernel_rfl, rfl, by simp, fun v h => h⟩, ?_⟩
              refine .inl ⟨by kernel_rfl, fun L a1 w1 n h => ⟨.pointer (some ⟨g4, 0, none⟩), rfl, ?_⟩⟩
              have e0 : a1.eval (.tmp 4) = _ := h.var n 4 (by kernel_rfl)
              unfold execOp
              simp only [e0]
              go_simp
            · refine .inl ⟨.inr ⟨26, true, 112, rfl, by kernel_rfl, rfl, by simp, fun v h => h⟩, ?_⟩
              exact .inl ⟨by kernel_rfl, fun L a1 w1 n h => ⟨_, rfl, run_loadA 3 (.tmp 115) ⟨g4, 0, none⟩ rfl Tryz.isAgg3 (h.dep n 29 115 (by kernel_rfl) rfl) (((r4.later h.inv.1)).cell (j := 0) (v := .int .i64 x.k) rfl)⟩⟩
            · refine .inl ⟨.inr ⟨26, true, 112, rfl, by kernel_rfl, rfl, by simp, fun v h => h⟩, ?_⟩
              exact .inl ⟨by kernel_rfl, fun L a1 w1 n h => ⟨_, rfl, run_eqlI (.tmp 114) (.tmp 116) rfl (h.dep n 28 114 (by kernel_rfl) rfl) (h.dep n 30 116 (by kernel_rfl) rfl) (decide_eq_true rfl)⟩⟩
            · refine .inl ⟨.inl rfl, ?_⟩
              exact .inl ⟨by kernel_rfl, fun L a1 w1 n h => ⟨_, rfl, run_pickT (.tmp 112) _ _ rfl (h.dep n 26 112 (by kernel_rfl) rfl) (h.dep n 31 117 (by kernel_rfl) rfl)⟩⟩
            · refine .inl ⟨.inl rfl, ?_⟩
              exact .inl ⟨by kernel_rfl, fun L a1 w1 n h => ⟨_, rfl, run_move (.tmp 118) rfl (h.dep n 32 118 (by kernel_rfl) rfl)⟩⟩
            · refine .inl ⟨.inr ⟨33, true, 119, rfl, by kernel_rfl, rfl, by simp, fun v h => h⟩, ?_⟩
              exact .inl ⟨by kernel_rfl, fun L a1 w1 n h => ⟨_, rfl, run_move (.tmp 0) rfl (h.var n 0 (by kernel_rfl))⟩⟩
            · refine .inl ⟨.inr ⟨33, true, 119, rfl, by kernel_rfl, rfl, by simp, fun v h => h⟩, ?_⟩
              refine .inr fun L a1 w1 n h K hK => ?_
              have e0 : a1.eval (.tmp 120) = ptr gv := h.dep n 34 120 (by kernel_rfl) rfl
              refine JF.call (FLk_mono x) h hK 121 rfl 25 _ _ #[ptr gv] rfl Tryz.call25 ?_ (HPlain.out w1 h.inv.1) ?_
              · simp only [List.map_toArray, List.map_cons, List.map_nil, e0]
              · rintro e w3 ⟨p9, l9, s9, rfl, m9, b9⟩
                exact ⟨_, rfl, trivial, ⟨p9, l9, s9, rfl, m9⟩, b9⟩
            · refine .inl ⟨.inr ⟨33, true, 119, rfl, by kernel_rfl, rfl, by simp, fun v h => h⟩, ?_⟩
              exact .inl ⟨by kernel_rfl, fun L a1 w1 n h => ⟨_, rfl, run_loadRow 26 (.tmp 4) g4 26 _ _ rfl (h.var n 4 (by kernel_rfl)) ((r4.later h.inv.1)) Tryz.underlying26 rfl (by kernel_rfl)⟩⟩
            · refine .inl ⟨.inr ⟨33, true, 119, rfl, by kernel_rfl, rfl, by simp, fun v h => h⟩, ?_⟩
              refine .inr fun L a1 w1 n h K hK => ?_
              obtain ⟨p9, l9, s9, v9, m9⟩ := JF.get h n 35 121 (by kernel_rfl) (by kernel_rfl) rfl
              have e0 : a1.eval (.tmp 121) = vlV x p9 l9 s9 := v9
              have e1 : a1.eval (.tmp 122) = vlV x (.slice A0 x.ps.length c0) (.slice A1 x.ls.length c1) (.slice A2 x.ss.length c2) := h.dep n 36 122 (by kernel_rfl) rfl
              refine JF.call (FLk_mono x) h hK 123 rfl 24 _ _ #[vlV x p9 l9 s9, vlV x (.slice A0 x.ps.length c0) (.slice A1 x.ls.length c1) (.slice A2 x.ss.length c2)] rfl Tryz.call24 ?_ (HSame.out w1 h.inv.1 p9 l9 s9 m9) ?_
              · simp only [List.map_toArray, List.map_cons, List.map_nil, e0, e1]
              · rintro e w3 ⟨rfl, b9⟩
                exact ⟨_, rfl, rfl, trivial, b9⟩
            · refine .inl ⟨.inl rfl, ?_⟩
              exact .inl ⟨by kernel_rfl, fun L a1 w1 n h => ⟨_, rfl, run_pickT (.tmp 119) _ _ rfl (h.dep n 33 119 (by kernel_rfl) rfl) (h.dep n 37 123 (by kernel_rfl) rfl)⟩⟩
            · refine .inl ⟨.inl rfl, ?_⟩
              exact .inl ⟨by kernel_rfl, fun L a1 w1 n h => ⟨_, rfl, run_assign (.tmp 124) rfl (h.dep n 38 124 (by kernel_rfl) rfl)⟩⟩
          case he =>
            intro V w9 hV9 hJ
            have h39 : V 39 = .bool true := hV9 39 6 rfl
            have b9 : Below wr.heap.size wr w9 := hJ.1
            clear hV9 hJ
            simp only [putOps, List.setIfInBounds_toArray, List.set_cons_succ, List.set_cons_zero, Nat.reduceAdd]
            rw [h39]
            refine hK8 _ _ ?_
            go_wp2_with fail
            go_ret
            exact ⟨rfl, B6.trans (b9.mono B6.size)⟩
  · obtain rfl : T = q.t := by rw [← hT, hat]; rfl
    obtain rfl : bf = true := by rw [← hbf, hat]; rfl
    clear hT hbf hat
    obtain ⟨x1, gp, op2, rfl, hga, hca⟩ := (hM.p.later B3).at hq
    have q1 := hca 1 _ rfl
    have hil : i < x.ps.length := (List.getElem?_eq_some_iff.1 hq).1
    have hi0 : (0 : Int) ≤ (i : Int) := by omega
    clear hca x1 hga hq
    go_wp2_with (first
      | (with_reducible refine wg_run (o := ⟨some 33, _, _, _, _, _⟩) 6 true 28 rfl rfl rfl (.pointer (some ⟨gp, op2 + i * 2, none⟩)) (run_idxO 22 (.tmp 31) (.tmp 32) 87 2 gp op2 x.ps.length c0 i rfl Tryz.underlying22 Tryz.sizeOf87 rfl rfl hil) ?_))
    generalize (some ⟨gp, op2, none⟩ : Option Addr) = A0 at *
    refine (items_x (hV.later B3) (by omega)).mono ?_
    rintro e w4 ⟨v4, rfl, own4, b4⟩
    have sl4 := OwnW.slv own4
    obtain ⟨A4, ca, rfl⟩ := sl4.sl
    have B4 := B3.trans (b4.mono B3.size)
    have r44 := r43.later b4
    clear k0 k1 k2 k3 k4
    have k3 := r44.cell (j := 3) rfl
    have hM4 := hM.later' B4
    have hV4 := hV.later B4
    clear own4 b4 r43 hM hV
    go_wp2_with fail
    go_loopw [12] (fun iv wr => ∃ i : Nat, i ≤ x.ls.length ∧ iv = .int .i64 (i : Int) ∧ Below w4.heap.size w4 wr) (fun iv _ => x.ls.length - (intOf iv).toNat)
    case atStart => exact ⟨0, by omega, rfl, Below.refl _ _⟩
    case round =>
      obtain ⟨i, hi, rfl, BW⟩ := hrel
      have r4 := r44.later BW
      by_cases hlt : i < x.ls.length
      · have hltI : (i : Int) < (x.ls.length : Int) := by omega
        obtain ⟨f1, hf1⟩ : ∃ f1, x.ls[i]? = some f1 := ⟨_, List.getElem?_eq_getElem hlt⟩
        obtain ⟨x1, ga, oa, rfl, hga, hca⟩ := (sl4.later BW).at hf1
        obtain ⟨x2, gb, ob, hA1, hgb, hcb⟩ := (hM4.l.later BW).at hf1
        have q0 := hca 0 _ rfl
        rw [Nat.add_zero] at q0
        have z0 := hcb 0 _ rfl
        rw [Nat.add_zero] at z0
        replace hA1 := hide (show Value.slice A1 x.ls.length c1 = .slice (some ⟨gb, ob, none⟩) x.ls.length c1 by rw [hA1])
        replace hga := hide hga
        replace hgb := hide hgb
        replace q0 := hide q0
        replace z0 := hide z0
        replace hlt := hide hlt
        clear hca hcb x1 x2 hf1
        go_wp2_with fail
        rename_i K7 hK7
        refine wp_region_vals [] (SLk g4 ga oa ca gb ob i c1 A1 x f1) (JF wr [] FNq) (by kernel_rfl) (by kernel_rfl) (by kernel_rfl) (by kernel_rfl) (by kernel_rfl) (JF.start _) ?obs ?he
        case obs =>
          refine ⟨?_, ?_, ?_, ?_, ?_, ?_, ?_, ?_, ?_, ?_, trivial⟩
          · exact .inl ⟨by kernel_rfl, fun L a1 w1 n h => ⟨_, rfl, run_move (.tmp 11) rfl (h.var n 11 (by kernel_rfl))⟩⟩
          · exact .inl ⟨by kernel_rfl, fun L a1 w1 n h => ⟨_, rfl, run_move (.tmp 12) rfl (h.var n 12 (by kernel_rfl))⟩⟩
          · exact .inl ⟨by kernel_rfl, fun L a1 w1 n h => ⟨_, rfl, run_idxO 23 (.tmp 76) (.tmp 77) 9 1 ga oa _ _ i rfl Tryz.underlying23 Tryz.sizeOf9 (h.dep n 0 76 (by kernel_rfl) rfl) (h.dep n 1 77 (by kernel_rfl) rfl) hlt.out⟩⟩
          · exact .inl ⟨by kernel_rfl, fun L a1 w1 n h => ⟨_, rfl, run_load1 9 (.tmp 78) ga (oa + i * 1) _ rfl Tryz.isAgg9 (h.dep n 2 78 (by kernel_rfl) rfl) ((h.inv.1.cell (p := ⟨ga, _, none⟩) hga.out).trans q0.out)⟩⟩
          · refine .inl ⟨by kernel_rfl, fun L a1 w1 n h => ⟨.pointer (some ⟨g4, 3, none⟩), rfl, ?_⟩⟩
            have e0 : a1.eval (.tmp 4) = _ := h.var n 4 (by kernel_rfl)
            unfold execOp
            simp only [e0]
            go_simp
          · exact .inl ⟨by kernel_rfl, fun L a1 w1 n h => ⟨_, rfl, run_load1 23 (.tmp 80) g4 3 _ rfl Tryz.isAgg23 (h.dep n 4 80 (by kernel_rfl) rfl) ((r4.later (h.inv.1)).cell (j := 3) rfl)⟩⟩
          · exact .inl ⟨by kernel_rfl, fun L a1 w1 n h => ⟨_, rfl, run_move (.tmp 12) rfl (h.var n 12 (by kernel_rfl))⟩⟩
          · exact .inl ⟨by kernel_rfl, fun L a1 w1 n h => ⟨_, rfl, run_idxO 23 (.tmp 81) (.tmp 82) 9 1 gb ob _ _ i rfl Tryz.underlying23 Tryz.sizeOf9 ((h.dep n 5 81 (by kernel_rfl) rfl).trans hA1.out) (h.dep n 6 82 (by kernel_rfl) rfl) hlt.out⟩⟩
          · exact .inl ⟨by kernel_rfl, fun L a1 w1 n h => ⟨_, rfl, run_load1 9 (.tmp 83) gb (ob + i * 1) _ rfl Tryz.isAgg9 (h.dep n 7 83 (by kernel_rfl) rfl) ((h.inv.1.cell (p := ⟨gb, _, none⟩) hgb.out).trans z0.out)⟩⟩
          · refine .inl ⟨by kernel_rfl, fun L a1 w1 n h => ⟨.bool false, rfl, ?_⟩⟩
            have e0 : a1.eval (.tmp 79) = encStr f1 := h.dep n 3 79 (by kernel_rfl) rfl
            have e1 : a1.eval (.tmp 84) = encStr f1 := h.dep n 8 84 (by kernel_rfl) rfl
            exact run_neStr (.tmp 79) (.tmp 84) rfl e0 e1 (by simp)
        case he =>
          intro V w5 hV2 hJ
          have h9 : V 9 = .bool false := hV2 9 85 rfl
          have b5 : Below wr.heap.size wr w5 := hJ.1
          clear hV2 hJ
          simp only [putOps, List.setIfInBounds_toArray, List.set_cons_succ, List.set_cons_zero, Nat.reduceAdd]
          rw [h9]
          refine hK7 _ _ ?_
          go_wp2_with fail
          go_roundw
          case rel => exact ⟨i + 1, by have := hlt.out; omega, by go_num, BW.trans (b5.mono BW.size)⟩
          case measure => have := hlt.out; simp [intOf]; omega
      · obtain rfl : i = x.ls.length := by omega
        have B6 := B4.trans (BW.mono B4.size)
        have hV6 := hV4.later BW
        have hM6 := hM4.later' BW
        have HLen := hide (fun (wz : World) (hz : Below wr.heap.size wr wz) => len_x (hV6.later hz) hb)
        rw [hn10] at HLen
        have HText := hide (fun (wz : World) (hz : Below wr.heap.size wr wz) => text_x (hV6.later hz))
        have HKind := hide (fun (wz : World) (hz : Below wr.heap.size wr wz) => kind_x (hV6.later hz))
        have HPlain := hide (fun (wz : World) (hz : Below wr.heap.size wr wz) => plain_x (hV6.later hz) hb)
        have HSame := hide (fun (wz : World) (hz : Below wr.heap.size wr wz) (p l s : Value) (m : VlM wz wz.heap.size x p l s) => by
          have := rsameV_any wz x x p l s _ _ _ m (hM6.later' hz) hfit hfit
          rw [decide_eq_true (rfl : x = x)] at this
          exact this)
        obtain ⟨b, hbb⟩ : ∃ b, decide (f ∈ x.ls) = b := ⟨_, rfl⟩
        clear hb hi BW r44 sl4 hM4
        by_cases hk : x.k = 4
        · have hk4 := hide (decide_eq_true hk)
          have HHas := hide (fun (wz : World) (hz : Below wr.heap.size wr wz) => has_x (hV6.later hz) f hf)
          rw [hbb, hk4.out, Bool.true_and] at HHas
          have HrHas := hide (fun (wz : World) (hz : Below wr.heap.size wr wz) => rhas_any wz _ x.ls f (hM6.later' hz).l (by omega))
          rw [hbb] at HrHas
          clear hV6 hM6 hk
          go_wp2_with fail
          rename_i K8 hK8
          refine wp_region_valsS [1, 6, 14, 22, 28, 35, 37] (SLt gv g4 c0 c1 c2 A0 A1 A2 x f b n10) (JF wr [1, 6, 14, 22, 28, 35, 37] (FLk x)) (by kernel_rfl) (by kernel_rfl) (by kernel_rfl) (by kernel_rfl) (JF.start _) ?obs ?he
          case obs =>
            refine ⟨?_, ?_, ?_, ?_, ?_, ?_, ?_, ?_, ?_, ?_, ?_, ?_, ?_, ?_, ?_, ?_, ?_, ?_, ?_, ?_, ?_, ?_, ?_, ?_, ?_, ?_, ?_, ?_, ?_, ?_, ?_, ?_, ?_, ?_, ?_, ?_, ?_, ?_, ?_, ?_, trivial⟩
            · refine .inl ⟨.inl rfl, ?_⟩
              exact .inl ⟨by kernel_rfl, fun L a1 w1 n h => ⟨_, rfl, run_move (.tmp 0) rfl (h.var n 0 (by kernel_rfl))⟩⟩
            · refine .inl ⟨.inl rfl, ?_⟩
              refine .inr fun L a1 w1 n h K hK => ?_
              have e0 : a1.eval (.tmp 86) = ptr gv := h.dep n 0 86 (by kernel_rfl) rfl
              refine JF.call (FLk_mono x) h hK 87 rfl 35 _ _ #[ptr gv] rfl Tryz.call35 ?_ (HLen.out w1 h.inv.1) ?_
              · simp only [List.map_toArray, List.map_cons, List.map_nil, e0]
              · rintro e w3 ⟨rfl, b9⟩
                exact ⟨_, rfl, rfl, trivial, b9⟩
            · refine .inl ⟨.inl rfl, ?_⟩
              exact .inl ⟨by kernel_rfl, fun L a1 w1 n h => ⟨_, rfl, run_move (.tmp 10) rfl (h.var n 10 (by kernel_rfl))⟩⟩
            · refine .inl ⟨.inl rfl, ?_⟩
              exact .inl ⟨by kernel_rfl, fun L a1 w1 n h => ⟨_, rfl, run_eqlI (.tmp 87) (.tmp 88) rfl (h.dep n 1 87 (by kernel_rfl) rfl) (h.dep n 2 88 (by kernel_rfl) rfl) (decide_eq_true rfl)⟩⟩
            · refine .inl ⟨.inl rfl, ?_⟩
              exact .inl ⟨by kernel_rfl, fun L a1 w1 n h => ⟨_, rfl, run_move (.tmp 89) rfl (h.dep n 3 89 (by kernel_rfl) rfl)⟩⟩
            · refine .inl ⟨.inr ⟨4, true, 90, rfl, by kernel_rfl, rfl, by simp, fun v h => h⟩, ?_⟩
              exact .inl ⟨by kernel_rfl, fun L a1 w1 n h => ⟨_, rfl, run_move (.tmp 0) rfl (h.var n 0 (by kernel_rfl))⟩⟩
            · refine .inl ⟨.inr ⟨4, true, 90, rfl, by kernel_rfl, rfl, by simp, fun v h => h⟩, ?_⟩
              refine .inr fun L a1 w1 n h K hK => ?_
              have e0 : a1.eval (.tmp 91) = ptr gv := h.dep n 5 91 (by kernel_rfl) rfl
              refine JF.call (FLk_mono x) h hK 92 rfl 34 _ _ #[ptr gv] rfl Tryz.call34 ?_ (HText.out w1 h.inv.1) ?_
              · simp only [List.map_toArray, List.map_cons, List.map_nil, e0]
              · rintro e w3 ⟨rfl, b9⟩
                exact ⟨_, rfl, rfl, trivial, b9⟩
            · refine .inl ⟨.inr ⟨4, true, 90, rfl, by kernel_rfl, rfl, by simp, fun v h => h⟩, ?_⟩
              refine .inl ⟨by kernel_rfl, fun L a1 w1 n h => ⟨.pointer (some ⟨g4, 1, none⟩), rfl, ?_⟩⟩
              have e0 : a1.eval (.tmp 4) = _ := h.var n 4 (by kernel_rfl)
              unfold execOp
              simp only [e0]
              go_simp
            · refine .inl ⟨.inr ⟨4, true, 90, rfl, by kernel_rfl, rfl, by simp, fun v h => h⟩, ?_⟩
              exact .inl ⟨by kernel_rfl, fun L a1 w1 n h => ⟨_, rfl, run_loadA 9 (.tmp 93) ⟨g4, 1, none⟩ rfl Tryz.isAgg9 (h.dep n 7 93 (by kernel_rfl) rfl) (((r4.later h.inv.1)).cell (j := 1) (v := encStr x.t) rfl)⟩⟩
            · refine .inl ⟨.inr ⟨4, true, 90, rfl, by kernel_rfl, rfl, by simp, fun v h => h⟩, ?_⟩
              refine .inl ⟨by kernel_rfl, fun L a1 w1 n h => ⟨.bool true, rfl, ?_⟩⟩
              have e0 : a1.eval (.tmp 92) = encStr x.t := h.dep n 6 92 (by kernel_rfl) rfl
              have e1 : a1.eval (.tmp 94) = encStr x.t := h.dep n 8 94 (by kernel_rfl) rfl
              exact run_eqStr (.tmp 92) (.tmp 94) rfl e0 e1 (by simp)
            · refine .inl ⟨.inl rfl, ?_⟩
              exact .inl ⟨by kernel_rfl, fun L a1 w1 n h => ⟨_, rfl, run_pickT (.tmp 90) _ _ rfl (h.dep n 4 90 (by kernel_rfl) rfl) (h.dep n 9 95 (by kernel_rfl) rfl)⟩⟩
            · refine .inl ⟨.inl rfl, ?_⟩
              exact .inl ⟨by kernel_rfl, fun L a1 w1 n h => ⟨_, rfl, run_move (.tmp 96) rfl (h.dep n 10 96 (by kernel_rfl) rfl)⟩⟩
            · refine .inl ⟨.inr ⟨11, true, 97, rfl, by kernel_rfl, rfl, by simp, fun v h => h⟩, ?_⟩
              exact .inl ⟨by kernel_rfl, fun L a1 w1 n h => ⟨_, rfl, run_move (.tmp 0) rfl (h.var n 0 (by kernel_rfl))⟩⟩
            · refine .inl ⟨.inr ⟨11, true, 97, rfl, by kernel_rfl, rfl, by simp, fun v h => h⟩, ?_⟩
              exact .inl ⟨by kernel_rfl, fun L a1 w1 n h => ⟨_, rfl, run_move (.tmp 2) rfl (h.var n 2 (by kernel_rfl))⟩⟩
            · refine .inl ⟨.inr ⟨11, true, 97, rfl, by kernel_rfl, rfl, by simp, fun v h => h⟩, ?_⟩
              refine .inr fun L a1 w1 n h K hK => ?_
              have e0 : a1.eval (.tmp 98) = ptr gv := h.dep n 12 98 (by kernel_rfl) rfl
              have e1 : a1.eval (.tmp 99) = encStr f := h.dep n 13 99 (by kernel_rfl) rfl
              refine JF.call (FLk_mono x) h hK 100 rfl 33 _ _ #[ptr gv, encStr f] rfl Tryz.call33 ?_ (HHas.out w1 h.inv.1) ?_
              · simp only [List.map_toArray, List.map_cons, List.map_nil, e0, e1]
              · rintro e w3 ⟨rfl, b9⟩
                exact ⟨_, rfl, rfl, trivial, b9⟩
            · refine .inl ⟨.inr ⟨11, true, 97, rfl, by kernel_rfl, rfl, by simp, fun v h => h⟩, ?_⟩
              refine .inl ⟨by kernel_rfl, fun L a1 w1 n h => ⟨.pointer (some ⟨g4, 0, none⟩), rfl, ?_⟩⟩
              have e0 : a1.eval (.tmp 4) = _ := h.var n 4 (by kernel_rfl)
              unfold execOp
              simp only [e0]
              go_simp
            · refine .inl ⟨.inr ⟨11, true, 97, rfl, by kernel_rfl, rfl, by simp, fun v h => h⟩, ?_⟩
              exact .inl ⟨by kernel_rfl, fun L a1 w1 n h => ⟨_, rfl, run_loadA 3 (.tmp 101) ⟨g4, 0, none⟩ rfl Tryz.isAgg3 (h.dep n 15 101 (by kernel_rfl) rfl) (((r4.later h.inv.1)).cell (j := 0) (v := .int .i64 x.k) rfl)⟩⟩
            · refine .inl ⟨.inr ⟨11, true, 97, rfl, by kernel_rfl, rfl, by simp, fun v h => h⟩, ?_⟩
              exact .inl ⟨by kernel_rfl, fun L a1 w1 n h => ⟨_, rfl, run_eqlI (.tmp 102) (.const (.int .i64 4)) rfl (h.dep n 16 102 (by kernel_rfl) rfl) rfl hk4.out⟩⟩
            · refine .inl ⟨.inr ⟨11, true, 97, rfl, by kernel_rfl, rfl, by simp, fun v h => h⟩, ?_⟩
              exact .inl ⟨by kernel_rfl, fun L a1 w1 n h => ⟨_, rfl, run_move (.tmp 103) rfl (h.dep n 17 103 (by kernel_rfl) rfl)⟩⟩
            · refine .inl ⟨.inr ⟨18, true, 104, rfl, by kernel_rfl, rfl, by simp, fun v h => h⟩, ?_⟩
              refine .inl ⟨by kernel_rfl, fun L a1 w1 n h => ⟨.pointer (some ⟨g4, 3, none⟩), rfl, ?_⟩⟩
              have e0 : a1.eval (.tmp 4) = _ := h.var n 4 (by kernel_rfl)
              unfold execOp
              simp only [e0]
              go_simp
            · refine .inl ⟨.inr ⟨18, true, 104, rfl, by kernel_rfl, rfl, by simp, fun v h => h⟩, ?_⟩
              exact .inl ⟨by kernel_rfl, fun L a1 w1 n h => ⟨_, rfl, run_loadA 23 (.tmp 105) ⟨g4, 3, none⟩ rfl Tryz.isAgg23 (h.dep n 19 105 (by kernel_rfl) rfl) (((r4.later h.inv.1)).cell (j := 3) (v := .slice A1 x.ls.length c1) rfl)⟩⟩
            · refine .inl ⟨.inr ⟨18, true, 104, rfl, by kernel_rfl, rfl, by simp, fun v h => h⟩, ?_⟩
              exact .inl ⟨by kernel_rfl, fun L a1 w1 n h => ⟨_, rfl, run_move (.tmp 2) rfl (h.var n 2 (by kernel_rfl))⟩⟩
            · refine .inl ⟨.inr ⟨18, true, 104, rfl, by kernel_rfl, rfl, by simp, fun v h => h⟩, ?_⟩
              refine .inr fun L a1 w1 n h K hK => ?_
              have e0 : a1.eval (.tmp 106) = .slice A1 x.ls.length c1 := h.dep n 20 106 (by kernel_rfl) rfl
              have e1 : a1.eval (.tmp 107) = encStr f := h.dep n 21 107 (by kernel_rfl) rfl
              refine JF.call (FLk_mono x) h hK 108 rfl 71 _ _ #[.slice A1 x.ls.length c1, encStr f] rfl Tryz.call71 ?_ (HrHas.out w1 h.inv.1) ?_
              · simp only [List.map_toArray, List.map_cons, List.map_nil, e0, e1]
              · rintro e w3 ⟨rfl, b9⟩
                exact ⟨_, rfl, rfl, trivial, b9⟩
            · refine .inl ⟨.inr ⟨11, true, 97, rfl, by kernel_rfl, rfl, by simp, fun v h => h⟩, ?_⟩
              exact .inl ⟨by kernel_rfl, fun L a1 w1 n h => ⟨_, rfl, run_pickT (.tmp 104) _ _ rfl (h.dep n 18 104 (by kernel_rfl) rfl) (h.dep n 22 108 (by kernel_rfl) rfl)⟩⟩
            · refine .inl ⟨.inr ⟨11, true, 97, rfl, by kernel_rfl, rfl, by simp, fun v h => h⟩, ?_⟩
              exact .inl ⟨by kernel_rfl, fun L a1 w1 n h => ⟨_, rfl, run_eqlB (.tmp 100) (.tmp 109) _ _ rfl (h.dep n 14 100 (by kernel_rfl) rfl) (h.dep n 23 109 (by kernel_rfl) rfl) (eqBoolQ b)⟩⟩
            · refine .inl ⟨.inl rfl, ?_⟩
              exact .inl ⟨by kernel_rfl, fun L a1 w1 n h => ⟨_, rfl, run_pickT (.tmp 97) _ _ rfl (h.dep n 11 97 (by kernel_rfl) rfl) (h.dep n 24 110 (by kernel_rfl) rfl)⟩⟩
            · refine .inl ⟨.inl rfl, ?_⟩
              exact .inl ⟨by kernel_rfl, fun L a1 w1 n h => ⟨_, rfl, run_move (.tmp 111) rfl (h.dep n 25 111 (by kernel_rfl) rfl)⟩⟩
            · refine .inl ⟨.inr ⟨26, true, 112, rfl, by kernel_rfl, rfl, by simp, fun v h => h⟩, ?_⟩
              exact .inl ⟨by kernel_rfl, fun L a1 w1 n h => ⟨_, rfl, run_move (.tmp 0) rfl (h.var n 0 (by kernel_rfl))⟩⟩
            · refine .inl ⟨.inr ⟨26, true, 112, rfl, by kernel_rfl, rfl, by simp, fun v h => h⟩, ?_⟩
              refine .inr fun L a1 w1 n h K hK => ?_
              have e0 : a1.eval (.tmp 113) = ptr gv := h.dep n 27 113 (by kernel_rfl) rfl
              refine JF.call (FLk_mono x) h hK 114 rfl 36 _ _ #[ptr gv] rfl Tryz.call36 ?_ (HKind.out w1 h.inv.1) ?_
              · simp only [List.map_toArray, List.map_cons, List.map_nil, e0]
              · rintro e w3 ⟨rfl, b9⟩
                exact ⟨_, rfl, rfl, trivial, b9⟩
            · refine .inl ⟨.inr ⟨26, true, 112, rfl, by kernel_rfl, rfl, by simp, fun v h => h⟩, ?_⟩
              refine .inl ⟨by kernel_rfl, fun L a1 w1 n h => ⟨.pointer (some ⟨g4, 0, none⟩), rfl, ?_⟩⟩
              have e0 : a1.eval (.tmp 4) = _ := h.var n 4 (by kernel_rfl)
              unfold execOp
              simp only [e0]
              go_simp
            · refine .inl ⟨.inr ⟨26, true, 112, rfl, by kernel_rfl, rfl, by simp, fun v h => h⟩, ?_⟩
              exact .inl ⟨by kernel_rfl, fun L a1 w1 n h => ⟨_, rfl, run_loadA 3 (.tmp 115) ⟨g4, 0, none⟩ rfl Tryz.isAgg3 (h.dep n 29 115 (by kernel_rfl) rfl) (((r4.later h.inv.1)).cell (j := 0) (v := .int .i64 x.k) rfl)⟩⟩
            · refine .inl ⟨.inr ⟨26, true, 112, rfl, by kernel_rfl, rfl, by simp, fun v h => h⟩, ?_⟩
              exact .inl ⟨by kernel_rfl, fun L a1 w1 n h => ⟨_, rfl, run_eqlI (.tmp 114) (.tmp 116) rfl (h.dep n 28 114 (by kernel_rfl) rfl) (h.dep n 30 116 (by kernel_rfl) rfl) (decide_eq_true rfl)⟩⟩
            · refine .inl ⟨.inl rfl, ?_⟩
              exact .inl ⟨by kernel_rfl, fun L a1 w1 n h => ⟨_, rfl, run_pickT (.tmp 112) _ _ rfl (h.dep n 26 112 (by kernel_rfl) rfl) (h.dep n 31 117 (by kernel_rfl) rfl)⟩⟩
            · refine .inl ⟨.inl rfl, ?_⟩
              exact .inl ⟨by kernel_rfl, fun L a1 w1 n h => ⟨_, rfl, run_move (.tmp 118) rfl (h.dep n 32 118 (by kernel_rfl) rfl)⟩⟩
            · refine .inl ⟨.inr ⟨33, true, 119, rfl, by kernel_rfl, rfl, by simp, fun v h => h⟩, ?_⟩
              exact .inl ⟨by kernel_rfl, fun L a1 w1 n h => ⟨_, rfl, run_move (.tmp 0) rfl (h.var n 0 (by kernel_rfl))⟩⟩
            · refine .inl ⟨.inr ⟨33, true, 119, rfl, by kernel_rfl, rfl, by simp, fun v h => h⟩, ?_⟩
              refine .inr fun L a1 w1 n h K hK => ?_
              have e0 : a1.eval (.tmp 120) = ptr gv := h.dep n 34 120 (by kernel_rfl) rfl
              refine JF.call (FLk_mono x) h hK 121 rfl 25 _ _ #[ptr gv] rfl Tryz.call25 ?_ (HPlain.out w1 h.inv.1) ?_
              · simp only [List.map_toArray, List.map_cons, List.map_nil, e0]
              · rintro e w3 ⟨p9, l9, s9, rfl, m9, b9⟩
                exact ⟨_, rfl, trivial, ⟨p9, l9, s9, rfl, m9⟩, b9⟩
            · refine .inl ⟨.inr ⟨33, true, 119, rfl, by kernel_rfl, rfl, by simp, fun v h => h⟩, ?_⟩
              exact .inl ⟨by kernel_rfl, fun L a1 w1 n h => ⟨_, rfl, run_loadRow 26 (.tmp 4) g4 26 _ _ rfl (h.var n 4 (by kernel_rfl)) ((r4.later h.inv.1)) Tryz.underlying26 rfl (by kernel_rfl)⟩⟩
            · refine .inl ⟨.inr ⟨33, true, 119, rfl, by kernel_rfl, rfl, by simp, fun v h => h⟩, ?_⟩
              refine .inr fun L a1 w1 n h K hK => ?_
              obtain ⟨p9, l9, s9, v9, m9⟩ := JF.get h n 35 121 (by kernel_rfl) (by kernel_rfl) rfl
              have e0 : a1.eval (.tmp 121) = vlV x p9 l9 s9 := v9
              have e1 : a1.eval (.tmp 122) = vlV x (.slice A0 x.ps.length c0) (.slice A1 x.ls.length c1) (.slice A2 x.ss.length c2) := h.dep n 36 122 (by kernel_rfl) rfl
              refine JF.call (FLk_mono x) h hK 123 rfl 24 _ _ #[vlV x p9 l9 s9, vlV x (.slice A0 x.ps.length c0) (.slice A1 x.ls.length c1) (.slice A2 x.ss.length c2)] rfl Tryz.call24 ?_ (HSame.out w1 h.inv.1 p9 l9 s9 m9) ?_
              · simp only [List.map_toArray, List.map_cons, List.map_nil, e0, e1]
              · rintro e w3 ⟨rfl, b9⟩
                exact ⟨_, rfl, rfl, trivial, b9⟩
            · refine .inl ⟨.inl rfl, ?_⟩
              exact .inl ⟨by kernel_rfl, fun L a1 w1 n h => ⟨_, rfl, run_pickT (.tmp 119) _ _ rfl (h.dep n 33 119 (by kernel_rfl) rfl) (h.dep n 37 123 (by kernel_rfl) rfl)⟩⟩
            · refine .inl ⟨.inl rfl, ?_⟩
              exact .inl ⟨by kernel_rfl, fun L a1 w1 n h => ⟨_, rfl, run_assign (.tmp 124) rfl (h.dep n 38 124 (by kernel_rfl) rfl)⟩⟩
          case he =>
            intro V w9 hV9 hJ
            have h39 : V 39 = .bool true := hV9 39 6 rfl
            have b9 : Below wr.heap.size wr w9 := hJ.1
            clear hV9 hJ
            simp only [putOps, List.setIfInBounds_toArray, List.set_cons_succ, List.set_cons_zero, Nat.reduceAdd]
            rw [h39]
            refine hK8 _ _ ?_
            go_wp2_with fail
            go_ret
            exact ⟨rfl, B6.trans (b9.mono B6.size)⟩
        · have hk4 := hide (decide_eq_false hk)
          have HHas := hide (fun (wz : World) (hz : Below wr.heap.size wr wz) => has_x (hV6.later hz) f hf)
          rw [hk4.out, Bool.false_and] at HHas
          clear hV6 hM6 hk
          go_wp2_with fail
          rename_i K8 hK8
          refine wp_region_valsS [1, 6, 14, 28, 35, 37] (SLf gv g4 c0 c1 c2 A0 A1 A2 x f b n10) (JF wr [1, 6, 14, 28, 35, 37] (FLk x)) (by kernel_rfl) (by kernel_rfl) (by kernel_rfl) (by kernel_rfl) (JF.start _) ?obs ?he
          case obs =>
            refine ⟨?_, ?_, ?_, ?_, ?_, ?_, ?_, ?_, ?_, ?_, ?_, ?_, ?_, ?_, ?_, ?_, ?_, ?_, ?_, ?_, ?_, ?_, ?_, ?_, ?_, ?_, ?_, ?_, ?_, ?_, ?_, ?_, ?_, ?_, ?_, ?_, ?_, ?_, ?_, ?_, trivial⟩
            · refine .inl ⟨.inl rfl, ?_⟩
              exact .inl ⟨by kernel_rfl, fun L a1 w1 n h => ⟨_, rfl, run_move (.tmp 0) rfl (h.var n 0 (by kernel_rfl))⟩⟩
            · refine .inl ⟨.inl rfl, ?_⟩
              refine .inr fun L a1 w1 n h K hK => ?_
              have e0 : a1.eval (.tmp 86) = ptr gv := h.dep n 0 86 (by kernel_rfl) rfl
              refine JF.call (FLk_mono x) h hK 87 rfl 35 _ _ #[ptr gv] rfl Tryz.call35 ?_ (HLen.out w1 h.inv.1) ?_
              · simp only [List.map_toArray, List.map_cons, List.map_nil, e0]
              · rintro e w3 ⟨rfl, b9⟩
                exact ⟨_, rfl, rfl, trivial, b9⟩
            · refine .inl ⟨.inl rfl, ?_⟩
              exact .inl ⟨by kernel_rfl, fun L a1 w1 n h => ⟨_, rfl, run_move (.tmp 10) rfl (h.var n 10 (by kernel_rfl))⟩⟩
            · refine .inl ⟨.inl rfl, ?_⟩
              exact .inl ⟨by kernel_rfl, fun L a1 w1 n h => ⟨_, rfl, run_eqlI (.tmp 87) (.tmp 88) rfl (h.dep n 1 87 (by kernel_rfl) rfl) (h.dep n 2 88 (by kernel_rfl) rfl) (decide_eq_true rfl)⟩⟩
            · refine .inl ⟨.inl rfl, ?_⟩
              exact .inl ⟨by kernel_rfl, fun L a1 w1 n h => ⟨_, rfl, run_move (.tmp 89) rfl (h.dep n 3 89 (by kernel_rfl) rfl)⟩⟩
            · refine .inl ⟨.inr ⟨4, true, 90, rfl, by kernel_rfl, rfl, by simp, fun v h => h⟩, ?_⟩
              exact .inl ⟨by kernel_rfl, fun L a1 w1 n h => ⟨_, rfl, run_move (.tmp 0) rfl (h.var n 0 (by kernel_rfl))⟩⟩
            · refine .inl ⟨.inr ⟨4, true, 90, rfl, by kernel_rfl, rfl, by simp, fun v h => h⟩, ?_⟩
              refine .inr fun L a1 w1 n h K hK => ?_
              have e0 : a1.eval (.tmp 91) = ptr gv := h.dep n 5 91 (by kernel_rfl) rfl
              refine JF.call (FLk_mono x) h hK 92 rfl 34 _ _ #[ptr gv] rfl Tryz.call34 ?_ (HText.out w1 h.inv.1) ?_
              · simp only [List.map_toArray, List.map_cons, List.map_nil, e0]
              · rintro e w3 ⟨rfl, b9⟩
                exact ⟨_, rfl, rfl, trivial, b9⟩
            · refine .inl ⟨.inr ⟨4, true, 90, rfl, by kernel_rfl, rfl, by simp, fun v h => h⟩, ?_⟩
              refine .inl ⟨by kernel_rfl, fun L a1 w1 n h => ⟨.pointer (some ⟨g4, 1, none⟩), rfl, ?_⟩⟩
              have e0 : a1.eval (.tmp 4) = _ := h.var n 4 (by kernel_rfl)
              unfold execOp
              simp only [e0]
              go_simp
            · refine .inl ⟨.inr ⟨4, true, 90, rfl, by kernel_rfl, rfl, by simp, fun v h => h⟩, ?_⟩
              exact .inl ⟨by kernel_rfl, fun L a1 w1 n h => ⟨_, rfl, run_loadA 9 (.tmp 93) ⟨g4, 1, none⟩ rfl Tryz.isAgg9 (h.dep n 7 93 (by kernel_rfl) rfl) (((r4.later h.inv.1)).cell (j := 1) (v := encStr x.t) rfl)⟩⟩
            · refine .inl ⟨.inr ⟨4, true, 90, rfl, by kernel_rfl, rfl, by simp, fun v h => h⟩, ?_⟩
              refine .inl ⟨by kernel_rfl, fun L a1 w1 n h => ⟨.bool true, rfl, ?_⟩⟩
              have e0 : a1.eval (.tmp 92) = encStr x.t := h.dep n 6 92 (by kernel_rfl) rfl
              have e1 : a1.eval (.tmp 94) = encStr x.t := h.dep n 8 94 (by kernel_rfl) rfl
              exact run_eqStr (.tmp 92) (.tmp 94) rfl e0 e1 (by simp)
            · refine .inl ⟨.inl rfl, ?_⟩
              exact .inl ⟨by kernel_rfl, fun L a1 w1 n h => ⟨_, rfl, run_pickT (.tmp 90) _ _ rfl (h.dep n 4 90 (by kernel_rfl) rfl) (h.dep n 9 95 (by kernel_rfl) rfl)⟩⟩
            · refine .inl ⟨.inl rfl, ?_⟩
              exact .inl ⟨by kernel_rfl, fun L a1 w1 n h => ⟨_, rfl, run_move (.tmp 96) rfl (h.dep n 10 96 (by kernel_rfl) rfl)⟩⟩
            · refine .inl ⟨.inr ⟨11, true, 97, rfl, by kernel_rfl, rfl, by simp, fun v h => h⟩, ?_⟩
              exact .inl ⟨by kernel_rfl, fun L a1 w1 n h => ⟨_, rfl, run_move (.tmp 0) rfl (h.var n 0 (by kernel_rfl))⟩⟩
            · refine .inl ⟨.inr ⟨11, true, 97, rfl, by kernel_rfl, rfl, by simp, fun v h => h⟩, ?_⟩
              exact .inl ⟨by kernel_rfl, fun L a1 w1 n h => ⟨_, rfl, run_move (.tmp 2) rfl (h.var n 2 (by kernel_rfl))⟩⟩
            · refine .inl ⟨.inr ⟨11, true, 97, rfl, by kernel_rfl, rfl, by simp, fun v h => h⟩, ?_⟩
              refine .inr fun L a1 w1 n h K hK => ?_
              have e0 : a1.eval (.tmp 98) = ptr gv := h.dep n 12 98 (by kernel_rfl) rfl
              have e1 : a1.eval (.tmp 99) = encStr f := h.dep n 13 99 (by kernel_rfl) rfl
              refine JF.call (FLk_mono x) h hK 100 rfl 33 _ _ #[ptr gv, encStr f] rfl Tryz.call33 ?_ (HHas.out w1 h.inv.1) ?_
              · simp only [List.map_toArray, List.map_cons, List.map_nil, e0, e1]
              · rintro e w3 ⟨rfl, b9⟩
                exact ⟨_, rfl, rfl, trivial, b9⟩
            · refine .inl ⟨.inr ⟨11, true, 97, rfl, by kernel_rfl, rfl, by simp, fun v h => h⟩, ?_⟩
              refine .inl ⟨by kernel_rfl, fun L a1 w1 n h => ⟨.pointer (some ⟨g4, 0, none⟩), rfl, ?_⟩⟩
              have e0 : a1.eval (.tmp 4) = _ := h.var n 4 (by kernel_rfl)
              unfold execOp
              simp only [e0]
              go_simp
            · refine .inl ⟨.inr ⟨11, true, 97, rfl, by kernel_rfl, rfl, by simp, fun v h => h⟩, ?_⟩
              exact .inl ⟨by kernel_rfl, fun L a1 w1 n h => ⟨_, rfl, run_loadA 3 (.tmp 101) ⟨g4, 0, none⟩ rfl Tryz.isAgg3 (h.dep n 15 101 (by kernel_rfl) rfl) (((r4.later h.inv.1)).cell (j := 0) (v := .int .i64 x.k) rfl)⟩⟩
            · refine .inl ⟨.inr ⟨11, true, 97, rfl, by kernel_rfl, rfl, by simp, fun v h => h⟩, ?_⟩
              exact .inl ⟨by kernel_rfl, fun L a1 w1 n h => ⟨_, rfl, run_eqlI (.tmp 102) (.const (.int .i64 4)) rfl (h.dep n 16 102 (by kernel_rfl) rfl) rfl hk4.out⟩⟩
            · refine .inl ⟨.inr ⟨11, true, 97, rfl, by kernel_rfl, rfl, by simp, fun v h => h⟩, ?_⟩
              exact .inl ⟨by kernel_rfl, fun L a1 w1 n h => ⟨_, rfl, run_move (.tmp 103) rfl (h.dep n 17 103 (by kernel_rfl) rfl)⟩⟩
            · exact .inr ⟨⟨18, true, 104, rfl, by kernel_rfl, rfl, by simp, fun v h => by rw [show v = .bool false from h]; first | exact ne_tf | exact ne_ft | exact ne_undef _⟩, by kernel_rfl, rfl⟩
            · exact .inr ⟨⟨18, true, 104, rfl, by kernel_rfl, rfl, by simp, fun v h => by rw [show v = .bool false from h]; first | exact ne_tf | exact ne_ft | exact ne_undef _⟩, by kernel_rfl, rfl⟩
            · exact .inr ⟨⟨18, true, 104, rfl, by kernel_rfl, rfl, by simp, fun v h => by rw [show v = .bool false from h]; first | exact ne_tf | exact ne_ft | exact ne_undef _⟩, by kernel_rfl, rfl⟩
            · exact .inr ⟨⟨18, true, 104, rfl, by kernel_rfl, rfl, by simp, fun v h => by rw [show v = .bool false from h]; first | exact ne_tf | exact ne_ft | exact ne_undef _⟩, by kernel_rfl, rfl⟩
            · refine .inl ⟨.inr ⟨11, true, 97, rfl, by kernel_rfl, rfl, by simp, fun v h => h⟩, ?_⟩
              exact .inl ⟨by kernel_rfl, fun L a1 w1 n h => ⟨_, rfl, run_pickF (.tmp 104) _ _ rfl (h.dep n 18 104 (by kernel_rfl) rfl) rfl⟩⟩
            · refine .inl ⟨.inr ⟨11, true, 97, rfl, by kernel_rfl, rfl, by simp, fun v h => h⟩, ?_⟩
              exact .inl ⟨by kernel_rfl, fun L a1 w1 n h => ⟨_, rfl, run_eqlB (.tmp 100) (.tmp 109) _ _ rfl (h.dep n 14 100 (by kernel_rfl) rfl) (h.dep n 23 109 (by kernel_rfl) rfl) (eqBoolQ false)⟩⟩
            · refine .inl ⟨.inl rfl, ?_⟩
              exact .inl ⟨by kernel_rfl, fun L a1 w1 n h => ⟨_, rfl, run_pickT (.tmp 97) _ _ rfl (h.dep n 11 97 (by kernel_rfl) rfl) (h.dep n 24 110 (by kernel_rfl) rfl)⟩⟩
            · refine .inl ⟨.inl rfl, ?_⟩
              exact .inl ⟨by kernel_rfl, fun L a1 w1 n h => ⟨_, rfl, run_move (.tmp 111) rfl (h.dep n 25 111 (by kernel_rfl) rfl)⟩⟩
            · refine .inl ⟨.inr ⟨26, true, 112, rfl, by kernel_rfl, rfl, by simp, fun v h => h⟩, ?_⟩
              exact .inl ⟨by kernel_rfl, fun L a1 w1 n h => ⟨_, rfl, run_move (.tmp 0) rfl (h.var n 0 (by kernel_rfl))⟩⟩
            · refine .inl ⟨.inr ⟨26, true, 112, rfl, by kernel_rfl, rfl, by simp, fun v h => h⟩, ?_⟩
              refine .inr fun L a1 w1 n h K hK => ?_
              have e0 : a1.eval (.tmp 113) = ptr gv := h.dep n 27 113 (by kernel_rfl) rfl
              refine JF.call (FLk_mono x) h hK 114 rfl 36 _ _ #[ptr gv] rfl Tryz.call36 ?_ (HKind.out w1 h.inv.1) ?_
              · simp only [List.map_toArray, List.map_cons, List.map_nil, e0]
              · rintro e w3 ⟨rfl, b9⟩
                exact ⟨_, rfl, rfl, trivial, b9⟩
            · refine .inl ⟨.inr ⟨26, true, 112, rfl, by kernel_rfl, rfl, by simp, fun v h => h⟩, ?_⟩
              refine .inl ⟨by kernel_rfl, fun L a1 w1 n h => ⟨.pointer (some ⟨g4, 0, none⟩), rfl, ?_⟩⟩
              have e0 : a1.eval (.tmp 4) = _ := h.var n 4 (by kernel_rfl)
              unfold execOp
              simp only [e0]
              go_simp
            · refine .inl ⟨.inr ⟨26, true, 112, rfl, by kernel_rfl, rfl, by simp, fun v h => h⟩, ?_⟩
              exact .inl ⟨by kernel_rfl, fun L a1 w1 n h => ⟨_, rfl, run_loadA 3 (.tmp 115) ⟨g4, 0, none⟩ rfl Tryz.isAgg3 (h.dep n 29 115 (by kernel_rfl) rfl) (((r4.later h.inv.1)).cell (j := 0) (v := .int .i64 x.k) rfl)⟩⟩
            · refine .inl ⟨.inr ⟨26, true, 112, rfl, by kernel_rfl, rfl, by simp, fun v h => h⟩, ?_⟩
              exact .inl ⟨by kernel_rfl, fun L a1 w1 n h => ⟨_, rfl, run_eqlI (.tmp 114) (.tmp 116) rfl (h.dep n 28 114 (by kernel_rfl) rfl) (h.dep n 30 116 (by kernel_rfl) rfl) (decide_eq_true rfl)⟩⟩
            · refine .inl ⟨.inl rfl, ?_⟩
              exact .inl ⟨by kernel_rfl, fun L a1 w1 n h => ⟨_, rfl, run_pickT (.tmp 112) _ _ rfl (h.dep n 26 112 (by kernel_rfl) rfl) (h.dep n 31 117 (by kernel_rfl) rfl)⟩⟩
            · refine .inl ⟨.inl rfl, ?_⟩
              exact .inl ⟨by kernel_rfl, fun L a1 w1 n h => ⟨_, rfl, run_move (.tmp 118) rfl (h.dep n 32 118 (by kernel_rfl) rfl)⟩⟩
            · refine .inl ⟨.inr ⟨33, true, 119, rfl, by kernel_rfl, rfl, by simp, fun v h => h⟩, ?_⟩
              exact .inl ⟨by kernel_rfl, fun L a1 w1 n h => ⟨_, rfl, run_move (.tmp 0) rfl (h.var n 0 (by kernel_rfl))⟩⟩
            · refine .inl ⟨.inr ⟨33, true, 119, rfl, by kernel_rfl, rfl, by simp, fun v h => h⟩, ?_⟩
              refine .inr fun L a1 w1 n h K hK => ?_
              have e0 : a1.eval (.tmp 120) = ptr gv := h.dep n 34 120 (by kernel_rfl) rfl
              refine JF.call (FLk_mono x) h hK 121 rfl 25 _ _ #[ptr gv] rfl Tryz.call25 ?_ (HPlain.out w1 h.inv.1) ?_
              · simp only [List.map_toArray, List.map_cons, List.map_nil, e0]
              · rintro e w3 ⟨p9, l9, s9, rfl, m9, b9⟩
                exact ⟨_, rfl, trivial, ⟨p9, l9, s9, rfl, m9⟩, b9⟩
            · refine .inl ⟨.inr ⟨33, true, 119, rfl, by kernel_rfl, rfl, by simp, fun v h => h⟩, ?_⟩
              exact .inl ⟨by kernel_rfl, fun L a1 w1 n h => ⟨_, rfl, run_loadRow 26 (.tmp 4) g4 26 _ _ rfl (h.var n 4 (by kernel_rfl)) ((r4.later h.inv.1)) Tryz.underlying26 rfl (by kernel_rfl)⟩⟩
            · refine .inl ⟨.inr ⟨33, true, 119, rfl, by kernel_rfl, rfl, by simp, fun v h => h⟩, ?_⟩
              refine .inr fun L a1 w1 n h K hK => ?_
              obtain ⟨p9, l9, s9, v9, m9⟩ := JF.get h n 35 121 (by kernel_rfl) (by kernel_rfl) rfl
              have e0 : a1.eval (.tmp 121) = vlV x p9 l9 s9 := v9
              have e1 : a1.eval (.tmp 122) = vlV x (.slice A0 x.ps.length c0) (.slice A1 x.ls.length c1) (.slice A2 x.ss.length c2) := h.dep n 36 122 (by kernel_rfl) rfl
              refine JF.call (FLk_mono x) h hK 123 rfl 24 _ _ #[vlV x p9 l9 s9, vlV x (.slice A0 x.ps.length c0) (.slice A1 x.ls.length c1) (.slice A2 x.ss.length c2)] rfl Tryz.call24 ?_ (HSame.out w1 h.inv.1 p9 l9 s9 m9) ?_
              · simp only [List.map_toArray, List.map_cons, List.map_nil, e0, e1]
              · rintro e w3 ⟨rfl, b9⟩
                exact ⟨_, rfl, rfl, trivial, b9⟩
            · refine .inl ⟨.inl rfl, ?_⟩
              exact .inl ⟨by kernel_rfl, fun L a1 w1 n h => ⟨_, rfl, run_pickT (.tmp 119) _ _ rfl (h.dep n 33 119 (by kernel_rfl) rfl) (h.dep n 37 123 (by kernel_rfl) rfl)⟩⟩
            · refine .inl ⟨.inl rfl, ?_⟩
              exact .inl ⟨by kernel_rfl, fun L a1 w1 n h => ⟨_, rfl, run_assign (.tmp 124) rfl (h.dep n 38 124 (by kernel_rfl) rfl)⟩⟩
          case he =>
            intro V w9 hV9 hJ
            have h39 : V 39 = .bool true := hV9 39 6 rfl
            have b9 : Below wr.heap.size wr w9 := hJ.1
            clear hV9 hJ
            simp only [putOps, List.setIfInBounds_toArray, List.set_cons_succ, List.set_cons_zero, Nat.reduceAdd]
            rw [h39]
            refine hK8 _ _ ?_
            go_wp2_with fail
            go_ret
            exact ⟨rfl, B6.trans (b9.mono B6.size)⟩
end Go.Proofs.YtpbkejmffddelaaGreat

/-
  New of any kind; how plain data grows; acts, their lists' forms. Own work.
-/
namespace Go.Proofs.YtpbkejmffddelaaGreat
open Go.RowKit Go.Shelf Go.Maps
theorem new_x (w : World) (k : Int) (hk : 1 ≤ k ∧ k ≤ 5) : Calls Tryz.prog 17 #[.int .i64 k] w fun e w' => ∃ gv, e = .returned (ptr gv) ∧ VX w' w.heap.size gv ⟨k, [], [], [], []⟩ ∧ Below w.heap.size w w' := by
  have h5 : k = 1 ∨ k = 2 ∨ k = 3 ∨ k = 4 ∨ k = 5 := by omega
  rcases h5 with rfl | rfl | rfl | rfl | rfl
  · exact (new1_any w).mono fun e w' ⟨gv, he, h, hb⟩ => ⟨gv, he, .k1 [] h, hb⟩
  · exact (new2_any w).mono fun e w' ⟨gv, mb, he, h, hb⟩ => ⟨gv, he, .k2 mb [] ⟨h.v, h.map, h.lo⟩, hb⟩
  · exact (new3_any w).mono fun e w' ⟨gv, he, h, hb⟩ => ⟨gv, he, .k3 nilS [] h, hb⟩
  · exact (new4_any w).mono fun e w' ⟨gv, he, ⟨sb, h⟩, hb⟩ => ⟨gv, he, .k4 sb [] h, hb⟩
  · exact (new5_any w).mono fun e w' ⟨gv, he, ⟨gz, mb, hd, h⟩, hb⟩ => ⟨gv, he, .k5 gz mb hd [] h, hb⟩
theorem insF_lenQ (x : Pr) : ∀ ps : List Pr, (insF x ps).length = ps.length + 1
  | [] => rfl
  | y :: r => by
    unfold insF
    split
    · rfl
    · rw [List.length_cons, insF_lenQ x r]; rfl
theorem insF_memQ (x : Pr) : ∀ (ps : List Pr) (q : Pr), q ∈ insF x ps → q = x ∨ q ∈ ps
  | [], q, h => by simpa [insF] using h
  | y :: r, q, h => by
    unfold insF at h
    split at h
    · rcases List.mem_cons.1 h with h | h
      · exact .inl h
      · exact .inr h
    · rcases List.mem_cons.1 h with h | h
      · exact .inr (h ▸ List.mem_cons_self)
      · exact (insF_memQ x r q h).imp id (List.mem_cons_of_mem _)
theorem putF_lenQ (ps : List Pr) (f t : Nm) : (putF ps f t).length ≤ ps.length + 1 := by
  unfold putF
  rw [insF_lenQ]
  have := cutF_le ps f
  omega
theorem putS_lenQ (L : List Sc) (x : Sc) : (putS L x).length ≤ L.length + 1 := by
  unfold putS
  rw [putAt_len]
  have : (dropS L x.m).length ≤ L.length := List.length_filter_le _ _
  omega
theorem cutN_lenQ (us : List Nm) (f : Nm) : (cutN us f).length ≤ us.length := List.length_filter_le _ _
/-- Plain data behind n acts. -/
structure Grow (n : Nat) (x : Vl) : Prop where
  t : x.t.length ≤ 200
  p : x.ps.length ≤ n
  l : x.ls.length ≤ n + 20
  s : x.ss.length ≤ n
  f : ∀ q ∈ x.ps, q.f.length ≤ 200
theorem grow_act {n : Nat} {x : Vl} {a : VA} (h : Grow n x) (ha : a.a.length ≤ 200) (hl : a.l.length ≤ 20) : Grow (n + 1) (actX x a) := by
  have ht := h.t; have hp := h.p; have hls := h.l; have hs := h.s; have hf := h.f
  refine ⟨?_, ?_, ?_, ?_, ?_⟩ <;> unfold actX <;> simp only
  · split <;> assumption
  · split
    · have := putF_lenQ x.ps a.a a.b; omega
    · split
      · have := cutF_le x.ps a.a; omega
      · omega
  · split
    · have := putN_len x.ls a.a; omega
    · split
      · have := cutN_lenQ x.ls a.a; omega
      · split
        · omega
        · split
          · have := foldN_len a.l []; simp only [List.length_nil] at this; omega
          · omega
  · split
    · have := putS_lenQ x.ss ⟨a.a, a.n⟩; omega
    · split
      · have : (dropS x.ss a.a).length ≤ x.ss.length := List.length_filter_le _ _
        omega
      · omega
  · intro q hq
    split at hq
    · unfold putF at hq
      rcases insF_memQ _ _ _ hq with rfl | hq
      · exact ha
      · exact hf q (List.mem_filter.1 hq).1
    · split at hq
      · exact hf q (List.mem_filter.1 hq).1
      · exact hf q hq
theorem Grow.bd {n : Nat} {x : Vl} (h : Grow n x) (hn : n ≤ 900) : VBd 1000 x := by
  have ht := h.t; have hp := h.p; have hl := h.l; have hs := h.s
  exact ⟨by omega, by omega, by omega, by omega, fun q hq => by have := h.f q hq; simp only [maxLen]; omega⟩
/-- Acts in memory, and their lists' forms. -/
def VActs2 (w : World) (B : Nat) (v : Value) (l : List VA) : Prop :=
  ∃ A c, v = .slice A l.length c ∧ (0 < l.length → ∃ g off, A = some ⟨g, off, none⟩ ∧ g < B ∧ ∀ (i : Nat) (a : VA), l[i]? = some a → ∃ lv, SlV cS 1 w B lv a.l ∧ (lv = nilS ∨ ∃ ad n c, lv = .slice (some ad) n c) ∧ 0 ≤ a.k ∧ ∀ (j : Nat) (u : Value), (a.cells lv)[j]? = some u → w.cell? ⟨g, off + i * 5 + j, none⟩ = some u)
section
variable {w w' : World} {B : Nat} {v : Value} {l : List VA}
theorem VActs2.acts (h : VActs2 w B v l) : VActs w B v l := by
  obtain ⟨A, c, e, h⟩ := h
  refine ⟨A, c, e, fun h0 => ?_⟩
  obtain ⟨g, off, eA, hg, hc⟩ := h h0
  refine ⟨g, off, eA, hg, fun i a hi => ?_⟩
  obtain ⟨lv, h1, _, _, h4⟩ := hc i a hi
  exact ⟨lv, h1, h4⟩
theorem VActs2.below (h : VActs2 w B v l) (hb : Below B w w') : VActs2 w' B v l := by
  obtain ⟨A, c, e, h⟩ := h
  refine ⟨A, c, e, fun h0 => ?_⟩
  obtain ⟨g, off, eA, hg, hc⟩ := h h0
  refine ⟨g, off, eA, hg, fun i a hi => ?_⟩
  obtain ⟨lv, h1, h2, h3, h4⟩ := hc i a hi
  exact ⟨lv, h1.below hb, h2, h3, fun j u hj => (hb.cell (p := ⟨g, _, none⟩) hg).trans (h4 j u hj)⟩
theorem VActs2.at {A : Option Addr} {n c i : Nat} {a : VA} (h : VActs2 w B (.slice A n c) l) (hi : l[i]? = some a) : n = l.length ∧ ∃ g off lv, A = some ⟨g, off, none⟩ ∧ g < B ∧ SlV cS 1 w B lv a.l ∧ (lv = nilS ∨ ∃ ad n c, lv = .slice (some ad) n c) ∧ 0 ≤ a.k ∧ ∀ (j : Nat) (u : Value), (a.cells lv)[j]? = some u → w.cell? ⟨g, off + i * 5 + j, none⟩ = some u := by
  obtain ⟨A', c', e, h⟩ := h
  injection e with q1 q2 q3
  subst q1
  obtain ⟨g, off, eA, hg, hc⟩ := h (by have := (List.getElem?_eq_some_iff.1 hi).1; omega)
  obtain ⟨lv, h1, h2, h3, h4⟩ := hc i a hi
  exact ⟨q2, g, off, lv, eA, hg, h1, h2, h3, h4⟩
end
theorem run_loadCq {P : Program} {o : Oper} {a : Act} {w : World} (ty : TypeId) (x : Operand) (g off : Nat) (M : List Value) (d : TypeDesc) (ho : o.op = .load ty x) (hx : a.eval x = .pointer (some ⟨g, off, none⟩)) (h : ∀ j v, M[j]? = some v → w.cell? ⟨g, off + j, none⟩ = some v)
    (hu : P.underlying ty = some d) (hd : (match d with | .struct _ | .array _ _ => true | _ => false) = true) (hi : (P.info? ty).map (·.size) = some M.length) : (execOp a.eval o).run P w = .ok (.value (.agg M.toArray)) w := by
  unfold execOp
  simp only [ho, hx, Instr.loadAt, Instr.sureAddr, Sem.run_bind, Sem.run_pure, Result.andThen_ok, run_loadVar_cells ty g off M d h hu hd hi]
end Go.Proofs.YtpbkejmffddelaaGreat

/-
  Acts that came in as an argument. Own work.
-/
namespace Go.Proofs.YtpbkejmffddelaaGreat
open Go.RowKit Go.Shelf Go.ChangeShapes Go.WideShapes
section
variable {H : Type} {enc : TypeId × Value → H} {w : World} {spare : Nat → Bool} {held : Bool}
theorem wAll_in {P : Program} {e : TypeId} {d : DataW H} : ∀ {l : List (DataW H)}, d ∈ l → ∀ n ∈ d.weights P e, n ∈ DataW.weightsAll P e l
  | [], h, _, _ => absurd h (by simp)
  | b :: r, h, n, hn => by
    rw [DataW.weightsAll, List.mem_append]
    rcases List.mem_cons.1 h with rfl | h
    · exact .inl hn
    · exact .inr (wAll_in h n hn)
theorem form_w {fuel : Nat} {v : Value} {x : DataW H × List MemPlace} (h : DataW.trod enc Tryz.prog w 0 spare held fuel 23 [v] = some x) : v = nilS ∨ ∃ ad n c, v = .slice (some ad) n c := by
  rcases Go.Deep.open_slice Tryz.underlying23 h with ⟨hcs, _⟩ | ⟨a, len, cap, m, n, D, Pl, hcs, _, hl, hm, hmm, rfl, hx⟩
  · simp only [List.cons.injEq, and_true] at hcs
    exact .inl hcs
  · simp only [List.cons.injEq, and_true] at hcs
    exact .inr ⟨_, _, _, hcs⟩
set_option maxRecDepth 100000 in
theorem open_act2 {fuel : Nat} {cs : List Value} {x : DataW H × List MemPlace} (h : DataW.trod enc Tryz.prog w 0 spare held fuel 54 cs = some x) (hz : ∀ n ∈ x.1.weights Tryz.prog 54, n ≤ reachBytes) :
    ∃ (q : VA) (lv : Value), cs = q.cells lv ∧ SlV cS 1 w w.heap.size lv q.l ∧ (lv = nilS ∨ ∃ ad n c, lv = .slice (some ad) n c) ∧ 0 ≤ q.k ∧ q.a.length ≤ 140737488355328 ∧ q.b.length ≤ 140737488355328 := by
  obtain ⟨xs, n, _, rfl, hl, hlen, hf⟩ := DataW.trod_struct (fs := Tryz.prog.fieldsOf 54) Tryz.underlying54 h
  rw [show Tryz.prog.cellsOf 54 = 5 by kernel_rfl] at hl
  have hzz : ∀ n ∈ DataW.weightsEach Tryz.prog ((Tryz.prog.fieldsOf 54).toList.map (·.type)) (xs.map (·.1)), n ≤ reachBytes := by
    intro n hn
    refine hz n ?_
    show n ∈ DataW.weights Tryz.prog 54 (.agg (xs.map (·.1)))
    simp only [DataW.weights, Tryz.underlying54]
    exact hn
  have wt : ∀ (i : Nat) (t : TypeId) (d : DataW H), ((Tryz.prog.fieldsOf 54).toList.map (·.type))[i]? = some t → (xs.map (·.1))[i]? = some d → ∀ n ∈ d.weights Tryz.prog t, n ≤ reachBytes :=
    fun i t d ht hd n hn => hzz n (DataW.weights_mem_each ht hd n hn)
  obtain ⟨v0, x0, g0, h0, d0⟩ := field_two hlen hf 0 (show (Tryz.prog.fieldsOf 54)[0]?.map (fun f => (f.offset, f.type)) = some (0, 5) by kernel_rfl) (by kernel_rfl) (by omega)
  obtain ⟨v1, x1, g1, h1, d1⟩ := field_two hlen hf 1 (show (Tryz.prog.fieldsOf 54)[1]?.map (fun f => (f.offset, f.type)) = some (1, 9) by kernel_rfl) (by kernel_rfl) (by omega)
  obtain ⟨v2, x2, g2, h2, d2⟩ := field_two hlen hf 2 (show (Tryz.prog.fieldsOf 54)[2]?.map (fun f => (f.offset, f.type)) = some (2, 9) by kernel_rfl) (by kernel_rfl) (by omega)
  obtain ⟨v3, x3, g3, h3, d3⟩ := field_two hlen hf 3 (show (Tryz.prog.fieldsOf 54)[3]?.map (fun f => (f.offset, f.type)) = some (3, 3) by kernel_rfl) (by kernel_rfl) (by omega)
  obtain ⟨v4, x4, g4, h4, d4⟩ := field_two hlen hf 4 (show (Tryz.prog.fieldsOf 54)[4]?.map (fun f => (f.offset, f.type)) = some (4, 23) by kernel_rfl) (by kernel_rfl) (by omega)
  obtain ⟨z0, e0, _, hz0⟩ := DataW.trod_int Tryz.underlying5 h0
  obtain ⟨s1, e1, ex1, _⟩ := DataW.trod_string Tryz.underlying9 h1
  obtain ⟨s2, e2, ex2, _⟩ := DataW.trod_string Tryz.underlying9 h2
  obtain ⟨z3, e3, _, hz3⟩ := DataW.trod_int Tryz.underlying3 h3
  obtain ⟨ls, hls, hll, _⟩ := open_slW h4 (wt 4 _ _ (by kernel_rfl) d4)
  have ht1 := wt 1 9 _ (by kernel_rfl) d1 s1.data.toList.length (by rw [ex1]; simp [DataW.weights])
  have ht2 := wt 2 9 _ (by kernel_rfl) d2 s2.data.toList.length (by rw [ex2]; simp [DataW.weights])
  simp only [reachBytes] at ht1 ht2
  have hk0 : 0 ≤ z0 := by
    have h1 : IntKind.u8.min ≤ z0 := by
      have := hz0
      simp only [Lit.wf, Bool.and_eq_true, decide_eq_true_eq] at this
      exact this.1
    have h2 : IntKind.u8.min = 0 := by kernel_rfl
    omega
  have hform := form_w h4
  refine ⟨⟨z0, s1.data.toList, s2.data.toList, z3, ls⟩, v4, ?_, hls, hform, hk0, by show s1.data.toList.length ≤ _; omega, by show s2.data.toList.length ≤ _; omega⟩
  simp only [List.cons.injEq, and_true] at e0 e1 e2 e3
  subst e0 e1 e2 e3
  match cs, hl with
  | [u0, u1, u2, u3, u4], _ =>
    simp at g0 g1 g2 g3 g4
    rw [g0, g1, g2, g3, g4]
set_option maxRecDepth 100000 in
theorem open_acts2 {fuel : Nat} {v : Value} {x : DataW H × List MemPlace} (h : DataW.trod enc Tryz.prog w 0 spare held fuel 47 [v] = some x) (hz : ∀ n ∈ x.1.weights Tryz.prog 47, n ≤ reachBytes) :
    ∃ l : List VA, VActs2 w w.heap.size v l ∧ ∀ a ∈ l, a.a.length ≤ 140737488355328 ∧ a.b.length ≤ 140737488355328 := by
  rcases Go.Deep.open_slice Tryz.underlying47 h with ⟨hcs, _⟩ | ⟨a, len, cap, m, n, D, Pl, hcs, _, hl, hm, hmm, rfl, hx⟩
  · simp only [List.cons.injEq, and_true] at hcs
    subst hcs
    exact ⟨[], ⟨none, 0, rfl, fun h => absurd h (by simp)⟩, fun a h => absurd h (by simp)⟩
  · simp only [List.cons.injEq, and_true] at hcs
    subst hcs
    have hnm : len ≤ m := by rw [hmm]; split <;> omega
    have hw : ∀ i, i < len → ∀ n ∈ (D i).weights Tryz.prog 54, n ≤ reachBytes := by
      intro i hi n hn
      refine hz n ?_
      simp only [DataW.weights, Tryz.underlying47]
      exact List.mem_cons_of_mem _ (List.mem_append_left _ (wAll_in (List.mem_map.2 ⟨i, List.mem_range.2 hi, rfl⟩) n hn))
    have key : ∀ i, i < len → ∃ q : VA × Value, (SlV cS 1 w w.heap.size q.2 q.1.l ∧ (q.2 = nilS ∨ ∃ ad n c, q.2 = .slice (some ad) n c) ∧ 0 ≤ q.1.k ∧ q.1.a.length ≤ 140737488355328 ∧ q.1.b.length ≤ 140737488355328) ∧ (∀ j v, (q.1.cells q.2)[j]? = some v → w.cell? ((a.add (i * 5)).add j) = some v) := by
      intro i hi
      obtain ⟨cs', h1, h2⟩ := hx i (by omega)
      rw [show Tryz.prog.cellsOf 54 = 5 by kernel_rfl] at h1
      obtain ⟨_, hlen, hat⟩ := World.cells?_some h1
      obtain ⟨q, lv, rfl, f1, f2, f3, f4, f5⟩ := open_act2 h2 (hw i hi)
      refine ⟨(q, lv), ⟨f1, f2, f3, f4, f5⟩, fun j v hj => ?_⟩
      have hj6 := (List.getElem?_eq_some_iff.1 hj).1
      have := hat j hj6
      rw [this]
      exact hj
    obtain ⟨q, hq⟩ := Go.Deep.choose_lt (α := VA × Value) key
    refine ⟨(List.range len).map (fun i => (q i).1), ⟨some a, cap, by simp, fun h0 => ?_⟩, fun y hy => by obtain ⟨i, hi, rfl⟩ := List.mem_map.1 hy; exact (hq i (List.mem_range.1 hi)).1.2.2.2⟩
    simp only [List.length_map, List.length_range] at h0
    obtain ⟨b, off, spot⟩ := a
    have hc0 := (hq 0 h0).2 0 _ rfl
    have hspot : spot = none := by simpa [Addr.add] using World.cell?_spot hc0
    subst hspot
    refine ⟨b, off, rfl, ?_, fun i y hy => ?_⟩
    · have := block_lt_of_cell hc0
      simpa [Addr.add] using this
    · have hi : i < len := by have := (List.getElem?_eq_some_iff.1 hy).1; simpa using this
      rw [List.getElem?_map, List.getElem?_range hi] at hy
      obtain rfl : (q i).1 = y := by simpa using hy
      obtain ⟨⟨f1, f2, f3, _, _⟩, hc⟩ := hq i hi
      refine ⟨(q i).2, f1, f2, f3, fun j u hu => ?_⟩
      have := hc j u hu
      rw [addr_plain, addr_plain] at this
      exact this
end
end Go.Proofs.YtpbkejmffddelaaGreat

/-
  The law ValuePlays: a region in which an act is done, in a drawn order. Own work.
-/
namespace Go.Proofs.YtpbkejmffddelaaGreat
open Go.RowKit Go.Shelf Go.Maps
abbrev zV : List Value := [.int .i64 0, encStr [], nilS, nilS, nilS]
def T6 (y : Vl) (B : Nat) (v : Value) (w : World) : Prop := ∃ p l s, v = .tuple #[vlV y p l s, .bool true] ∧ XM w B y p l s
def T8 (y : Vl) (B : Nat) (v : Value) (w : World) : Prop := ∃ p l s, v = vlV y p l s ∧ XM w B y p l s
theorem T6.later {y : Vl} {B : Nat} {v : Value} {w w' : World} (h : T6 y B v w) (hb : Below w.heap.size w w') : T6 y B v w' := let ⟨p, l, s, e, m⟩ := h; ⟨p, l, s, e, m.later hb⟩
theorem T8.later {y : Vl} {B : Nat} {v : Value} {w w' : World} (h : T8 y B v w) (hb : Below w.heap.size w w') : T8 y B v w' := let ⟨p, l, s, e, m⟩ := h; ⟨p, l, s, e, m.later hb⟩
def JL (B : Nat) (w0 : World) (gv : Nat) (x y : Vl) (vp vl vs : Value) (bs : List Bool) (us : List Value) (w : World) : Prop :=
  TrnB B w0 w ∧ (bs.getD 0 false = false → VX w B gv x ∧ XM w B x vp vl vs) ∧ (bs.getD 0 false = true → VX w B gv y ∧ T6 y B (us.getD 0 undef) w) ∧ (bs.getD 1 false = true → T6 y B (us.getD 1 undef) w) ∧ (bs.getD 2 false = true → T8 y B (us.getD 2 undef) w) ∧
  (bs.getD 3 false = true → ∃ g, us.getD 3 undef = ptr g ∧ w0.heap.size ≤ g ∧ (bs.getD 4 false = false → Row w 26 g zV) ∧ (bs.getD 4 false = true → ∃ p l s, Row w 26 g (vlC y p l s) ∧ XM w B y p l s))
section
variable {B gv : Nat} {w0 w w' : World} {x y : Vl} {vp vl vs : Value} {bs cs : List Bool} {us us' : List Value}
theorem JL.start (hV : VX w B gv x) (hX : XM w B x vp vl vs) : JL B w gv x y vp vl vs [false, false, false, false, false] us w.drew :=
  ⟨.rfl' B w, fun _ => ⟨hV.later (Below.refl _ _).drew, hX.later (Below.refl _ _).drew⟩, fun h => absurd h (by decide), fun h => absurd h (by decide), fun h => absurd h (by decide), fun h => absurd h (by decide)⟩
theorem JL.called (h : JL B w0 gv x y vp vl vs bs us w) (t : TrnB B w w') (hV : VX w' B gv y) (hT : T6 y B (us'.getD 0 undef) w') (c0 : cs.getD 0 false = true) (c1 : cs.getD 1 false = false) (c2 : cs.getD 2 false = false)
    (c3 : cs.getD 3 false = bs.getD 3 false) (u3 : us'.getD 3 undef = us.getD 3 undef) (b4 : bs.getD 4 false = false) (c4 : cs.getD 4 false = false) : JL B w0 gv x y vp vl vs cs us' w' := by
  obtain ⟨h0, _, _, _, _, h5⟩ := h
  refine ⟨h0.trans t, fun e => absurd (c0.symm.trans e) (by decide), fun _ => ⟨hV, hT⟩, fun e => absurd (c1.symm.trans e) (by decide), fun e => absurd (c2.symm.trans e) (by decide), fun e => ?_⟩
  obtain ⟨g, e1, e2, e3, _⟩ := h5 (c3.symm.trans e)
  exact ⟨g, u3.trans e1, e2, fun _ => t.1.row (e3 b4) (.inr (.inr (.inr (.inl rfl)))), fun e => absurd (c4.symm.trans e) (by decide)⟩
theorem JL.alloced (h : JL B w0 gv x y vp vl vs bs us w) (b : Below w.heap.size w w') (hB : B ≤ w0.heap.size) {g : Nat} (hg : us'.getD 3 undef = ptr g) (hp : w.heap.size ≤ g) (r : Row w' 26 g zV)
    (c0 : cs.getD 0 false = bs.getD 0 false) (c1 : cs.getD 1 false = bs.getD 1 false) (c2 : cs.getD 2 false = bs.getD 2 false) (u0 : us'.getD 0 undef = us.getD 0 undef) (u1 : us'.getD 1 undef = us.getD 1 undef) (u2 : us'.getD 2 undef = us.getD 2 undef) (c4 : cs.getD 4 false = false) :
    JL B w0 gv x y vp vl vs cs us' w' := by
  obtain ⟨h0, h1, h2, h3, h4, h5⟩ := h
  exact ⟨h0.trans (TrnB.of b (Nat.le_trans hB h0.1.size)), fun e => ⟨(h1 (c0.symm.trans e)).1.later b, (h1 (c0.symm.trans e)).2.later b⟩, fun e => ⟨(h2 (c0.symm.trans e)).1.later b, by rw [u0]; exact (h2 (c0.symm.trans e)).2.later b⟩,
    fun e => by rw [u1]; exact (h3 (c1.symm.trans e)).later b, fun e => by rw [u2]; exact (h4 (c2.symm.trans e)).later b, fun _ => ⟨g, hg, Nat.le_trans h0.1.size hp, fun _ => r, fun e => absurd (c4.symm.trans e) (by decide)⟩⟩
theorem JL.moved (h : JL B w0 gv x y vp vl vs bs us w) (b0 : bs.getD 0 false = true) (v : us'.getD 1 undef = us.getD 0 undef) (c0 : cs.getD 0 false = true) (c2 : cs.getD 2 false = bs.getD 2 false) (c3 : cs.getD 3 false = bs.getD 3 false) (c4 : cs.getD 4 false = bs.getD 4 false)
    (u0 : us'.getD 0 undef = us.getD 0 undef) (u2 : us'.getD 2 undef = us.getD 2 undef) (u3 : us'.getD 3 undef = us.getD 3 undef) : JL B w0 gv x y vp vl vs cs us' w := by
  obtain ⟨h0, h1, h2, h3, h4, h5⟩ := h
  refine ⟨h0, fun e => absurd (c0.symm.trans e) (by decide), fun _ => ⟨(h2 b0).1, by rw [u0]; exact (h2 b0).2⟩, fun _ => by rw [v]; exact (h2 b0).2, fun e => by rw [u2]; exact h4 (c2.symm.trans e), fun e => ?_⟩
  obtain ⟨g, e1, e2, e3, e4⟩ := h5 (c3.symm.trans e)
  exact ⟨g, u3.trans e1, e2, fun e => e3 (c4.symm.trans e), fun e => e4 (c4.symm.trans e)⟩
theorem JL.taken (h : JL B w0 gv x y vp vl vs bs us w) {p l s : Value} (v : us'.getD 2 undef = vlV y p l s) (m : XM w B y p l s) (c0 : cs.getD 0 false = bs.getD 0 false) (c1 : cs.getD 1 false = bs.getD 1 false) (c3 : cs.getD 3 false = bs.getD 3 false) (c4 : cs.getD 4 false = bs.getD 4 false)
    (u0 : us'.getD 0 undef = us.getD 0 undef) (u1 : us'.getD 1 undef = us.getD 1 undef) (u3 : us'.getD 3 undef = us.getD 3 undef) : JL B w0 gv x y vp vl vs cs us' w := by
  obtain ⟨h0, h1, h2, h3, h4, h5⟩ := h
  refine ⟨h0, fun e => h1 (c0.symm.trans e), fun e => ⟨(h2 (c0.symm.trans e)).1, by rw [u0]; exact (h2 (c0.symm.trans e)).2⟩, fun e => by rw [u1]; exact h3 (c1.symm.trans e), fun _ => ⟨p, l, s, v, m⟩, fun e => ?_⟩
  obtain ⟨g, e1, e2, e3, e4⟩ := h5 (c3.symm.trans e)
  exact ⟨g, u3.trans e1, e2, fun e => e3 (c4.symm.trans e), fun e => e4 (c4.symm.trans e)⟩
theorem JL.stored (h : JL B w0 gv x y vp vl vs bs us w) {g : Nat} {p l s : Value} {rs : List Value} (hB : B ≤ w0.heap.size) (o : Only g w w') (r0 : Row w 26 g rs) (r : Row w' 26 g (vlC y p l s)) (hg : us.getD 3 undef = ptr g) (hge : w0.heap.size ≤ g) (m : XM w B y p l s)
    (b0 : bs.getD 0 false = true) (c0 : cs.getD 0 false = true) (c1 : cs.getD 1 false = bs.getD 1 false) (c2 : cs.getD 2 false = bs.getD 2 false) (c4 : cs.getD 4 false = true)
    (u0 : us'.getD 0 undef = us.getD 0 undef) (u1 : us'.getD 1 undef = us.getD 1 undef) (u2 : us'.getD 2 undef = us.getD 2 undef) (u3 : us'.getD 3 undef = us.getD 3 undef) : JL B w0 gv x y vp vl vs cs us' w' := by
  obtain ⟨h0, h1, h2, h3, h4, h5⟩ := h
  refine ⟨trn_new h0 o hge hB, fun e => absurd (c0.symm.trans e) (by decide), fun _ => ⟨vx_only (h2 b0).1 o r0, ?_⟩, fun e => ?_, fun e => ?_, fun _ => ⟨g, u3.trans hg, hge, fun e => absurd (c4.symm.trans e) (by decide), fun _ => ⟨p, l, s, r, m.only o r0⟩⟩⟩
  · rw [u0]; obtain ⟨p, l, s, e, m⟩ := (h2 b0).2; exact ⟨p, l, s, e, m.only o r0⟩
  · rw [u1]; obtain ⟨p, l, s, e, m⟩ := h3 (c1.symm.trans e); exact ⟨p, l, s, e, m.only o r0⟩
  · rw [u2]; obtain ⟨p, l, s, e, m⟩ := h4 (c2.symm.trans e); exact ⟨p, l, s, e, m.only o r0⟩
end
end Go.Proofs.YtpbkejmffddelaaGreat
