/-
  The law ZsetClones. Own work.
-/
import Derived.Test.YtfklfgaomcbchaaZsetZd
import Derived.Test.YtfklfgaomcbchaaZsetZe
namespace Go.Proofs.Ytfklfgaomcbchaa
open Go.RowKit Go.Shelf
set_option linter.unusedVariables false
set_option linter.unusedSimpArgs false
/-- A set whose blocks have not turned. -/
theorem ZSet.keep {w w' : World} {B gz mb : Nat} {hd : Nd} {Ls : List Nd} (h : ZSet w B gz mb hd Ls) (hk : ∀ k, B ≤ k → k < w.heap.size → w'.heap[k]? = w.heap[k]?) : ZSet w' B gz mb hd Ls := by
  obtain ⟨es, h1, h2, h3⟩ := h.map
  exact ⟨(hk _ h.lo.1 h.row.lt).trans h.row, ⟨es, h1.same (hk _ h.lo.2 h1.lt), h2, h3⟩, ⟨fun c n e => (hk _ (h.z.lo c n e).1 (h.z.node c n e).lt).trans (h.z.node c n e), fun c n e => (hk _ (h.z.lo c n e).2.1 (h.z.link c n e).lt).trans (h.z.link c n e), h.z.lo, h.z.gb, h.z.gg⟩, h.h16, h.rise, h.uniq, h.lo⟩
theorem ZSet.lt_zB {w : World} {B gz mb : Nat} {hd : Nd} {Ls : List Nd} (h : ZSet w B gz mb hd Ls) : ∀ k ∈ zB mb hd Ls, k < w.heap.size := by
  intro k hk
  rcases List.mem_cons.1 hk with e | e
  · obtain ⟨es, h1, _⟩ := h.map
    rw [e]; exact h1.lt
  · obtain ⟨n, hn, rfl⟩ := List.mem_map.1 e
    obtain ⟨c, hc⟩ := List.getElem?_of_mem hn
    exact (h.z.link c n hc).lt
def SCl10 (gz b o n c i : Nat) (am : Nm) (as' : Int) (opn : Nat) (v : Value) : Prop :=
  match opn with
  | 0 => v = .pointer (some ⟨gz, 0, none⟩)
  | 1 | 6 => v = .slice (some ⟨b, o, none⟩) n c
  | 2 | 7 => v = .int .i64 (i : Int)
  | 3 | 8 => v = .pointer (some ⟨b, o + i * 3, none⟩)
  | 4 => v = .pointer (some ⟨b, o + i * 3 + 1, none⟩)
  | 5 => v = encStr am
  | 9 => v = .pointer (some ⟨b, o + i * 3 + 2, none⟩)
  | 10 => v = .int .i64 as'
  | _ => True

set_option maxRecDepth 100000 in
set_option maxHeartbeats 4000000 in
theorem zsetClones_any (w : World) (A0 : Option Addr) (n0 k0 : Nat) (f0 : Nat → ZA) (A : Option Addr) (n c : Nat) (f : Nat → ZA) (h0 : ZActs w w.heap.size A0 n0 f0) (h : ZActs w w.heap.size A n f) : Calls Try.prog 7 #[.slice A0 n0 k0, .slice A n c] w fun e w' => e = .returned (.bool true) ∧ Below w.heap.size w w' := by
  have HF0 := few_any w A0 n0 k0 f0 w.heap.size h0
  have HF := few_any w A n c f w.heap.size h
  have HA := awake_any
  go_enter Try.func7, Try.ntmps7
  go_wp2_with fail
  refine HF0.mono ?_
  rintro e w1 ⟨⟨b, rfl, hb⟩, rfl⟩
  clear HF0
  cases b with
  | false =>
    clear hb
    go_wp2_with fail
    refine (HA w).mono ?_
    rintro e w2 ⟨rfl, b2⟩
    go_wp2_with fail
    go_ret
    exact ⟨rfl, b2⟩
  | true =>
    have hfew0 := hb rfl
    clear hb
    go_wp2_with fail
    refine HF.mono ?_
    rintro e w1 ⟨⟨b, rfl, hb⟩, rfl⟩
    clear HF
    cases b with
    | false =>
      clear hb
      go_wp2_with fail
      refine (HA w).mono ?_
      rintro e w2 ⟨rfl, b2⟩
      go_wp2_with fail
      go_ret
      exact ⟨rfl, b2⟩
    | true =>
      have hfew := hb rfl
      clear hb
      have hn120 := hfew.1
      have hnI : (n : Int) ≤ 120 := by omega
      go_wp2_with fail
      refine (lmade_any w A0 n0 k0 f0 h0 hfew0).mono ?_
      rintro e w2 ⟨gz, mb, hd, L0, v, rfl, hz0, own0, hll, hnm, hfold, B2⟩
      have hL0 : L0.length ≤ 120 := Nat.le_trans hll hfew0.1
      have hL0I : (L0.length : Int) ≤ 120 := by omega
      have hwb2 := B2.size
      have hsl : (scs L0).length = L0.length := by simp
      clear hfold hfew0 h0 hll
      go_wp2_with fail
      refine (clone_any w2 w.heap.size gz mb hd L0 hz0 (by omega) (fun a ha => Nat.le_trans (hnm a ha) (by decide))).mono ?_
      rintro e w3 ⟨gc, mc, hc, Lc, rfl, zc, hLc, b3⟩
      have hwb3 := b3.size
      have B3 := B2.trans (b3.mono hwb2)
      have hz3 := hz0.later b3
      have own3 := own_later own0 b3
      have hsep : ∀ k ∈ zB mb hd L0, k < w2.heap.size ∨ w3.heap.size ≤ k := fun k hk => .inl (hz0.lt_zB k hk)
      have Zc := hide zc
      have hLc2 := hide hLc
      obtain ⟨Ax, cx, rfl⟩ := (own_scv own3).sl
      clear hz0 own0 b3 zc hLc
      rw [hsl]
      go_wp2_with fail
      go_loopw [9] (fun iv wr => ∃ (i : Nat) (Ls : List Nd), i ≤ n ∧ iv = .int .i64 (i : Int) ∧ ZSet wr w.heap.size gz mb hd Ls ∧ Ls.length ≤ 120 + i ∧ (∀ k ∈ zB mb hd Ls, k < w2.heap.size ∨ w3.heap.size ≤ k) ∧ (∀ k, w2.heap.size ≤ k → k < w3.heap.size → wr.heap[k]? = w3.heap[k]?) ∧ OwnS wr w.heap.size (.slice Ax (scs L0).length cx) (scs L0) ∧ Below w.heap.size w wr ∧ w3.heap.size ≤ wr.heap.size) (fun iv _ => n - (intOf iv).toNat)
      case atStart => exact ⟨0, L0, by omega, rfl, hz3, by omega, hsep, fun k _ _ => rfl, own3, B3, Nat.le_refl _⟩
      case round =>
        clear hz3 own3 hsep B3
        obtain ⟨i, Ls, hi, rfl, hz, hll, hsep, hkeep, own, BW, hw3⟩ := hrel
        have hwb := BW.size
        by_cases hlt : i < n
        · have hltI : (i : Int) < (n : Int) := by omega
          obtain ⟨b, o, rfl, hB, c0, x1, x2, x3⟩ := (h.below BW).at hlt
          clear x1 x2 x3
          have hm := hide (hfew.2 i hlt)
          have hc1 : ∀ w1, Below wr.heap.size wr w1 → w1.cell? ⟨b, o + i * 3 + 1, none⟩ = some (encStr (f i).m) := fun w1 hb1 => by
            obtain ⟨b', o', e, _, _, c1, _, _⟩ := (h.below (BW.trans (hb1.mono hwb))).at hlt
            injection e with e1
            injection e1 with e2 e3
            subst e2; subst e3; exact c1
          have hc2 : ∀ w1, Below wr.heap.size wr w1 → w1.cell? ⟨b, o + i * 3 + 2, none⟩ = some (.int .i64 (f i).s) := fun w1 hb1 => by
            obtain ⟨b', o', e, _, _, _, c2, _⟩ := (h.below (BW.trans (hb1.mono hwb))).at hlt
            injection e with e1
            injection e1 with e2 e3
            subst e2; subst e3; exact c2
          have c1 := hc1 wr (Below.refl _ _)
          obtain ⟨a, ha⟩ : ∃ a, f i = a := ⟨_, rfl⟩
          rw [ha] at c0 c1 hc1 hc2 hm
          obtain ⟨ad, am, as'⟩ := a
          have hcl1 := hc1
          have hcl2 := hc2
          clear ha hc1 hc2
          replace hlt := hide hlt
          replace own := hide own
          have hstep : ∀ wz, ButZ (zB mb hd Ls) wr wz → ∀ k, w2.heap.size ≤ k → k < w3.heap.size → wz.heap[k]? = w3.heap[k]? := fun wz bz k h1 h2 =>
            (bz.block k (by omega) fun hk => by rcases hsep k hk with e | e <;> omega).trans (hkeep k h1 h2)
          cases ad with
          | true =>
            clear hcl1 hcl2
            go_wp2_with (first
              | (with_reducible refine wl_run (o := ⟨some 35, _, _, _, _, _⟩) rfl (.pointer (some ⟨b, o + i * 3, none⟩)) (run_indexSlN 22 (.tmp 33) (.tmp 34) 43 3 b o n c i rfl Try.underlying22 Try.sizeOf43 rfl rfl hlt.out) ?_)
              | (with_reducible refine wl_run (o := ⟨some 41, _, _, _, _, _⟩) rfl (.pointer (some ⟨b, o + i * 3, none⟩)) (run_indexSlN 22 (.tmp 39) (.tmp 40) 43 3 b o n c i rfl Try.underlying22 Try.sizeOf43 rfl rfl hlt.out) ?_))
            refine (drop_any wr w.heap.size gz mb hd Ls am hz (by simp only [maxLen]; have := hm.out; omega) (by omega)).mono ?_
            rintro e w8 ⟨Ls2, rfl, hz8, hs8, b8, hl8, hin8⟩
            go_wp2_with fail
            go_roundw
            case rel =>
              refine ⟨i + 1, Ls2, by have := hlt.out; omega, by go_num, hz8, by omega, fun k hk => hsep k ?_, hstep _ b8, own_butS hz own.out b8, BW.trans (b8.below hz.lo_zB hwb), Nat.le_trans hw3 b8.size⟩
              rcases List.mem_cons.1 hk with e | e
              · rw [e]; exact List.mem_cons_self
              · obtain ⟨q, hq, rfl⟩ := List.mem_map.1 e
                refine List.mem_cons_of_mem _ (List.mem_map.2 ⟨q, ?_, rfl⟩)
                rcases List.mem_cons.1 hq with e2 | e2
                · rw [e2]; exact List.mem_cons_self
                · exact List.mem_cons_of_mem _ (hin8 q e2)
            case measure => have := hlt.out; simp [intOf]; omega
          | false =>
            have HP := hide fun w1 (hb1 : Below wr.heap.size wr w1) => (put_any2 w1 w.heap.size gz mb hd Ls am as' (hz.later hb1) (Nat.le_trans (show am.length ≤ 100 from hm.out) (by decide)) (by omega) (Nat.le_trans hwb hb1.size)).mono fun e w' ⟨Ls2, h1, h2, h3, h4, h5, h6⟩ => (⟨Ls2, h1, h2, h4, h5, h6⟩ : ∃ Ls2, e = Ending.returned (.bool (!(scoreOf (scs Ls) am).isSome)) ∧ ZSet w' w.heap.size gz mb hd Ls2 ∧ ButZ (zB mb hd Ls) w1 w' ∧ Ls2.length ≤ Ls.length + 1 ∧ ∀ k ∈ zB mb hd Ls2, k ∈ zB mb hd Ls ∨ w1.heap.size ≤ k)
            go_wp2_with (first
              | (with_reducible refine wl_run (o := ⟨some 35, _, _, _, _, _⟩) rfl (.pointer (some ⟨b, o + i * 3, none⟩)) (run_indexSlN 22 (.tmp 33) (.tmp 34) 43 3 b o n c i rfl Try.underlying22 Try.sizeOf43 rfl rfl hlt.out) ?_))
            rename_i K9 hK9
            refine wp_region_vals [11] (SCl10 gz b o n c i am as') (JPut wr (fun wz => ∃ Ls2, ZSet wz w.heap.size gz mb hd Ls2 ∧ ButZ (zB mb hd Ls) wr wz ∧ Ls2.length ≤ Ls.length + 1 ∧ ∀ k ∈ zB mb hd Ls2, k ∈ zB mb hd Ls ∨ wr.heap.size ≤ k)) (by kernel_rfl) (by kernel_rfl) (by kernel_rfl) (by kernel_rfl) (by kernel_rfl) (JPut.start _ _ _) ?obs9 ?he9
            case obs9 =>
              refine ⟨?_, ?_, ?_, ?_, ?_, ?_, ?_, ?_, ?_, ?_, ?_, ?_, trivial⟩
              · exact .inl ⟨by kernel_rfl, fun L a1 w1 n' h => ⟨_, rfl, run_move (.tmp 5) rfl (h.var n' 5 (by kernel_rfl))⟩⟩
              · exact .inl ⟨by kernel_rfl, fun L a1 w1 n' h => ⟨_, rfl, run_move (.tmp 1) rfl (h.var n' 1 (by kernel_rfl))⟩⟩
              · exact .inl ⟨by kernel_rfl, fun L a1 w1 n' h => ⟨_, rfl, run_move (.tmp 9) rfl (h.var n' 9 (by kernel_rfl))⟩⟩
              · exact .inl ⟨by kernel_rfl, fun L a1 w1 n' h => ⟨_, rfl, run_indexSlN 22 (.tmp 46) (.tmp 47) 43 3 b o n c i rfl Try.underlying22 Try.sizeOf43 (h.dep n' 1 46 (by kernel_rfl) rfl) (h.dep n' 2 47 (by kernel_rfl) rfl) hlt.out⟩⟩
              · refine .inl ⟨by kernel_rfl, fun L a1 w1 n' h => ⟨.pointer (some ⟨b, o + i * 3 + 1, none⟩), rfl, ?_⟩⟩
                have e0 : a1.eval (.tmp 48) = _ := h.dep n' 3 48 (by kernel_rfl) rfl
                unfold execOp
                simp only [e0]
                go_simp
              · exact .inl ⟨by kernel_rfl, fun L a1 w1 n' h => ⟨_, rfl, run_loadA 9 (.tmp 49) ⟨b, o + i * 3 + 1, none⟩ rfl Try.isAgg9 (h.dep n' 4 49 (by kernel_rfl) rfl) (hcl1 w1 (h.inv.1 ((bits_at rfl).trans (n'.later (by kernel_rfl)))))⟩⟩
              · exact .inl ⟨by kernel_rfl, fun L a1 w1 n' h => ⟨_, rfl, run_move (.tmp 1) rfl (h.var n' 1 (by kernel_rfl))⟩⟩
              · exact .inl ⟨by kernel_rfl, fun L a1 w1 n' h => ⟨_, rfl, run_move (.tmp 9) rfl (h.var n' 9 (by kernel_rfl))⟩⟩
              · exact .inl ⟨by kernel_rfl, fun L a1 w1 n' h => ⟨_, rfl, run_indexSlN 22 (.tmp 51) (.tmp 52) 43 3 b o n c i rfl Try.underlying22 Try.sizeOf43 (h.dep n' 6 51 (by kernel_rfl) rfl) (h.dep n' 7 52 (by kernel_rfl) rfl) hlt.out⟩⟩
              · refine .inl ⟨by kernel_rfl, fun L a1 w1 n' h => ⟨.pointer (some ⟨b, o + i * 3 + 2, none⟩), rfl, ?_⟩⟩
                have e0 : a1.eval (.tmp 53) = _ := h.dep n' 8 53 (by kernel_rfl) rfl
                unfold execOp
                simp only [e0]
                go_simp
              · exact .inl ⟨by kernel_rfl, fun L a1 w1 n' h => ⟨_, rfl, run_loadA 3 (.tmp 54) ⟨b, o + i * 3 + 2, none⟩ rfl Try.isAgg3 (h.dep n' 9 54 (by kernel_rfl) rfl) (hcl2 w1 (h.inv.1 ((bits_at rfl).trans (n'.later (by kernel_rfl)))))⟩⟩
              · refine .inr fun L a1 w1 n' h K hK => ?_
                have no : L.getD 11 false = false := n'.not_yet
                have b9 := h.inv.1 ((bits_at rfl).trans no)
                have y0 : a1.eval (.tmp 45) = ptr gz := h.dep n' 0 45 (by kernel_rfl) rfl
                have y1 : a1.eval (.tmp 50) = encStr am := h.dep n' 5 50 (by kernel_rfl) rfl
                have y2 : a1.eval (.tmp 55) = .int .i64 as' := h.dep n' 10 55 (by kernel_rfl) rfl
                refine st_call 23 _ _ #[ptr gz, encStr am, .int .i64 as'] rfl Try.call23 ?_ (HP.out w1 b9) ?_
                · simp only [List.map_toArray, List.map_cons, List.map_nil, y0, y1, y2]
                · rintro e w3 ⟨Ls2, rfl, p1, p2, p3, p4⟩
                  exact ⟨_, rfl, hK _ w3 trivial ⟨fun h0 => absurd (show true = false from h0) (by decide), fun _ => ⟨Ls2, p1, (ButZ.of b9).trans p2, p3, fun k hk => (p4 k hk).imp id (fun h1 => Nat.le_trans b9.size h1)⟩⟩⟩
            case he9 =>
              intro V w11 hV hJ
              obtain ⟨Ls2, hz8, b8, hl8, hs8⟩ := hJ.2 rfl
              clear hV hJ
              simp only [putOps, List.setIfInBounds_toArray, List.set_cons_succ, List.set_cons_zero, Nat.reduceAdd]
              refine hK9 _ _ ?_
              go_wp2_with fail
              go_roundw
              case rel =>
                refine ⟨i + 1, Ls2, by have := hlt.out; omega, by go_num, hz8, by omega, fun k hk => ?_, hstep _ b8, own_butS hz own.out b8, BW.trans (b8.below hz.lo_zB hwb), Nat.le_trans hw3 b8.size⟩
                rcases hs8 k hk with e | e
                · exact hsep k e
                · exact .inr (Nat.le_trans hw3 e)
              case measure => have := hlt.out; simp [intOf]; omega
        · obtain rfl : i = n := by omega
          have zc := Zc.out.keep hkeep
          have hlc : Lc.length = L0.length := by
            have := congrArg List.length hLc2.out
            simpa using this
          have hlcI : decide ((Lc.length : Int) = (L0.length : Int)) = true := decide_eq_true (by omega)
          have hsx := own_scv own
          rw [hsl] at hsx
          have HL := len_any wr w2.heap.size gc mc hc Lc zc
          rw [hlc] at HL
          have HR := range_any wr w2.heap.size gc mc hc Lc 0 ((L0.length : Nat) : Int) zc (by omega)
          have e9 : ((scs Lc).drop (min (0 : Int).toNat Lc.length)).take (min ((L0.length : Nat) : Int).toNat Lc.length - min (0 : Int).toNat Lc.length) = scs L0 := by
            rw [hlc, hLc2.out, show min (0 : Int).toNat L0.length = 0 by simp, List.drop_zero, show min ((L0.length : Nat) : Int).toNat L0.length - 0 = L0.length by simp, ← hsl, List.take_of_length_le (Nat.le_refl _)]
          rw [e9] at HR
          clear e9 hz hsep hkeep own zc hfew h
          go_wp2_with fail
          refine HL.mono ?_
          rintro e w4 ⟨rfl, rfl⟩
          go_wp2_with fail
          refine HR.mono ?_
          rintro e w5 ⟨v5, rfl, own5, b5⟩
          have B5 := BW.trans (b5.mono hwb)
          have hwb5 := B5.size
          go_wp2_with fail
          refine (rsame_any w5 v5 _ _ _ (own_scv own5) (hsx.later b5) (by omega) (by omega)).mono ?_
          rintro e w6 ⟨rfl, b6⟩
          have B6 := B5.trans (b6.mono hwb5)
          rw [show decide (scs L0 = scs L0) = true from decide_eq_true rfl]
          go_wp2_with fail
          refine (HA w6).mono ?_
          rintro e w7 ⟨rfl, b7⟩
          go_wp2_with fail
          go_ret
          exact ⟨rfl, B6.trans (b7.mono B6.size)⟩
end Go.Proofs.Ytfklfgaomcbchaa
