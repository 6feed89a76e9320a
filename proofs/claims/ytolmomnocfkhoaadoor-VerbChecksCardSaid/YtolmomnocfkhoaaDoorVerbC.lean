/-
  Patterns: a part. Contract. Own work.
-/
import Derived.Test.YtolmomnocfkhoaaDoorVerbB
namespace Go.Proofs.YtolmomnocfkhoaaDoor
open Go.RowKit
set_option linter.unusedVariables false
set_option linter.unusedSimpArgs false
theorem u8_ne {c : UInt8} {k : Nat} (h : c.toNat ≠ k) : ((c.toNat : Int) == (k : Int)) = false := beq_eq_false_iff_ne.2 (by omega)
def CP13 (d : UInt8) (r : List UInt8) (opn : Nat) (v : Value) : Prop :=
  match opn with
  | 0 | 3 => v = encStr (d :: r)
  | 1 => v = encStr [d]
  | 2 => v = Pt.val ⟨0, [d]⟩
  | 4 | 6 => v = encStr r
  | _ => True

set_option maxRecDepth 100000 in
set_option maxHeartbeats 2000000 in
theorem cutPart_any (w : World) (cc : UInt8) (rest : List UInt8) (hl : rest.length ≤ 1000000) :
    Calls Tryd.prog 49 #[encStr (cc :: rest)] w fun e w' => e = .returned (.tuple #[(cutPartL cc rest).1.val, encStr (cutPartL cc rest).2]) ∧ Below w.heap.size w w' := by
  have hC := fun w => cutClass_any w rest hl
  have hcb := u8_lt cc
  by_cases h42 : cc.toNat = 42
  · have hv : cutPartL cc rest = (⟨3, []⟩, rest) := by
      obtain rfl : cc = 42 := UInt8.toNat_inj.1 h42
      rfl
    have q42 : ((cc.toNat : Int) == 42) = true := by rw [beq_iff_eq]; omega
    replace hv := hide hv
    go_enter Tryd.func49, Tryd.ntmps49
    go_wp2_with (first
        | (with_reducible refine wl_alloc (o := ⟨some 2, _, _, _, _, _⟩) rfl 64 _ [.int .i64 0, encStr []] rfl rfl rfl ?_; intro g2 w2 r2 p2 l2 b2)
        | (with_reducible refine wl_run (o := ⟨some 9, _, _, _, _, _⟩) rfl (encStr rest) (run_sliceStrL 9 (.tmp 8) (.const (.int .i64 1)) (cc :: rest) 1 rfl Tryd.underlying9 rfl rfl (by simp)) ?_)
        | (with_reducible refine wl_run (o := ⟨some 11, _, _, _, _, _⟩) rfl (.int .u8 (cc.toNat : Int)) (run_idxStr 9 (.tmp 10) (.const (.int .i64 0)) (cc :: rest) 0 cc rfl Tryd.underlying9 rfl rfl rfl) ?_)
        | (with_reducible refine wl_build rfl 64 [(0, .const (.int .i64 3))] rfl [(0, .int .i64 3)] rfl [.int .i64 3, encStr []] (builtPt0 _) ?_)
        | (with_reducible refine wl_store_row rfl 64 (.tmp 2) (.tmp 14) g2 64 _ [.int .i64 3, encStr []] rfl rfl rfl r2 (szPt _ _) rfl (by simp [Value.oneCell']) ?_; intro w3 r3 o3))
    refine bodyPost_ret (v := .tuple #[Pt.val ⟨3, []⟩, encStr rest]) ?_ rfl ⟨?_, b2.trans (o3.below p2)⟩
    · exact results_rt2 Tryd.results49 _ _ g2 64 _ _ _ rfl r3 Tryd.underlying64 rfl (szPt _ _) rfl
    · rw [hv.out]

  by_cases h63 : cc.toNat = 63
  · have hv : cutPartL cc rest = (⟨2, []⟩, rest) := by
      obtain rfl : cc = 63 := UInt8.toNat_inj.1 h63
      rfl
    have q42 : ((cc.toNat : Int) == 42) = false := beq_eq_false_iff_ne.2 (by omega)
    have q63 : ((cc.toNat : Int) == 63) = true := by rw [beq_iff_eq]; omega
    replace hv := hide hv
    go_enter Tryd.func49, Tryd.ntmps49
    go_wp2_with (first
        | (with_reducible refine wl_alloc (o := ⟨some 2, _, _, _, _, _⟩) rfl 64 _ [.int .i64 0, encStr []] rfl rfl rfl ?_; intro g2 w2 r2 p2 l2 b2)
        | (with_reducible refine wl_run (o := ⟨some 9, _, _, _, _, _⟩) rfl (encStr rest) (run_sliceStrL 9 (.tmp 8) (.const (.int .i64 1)) (cc :: rest) 1 rfl Tryd.underlying9 rfl rfl (by simp)) ?_)
        | (with_reducible refine wl_run (o := ⟨some 11, _, _, _, _, _⟩) rfl (.int .u8 (cc.toNat : Int)) (run_idxStr 9 (.tmp 10) (.const (.int .i64 0)) (cc :: rest) 0 cc rfl Tryd.underlying9 rfl rfl rfl) ?_)
        | (with_reducible refine wl_build rfl 64 [(0, .const (.int .i64 2))] rfl [(0, .int .i64 2)] rfl [.int .i64 2, encStr []] (builtPt0 _) ?_)
        | (with_reducible refine wl_store_row rfl 64 (.tmp 2) (.tmp 18) g2 64 _ [.int .i64 2, encStr []] rfl rfl rfl r2 (szPt _ _) rfl (by simp [Value.oneCell']) ?_; intro w3 r3 o3))
    refine bodyPost_ret (v := .tuple #[Pt.val ⟨2, []⟩, encStr rest]) ?_ rfl ⟨?_, b2.trans (o3.below p2)⟩
    · exact results_rt2 Tryd.results49 _ _ g2 64 _ _ _ rfl r3 Tryd.underlying64 rfl (szPt _ _) rfl
    · rw [hv.out]

  by_cases h91 : cc.toNat = 91
  · have q42 : ((cc.toNat : Int) == 42) = false := beq_eq_false_iff_ne.2 (by omega)
    have q63 : ((cc.toNat : Int) == 63) = false := beq_eq_false_iff_ne.2 (by omega)
    have q91 : ((cc.toNat : Int) == 91) = true := by rw [beq_iff_eq]; omega
    have q92 : ((cc.toNat : Int) == 92) = false := beq_eq_false_iff_ne.2 (by omega)
    cases hq : cutClassL rest with
    | some q =>
      have hv : cutPartL cc rest = q := by
        obtain rfl : cc = 91 := UInt8.toNat_inj.1 h91
        show (match cutClassL rest with | some q => q | none => _) = q
        rw [hq]
      rw [hq] at hC
      obtain ⟨⟨qk, qt⟩, qr⟩ := q
      replace hv := hide hv
      replace hq := hide hq
      have hC : ∀ w, Calls Tryd.prog 59 #[encStr rest] w fun e w' => e = .returned (.tuple #[.agg #[.int .i64 (qk : Int), encStr qt], encStr qr, .bool true]) ∧ Below w.heap.size w w' := hC
      go_enter Tryd.func49, Tryd.ntmps49
      go_wp2_with (first
        | (with_reducible refine wl_alloc (o := ⟨some 2, _, _, _, _, _⟩) rfl 64 _ [.int .i64 0, encStr []] rfl rfl rfl ?_; intro g2 w2 r2 p2 l2 b2)
        | (with_reducible refine wl_run (o := ⟨some 9, _, _, _, _, _⟩) rfl (encStr rest) (run_sliceStrL 9 (.tmp 8) (.const (.int .i64 1)) (cc :: rest) 1 rfl Tryd.underlying9 rfl rfl (by simp)) ?_)
        | (with_reducible refine wl_run (o := ⟨some 11, _, _, _, _, _⟩) rfl (.int .u8 (cc.toNat : Int)) (run_idxStr 9 (.tmp 10) (.const (.int .i64 0)) (cc :: rest) 0 cc rfl Tryd.underlying9 rfl rfl rfl) ?_))
      refine (hC w2).mono ?_
      rintro e w3 ⟨rfl, b3⟩
      clear hC
      have r2 := r2.later b3
      go_wp2_with (first
        | (with_reducible refine wl_alloc (o := ⟨some 5, _, _, _, _, _⟩) rfl 64 _ [.int .i64 0, encStr []] rfl rfl rfl ?_; intro g5 w5 r5 p5 l5 b5; have n25 := Nat.ne_of_lt (Nat.lt_of_lt_of_le r2.lt p5); have r2 := r2.later b5)
        | (with_reducible refine wl_store_row rfl 64 (.tmp 5) (.tmp 25) g5 64 _ [.int .i64 (qk : Int), encStr qt] rfl rfl rfl r5 (szPt _ _) rfl (by simp [Value.oneCell']) ?_; intro w6 r6 o6; have r2 := r2.only o6 n25)
        | (with_reducible refine wl_load_row (o := ⟨some 29, _, _, _, _, _⟩) rfl 64 (.tmp 5) g5 64 [.int .i64 (qk : Int), encStr qt] _ rfl rfl r6 Tryd.underlying64 rfl (szPt _ _) ?_)
        | (with_reducible refine wl_store_row rfl 64 (.tmp 2) (.tmp 29) g2 64 _ [.int .i64 (qk : Int), encStr qt] rfl rfl rfl r2 (szPt _ _) rfl (by simp [Value.oneCell']) ?_; intro w7 r7 o7))
      have B6 := b2.trans ((b3.trans ((b5.trans (o6.below p5)).mono b3.size)).mono b2.size)
      refine bodyPost_ret (v := .tuple #[.agg [Value.int .i64 (qk : Int), encStr qt].toArray, encStr qr]) ?_ rfl ⟨?_, B6.trans (o7.below p2)⟩
      · exact results_rt2 Tryd.results49 _ _ g2 64 _ _ _ rfl r7 Tryd.underlying64 rfl (szPt _ _) rfl
      · rw [hv.out]

    | none =>
      have hv : cutPartL cc rest = (⟨0, [cc]⟩, rest) := by
        obtain rfl : cc = 91 := UInt8.toNat_inj.1 h91
        show (match cutClassL rest with | some q => q | none => _) = _
        rw [hq]
      rw [hq] at hC
      replace hv := hide hv
      replace hq := hide hq
      have hC : ∀ w, Calls Tryd.prog 59 #[encStr rest] w fun e w' => e = .returned (.tuple #[.agg #[.int .i64 0, encStr []], encStr [], .bool false]) ∧ Below w.heap.size w w' := hC
      go_enter Tryd.func49, Tryd.ntmps49
      go_wp2_with (first
        | (with_reducible refine wl_alloc (o := ⟨some 2, _, _, _, _, _⟩) rfl 64 _ [.int .i64 0, encStr []] rfl rfl rfl ?_; intro g2 w2 r2 p2 l2 b2)
        | (with_reducible refine wl_run (o := ⟨some 9, _, _, _, _, _⟩) rfl (encStr rest) (run_sliceStrL 9 (.tmp 8) (.const (.int .i64 1)) (cc :: rest) 1 rfl Tryd.underlying9 rfl rfl (by simp)) ?_)
        | (with_reducible refine wl_run (o := ⟨some 11, _, _, _, _, _⟩) rfl (.int .u8 (cc.toNat : Int)) (run_idxStr 9 (.tmp 10) (.const (.int .i64 0)) (cc :: rest) 0 cc rfl Tryd.underlying9 rfl rfl rfl) ?_))
      refine (hC w2).mono ?_
      rintro e w3 ⟨rfl, b3⟩
      clear hC
      have r2 := r2.later b3
      go_wp2_with (first
        | (with_reducible refine wl_alloc (o := ⟨some 5, _, _, _, _, _⟩) rfl 64 _ [.int .i64 0, encStr []] rfl rfl rfl ?_; intro g5 w5 r5 p5 l5 b5; have n25 := Nat.ne_of_lt (Nat.lt_of_lt_of_le r2.lt p5); have r2 := r2.later b5)
        | (with_reducible refine wl_store_row rfl 64 (.tmp 5) (.tmp 25) g5 64 _ [.int .i64 0, encStr []] rfl rfl rfl r5 (szPt _ _) rfl (by simp [Value.oneCell']) ?_; intro w6 r6 o6; have r2 := r2.only o6 n25)
        | (with_reducible refine wl_run (o := ⟨some 41, _, _, _, _, _⟩) rfl (encStr [cc]) (run_sliceStrR 9 (.tmp 40) (.const (.int .i64 1)) (cc :: rest) 1 rfl Tryd.underlying9 rfl rfl (by simp)) ?_)
        | (with_reducible refine wl_build rfl 64 [(0, .const (.int .i64 0)), (1, .tmp 41)] rfl [(0, .int .i64 0), (1, encStr [cc])] rfl [.int .i64 0, encStr [cc]] (builtPt _ _) ?_)
        | (with_reducible refine wl_store_row rfl 64 (.tmp 2) (.tmp 42) g2 64 _ [.int .i64 0, encStr [cc]] rfl rfl rfl r2 (szPt _ _) rfl (by simp [Value.oneCell']) ?_; intro w9 r9 o9))
      have B6 := b2.trans ((b3.trans ((b5.trans (o6.below p5)).mono b3.size)).mono b2.size)
      refine bodyPost_ret (v := .tuple #[Pt.val ⟨0, [cc]⟩, encStr rest]) ?_ rfl ⟨?_, (B6).trans (o9.below p2)⟩
      · exact results_rt2 Tryd.results49 _ _ g2 64 _ _ _ rfl r9 Tryd.underlying64 rfl (szPt _ _) rfl
      · rw [hv.out]

  by_cases h92 : cc.toNat = 92
  · have q42 : ((cc.toNat : Int) == 42) = false := beq_eq_false_iff_ne.2 (by omega)
    have q63 : ((cc.toNat : Int) == 63) = false := beq_eq_false_iff_ne.2 (by omega)
    have q91 : ((cc.toNat : Int) == 91) = false := beq_eq_false_iff_ne.2 (by omega)
    have q92 : ((cc.toNat : Int) == 92) = true := by rw [beq_iff_eq]; omega
    cases rest with
    | nil =>
      have hv : cutPartL cc [] = (⟨0, [cc]⟩, []) := by
        obtain rfl : cc = 92 := UInt8.toNat_inj.1 h92
        rfl
      replace hv := hide hv
      go_enter Tryd.func49, Tryd.ntmps49
      go_wp2_with (first
        | (with_reducible refine wl_alloc (o := ⟨some 2, _, _, _, _, _⟩) rfl 64 _ [.int .i64 0, encStr []] rfl rfl rfl ?_; intro g2 w2 r2 p2 l2 b2)
        | (with_reducible refine wl_run (o := ⟨some 9, _, _, _, _, _⟩) rfl (encStr []) (run_sliceStrL 9 (.tmp 8) (.const (.int .i64 1)) (cc :: []) 1 rfl Tryd.underlying9 rfl rfl (by simp)) ?_)
        | (with_reducible refine wl_run (o := ⟨some 11, _, _, _, _, _⟩) rfl (.int .u8 (cc.toNat : Int)) (run_idxStr 9 (.tmp 10) (.const (.int .i64 0)) (cc :: []) 0 cc rfl Tryd.underlying9 rfl rfl rfl) ?_)
        | (with_reducible refine wl_run (o := ⟨some 34, _, _, _, _, _⟩) rfl (.bool false) (run_neStr (.tmp 33) (.const (.string ⟨#[]⟩)) rfl rfl rfl (by simp)) ?_)
        | (with_reducible refine wl_run (o := ⟨some 41, _, _, _, _, _⟩) rfl (encStr [cc]) (run_sliceStrR 9 (.tmp 40) (.const (.int .i64 1)) [cc] 1 rfl Tryd.underlying9 rfl rfl (by simp)) ?_)
        | (with_reducible refine wl_build rfl 64 [(0, .const (.int .i64 0)), (1, .tmp 41)] rfl [(0, .int .i64 0), (1, encStr [cc])] rfl [.int .i64 0, encStr [cc]] (builtPt _ _) ?_)
        | (with_reducible refine wl_store_row rfl 64 (.tmp 2) (.tmp 42) g2 64 _ [.int .i64 0, encStr [cc]] rfl rfl rfl r2 (szPt _ _) rfl (by simp [Value.oneCell']) ?_; intro w9 r9 o9))
      refine bodyPost_ret (v := .tuple #[Pt.val ⟨0, [cc]⟩, encStr []]) ?_ rfl ⟨?_, (b2).trans (o9.below p2)⟩
      · exact results_rt2 Tryd.results49 _ _ g2 64 _ _ _ rfl r9 Tryd.underlying64 rfl (szPt _ _) rfl
      · rw [hv.out]
    | cons d r =>
      have hv : cutPartL cc (d :: r) = (⟨0, [d]⟩, r) := by
        obtain rfl : cc = 92 := UInt8.toNat_inj.1 h92
        rfl
      replace hv := hide hv
      go_enter Tryd.func49, Tryd.ntmps49
      go_wp2_with (first
        | (with_reducible refine wl_alloc (o := ⟨some 2, _, _, _, _, _⟩) rfl 64 _ [.int .i64 0, encStr []] rfl rfl rfl ?_; intro g2 w2 r2 p2 l2 b2)
        | (with_reducible refine wl_run (o := ⟨some 9, _, _, _, _, _⟩) rfl (encStr (d :: r)) (run_sliceStrL 9 (.tmp 8) (.const (.int .i64 1)) (cc :: d :: r) 1 rfl Tryd.underlying9 rfl rfl (by simp)) ?_)
        | (with_reducible refine wl_run (o := ⟨some 11, _, _, _, _, _⟩) rfl (.int .u8 (cc.toNat : Int)) (run_idxStr 9 (.tmp 10) (.const (.int .i64 0)) (cc :: d :: r) 0 cc rfl Tryd.underlying9 rfl rfl rfl) ?_)
        | (with_reducible refine wl_run (o := ⟨some 34, _, _, _, _, _⟩) rfl (.bool true) (run_neStr (.tmp 33) (.const (.string ⟨#[]⟩)) rfl rfl rfl (by simp)) ?_))
      rename_i K9 hK9
      refine wp_region_vals [5] (CP13 d r) (JB g2 64 w2 0 [.int .i64 0, encStr []] [.int .i64 0, encStr [d]]) (by kernel_rfl) (by kernel_rfl) (by kernel_rfl) (by kernel_rfl) (by kernel_rfl) (JB.start r2 rfl) ?obs1 ?he1
      case obs1 =>
        refine ⟨?_, ?_, ?_, ?_, ?_, ?_, ?_, trivial⟩
        · exact .inl ⟨by kernel_rfl, fun L a1 w1 n' h => ⟨_, rfl, run_move (.tmp 4) rfl (h.var n' 4 (by kernel_rfl))⟩⟩
        · exact .inl ⟨by kernel_rfl, fun L a1 w1 n' h => ⟨_, rfl, run_sliceStrR 9 (.tmp 35) (.const (.int .i64 1)) (d :: r) 1 rfl Tryd.underlying9 (h.dep n' 0 35 (by kernel_rfl) rfl) rfl (by simp)⟩⟩
        · exact .inl ⟨by kernel_rfl, fun L a1 w1 n' h => ⟨_, rfl, run_buildX 64 [(0, .const (.int .i64 0)), (1, .tmp 36)] rfl [(0, .int .i64 0), (1, encStr [d])] (by simp only [List.map_cons, List.map_nil, show a1.eval (.tmp 36) = encStr [d] from h.dep n' 1 36 (by kernel_rfl) rfl]; rfl) _ (builtPt _ _)⟩⟩
        · exact .inl ⟨by kernel_rfl, fun L a1 w1 n' h => ⟨_, rfl, run_move (.tmp 4) rfl (h.var n' 4 (by kernel_rfl))⟩⟩
        · exact .inl ⟨by kernel_rfl, fun L a1 w1 n' h => ⟨_, rfl, run_sliceStrL 9 (.tmp 38) (.const (.int .i64 1)) (d :: r) 1 rfl Tryd.underlying9 (h.dep n' 3 38 (by kernel_rfl) rfl) rfl (by simp)⟩⟩
        · refine .inr fun L a1 w1 n' h K hK => ?_
          have no : L.getD 5 false = false := n'.not_yet
          refine st_store_row 64 (.tmp 2) (.tmp 37) g2 64 ([.int .i64 0, encStr []]) ([.int .i64 0, encStr [d]]) rfl (h.var n' 2 (by kernel_rfl)) (h.dep n' 2 37 (by kernel_rfl) rfl) (h.inv.1 no) (szPt _ _) rfl ((by simp [Value.oneCell'])) ?_
          intro w3 r3 o3
          exact hK undef w3 trivial (JB.store h.inv o3 r3 rfl)
        · exact .inl ⟨by kernel_rfl, fun L a1 w1 n' h => ⟨_, rfl, run_assign (.tmp 39) rfl (h.dep n' 4 39 (by kernel_rfl) rfl)⟩⟩
      case he1 =>
        intro V wz hV hJ
        have rz := hJ.2.1 rfl
        have bu := hJ.2.2
        have e2 : V 6 = encStr r := hV 6 _ rfl
        clear hV hJ
        simp only [putOps, List.setIfInBounds_toArray, List.set_cons_succ, List.set_cons_zero, Nat.reduceAdd, Act.put]
        rw [e2]
        refine hK9 _ _ ?_
        go_wp2_with fail
        refine bodyPost_ret (v := .tuple #[Pt.val ⟨0, [d]⟩, encStr r]) ?_ rfl ⟨?_, (b2).trans (bu.below p2 (b2).size)⟩
        · exact results_rt2 Tryd.results49 _ _ g2 64 _ _ _ rfl rz Tryd.underlying64 rfl (szPt _ _) rfl
        · rw [hv.out]

  have hv : cutPartL cc rest = (⟨0, [cc]⟩, rest) := by
    have a1 : cc ≠ 42 := fun e => h42 (by rw [e]; rfl)
    have a2 : cc ≠ 63 := fun e => h63 (by rw [e]; rfl)
    have a3 : cc ≠ 91 := fun e => h91 (by rw [e]; rfl)
    have a4 : cc ≠ 92 := fun e => h92 (by rw [e]; rfl)
    unfold cutPartL
    rw [if_neg a1, if_neg a2, if_neg a3, if_neg a4]
  have q42 : ((cc.toNat : Int) == 42) = false := beq_eq_false_iff_ne.2 (by omega)
  have q63 : ((cc.toNat : Int) == 63) = false := beq_eq_false_iff_ne.2 (by omega)
  have q91 : ((cc.toNat : Int) == 91) = false := beq_eq_false_iff_ne.2 (by omega)
  have q92 : ((cc.toNat : Int) == 92) = false := beq_eq_false_iff_ne.2 (by omega)
  replace hv := hide hv
  go_enter Tryd.func49, Tryd.ntmps49
  go_wp2_with (first
      | (with_reducible refine wl_alloc (o := ⟨some 2, _, _, _, _, _⟩) rfl 64 _ [.int .i64 0, encStr []] rfl rfl rfl ?_; intro g2 w2 r2 p2 l2 b2)
      | (with_reducible refine wl_run (o := ⟨some 9, _, _, _, _, _⟩) rfl (encStr rest) (run_sliceStrL 9 (.tmp 8) (.const (.int .i64 1)) (cc :: rest) 1 rfl Tryd.underlying9 rfl rfl (by simp)) ?_)
      | (with_reducible refine wl_run (o := ⟨some 11, _, _, _, _, _⟩) rfl (.int .u8 (cc.toNat : Int)) (run_idxStr 9 (.tmp 10) (.const (.int .i64 0)) (cc :: rest) 0 cc rfl Tryd.underlying9 rfl rfl rfl) ?_)
      | (with_reducible refine wl_run (o := ⟨some 41, _, _, _, _, _⟩) rfl (encStr [cc]) (run_sliceStrR 9 (.tmp 40) (.const (.int .i64 1)) (cc :: rest) 1 rfl Tryd.underlying9 rfl rfl (by simp)) ?_)
      | (with_reducible refine wl_build rfl 64 [(0, .const (.int .i64 0)), (1, .tmp 41)] rfl [(0, .int .i64 0), (1, encStr [cc])] rfl [.int .i64 0, encStr [cc]] (builtPt _ _) ?_)
      | (with_reducible refine wl_store_row rfl 64 (.tmp 2) (.tmp 42) g2 64 _ [.int .i64 0, encStr [cc]] rfl rfl rfl r2 (szPt _ _) rfl (by simp [Value.oneCell']) ?_; intro w9 r9 o9))
  refine bodyPost_ret (v := .tuple #[Pt.val ⟨0, [cc]⟩, encStr rest]) ?_ rfl ⟨?_, (b2).trans (o9.below p2)⟩
  · exact results_rt2 Tryd.results49 _ _ g2 64 _ _ _ rfl r9 Tryd.underlying64 rfl (szPt _ _) rfl
  · rw [hv.out]
end Go.Proofs.YtolmomnocfkhoaaDoor
