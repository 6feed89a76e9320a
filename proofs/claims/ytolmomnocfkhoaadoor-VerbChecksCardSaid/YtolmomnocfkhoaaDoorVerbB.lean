/-
  Patterns: a class. Contract. Own work.
-/
import Derived.Test.YtolmomnocfkhoaaDoorVerbA
import Derived.Test.YtolmomnocfkhoaaDoorCutS
import Derived.Test.YtolmomnocfkhoaaDoorIdxS
namespace Go.Proofs.YtolmomnocfkhoaaDoor
open Go.RowKit
set_option linter.unusedVariables false
set_option linter.unusedSimpArgs false
abbrev Pt.cells (p : Pt) : List Value := [.int .i64 (p.k : Int), encStr p.t]
abbrev Pt.val (p : Pt) : Value := .agg p.cells.toArray
theorem szPt (a b : Value) : (Tryd.prog.info? 64).map (·.size) = some [a, b].length := by kernel_rfl
theorem builtPt (k : Int) (l : List UInt8) : Tryd.prog.built 64 [(0, .int .i64 k), (1, encStr l)] = some [.int .i64 k, encStr l].toArray := by kernel_rfl
theorem builtPt0 (k : Int) : Tryd.prog.built 64 [(0, .int .i64 k)] = some [.int .i64 k, encStr []].toArray := by kernel_rfl
theorem cutPre_any (w : World) (r : List UInt8) : Calls Tryd.prog 67 #[encStr r, .string ⟨#[94]⟩] w fun e w' => (∃ (ng : Bool) (t : List UInt8), e = .returned (.tuple #[encStr t, .bool ng]) ∧ cutClassL r = classAt ng t ∧ t.length ≤ r.length) ∧ w = w' := by
  refine (Any.strings_CutPrefix cutSL ⟨r.toArray⟩ ⟨#[94]⟩ w).mono ?_
  rintro e w' ⟨rfl, rfl⟩
  refine ⟨?_, rfl⟩
  by_cases h : r.head? = some 94
  · obtain ⟨t, rfl⟩ : ∃ t, r = 94 :: t := by
      cases r with
      | nil => cases h
      | cons a t => simp at h; exact ⟨t, by rw [h]⟩
    exact ⟨true, t, rfl, rfl, by simp⟩
  · refine ⟨false, r, ?_, cutClassL_no h, Nat.le_refl _⟩
    have e1 : Lib.hasPrefix r [94] = false := by
      unfold Lib.hasPrefix
      cases r with
      | nil => rfl
      | cons a t =>
        have : a ≠ 94 := fun e => h (by simp [e])
        simp [List.isPrefixOf]
        exact fun e => this e.symm
    have e2 : Lib.trimPrefix r [94] = r := by unfold Lib.trimPrefix; rw [e1]; rfl
    show Ending.returned (.tuple #[.string ⟨(Lib.trimPrefix r [94]).toArray⟩, .bool (Lib.hasPrefix r [94])]) = _
    rw [e1, e2]
theorem idx_any (w : World) (r : List UInt8) : Calls Tryd.prog 68 #[encStr r, .int .u8 93] w fun e w' => e = .returned (.int .i64 (Lib.indexByte r 93)) ∧ w = w' := by
  refine (Any.strings_IndexByte idxSL ⟨r.toArray⟩ 93 w).mono ?_
  rintro e w' ⟨rfl, rfl⟩
  exact ⟨rfl, rfl⟩
def CC10 (LL SS : List UInt8) (KK p : Nat) (opn : Nat) (v : Value) : Prop :=
  match opn with
  | 0 => v = Pt.val ⟨KK, SS⟩
  | 1 => v = encStr LL
  | 2 => v = .int .i64 (p : Int)
  | 3 => v = .int .i64 ((p + 1 : Nat) : Int)
  | 4 | 6 => v = encStr (List.drop (p + 1) LL)
  | 7 => v = .bool true
  | _ => True

/-- What a class is told as. -/
def clsV (q : Option (Pt × List UInt8)) : Value := match q with
  | some q => .tuple #[q.1.val, encStr q.2, .bool true]
  | none => .tuple #[Pt.val ⟨0, []⟩, encStr [], .bool false]
set_option maxRecDepth 100000 in
set_option maxHeartbeats 1000000 in
theorem cutClass_any (w : World) (r : List UInt8) (hl : r.length ≤ 1000000) :
    Calls Tryd.prog 59 #[encStr r] w fun e w' => e = .returned (clsV (cutClassL r)) ∧ Below w.heap.size w w' := by
  have hC := fun w => cutPre_any w r
  go_enter Tryd.func59, Tryd.ntmps59
  go_wp2_with (first
    | (with_reducible refine wl_alloc (o := ⟨some 2, _, _, _, _, _⟩) rfl 64 _ [.int .i64 0, encStr []] rfl rfl rfl ?_; intro g2 w2 r2 p2 l2 b2))
  refine (hC w2).mono ?_
  rintro e w' ⟨⟨ng, t, rfl, ht, htl⟩, rfl⟩
  replace ht := hide ht
  clear hC
  cases t with
  | nil =>
    go_wp2_with (first
      | (with_reducible refine wl_run (o := ⟨some 15, _, _, _, _, _⟩) rfl (.bool true) (run_eqStr (.tmp 14) (.const (.string ⟨#[]⟩)) rfl rfl rfl (by simp)) ?_)
      | (with_reducible refine wl_build rfl 64 [] rfl [] rfl [.int .i64 0, encStr []] (by kernel_rfl) ?_)
      | (with_reducible refine wl_store_row rfl 64 (.tmp 2) (.tmp 16) g2 64 _ [.int .i64 0, encStr []] rfl rfl rfl r2 (szPt _ _) rfl (by simp [Value.oneCell']) ?_; intro w3 r3 o3))
    refine bodyPost_ret (v := clsV none) ?_ rfl ⟨?_, b2.trans (o3.below p2)⟩
    · exact results_rt3 Tryd.results59 _ _ g2 64 _ _ _ _ rfl r3 Tryd.underlying64 rfl (szPt _ _) rfl rfl
    · rw [ht.out]; rfl
  | cons a t =>
    have hI := fun w => idx_any w t
    have hge := Lib.indexByte_ge t 93
    have hlt := indexByte_lt t 93
    have hd : classAt ng (a :: t) = if Lib.indexByte t 93 = -1 then none else some (⟨if ng then 1 else 0, (a :: t).take ((Lib.indexByte t 93).toNat + 1)⟩, (a :: t).drop ((Lib.indexByte t 93).toNat + 2)) := rfl
    replace hd := hide (ht.out.trans hd)
    clear ht
    generalize Lib.indexByte t 93 = z at *
    simp only [List.length_cons] at htl
    by_cases hz : z = -1
    · subst hz
      go_wp2_with (first
        | (with_reducible refine wl_run (o := ⟨some 15, _, _, _, _, _⟩) rfl (.bool false) (run_eqStr (.tmp 14) (.const (.string ⟨#[]⟩)) rfl rfl rfl (by simp)) ?_)
        | (with_reducible refine wl_run (o := ⟨some 18, _, _, _, _, _⟩) rfl (encStr t) (run_sliceStrL 9 (.tmp 17) (.const (.int .i64 1)) (a :: t) 1 rfl Tryd.underlying9 rfl rfl (by simp)) ?_))
      refine (hI w2).mono ?_
      rintro e w3 ⟨rfl, rfl⟩
      go_wp2_with (first
        | (with_reducible refine wl_build rfl 64 [] rfl [] rfl [.int .i64 0, encStr []] (by kernel_rfl) ?_)
        | (with_reducible refine wl_store_row rfl 64 (.tmp 2) (.tmp 23) g2 64 _ [.int .i64 0, encStr []] rfl rfl rfl r2 (szPt _ _) rfl (by simp [Value.oneCell']) ?_; intro w3 r3 o3))
      refine bodyPost_ret (v := clsV none) ?_ rfl ⟨?_, b2.trans (o3.below p2)⟩
      · exact results_rt3 Tryd.results59 _ _ g2 64 _ _ _ _ rfl r3 Tryd.underlying64 rfl (szPt _ _) rfl rfl
      · rw [hd.out]; simp
    · obtain ⟨m, rfl⟩ : ∃ m : Nat, z = (m : Int) := ⟨z.toNat, by omega⟩
      have hml : (m : Int) < (t.length : Int) := hlt hz
      obtain ⟨p, hp⟩ : ∃ p : Nat, p = m + 1 := ⟨_, rfl⟩
      have z1 := hide (show IntKind.i64.wrap (1 + (m : Int)) = (p : Int) from wrap_id (by omega) (by omega) (by omega))
      have hz := hide (show IntKind.i64.wrap ((p : Int) + 1) = ((p + 1 : Nat) : Int) from wrap_id (by omega) (by omega) (by omega))
      have hm := hide (show p + 1 ≤ (a :: t).length by simp; omega)
      have hm9 := hide (show p ≤ (a :: t).length by simp; omega)
      have q0 : ((p : Int) == 0) = false := beq_eq_false_iff_ne.2 (by omega)
      replace hp := hide hp
      go_wp2_with (first
        | (with_reducible refine wl_run (o := ⟨some 15, _, _, _, _, _⟩) rfl (.bool false) (run_eqStr (.tmp 14) (.const (.string ⟨#[]⟩)) rfl rfl rfl (by simp)) ?_)
        | (with_reducible refine wl_run (o := ⟨some 18, _, _, _, _, _⟩) rfl (encStr t) (run_sliceStrL 9 (.tmp 17) (.const (.int .i64 1)) (a :: t) 1 rfl Tryd.underlying9 rfl rfl (by simp)) ?_))
      refine (hI w2).mono ?_
      rintro e w3 ⟨rfl, rfl⟩
      clear hI
      cases ng with
      | true =>
        go_wp2_with (first
          | (with_reducible refine wl_run (o := ⟨some 20, _, _, _, _, _⟩) rfl (.int .i64 (p : Int)) (run_addZ (.const (.int .i64 1)) (.tmp 19) rfl rfl rfl z1.out) ?_)
          | (with_reducible refine wl_run (o := ⟨some 26, _, _, _, _, _⟩) rfl (encStr ((a :: t).take p)) (run_sliceStrR 9 (.tmp 24) (.tmp 25) (a :: t) p rfl Tryd.underlying9 rfl rfl hm9.out) ?_)
          | (with_reducible refine wl_build rfl 64 [(0, .const (.int .i64 0)), (1, .tmp 26)] rfl [(0, .int .i64 0), (1, encStr ((a :: t).take p))] rfl [.int .i64 0, encStr ((a :: t).take p)] (builtPt _ _) ?_)
          | (with_reducible refine wl_alloc (o := ⟨some 8, _, _, _, _, _⟩) rfl 64 _ [.int .i64 0, encStr []] rfl rfl rfl ?_; intro g8 w8 r8 p8 l8 b8)
          | (with_reducible refine wl_store_row rfl 64 (.tmp 8) (.tmp 27) g8 64 _ [.int .i64 0, encStr ((a :: t).take p)] rfl rfl rfl r8 (szPt _ _) rfl (by simp [Value.oneCell']) ?_; intro w9 r9 o9)
          | (with_reducible refine wl_store rfl 3 (.tmp 29) (.const (.int .i64 1)) g8 0 64 [.int .i64 0, encStr ((a :: t).take p)] (.int .i64 1) rfl (by kernel_rfl) rfl rfl r9 (by simp) rfl ?_; intro w10 r10 o10))
        have hne := hide (show g8 ≠ g2 by have := r2.lt; omega)
        have r2b := ((r2.later b8).only o9 (Ne.symm hne.out)).only o10 (Ne.symm hne.out)
        have B10 := b2.trans ((b8.trans ((o9.trans o10).below p8)).mono b2.size)
        simp only [Act.put]
        rename_i K10 hK10
        refine wp_region_vals [5] (CC10 (a :: t) ((a :: t).take p) 1 p) (JB g2 64 w10 0 [.int .i64 0, encStr []] [.int .i64 ((1 : Nat) : Int), encStr ((a :: t).take p)]) (by kernel_rfl) (by kernel_rfl) (by kernel_rfl) (by kernel_rfl) (by kernel_rfl) (JB.start r2b rfl) ?obs1 ?he1
        case obs1 =>
          have r8 := r10
          refine ⟨?_, ?_, ?_, ?_, ?_, ?_, ?_, ?_, trivial⟩
          · exact .inl ⟨by kernel_rfl, fun L a1 w1 n' h => ⟨_, rfl, run_loadRow 64 (.tmp 8) g8 64 _ _ rfl (h.var n' 8 (by kernel_rfl)) (r8.but h.inv.2.2 hne.out) Tryd.underlying64 rfl (szPt _ _)⟩⟩
          · exact .inl ⟨by kernel_rfl, fun L a1 w1 n' h => ⟨_, rfl, run_move (.tmp 5) rfl (h.var n' 5 (by kernel_rfl))⟩⟩
          · exact .inl ⟨by kernel_rfl, fun L a1 w1 n' h => ⟨_, rfl, run_move (.tmp 7) rfl (h.var n' 7 (by kernel_rfl))⟩⟩
          · exact .inl ⟨by kernel_rfl, fun L a1 w1 n' h => ⟨_, rfl, run_addZ (.tmp 32) (.const (.int .i64 1)) rfl (h.dep n' 2 32 (by kernel_rfl) rfl) rfl hz.out⟩⟩
          · exact .inl ⟨by kernel_rfl, fun L a1 w1 n' h => ⟨_, rfl, run_sliceStrL 9 (.tmp 31) (.tmp 33) (a :: t) (p + 1) rfl Tryd.underlying9 (h.dep n' 1 31 (by kernel_rfl) rfl) (h.dep n' 3 33 (by kernel_rfl) rfl) hm.out⟩⟩
          · refine .inr fun L a1 w1 n' h K hK => ?_
            have no : L.getD 5 false = false := n'.not_yet
            refine st_store_row 64 (.tmp 2) (.tmp 30) g2 64 ([.int .i64 0, encStr []]) ([.int .i64 ((1 : Nat) : Int), encStr ((a :: t).take p)]) rfl (h.var n' 2 (by kernel_rfl)) (h.dep n' 0 30 (by kernel_rfl) rfl) (h.inv.1 no) (szPt _ _) rfl ((by simp [Value.oneCell'])) ?_
            intro w3 r3 o3
            exact hK undef w3 trivial (JB.store h.inv o3 r3 rfl)
          · exact .inl ⟨by kernel_rfl, fun L a1 w1 n' h => ⟨_, rfl, run_assign (.tmp 34) rfl (h.dep n' 4 34 (by kernel_rfl) rfl)⟩⟩
          · exact .inl ⟨by kernel_rfl, fun L a1 w1 n' h => ⟨_, rfl, run_assign (.const (.bool true)) rfl rfl⟩⟩
        case he1 =>
          intro V wz hV hJ
          have rz := hJ.2.1 rfl
          have bu := hJ.2.2
          have e1 : V 6 = encStr ((a :: t).drop (p + 1)) := hV 6 _ rfl
          have e2 : V 7 = .bool true := hV 7 _ rfl
          clear hV hJ
          simp only [putOps, List.setIfInBounds_toArray, List.set_cons_succ, List.set_cons_zero, Nat.reduceAdd, Act.put]
          rw [e1, e2]
          refine hK10 _ _ ?_
          go_wp2_with fail
          refine bodyPost_ret (v := .tuple #[Pt.val ⟨1, (a :: t).take p⟩, encStr ((a :: t).drop (p + 1)), .bool true]) ?_ rfl ⟨?_, ?_⟩
          · exact results_rt3 Tryd.results59 _ _ g2 64 _ _ _ _ rfl rz Tryd.underlying64 rfl (szPt _ _) rfl rfl
          · rw [hd.out, if_neg (by omega), Int.toNat_natCast, ← hp.out, show m + 2 = p + 1 by have := hp.out; omega]; rfl
          · exact B10.trans (bu.below p2 B10.size)
      | false =>
        go_wp2_with (first
          | (with_reducible refine wl_run (o := ⟨some 20, _, _, _, _, _⟩) rfl (.int .i64 (p : Int)) (run_addZ (.const (.int .i64 1)) (.tmp 19) rfl rfl rfl z1.out) ?_)
          | (with_reducible refine wl_run (o := ⟨some 26, _, _, _, _, _⟩) rfl (encStr ((a :: t).take p)) (run_sliceStrR 9 (.tmp 24) (.tmp 25) (a :: t) p rfl Tryd.underlying9 rfl rfl hm9.out) ?_)
          | (with_reducible refine wl_build rfl 64 [(0, .const (.int .i64 0)), (1, .tmp 26)] rfl [(0, .int .i64 0), (1, encStr ((a :: t).take p))] rfl [.int .i64 0, encStr ((a :: t).take p)] (builtPt _ _) ?_)
          | (with_reducible refine wl_alloc (o := ⟨some 8, _, _, _, _, _⟩) rfl 64 _ [.int .i64 0, encStr []] rfl rfl rfl ?_; intro g8 w8 r8 p8 l8 b8)
          | (with_reducible refine wl_store_row rfl 64 (.tmp 8) (.tmp 27) g8 64 _ [.int .i64 0, encStr ((a :: t).take p)] rfl rfl rfl r8 (szPt _ _) rfl (by simp [Value.oneCell']) ?_; intro w9 r9 o9))
        have hne := hide (show g8 ≠ g2 by have := r2.lt; omega)
        have r2b := (r2.later b8).only o9 (Ne.symm hne.out)
        have B10 := b2.trans ((b8.trans (o9.below p8)).mono b2.size)
        rename_i K10 hK10
        refine wp_region_vals [5] (CC10 (a :: t) ((a :: t).take p) 0 p) (JB g2 64 w9 0 [.int .i64 0, encStr []] [.int .i64 ((0 : Nat) : Int), encStr ((a :: t).take p)]) (by kernel_rfl) (by kernel_rfl) (by kernel_rfl) (by kernel_rfl) (by kernel_rfl) (JB.start r2b rfl) ?obs0 ?he0
        case obs0 =>
          have r8 := r9
          refine ⟨?_, ?_, ?_, ?_, ?_, ?_, ?_, ?_, trivial⟩
          · exact .inl ⟨by kernel_rfl, fun L a1 w1 n' h => ⟨_, rfl, run_loadRow 64 (.tmp 8) g8 64 _ _ rfl (h.var n' 8 (by kernel_rfl)) (r8.but h.inv.2.2 hne.out) Tryd.underlying64 rfl (szPt _ _)⟩⟩
          · exact .inl ⟨by kernel_rfl, fun L a1 w1 n' h => ⟨_, rfl, run_move (.tmp 5) rfl (h.var n' 5 (by kernel_rfl))⟩⟩
          · exact .inl ⟨by kernel_rfl, fun L a1 w1 n' h => ⟨_, rfl, run_move (.tmp 7) rfl (h.var n' 7 (by kernel_rfl))⟩⟩
          · exact .inl ⟨by kernel_rfl, fun L a1 w1 n' h => ⟨_, rfl, run_addZ (.tmp 32) (.const (.int .i64 1)) rfl (h.dep n' 2 32 (by kernel_rfl) rfl) rfl hz.out⟩⟩
          · exact .inl ⟨by kernel_rfl, fun L a1 w1 n' h => ⟨_, rfl, run_sliceStrL 9 (.tmp 31) (.tmp 33) (a :: t) (p + 1) rfl Tryd.underlying9 (h.dep n' 1 31 (by kernel_rfl) rfl) (h.dep n' 3 33 (by kernel_rfl) rfl) hm.out⟩⟩
          · refine .inr fun L a1 w1 n' h K hK => ?_
            have no : L.getD 5 false = false := n'.not_yet
            refine st_store_row 64 (.tmp 2) (.tmp 30) g2 64 ([.int .i64 0, encStr []]) ([.int .i64 ((0 : Nat) : Int), encStr ((a :: t).take p)]) rfl (h.var n' 2 (by kernel_rfl)) (h.dep n' 0 30 (by kernel_rfl) rfl) (h.inv.1 no) (szPt _ _) rfl ((by simp [Value.oneCell'])) ?_
            intro w3 r3 o3
            exact hK undef w3 trivial (JB.store h.inv o3 r3 rfl)
          · exact .inl ⟨by kernel_rfl, fun L a1 w1 n' h => ⟨_, rfl, run_assign (.tmp 34) rfl (h.dep n' 4 34 (by kernel_rfl) rfl)⟩⟩
          · exact .inl ⟨by kernel_rfl, fun L a1 w1 n' h => ⟨_, rfl, run_assign (.const (.bool true)) rfl rfl⟩⟩
        case he0 =>
          intro V wz hV hJ
          have rz := hJ.2.1 rfl
          have bu := hJ.2.2
          have e1 : V 6 = encStr ((a :: t).drop (p + 1)) := hV 6 _ rfl
          have e2 : V 7 = .bool true := hV 7 _ rfl
          clear hV hJ
          simp only [putOps, List.setIfInBounds_toArray, List.set_cons_succ, List.set_cons_zero, Nat.reduceAdd, Act.put]
          rw [e1, e2]
          refine hK10 _ _ ?_
          go_wp2_with fail
          refine bodyPost_ret (v := .tuple #[Pt.val ⟨0, (a :: t).take p⟩, encStr ((a :: t).drop (p + 1)), .bool true]) ?_ rfl ⟨?_, ?_⟩
          · exact results_rt3 Tryd.results59 _ _ g2 64 _ _ _ _ rfl rz Tryd.underlying64 rfl (szPt _ _) rfl rfl
          · rw [hd.out, if_neg (by omega), Int.toNat_natCast, ← hp.out, show m + 2 = p + 1 by have := hp.out; omega]; rfl
          · exact B10.trans (bu.below p2 B10.size)
end Go.Proofs.YtolmomnocfkhoaaDoor
