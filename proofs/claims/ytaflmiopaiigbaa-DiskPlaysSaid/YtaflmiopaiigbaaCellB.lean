/-
  Power and its document; pins: contracts. Own work.
-/
import Derived.Test.YtaflmiopaiigbaaCellA
import Derived.Test.YtaflmiopaiigbaaSkip
namespace Go.Proofs.Ytaflmiopaiigbaa
open Go.RowKit
set_option linter.unusedVariables false
set_option linter.unusedSimpArgs false
def isI (x : Int) : Prop := -9223372036854775808 ≤ x ∧ x ≤ 9223372036854775807
/-- A power whose plug is at g2. -/
abbrev Pwr (w : World) (g g2 : Nat) : Prop := Row w 57 g [ptr g2]
theorem pAct_any (w : World) (g g2 : Nat) (on : Bool) (fuse : Int) (hp : Pwr w g g2) (h : Plg w g2 on fuse) (hf : isI fuse) : Calls Try.prog 23 #[ptr g] w fun e w' => e = .returned (.int .i64 (actE on fuse)) ∧ Plg w' g2 (on && actOn on fuse) (actF on fuse) ∧ Only g2 w w' := by
  have hS := shared_any w g _ hp
  have hA := fun w h => act_any w g2 on fuse h hf
  go_enter Try.func23, Try.ntmps23
  go_wp2_with fail
  refine hS.mono ?_
  rintro en w1 ⟨rfl, rfl⟩
  go_wp2_with fail
  refine (hA w h).mono ?_
  rintro en w1 ⟨rfl, r1, o1⟩
  go_wp2_with fail
  go_ret
  exact ⟨rfl, r1, o1⟩
theorem pAct_nil (w : World) : Calls Try.prog 23 #[.pointer none] w fun e w' => e = .returned (.int .i64 8) ∧ w = w' := by
  go_enter Try.func23, Try.ntmps23
  go_wp2_with fail
  refine (shared_nil w).mono ?_
  rintro en w1 ⟨rfl, rfl⟩
  go_wp2_with fail
  refine (act_nil w).mono ?_
  rintro en w1 ⟨rfl, rfl⟩
  go_wp2_with fail
  go_ret
  exact ⟨rfl, rfl⟩
theorem pFuse_any (w : World) (g g2 : Nat) (on : Bool) (fuse n : Int) (hp : Pwr w g g2) (h : Plg w g2 on fuse) : Calls Try.prog 20 #[ptr g, .int .i64 n] w fun e w' => e = .returned (.tuple #[]) ∧ Plg w' g2 on n ∧ Only g2 w w' := by
  have hS := shared_any w g _ hp
  have hA := fun w h => burn_any w g2 on fuse n h
  go_enter Try.func20, Try.ntmps20
  go_wp2_with fail
  refine hS.mono ?_
  rintro en w1 ⟨rfl, rfl⟩
  go_wp2_with fail
  refine (hA w h).mono ?_
  rintro en w1 ⟨rfl, r1, o1⟩
  go_wp2_with fail
  go_end0
  exact ⟨rfl, r1, o1⟩
theorem pMend_any (w : World) (g g2 : Nat) (on : Bool) (fuse : Int) (hp : Pwr w g g2) (h : Plg w g2 on fuse) : Calls Try.prog 22 #[ptr g] w fun e w' => e = .returned (.tuple #[]) ∧ Plg w' g2 true (-1) ∧ Only g2 w w' := by
  have hS := shared_any w g _ hp
  have hA := fun w h => mend_any w g2 on fuse h
  go_enter Try.func22, Try.ntmps22
  go_wp2_with fail
  refine hS.mono ?_
  rintro en w1 ⟨rfl, rfl⟩
  go_wp2_with fail
  refine (hA w h).mono ?_
  rintro en w1 ⟨rfl, r1, o1⟩
  go_wp2_with fail
  go_end0
  exact ⟨rfl, r1, o1⟩
theorem builtPw (g : Nat) : Try.prog.built 57 [(0, ptr g)] = some [ptr g].toArray := by kernel_rfl
theorem plug_any (w : World) : Calls Try.prog 11 #[] w fun e w' => ∃ g g2, e = .returned (ptr g) ∧ Pwr w' g g2 ∧ Plg w' g2 true (-1) ∧ w.heap.size ≤ g ∧ w.heap.size ≤ g2 ∧ g ≠ g2 ∧ Below w.heap.size w w' := by
  have bp := builtPlug0
  have bw := builtPw
  go_enter Try.func11, Try.ntmps11
  go_wp2_with (first
    | ((with_reducible refine wl_build rfl 77 _ rfl _ ?hv _ bp ?hk); case hv => rfl)
    | (with_reducible refine wl_box (o := ⟨some 3, _, _, _, _, _⟩) rfl 77 (.tmp 2) _ [.bool false, .int .i64 0] rfl rfl rfl ?_; intro g1 w1 r1 p1 l1 b1))
  refine (mend_any w1 g1 false 0 r1).mono ?_
  rintro en w2 ⟨rfl, r2, o2⟩
  have p2 : w.heap.size ≤ w2.heap.size := by rw [o2.size]; exact b1.size
  have hl1 : g1 < w2.heap.size := by rw [o2.size]; exact l1
  go_wp2_with (first
    | ((with_reducible refine wl_build rfl 57 _ rfl _ ?hv3 _ (bw g1) ?hk3); case hv3 => rfl)
    | (with_reducible refine wl_box (o := ⟨some 8, _, _, _, _, _⟩) rfl 57 (.tmp 7) _ [ptr g1] rfl rfl rfl ?_; intro g3 w3 r3 p3 l3 b3))
  go_ret
  exact ⟨g3, g1, rfl, r3, r2.later b3, Nat.le_trans p2 p3, p1, fun e => by omega, (b1.trans (o2.below p1)).trans (b3.mono p2)⟩
/-- The document's power: acts. -/
theorem rAct_any (w : World) (g : Nat) (on : Bool) (fuse : Int) (h : RPw w g (!on) (max fuse (-1))) (hf : isI fuse) : Calls Try.prog 24 #[ptr g] w fun e w' => e = .returned (.int .i64 (actE on fuse)) ∧ RPw w' g (!(on && actOn on fuse)) (max (actF on fuse) (-1)) ∧ Only g w w' := by
  obtain ⟨f0, f1⟩ := hf
  rcases Int.lt_trichotomy fuse 0 with h0 | h0 | h0
  · have e2 : actF on fuse = fuse := by simp [actF]; omega
    have e3 : actOn on fuse = on := by simp [actOn]; omega
    have e4 : max fuse (-1) = -1 := by omega
    have c0 := h.cell (j := 0) (v := .bool (!on)) rfl
    have c1 := h.cell (j := 1) (v := .int .i64 (max fuse (-1))) rfl
    rw [e2, e3, e4, Bool.and_self]
    rw [e4] at c1 h
    cases on with
    | false =>
      have e1 : actE false fuse = 8 := rfl
      rw [e1]
      go_enter Try.func24, Try.ntmps24
      go_wp2_with fail
      go_ret
      exact ⟨rfl, h, Only.refl _ _⟩
    | true =>
      have e1 : actE true fuse = 0 := by simp [actE]; omega
      rw [e1]
      go_enter Try.func24, Try.ntmps24
      go_wp2_with fail
      go_ret
      exact ⟨rfl, h, Only.refl _ _⟩
  · subst h0
    have e1 : actE on 0 = 8 := by cases on <;> rfl
    have e2 : actF on 0 = 0 := by simp [actF]
    have e3 : actOn on 0 = false := rfl
    have e4 : max (0 : Int) (-1) = 0 := by omega
    rw [e1, e2, e3, e4, Bool.and_false]
    rw [e4] at h
    have c1 := h.cell (j := 1) (v := .int .i64 0) rfl
    go_enter Try.func24, Try.ntmps24
    go_wp2_with (first
      | (with_reducible refine wl_store rfl 4 (.tmp 10) (.const (.bool true)) g 0 42 [.bool (!on), .int .i64 0] (.bool true) rfl szBool rfl rfl h (lt2 _ _ (by decide)) rfl ?_; intro w2 r2 o2; have c2 := Row.cell r2 (j := 0) (v := .bool true) rfl))
    go_ret
    exact ⟨rfl, r2, o2⟩
  · have e4 : max fuse (-1) = fuse := by omega
    have d1 : decide (fuse = 0) = false := by simp; omega
    have d2 : decide (0 < fuse) = true := by simp; omega
    rw [e4] at h
    have c0 := h.cell (j := 0) (v := .bool (!on)) rfl
    have c1 := h.cell (j := 1) (v := .int .i64 fuse) rfl
    cases on with
    | false =>
      have e1 : actE false fuse = 8 := rfl
      have e2 : actF false fuse = fuse := by simp [actF]
      rw [e1, e2, e4, Bool.false_and]
      go_enter Try.func24, Try.ntmps24
      go_wp2_with fail
      go_ret
      exact ⟨rfl, h, Only.refl _ _⟩
    | true =>
      have e1 : actE true fuse = 0 := by simp [actE]; omega
      have e2 : actF true fuse = fuse - 1 := by simp [actF]; omega
      have e3 : actOn true fuse = true := by simp [actOn]; omega
      have e5 : max (fuse - 1) (-1) = fuse - 1 := by omega
      rw [e1, e2, e3, e5]
      go_enter Try.func24, Try.ntmps24
      go_wp2_with (first
        | (with_reducible refine wl_store rfl 3 (.tmp 26) (.tmp 24) g 1 42 [.bool (!true), .int .i64 fuse] (.int .i64 (fuse - 1)) rfl szInt rfl rfl h (lt2 _ _ (by decide)) rfl ?_; intro w2 r2 o2))
      go_ret
      exact ⟨rfl, r2, o2⟩
theorem rFuse_any (w : World) (g : Nat) (off : Bool) (left n : Int) (h : RPw w g off left) : Calls Try.prog 21 #[ptr g, .int .i64 n] w fun e w' => e = .returned (.tuple #[]) ∧ RPw w' g off (max n (-1)) ∧ Only g w w' := by
  by_cases hn : ¬ -1 ≤ n
  · have e4 : max n (-1) = -1 := by omega
    rw [e4]
    go_enter Try.func21, Try.ntmps21
    go_wp2_with (first
      | (with_reducible refine wl_store rfl 3 (.tmp 8) (.tmp 6) g 1 42 [.bool off, .int .i64 left] (.int .i64 (-1)) rfl szInt rfl rfl h (lt2 _ _ (by decide)) rfl ?_; intro w2 r2 o2))
    go_end0
    exact ⟨rfl, r2, o2⟩
  · have hn := Decidable.not_not.1 hn
    have e4 : max n (-1) = n := by omega
    rw [e4]
    go_enter Try.func21, Try.ntmps21
    go_wp2_with (first
      | (with_reducible refine wl_store rfl 3 (.tmp 8) (.tmp 6) g 1 42 [.bool off, .int .i64 left] (.int .i64 n) rfl szInt rfl rfl h (lt2 _ _ (by decide)) rfl ?_; intro w2 r2 o2))
    go_end0
    exact ⟨rfl, r2, o2⟩
theorem builtRP : Try.prog.built 42 [(1, .int .i64 (-1))] = some [Value.bool false, Value.int .i64 (-1)].toArray := by kernel_rfl
theorem rPlug_any (w : World) : Calls Try.prog 13 #[] w fun e w' => ∃ g, e = .returned (ptr g) ∧ RPw w' g false (-1) ∧ w.heap.size ≤ g ∧ Below w.heap.size w w' := by
  have bp := builtRP
  go_enter Try.func13, Try.ntmps13
  go_wp2_with (first
    | ((with_reducible refine wl_build rfl 42 _ rfl _ ?hv _ bp ?hk); case hv => rfl)
    | (with_reducible refine wl_box rfl 42 (.tmp 1) _ [.bool false, .int .i64 (-1)] rfl rfl rfl ?_; intro g1 w1 r1 p1 l1 b1))
  go_ret
  exact ⟨g1, rfl, r1, p1, b1⟩
end Go.Proofs.Ytaflmiopaiigbaa
