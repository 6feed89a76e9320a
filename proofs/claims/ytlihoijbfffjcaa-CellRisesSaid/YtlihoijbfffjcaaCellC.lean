/-
  Pins: bounds, order, a new cell: contracts. Own work.
-/
import Derived.Test.YtlihoijbfffjcaaCellB
namespace Go.Proofs.Ytlihoijbfffjcaa
open Go.RowKit
set_option linter.unusedVariables false
set_option linter.unusedSimpArgs false
/-- A pin. -/
abbrev pin (a b : Int) : Value := .agg [Value.int .i64 a, Value.int .i64 b].toArray
theorem szPin (a b : Int) : (Try.prog.info? 83).map (·.size) = some [Value.int .i64 a, Value.int .i64 b].length := by kernel_rfl
theorem zeroPin : (Try.prog.info? 83).map (fun i => i.zero) = some (some (.agg [Value.int .i64 0, Value.int .i64 0].toArray)) := by kernel_rfl
theorem builtPin (a b : Int) : Try.prog.built 83 [(0, .int .i64 a), (1, .int .i64 b)] = some [Value.int .i64 a, Value.int .i64 b].toArray := by kernel_rfl
theorem builtPin0 : Try.prog.built 83 [] = some [Value.int .i64 0, Value.int .i64 0].toArray := by kernel_rfl
theorem one_pin (a b : Int) : ∀ u ∈ [Value.int .i64 a, Value.int .i64 b], u.oneCell' = true := by intro u hu; simp at hu; rcases hu with rfl | rfl <;> rfl
def mostN : Int := 1099511627776
set_option maxRecDepth 100000 in
theorem alz_any (a b : Int) (w : World) : Calls Try.prog 102 #[pin a b] w fun e w' => e = .returned (pin (max a 0) (max b 0)) ∧ Below w.heap.size w w' := by
  have bt := builtPin
  have e1 : max a 0 = if a < 0 then 0 else a := by (try simp only [mostN]); split <;> omega
  have e2 : max b 0 = if b < 0 then 0 else b := by (try simp only [mostN]); split <;> omega
  rw [e1, e2]
  clear e1 e2
  go_enter Try.func102, Try.ntmps102
  go_wp2_with (first
    | (with_reducible refine wl_box rfl 83 (.tmp 0) _ [.int .i64 a, .int .i64 b] rfl rfl rfl ?_; intro g1 w1 r1 p1 l1 b1)
    | (with_reducible refine wl_alloc rfl 83 _ [.int .i64 0, .int .i64 0] rfl zeroPin rfl ?_; intro g2 w2 r2 p2 l2 b2; have r1' := r1.later b2; have c0 := r1'.cell (j := 0) (v := .int .i64 a) rfl; have c1 := r1'.cell (j := 1) (v := .int .i64 b) rfl)
    | ((with_reducible refine wl_build rfl 83 _ rfl _ ?hv _ (bt (if a < 0 then 0 else a) (if b < 0 then 0 else b)) ?hk); case hv => rfl)
    | (with_reducible refine wl_store_row rfl 83 (.tmp 2) (.tmp 9) g2 83 _ [.int .i64 (if a < 0 then 0 else a), .int .i64 (if b < 0 then 0 else b)] rfl rfl rfl r2 (szPin _ _) rfl (one_pin _ _) ?_; intro w3 r3 o3))
  all_goals
    refine bodyPost_ret (v := pin (if a < 0 then 0 else a) (if b < 0 then 0 else b)) ?_ rfl ⟨?_, ?_⟩
    · exact results_cell_row Try.results102 _ _ g2 83 _ (0, 0) _ rfl r3 Try.underlying83 rfl (szPin _ _)
    · simp [pin, *] <;> omega
    · exact (b1.trans (b2.mono b1.size)).trans (o3.below (Nat.le_trans b1.size p2))
set_option maxRecDepth 100000 in
theorem amn_any (a b : Int) (w : World) : Calls Try.prog 101 #[pin a b] w fun e w' => e = .returned (pin (min a mostN) (min b mostN)) ∧ Below w.heap.size w w' := by
  have bt := builtPin
  have e1 : min a mostN = if 1099511627776 < a then 1099511627776 else a := by (try simp only [mostN]); split <;> omega
  have e2 : min b mostN = if 1099511627776 < b then 1099511627776 else b := by (try simp only [mostN]); split <;> omega
  rw [e1, e2]
  clear e1 e2
  go_enter Try.func101, Try.ntmps101
  go_wp2_with (first
    | (with_reducible refine wl_box rfl 83 (.tmp 0) _ [.int .i64 a, .int .i64 b] rfl rfl rfl ?_; intro g1 w1 r1 p1 l1 b1)
    | (with_reducible refine wl_alloc rfl 83 _ [.int .i64 0, .int .i64 0] rfl zeroPin rfl ?_; intro g2 w2 r2 p2 l2 b2; have r1' := r1.later b2; have c0 := r1'.cell (j := 0) (v := .int .i64 a) rfl; have c1 := r1'.cell (j := 1) (v := .int .i64 b) rfl)
    | ((with_reducible refine wl_build rfl 83 _ rfl _ ?hv _ (bt (if 1099511627776 < a then 1099511627776 else a) (if 1099511627776 < b then 1099511627776 else b)) ?hk); case hv => rfl)
    | (with_reducible refine wl_store_row rfl 83 (.tmp 2) (.tmp 9) g2 83 _ [.int .i64 (if 1099511627776 < a then 1099511627776 else a), .int .i64 (if 1099511627776 < b then 1099511627776 else b)] rfl rfl rfl r2 (szPin _ _) rfl (one_pin _ _) ?_; intro w3 r3 o3))
  all_goals
    refine bodyPost_ret (v := pin (if 1099511627776 < a then 1099511627776 else a) (if 1099511627776 < b then 1099511627776 else b)) ?_ rfl ⟨?_, ?_⟩
    · exact results_cell_row Try.results101 _ _ g2 83 _ (0, 0) _ rfl r3 Try.underlying83 rfl (szPin _ _)
    · simp [pin, *] <;> omega
    · exact (b1.trans (b2.mono b1.size)).trans (o3.below (Nat.le_trans b1.size p2))

/-- Does a pin stand ahead of another one? -/
def lessB (a b c d : Int) : Bool := if a = c then decide (b < d) else decide (a < c)
theorem lessB_or (a b c d : Int) : (decide (a < c) || (decide (a = c) && decide (b < d))) = lessB a b c d := by
  unfold lessB
  by_cases h : a = c
  · subst h; simp
  · simp [h]
theorem less_any (a b c d : Int) (w : World) : Calls Try.prog 52 #[pin a b, pin c d] w fun e w' => e = .returned (.bool (lessB a b c d)) ∧ Below w.heap.size w w' := by
  by_cases h : a = c
  · subst h
    have e1 : lessB a b a d = decide (b < d) := by simp [lessB]
    have d1 : decide (a = a) = true := by simp
    rw [e1]
    go_enter Try.func52, Try.ntmps52
    go_wp2_with (first
      | (with_reducible refine wl_box (o := ⟨some 2, _, _, _, _, _⟩) rfl 83 (.tmp 0) _ [.int .i64 a, .int .i64 b] rfl rfl rfl ?_; intro g1 w1 r1 p1 l1 b1)
      | (with_reducible refine wl_box (o := ⟨some 3, _, _, _, _, _⟩) rfl 83 (.tmp 1) _ [.int .i64 a, .int .i64 d] rfl rfl rfl ?_; intro g2 w2 r2 p2 l2 b2; have r1' := r1.later b2; have c0 := r1'.cell (j := 0) (v := .int .i64 a) rfl; have c1 := r1'.cell (j := 1) (v := .int .i64 b) rfl; have c2 := r2.cell (j := 0) (v := .int .i64 a) rfl; have c3 := r2.cell (j := 1) (v := .int .i64 d) rfl))
    go_ret
    exact ⟨rfl, b1.trans (b2.mono b1.size)⟩
  · have e1 : lessB a b c d = decide (a < c) := by simp [lessB, h]
    have d1 : decide (a = c) = false := by simp [h]
    rw [e1]
    go_enter Try.func52, Try.ntmps52
    go_wp2_with (first
      | (with_reducible refine wl_box (o := ⟨some 2, _, _, _, _, _⟩) rfl 83 (.tmp 0) _ [.int .i64 a, .int .i64 b] rfl rfl rfl ?_; intro g1 w1 r1 p1 l1 b1)
      | (with_reducible refine wl_box (o := ⟨some 3, _, _, _, _, _⟩) rfl 83 (.tmp 1) _ [.int .i64 c, .int .i64 d] rfl rfl rfl ?_; intro g2 w2 r2 p2 l2 b2; have r1' := r1.later b2; have c0 := r1'.cell (j := 0) (v := .int .i64 a) rfl; have c1 := r1'.cell (j := 1) (v := .int .i64 b) rfl; have c2 := r2.cell (j := 0) (v := .int .i64 c) rfl; have c3 := r2.cell (j := 1) (v := .int .i64 d) rfl))
    go_ret
    exact ⟨rfl, b1.trans (b2.mono b1.size)⟩
theorem rless_any (a b c d : Int) (w : World) : Calls Try.prog 54 #[pin a b, pin c d] w fun e w' => e = .returned (.bool (lessB a b c d)) ∧ Below w.heap.size w w' := by
  rcases Int.lt_trichotomy a c with h | h | h
  · have d1 : decide (a < c) = true := by simp; omega
    have hne : ¬ a = c := by omega
    have e1 : lessB a b c d = true := by rw [← lessB_or, d1]; rfl
    rw [e1]
    go_enter Try.func54, Try.ntmps54
    go_wp2_with (first
      | (with_reducible refine wl_box (o := ⟨some 2, _, _, _, _, _⟩) rfl 83 (.tmp 0) _ [.int .i64 a, .int .i64 b] rfl rfl rfl ?_; intro g1 w1 r1 p1 l1 b1)
      | (with_reducible refine wl_box (o := ⟨some 3, _, _, _, _, _⟩) rfl 83 (.tmp 1) _ [.int .i64 c, .int .i64 d] rfl rfl rfl ?_; intro g2 w2 r2 p2 l2 b2; have r1' := r1.later b2; have c0 := r1'.cell (j := 0) (v := .int .i64 a) rfl; have c1 := r1'.cell (j := 1) (v := .int .i64 b) rfl; have c2 := r2.cell (j := 0) (v := .int .i64 c) rfl; have c3 := r2.cell (j := 1) (v := .int .i64 d) rfl))
    go_ret
    exact ⟨rfl, b1.trans (b2.mono b1.size)⟩

  · subst h
    have d1 : decide (a < a) = false := by simp
    have d2 : decide (a = a) = true := by simp
    have e1 : lessB a b a d = decide (b < d) := by rw [← lessB_or, d1, d2]; rfl
    rw [e1]
    go_enter Try.func54, Try.ntmps54
    go_wp2_with (first
      | (with_reducible refine wl_box (o := ⟨some 2, _, _, _, _, _⟩) rfl 83 (.tmp 0) _ [.int .i64 a, .int .i64 b] rfl rfl rfl ?_; intro g1 w1 r1 p1 l1 b1)
      | (with_reducible refine wl_box (o := ⟨some 3, _, _, _, _, _⟩) rfl 83 (.tmp 1) _ [.int .i64 a, .int .i64 d] rfl rfl rfl ?_; intro g2 w2 r2 p2 l2 b2; have r1' := r1.later b2; have c0 := r1'.cell (j := 0) (v := .int .i64 a) rfl; have c1 := r1'.cell (j := 1) (v := .int .i64 b) rfl; have c2 := r2.cell (j := 0) (v := .int .i64 a) rfl; have c3 := r2.cell (j := 1) (v := .int .i64 d) rfl))
    go_ret
    exact ⟨rfl, b1.trans (b2.mono b1.size)⟩

  · have d1 : decide (a < c) = false := by simp; omega
    have d2 : decide (a = c) = false := by simp; omega
    have e1 : lessB a b c d = false := by rw [← lessB_or, d1, d2]; rfl
    rw [e1]
    go_enter Try.func54, Try.ntmps54
    go_wp2_with (first
      | (with_reducible refine wl_box (o := ⟨some 2, _, _, _, _, _⟩) rfl 83 (.tmp 0) _ [.int .i64 a, .int .i64 b] rfl rfl rfl ?_; intro g1 w1 r1 p1 l1 b1)
      | (with_reducible refine wl_box (o := ⟨some 3, _, _, _, _, _⟩) rfl 83 (.tmp 1) _ [.int .i64 c, .int .i64 d] rfl rfl rfl ?_; intro g2 w2 r2 p2 l2 b2; have r1' := r1.later b2; have c0 := r1'.cell (j := 0) (v := .int .i64 a) rfl; have c1 := r1'.cell (j := 1) (v := .int .i64 b) rfl; have c2 := r2.cell (j := 0) (v := .int .i64 c) rfl; have c3 := r2.cell (j := 1) (v := .int .i64 d) rfl))
    go_ret
    exact ⟨rfl, b1.trans (b2.mono b1.size)⟩

/-- A bound that may be. -/
def bnd (n : Int) : Int := min (max n 0) mostN
theorem bound_any (n : Int) (w : World) : Calls Try.prog 53 #[.int .i64 n] w fun e w' => e = .returned (.int .i64 (bnd n)) ∧ w = w' := by
  by_cases h0 : n < 0
  · have d1 : decide (n < 0) = true := by simp; omega
    have e1 : bnd n = 0 := by simp only [bnd, mostN]; omega
    rw [e1]
    go_enter Try.func53, Try.ntmps53
    go_wp2
    go_ret
    exact ⟨rfl, rfl⟩
  · have d1 : decide (n < 0) = false := by simp; omega
    by_cases h1 : 1099511627776 < n
    · have d2 : decide (1099511627776 < n) = true := by simp; omega
      have e1 : bnd n = 1099511627776 := by simp only [bnd, mostN]; omega
      rw [e1]
      go_enter Try.func53, Try.ntmps53
      go_wp2
      go_ret
      exact ⟨rfl, rfl⟩
    · have d2 : decide (1099511627776 < n) = false := by simp; omega
      have e1 : bnd n = n := by simp only [bnd, mostN]; omega
      rw [e1]
      go_enter Try.func53, Try.ntmps53
      go_wp2
      go_ret
      exact ⟨rfl, rfl⟩
end Go.Proofs.Ytlihoijbfffjcaa
