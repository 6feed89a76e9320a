/-
  Poly: what it reads of bytes: contracts. Own work.
-/
import Derived.Test.YtcinhofapkddpaaMem2
import Derived.Test.YtcinhofapkddpaaPackU
namespace Go.Proofs.Ytcinhofapkddpaa
open Go.RowKit
set_option linter.unusedVariables false
set_option linter.unusedSimpArgs false
set_option maxRecDepth 100000 in
theorem len64_64 (w : World) : Calls Try.prog 46 #[.int .u64 18446744073709551615] w fun e w' => e = .returned (.int .i64 64) ∧ w = w' := by
  go_enter Try.func46, Try.ntmps46
  go_wp2
  go_ret
  exact ⟨by kernel_rfl, rfl⟩
set_option maxRecDepth 100000 in
theorem width64_any (w : World) : Calls Try.prog 44 #[] w fun e w' => e = .returned (.int .i64 8) ∧ w = w' := by
  go_enter Try.func44, Try.ntmps44
  go_wp2_with (go_at_call 46; refine (len64_64 _).mono ?_; rintro e w' ⟨rfl, rfl⟩)
  go_ret
  exact ⟨rfl, rfl⟩
set_option maxRecDepth 100000 in
set_option maxHeartbeats 400000 in
theorem fromLow64_any (A : Option Addr) (m c p : Nat) (xs : List Int) (w : World) (h : Bs w w.heap.size A m xs) (hx : IsBy xs) (hm : m ≤ 1000000) (hp : p ≤ 1000000) :
    Calls Try.prog 42 #[.slice A m c, .int .i64 (p : Int)] w fun e w' => e = .returned (.int .u64 (leV xs p 8)) ∧ w = w' := by
  go_enter Try.func42, Try.ntmps42
  go_wp2_with (go_at_call 44; refine (width64_any _).mono ?_; rintro e w' ⟨rfl, rfl⟩)
  go_loop [5, 9] (fun v i => ∃ k : Nat, k ≤ 8 ∧ i = .int .i64 k ∧ v = .int .u64 (leV xs p k)) (fun _ i => 8 - (intOf i).toNat)
  case atStart => exact ⟨0, Nat.zero_le _, rfl, rfl⟩
  case round =>
    obtain ⟨k, hk, rfl, rfl⟩ := hrel
    obtain ⟨q0, q1⟩ := leV_bound hx p k
    by_cases hlt : k < 8
    · by_cases hin : p + k < m
      · obtain ⟨b, o, rfl, hb, hc⟩ := h.at_ hin
        obtain ⟨b0, b1⟩ := getD_byte hx (p + k)
        have HO := hide (or_next64 k hlt q0 q1 b0 b1)
        go_wp2
        go_round
        case rel => exact ⟨k + 1, by omega, by go_num, congrArg (Value.int .u64) (by have := HO.out; simpa [leV, List.getD] using this)⟩
        case measure => simp [intOf]; omega
      · have hz : xs.getD (p + k) 0 = 0 := by
          have := h.1
          simp [List.getD, List.getElem?_eq_none (show xs.length ≤ p + k by omega)]
        have HZ := hide hz
        clear hz
        go_wp2
        go_round
        case rel => exact ⟨k + 1, by omega, by go_num, congrArg (Value.int .u64) (by rw [leV, HZ.out]; omega)⟩
        case measure => simp [intOf]; omega
    · go_wp2
      go_ret
      obtain rfl : k = 8 := by omega
      exact ⟨rfl, rfl⟩
set_option maxRecDepth 100000 in
theorem le64_any (A : Option Addr) (m c p : Nat) (xs : List Int) (w : World) (h : Bs w w.heap.size A m xs) (hx : IsBy xs) (hm : m ≤ 1000000) (hp : p ≤ 1000000) :
    Calls Try.prog 37 #[.slice A m c, .int .i64 (p : Int)] w fun e w' => e = .returned (.int .u64 (leV xs p 8)) ∧ w = w' := by
  go_enter Try.func37, Try.ntmps37
  go_wp2_with (go_at_call 42; refine (fromLow64_any A m c p xs _ h hx hm hp).mono ?_; rintro e w' ⟨rfl, rfl⟩)
  go_ret
  exact ⟨rfl, rfl⟩
/-- A number's three words. -/
def n3 (a b c : Int) : List Value := [.int .u64 a, .int .u64 b, .int .u64 c]
theorem zeroN3 : (Try.prog.info? 46).map (fun i => i.zero) = some (some (.agg (n3 0 0 0).toArray)) := by kernel_rfl
theorem sizeN3 (a b c : Int) : (Try.prog.info? 46).map (·.size) = some (n3 a b c).length := by kernel_rfl
theorem oneN3 (a b c : Int) : ∀ u ∈ n3 a b c, u.oneCell' = true := by
  intro u hu
  simp only [n3, List.mem_cons, List.not_mem_nil, or_false] at hu
  rcases hu with rfl | rfl | rfl <;> rfl
theorem builtN3 (a b c : Int) : Try.prog.built 46 [(0, .int .u64 a), (1, .int .u64 b), (2, .int .u64 c)] = some (n3 a b c).toArray := by kernel_rfl
set_option maxRecDepth 100000 in
set_option maxHeartbeats 1000000 in
theorem fromBytes_any (A : Option Addr) (m c : Nat) (xs : List Int) (w : World) (h : Bs w w.heap.size A m xs) (hx : IsBy xs) (hm : m ≤ 1000000) :
    Calls Try.prog 24 #[.slice A m c] w fun e w' => e = .returned (.agg (n3 (leV xs 0 8) (leV xs 8 8) (leV xs 16 8)).toArray) ∧ Below w.heap.size w w' := by
  have hL0 := fun w h => le64_any A m c 0 xs w h hx hm (by omega)
  have hL1 := fun w h => le64_any A m c 8 xs w h hx hm (by omega)
  have hL2 := fun w h => le64_any A m c 16 xs w h hx hm (by omega)
  generalize leV xs 0 8 = X0 at *
  generalize leV xs 8 8 = X1 at *
  generalize leV xs 16 8 = X2 at *
  go_enter Try.func24, Try.ntmps24
  go_wp2_with (first
    | (with_reducible refine wl_alloc rfl 46 _ (n3 0 0 0) rfl zeroN3 rfl ?_; intro g2 w2 r2 a2 l2 b2))
  have hb := h.later b2
  refine (hL0 w2 hb).mono ?_
  rintro e w' ⟨rfl, rfl⟩
  go_wp2_with fail
  refine (hL1 w2 hb).mono ?_
  rintro e w' ⟨rfl, rfl⟩
  go_wp2_with fail
  refine (hL2 w2 hb).mono ?_
  rintro e w' ⟨rfl, rfl⟩
  go_wp2_with (first
    | ((with_reducible refine wl_build rfl 46 _ rfl _ ?hv _ (builtN3 X0 X1 X2) ?hk); case hv => rfl)
    | (with_reducible refine wl_store_row rfl 46 (.tmp 2) (.tmp 9) g2 46 _ (n3 X0 X1 X2) rfl rfl rfl r2 (sizeN3 _ _ _) rfl (oneN3 _ _ _) ?_; intro w3 r3 o3))
  refine bodyPost_ret (v := .agg (n3 X0 X1 X2).toArray) ?_ rfl ⟨rfl, ?_⟩
  · exact results_cell_row Try.results24 _ _ g2 46 _ (0, 0) _ rfl r3 Try.underlying46 rfl (by simpa using sizeN3 X0 X1 X2)
  · exact b2.trans (o3.below a2)
end Go.Proofs.Ytcinhofapkddpaa
