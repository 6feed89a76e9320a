/-
  The disk: New; the library's sort of no names at all. Own work.
-/
import Derived.Test.YtaflmiopaiigbaaDiskK
import Derived.Test.YtaflmiopaiigbaaSortS
import Derived.Shelf.Small.Bits
import Derived.Sort.OwnSorted
namespace Go.Proofs.Ytaflmiopaiigbaa
open Go.RowKit Go.Maps Go.ChangeMaps
set_option linter.unusedVariables false
set_option linter.unusedSimpArgs false
set_option maxRecDepth 100000 in
theorem insNil (w : World) : Calls Try.prog 72 #[.slice none 0 0, .int .i64 0, .int .i64 0] w fun e w' => e = .returned (.tuple #[]) ∧ w = w' := by
  go_enter Try.func72, Try.ntmps72
  go_wp2_with fail
  go_loopw [6] (fun iv wr => iv = .int .i64 1 ∧ wr = w) (fun _ _ => 0)
  case atStart => exact ⟨rfl, rfl⟩
  case round =>
    obtain ⟨rfl, rfl⟩ := hrel
    go_wp2_with fail
    go_end0
    exact ⟨rfl, rfl⟩
set_option maxRecDepth 100000 in
theorem pdqNil (w : World) (v : Int) : Calls Try.prog 70 #[.slice none 0 0, .int .i64 0, .int .i64 0, .int .i64 v] w fun e w' => e = .returned (.tuple #[]) ∧ w = w' := by
  go_enter Try.func70, Try.ntmps70
  go_wp2_with fail
  go_loopw [1, 2] (fun a1 a2 wr => a1 = .int .i64 0 ∧ a2 = .int .i64 0 ∧ wr = w) (fun _ _ _ => 0)
  case atStart => exact ⟨rfl, rfl, rfl⟩
  case round =>
    obtain ⟨rfl, rfl, rfl⟩ := hrel
    go_wp2_with fail
    refine (insNil _).mono ?_
    rintro e w1 ⟨rfl, rfl⟩
    go_wp2_with fail
    first | go_end0 | refine bodyPost_ret (results_none rfl _ _ _) rfl ?_
    exact ⟨rfl, rfl⟩
theorem lenNil (w : World) : Calls Try.prog 71 #[.int .u64 0] w fun e w' => e = .returned (.int .i64 0) ∧ w = w' :=
  (Any.bits_Len (P := Try.prog) (ρ := sortS_ren) { sortS with } 0 w (by decide) (by decide)).mono fun e w' h => ⟨h.1, h.2.symm⟩
set_option maxRecDepth 100000 in
theorem sortNil (w : World) : Calls Try.prog 48 #[.slice none 0 0] w fun e w' => e = .returned (.tuple #[]) ∧ w = w' := by
  go_enter Try.func48, Try.ntmps48
  go_wp2_with fail
  refine (lenNil w).mono ?_
  rintro e w1 ⟨rfl, rfl⟩
  go_wp2_with fail
  refine (pdqNil w _).mono ?_
  rintro e w1 ⟨rfl, rfl⟩
  go_wp2_with fail
  go_end0
  exact ⟨rfl, rfl⟩
/-- Names of one's own are sorted. -/
theorem sort_own (w : World) (B : Nat) (v : Value) (ss : List Nm) (h : w.ownsRow B 9 1 v ss.length (ss.map encStr)) (hl : ss.length < 4611686018427387904) :
    Calls Try.prog 48 #[v] w fun e w' => e = .returned (.tuple #[]) ∧ w'.ownsRow B 9 1 v ss.length ((ss.mergeSort leB).map encStr) ∧ w.grownBy w' v.ownBlock := by
  rcases h.2 with ⟨rfl, h0⟩ | ⟨g, cap, cur, rfl, hbase, hb, h1, h2, h3, h4⟩
  · refine (sortNil w).mono ?_
    rintro e w' ⟨rfl, rfl⟩
    obtain rfl : ss = [] := List.eq_nil_of_length_eq_zero h0
    exact ⟨rfl, ⟨by simp, .inl ⟨rfl, rfl⟩⟩, ⟨rfl, rfl, rfl, Nat.le_refl _, fun _ _ _ => rfl⟩⟩
  · refine (Any.slices_Sort_string (P := Try.prog) (ρ := sortS_ren) sortS g 0 cap ss w (holds_of_block hb (by simpa using h4)) (Array.getElem?_eq_some_iff.1 hb).1 hl).mono ?_
    rintro e w' ⟨rfl, n, os, rfl⟩
    exact ⟨rfl, ownsRow_sorted (by simp) hbase hb h1 h2 h3, grownBy_sorted _⟩
theorem new_any (w : World) (gP : Nat) (pa : Option Addr) (h : Row w 57 gP [.pointer pa]) : Calls Try.prog 12 #[ptr gP] w fun e w' => ∃ gd mb, e = .returned (ptr gd) ∧ DiskAt w' w.heap.size gd (.pointer pa) mb [] ∧ Below w.heap.size w w' := by
  have hb : ∀ mb, Try.prog.built 72 [(0, .pointer pa), (1, .map (some mb))] = some [Value.pointer pa, Value.map (some mb)].toArray := by intro mb; kernel_rfl
  go_enter Try.func12, Try.ntmps12
  go_wp2_with fail
  refine (shared_any w gP _ h).mono ?_
  rintro en w1 ⟨rfl, rfl⟩
  go_wp2_with (first
    | ((with_reducible refine wl_makeMap rfl rfl ?_); intro mb w2 m2 p2 b2)
    | ((with_reducible refine wl_build rfl 72 _ rfl _ ?hv _ (hb mb) ?hk); case hv => rfl)
    | ((with_reducible refine wl_box rfl 72 _ _ [.pointer pa, .map (some mb)] rfl rfl rfl ?_); intro gd w3 r3 p3 l3 b3))
  go_ret
  exact ⟨gd, mb, rfl, ⟨r3, ⟨Nat.le_trans b2.size p3, p2⟩, m2.later b3, FilesAt.nil _ _, by decide⟩, b2.trans (b3.mono b2.size)⟩
set_option maxRecDepth 100000 in
theorem new_nil (w : World) : Calls Try.prog 12 #[.pointer none] w fun e w' => ∃ gd mb, e = .returned (ptr gd) ∧ DiskAt w' w.heap.size gd (.pointer none) mb [] ∧ Below w.heap.size w w' := by
  have hb : ∀ mb, Try.prog.built 72 [(0, .pointer none), (1, .map (some mb))] = some [Value.pointer none, Value.map (some mb)].toArray := by intro mb; kernel_rfl
  go_enter Try.func12, Try.ntmps12
  go_wp2_with fail
  refine (shared_nil w).mono ?_
  rintro en w1 ⟨rfl, rfl⟩
  go_wp2_with (first
    | ((with_reducible refine wl_makeMap rfl rfl ?_); intro mb w2 m2 p2 b2)
    | ((with_reducible refine wl_build rfl 72 _ rfl _ ?hv _ (hb mb) ?hk); case hv => rfl)
    | ((with_reducible refine wl_box rfl 72 _ _ [.pointer none, .map (some mb)] rfl rfl rfl ?_); intro gd w3 r3 p3 l3 b3))
  go_ret
  exact ⟨gd, mb, rfl, ⟨r3, ⟨Nat.le_trans b2.size p3, p2⟩, m2.later b3, FilesAt.nil _ _, by decide⟩, b2.trans (b3.mono b2.size)⟩
end Go.Proofs.Ytaflmiopaiigbaa
