/-
  Several own texts in one: ValS, ValT, ValU, ValV, ValW, ValX, ValY, ValZ. Own work.
-/
import Derived.Shelf.Small.Bits
import Derived.Sort.OwnSorted
import Derived.Sort.KeysCollected
import Derived.ChangeArms
import Derived.OpenShut
import Derived.SizedLaws
import Derived.Test.YtpbkejmffddelaaGreatGE
import Derived.Test.YtpbkejmffddelaaGreatGA
set_option linter.unusedVariables false
set_option linter.unusedSimpArgs false
/-
  The texts of a table, sorted. Own work.
-/
namespace Go.Proofs.YtpbkejmffddelaaGreat
open Go.RowKit Go.Maps Go.ChangeMaps
set_option maxRecDepth 100000 in
theorem insNil (w : World) : Calls Tryz.prog 157 #[.slice none 0 0, .int .i64 0, .int .i64 0] w fun e w' => e = .returned (.tuple #[]) ∧ w = w' := by
  go_enter Tryz.func157, Tryz.ntmps157
  go_wp2_with fail
  go_loopw [6] (fun iv wr => iv = .int .i64 1 ∧ wr = w) (fun _ _ => 0)
  case atStart => exact ⟨rfl, rfl⟩
  case round =>
    obtain ⟨rfl, rfl⟩ := hrel
    go_wp2_with fail
    go_end0
    exact ⟨rfl, rfl⟩
set_option maxRecDepth 100000 in
theorem pdqNil (w : World) (v : Int) : Calls Tryz.prog 151 #[.slice none 0 0, .int .i64 0, .int .i64 0, .int .i64 v] w fun e w' => e = .returned (.tuple #[]) ∧ w = w' := by
  go_enter Tryz.func151, Tryz.ntmps151
  go_wp2_with fail
  go_loopw [1, 2] (fun a1 a2 wr => a1 = .int .i64 0 ∧ a2 = .int .i64 0 ∧ wr = w) (fun _ _ _ => 0)
  case atStart => exact ⟨rfl, rfl, rfl⟩
  case round =>
    obtain ⟨rfl, rfl, rfl⟩ := hrel
    go_wp2_with fail
    refine (insNil _).mono ?_
    rintro e w1 ⟨rfl, rfl⟩
    go_wp2_with fail
    first | go_end0 | refine bodyPost_ret (results_none rfl _ _ _) rfl ?_
    exact ⟨rfl, rfl⟩
theorem lenNil (w : World) : Calls Tryz.prog 152 #[.int .u64 0] w fun e w' => e = .returned (.int .i64 0) ∧ w = w' :=
  (Any.bits_Len (P := Tryz.prog) (ρ := sortS_ren) { sortS with } 0 w (by decide) (by decide)).mono fun e w' h => ⟨h.1, h.2.symm⟩
set_option maxRecDepth 100000 in
theorem sortNil (w : World) : Calls Tryz.prog 130 #[.slice none 0 0] w fun e w' => e = .returned (.tuple #[]) ∧ w = w' := by
  go_enter Tryz.func130, Tryz.ntmps130
  go_wp2_with fail
  refine (lenNil w).mono ?_
  rintro e w1 ⟨rfl, rfl⟩
  go_wp2_with fail
  refine (pdqNil w _).mono ?_
  rintro e w1 ⟨rfl, rfl⟩
  go_wp2_with fail
  go_end0
  exact ⟨rfl, rfl⟩
/-- Names of one's own are sorted. -/
theorem sort_own (w : World) (B : Nat) (v : Value) (ss : List Nm) (h : w.ownsRow B 9 1 v ss.length (ss.map encStr)) (hl : ss.length < 4611686018427387904) :
    Calls Tryz.prog 130 #[v] w fun e w' => e = .returned (.tuple #[]) ∧ w'.ownsRow B 9 1 v ss.length ((ss.mergeSort leB).map encStr) ∧ w.grownBy w' v.ownBlock := by
  rcases h.2 with ⟨rfl, h0⟩ | ⟨g, cap, cur, rfl, hbase, hb, h1, h2, h3, h4⟩
  · refine (sortNil w).mono ?_
    rintro e w' ⟨rfl, rfl⟩
    obtain rfl : ss = [] := List.eq_nil_of_length_eq_zero h0
    exact ⟨rfl, ⟨by simp, .inl ⟨rfl, rfl⟩⟩, ⟨rfl, rfl, rfl, Nat.le_refl _, fun _ _ _ => rfl⟩⟩
  · refine (Any.slices_Sort_string (P := Tryz.prog) (ρ := sortS_ren) sortS g 0 cap ss w (holds_of_block hb (by simpa using h4)) (Array.getElem?_eq_some_iff.1 hb).1 hl).mono ?_
    rintro e w' ⟨rfl, n, os, rfl⟩
    exact ⟨rfl, ownsRow_sorted (by simp) hbase hb h1 h2 h3, grownBy_sorted _⟩
theorem bb_lt : ∀ a b : List UInt8, bytesBefore a b = true → a < b
  | [], [], h => by simp [bytesBefore] at h
  | [], b :: s, _ => List.nil_lt_cons ..
  | a :: r, [], h => by simp [bytesBefore] at h
  | a :: r, b :: s, h => by
    simp only [bytesBefore, Bool.or_eq_true, Bool.and_eq_true, decide_eq_true_eq, beq_iff_eq] at h
    rw [List.cons_lt_cons_iff]
    rcases h with h | ⟨h1, h2⟩
    · exact .inl h
    · exact .inr ⟨h1, bb_lt r s h2⟩
theorem sorted_names {l : Ents} (h : riseE l) : (l.map (·.1)).mergeSort leB = l.map (·.1) := by
  refine List.mergeSort_of_pairwise (List.pairwise_map.2 (h.imp fun {p q} hpq => ?_))
  simp only [leB, decide_eq_true_eq]
  exact List.le_of_lt (bb_lt _ _ hpq)
theorem owb_later {w w' : World} {T e n : Nat} {v : Value} {xs : List Value} (h : w.ownsRow T e 1 v n xs) (hb : Below w.heap.size w w') : w'.ownsRow T e 1 v n xs := by
  have hlt := h.lt
  refine ⟨h.1, h.2.imp id fun ⟨g, cap, cur, e, h1, hg, h2⟩ => ⟨g, cap, cur, e, h1, (hb.block g (Array.getElem?_eq_some_iff.1 hg).1).trans hg, h2⟩⟩
theorem below_grown {w w' : World} (h : Below w.heap.size w w') : w.grownBy w' none := ⟨h.os, h.tape, h.output, h.size, fun i hi _ => h.block i hi⟩
theorem own_low {w : World} {B B' e size n : Nat} {v : Value} {xs : List Value} (h : w.ownsRow B e size v n xs) (hB : B' ≤ B) : w.ownsRow B' e size v n xs :=
  ⟨h.1, h.2.imp id fun ⟨g, cap, cur, e, h1, r⟩ => ⟨g, cap, cur, e, Nat.le_trans hB h1, r⟩⟩
set_option maxRecDepth 100000 in
set_option maxHeartbeats 1000000 in
theorem textsP_any (w : World) (mb : Nat) (l : Ents) (hm : MapAt w mb l) (hl : l.length ≤ 1000) :
    Calls Tryz.prog 91 #[.agg #[.map (some mb)]] w fun e w' => ∃ v, e = .returned v ∧ w'.ownsRow w.heap.size 9 1 v l.length ((l.map (·.1)).map encStr) ∧ Below w.heap.size w w' := by
  obtain ⟨i0, hi, hz, hs, hb⟩ := wordI
  have hbl := hm.lt
  have hown : w.ownsMap Tryz.prog 9 heldE mb l.length (entD l) := hm
  have hsz : size (entD l) = l.length := entD_size l
  have HM := hide hm
  clear hm
  go_enter Tryz.func91, Tryz.ntmps91
  go_wp2_with (first
    | ((with_reducible refine wl_box (o := ⟨some 1, _, _, _, _, _⟩) rfl 66 (.tmp 0) _ [.map (some mb)] rfl rfl rfl ?_); intro g1 wb r1 p1 l1 b1; have c1 := r1.cell (j := 0) rfl; have hownb : wb.ownsMap Tryz.prog 9 heldE mb l.length (entD l) := HM.out.later b1)
    | (at_range; refine wpList_range_own _ rfl _ 64 rfl 9 87 keyS Tryz.underlying64 _ mb l.length _ rfl hownb ?_; intro w0 hrg0 hg0 hs0)
    | go_in)
  clear hs0
  replace hbl := Nat.lt_of_lt_of_le hbl b1.size
  go_frame
  go_loopw [3] (fun v wr => ∃ (left : Lit → Bool) (cnt : Nat) (ss : List Nm), wr.ranges Tryz.prog 9 heldE mb wb.heap.size l.length (entD l) left cnt ∧ ss.length + cnt ≤ l.length ∧ wr.ownsRow wb.heap.size 9 1 v ss.length (ss.map encStr) ∧ Collected (entD l) left ss ∧ Below wb.heap.size wb wr)
    (fun _ wr => wr.rangeLeft mb wb.heap.size)
  case atStart => exact ⟨_, _, [], hrg0, by simp [hsz], World.ownsRow_nil _ _ _ _, Collected.start _, (Below.refl _ _).grown hg0 (Nat.le_refl _) (fun j hj => by cases hj)⟩
  case round =>
    clear hrg0 hg0 c1
    obtain ⟨left, cnt, ss, hrg, hcs, hrow, hC, hnx⟩ := hrel
    go_wp2_with (first
      | (at_next; refine wpList_next_ranges _ rfl _ rfl 9 keyS heldE encStr (fun v : Value => v) (fun key kl hk => by obtain ⟨x, hx, _⟩ := Maps.keyOf_str Tryz.underlying9 hk; exact ⟨x, hx⟩) (fun v y _ => ⟨v, rfl⟩) mb wb.heap.size l.length _ _ _ rfl hrg ?_ ?_)
      | go_in)
    · intro hc0 hl0
      have hperm := hC.perm hownb keyS Tryz.underlying9 hl0
      rw [entD_keys] at hperm
      have hsort := (mergeSort_of_perm hperm).trans (sorted_names HM.out.rise)
      have hlen : ss.length = l.length := by simpa using hperm.length_eq
      have HS := sort_own wr wb.heap.size _ ss hrow (by omega)
      rw [hsort, hlen] at HS
      have hlt := hrow.lt
      clear hperm hsort hC hcs
      go_wp2_with fail
      refine HS.mono ?_
      rintro e w2 ⟨rfl, own2, hg2⟩
      go_wp2_with fail
      go_ret
      exact ⟨_, rfl, own_low own2 b1.size, b1.trans ((hnx.grown hg2 hnx.size (fun j hj => (hlt j hj).1)).mono b1.size)⟩
    · intro x c kl yd yp w2 cnt2 hkey hlk hv hat hrg2 hlt hg2 hs2 hen
      obtain ⟨x', ex, rfl, _⟩ := Maps.keyOf_str Tryz.underlying9 hkey
      obtain rfl : x = x' := encStr_inj ex
      have hrow2 := hrow.kept hg2 (.inr (row_ne_iter hrow hrg).symm)
      have sz2 : wb.heap.size ≤ w2.heap.size := Nat.le_trans hnx.size hg2.size
      have hl1 := hide (show ss.length + 1 ≤ maxLen by simp only [maxLen]; omega)
      have hl2 := hide (show (ss.length + 1) * 16 ≤ 140737488355328 by omega)
      clear hs2
      go_wp2_with (first
        | ((with_reducible refine wl_build1 rfl 23 (.tmp 13) rfl 9 i0 (.string ByteArray.empty) (encStr x) Tryz.underlying23 hi hz hs rfl rfl rfl ?_); intro g3 w3 r3 p3 l3 b3; have hrow3 := owb_later hrow2 b3)
        | ((with_reducible refine wl_append_at rfl (.tmp 12) (.tmp 14) 23 rfl wb.heap.size 9 i0 (.string ByteArray.empty) 1 16 Tryz.underlying23 hi hz hs hb rfl (by decide) u3 ss.length (ss.map encStr) rfl hrow3 ⟨g3, 0, none⟩ 1 1 [encStr x] rfl rfl (row_src r3) ((by simp [Value.oneCell', encStr])) hl1.out hl2.out (Nat.le_trans sz2 b3.size) ?_); intro v' w4 own4 hg4 hl4))
      have hrg3 := (hrg2.kept (below_grown b3) (by simp) (by simp)).kept hg4 (row_ne_low hrow3 hbl) (row_ne_iter hrow3 (hrg2.kept (below_grown b3) (by simp) (by simp)))
      have hlt3 := hrow3.lt
      go_roundw
      case rel =>
        refine ⟨_, cnt2, ss ++ [x], hrg3, by simp; omega, by simpa using own4, hC.step hlk hat, ?_⟩
        exact ((hnx.grown hg2 hnx.size (fun j hj => by cases hj; exact Nat.le_refl _)).trans (b3.mono sz2)).grown hg4 (Nat.le_trans sz2 b3.size) (fun j hj => (hlt3 j hj).1)
      case measure => rw [hrg3.left_eq, hrg.left_eq]; exact hlt

set_option maxRecDepth 100000 in
set_option maxHeartbeats 1000000 in
theorem textsU_any (w : World) (mb : Nat) (l : Ents) (hm : MapAt w mb l) (hl : l.length ≤ 1000) :
    Calls Tryz.prog 100 #[.agg #[.map (some mb)]] w fun e w' => ∃ v, e = .returned v ∧ w'.ownsRow w.heap.size 9 1 v l.length ((l.map (·.1)).map encStr) ∧ Below w.heap.size w w' := by
  obtain ⟨i0, hi, hz, hs, hb⟩ := wordI
  have hbl := hm.lt
  have hown : w.ownsMap Tryz.prog 9 heldE mb l.length (entD l) := hm
  have hsz : size (entD l) = l.length := entD_size l
  have HM := hide hm
  clear hm
  go_enter Tryz.func100, Tryz.ntmps100
  go_wp2_with (first
    | ((with_reducible refine wl_box (o := ⟨some 1, _, _, _, _, _⟩) rfl 69 (.tmp 0) _ [.map (some mb)] rfl rfl rfl ?_); intro g1 wb r1 p1 l1 b1; have c1 := r1.cell (j := 0) rfl; have hownb : wb.ownsMap Tryz.prog 9 heldE mb l.length (entD l) := HM.out.later b1)
    | (at_range; refine wpList_range_own _ rfl _ 67 rfl 9 113 keyS Tryz.underlying67 _ mb l.length _ rfl hownb ?_; intro w0 hrg0 hg0 hs0)
    | go_in)
  clear hs0
  replace hbl := Nat.lt_of_lt_of_le hbl b1.size
  go_frame
  go_loopw [3] (fun v wr => ∃ (left : Lit → Bool) (cnt : Nat) (ss : List Nm), wr.ranges Tryz.prog 9 heldE mb wb.heap.size l.length (entD l) left cnt ∧ ss.length + cnt ≤ l.length ∧ wr.ownsRow wb.heap.size 9 1 v ss.length (ss.map encStr) ∧ Collected (entD l) left ss ∧ Below wb.heap.size wb wr)
    (fun _ wr => wr.rangeLeft mb wb.heap.size)
  case atStart => exact ⟨_, _, [], hrg0, by simp [hsz], World.ownsRow_nil _ _ _ _, Collected.start _, (Below.refl _ _).grown hg0 (Nat.le_refl _) (fun j hj => by cases hj)⟩
  case round =>
    clear hrg0 hg0 c1
    obtain ⟨left, cnt, ss, hrg, hcs, hrow, hC, hnx⟩ := hrel
    go_wp2_with (first
      | (at_next; refine wpList_next_ranges _ rfl _ rfl 9 keyS heldE encStr (fun v : Value => v) (fun key kl hk => by obtain ⟨x, hx, _⟩ := Maps.keyOf_str Tryz.underlying9 hk; exact ⟨x, hx⟩) (fun v y _ => ⟨v, rfl⟩) mb wb.heap.size l.length _ _ _ rfl hrg ?_ ?_)
      | go_in)
    · intro hc0 hl0
      have hperm := hC.perm hownb keyS Tryz.underlying9 hl0
      rw [entD_keys] at hperm
      have hsort := (mergeSort_of_perm hperm).trans (sorted_names HM.out.rise)
      have hlen : ss.length = l.length := by simpa using hperm.length_eq
      have HS := sort_own wr wb.heap.size _ ss hrow (by omega)
      rw [hsort, hlen] at HS
      have hlt := hrow.lt
      clear hperm hsort hC hcs
      go_wp2_with fail
      refine HS.mono ?_
      rintro e w2 ⟨rfl, own2, hg2⟩
      go_wp2_with fail
      go_ret
      exact ⟨_, rfl, own_low own2 b1.size, b1.trans ((hnx.grown hg2 hnx.size (fun j hj => (hlt j hj).1)).mono b1.size)⟩
    · intro x c kl yd yp w2 cnt2 hkey hlk hv hat hrg2 hlt hg2 hs2 hen
      obtain ⟨x', ex, rfl, _⟩ := Maps.keyOf_str Tryz.underlying9 hkey
      obtain rfl : x = x' := encStr_inj ex
      have hrow2 := hrow.kept hg2 (.inr (row_ne_iter hrow hrg).symm)
      have sz2 : wb.heap.size ≤ w2.heap.size := Nat.le_trans hnx.size hg2.size
      have hl1 := hide (show ss.length + 1 ≤ maxLen by simp only [maxLen]; omega)
      have hl2 := hide (show (ss.length + 1) * 16 ≤ 140737488355328 by omega)
      clear hs2
      go_wp2_with (first
        | ((with_reducible refine wl_build1 rfl 23 (.tmp 13) rfl 9 i0 (.string ByteArray.empty) (encStr x) Tryz.underlying23 hi hz hs rfl rfl rfl ?_); intro g3 w3 r3 p3 l3 b3; have hrow3 := owb_later hrow2 b3)
        | ((with_reducible refine wl_append_at rfl (.tmp 12) (.tmp 14) 23 rfl wb.heap.size 9 i0 (.string ByteArray.empty) 1 16 Tryz.underlying23 hi hz hs hb rfl (by decide) u3 ss.length (ss.map encStr) rfl hrow3 ⟨g3, 0, none⟩ 1 1 [encStr x] rfl rfl (row_src r3) ((by simp [Value.oneCell', encStr])) hl1.out hl2.out (Nat.le_trans sz2 b3.size) ?_); intro v' w4 own4 hg4 hl4))
      have hrg3 := (hrg2.kept (below_grown b3) (by simp) (by simp)).kept hg4 (row_ne_low hrow3 hbl) (row_ne_iter hrow3 (hrg2.kept (below_grown b3) (by simp) (by simp)))
      have hlt3 := hrow3.lt
      go_roundw
      case rel =>
        refine ⟨_, cnt2, ss ++ [x], hrg3, by simp; omega, by simpa using own4, hC.step hlk hat, ?_⟩
        exact ((hnx.grown hg2 hnx.size (fun j hj => by cases hj; exact Nat.le_refl _)).trans (b3.mono sz2)).grown hg4 (Nat.le_trans sz2 b3.size) (fun j hj => (hlt3 j hj).1)
      case measure => rw [hrg3.left_eq, hrg.left_eq]; exact hlt

end Go.Proofs.YtpbkejmffddelaaGreat

/-
  Calls of no set; lengths and rows of tables; slices.Clone of nothing. Own work.
-/
namespace Go.Proofs.YtpbkejmffddelaaGreat
open Go.RowKit Go.Shelf Go.Maps
/-- A set that no call made. -/
def NoSet (w : World) (v : Value) : Prop := v = .pointer none ∨ ∃ g, v = ptr g ∧ Row w 152 g [.map none, .pointer none]
theorem NoSet.later {w w' : World} {v : Value} (h : NoSet w v) (hb : Below w.heap.size w w') : NoSet w' v :=
  h.imp id fun ⟨g, e, r⟩ => ⟨g, e, r.later hb⟩
set_option maxRecDepth 100000 in
theorem made_no (w : World) (v : Value) (h : NoSet w v) : Calls Tryz.prog 116 #[v] w fun e w' => e = .returned (.bool false) ∧ w = w' := by
  have hn : ∀ w, (binOp .neq 146 (.map none) (.map none)).run Tryz.prog w = .ok (.bool false) w := fun w => by kernel_rfl
  rcases h with rfl | ⟨g, rfl, r⟩
  · go_enter Tryz.func116, Tryz.ntmps116
    go_wp2_with fail
    go_ret
    exact ⟨rfl, rfl⟩
  · have c0 := r.cell (j := 0) rfl
    go_enter Tryz.func116, Tryz.ntmps116
    go_wp2_with fail
    go_ret
    exact ⟨rfl, rfl⟩
set_option maxRecDepth 100000 in
theorem len_no (w : World) (v : Value) (h : NoSet w v) : Calls Tryz.prog 90 #[v] w fun e w' => e = .returned (.int .i64 0) ∧ w = w' := by
  rcases h with rfl | ⟨g, rfl, r⟩
  · go_enter Tryz.func90, Tryz.ntmps90
    go_wp2_with fail
    go_ret
    exact ⟨rfl, rfl⟩
  · have c0 := r.cell (j := 0) rfl
    go_enter Tryz.func90, Tryz.ntmps90
    go_wp2_with fail
    go_ret
    exact ⟨rfl, rfl⟩
set_option maxRecDepth 100000 in
theorem behind_nos (w : World) (v : Value) (f1 f2 : Value) (h : NoSet w v) : Calls Tryz.prog 127 #[v, f1, f2] w fun e w' => e = .returned (.slice none 0 0) ∧ Below w.heap.size w w' := by
  have HC := fun w1 (hb : Below w.heap.size w w1) => made_no w1 v (h.later hb)
  clear h
  go_enter Tryz.func127, Tryz.ntmps127
  go_wp2_with fail
  refine (HC _ (Below.refl _ _)).mono ?_
  rintro e w2 ⟨rfl, rfl⟩
  go_wp2_with fail
  go_ret
  exact ⟨rfl, Below.refl _ _⟩

set_option maxRecDepth 100000 in
theorem range_nos (w : World) (v : Value) (x y : Int) (h : NoSet w v) : Calls Tryz.prog 89 #[v, .int .i64 x, .int .i64 y] w fun e w' => e = .returned (.slice none 0 0) ∧ Below w.heap.size w w' := by
  have HC := fun w1 (hb : Below w.heap.size w w1) => fun f1 f2 => behind_nos w1 v f1 f2 (h.later hb)
  clear h
  go_enter Tryz.func89, Tryz.ntmps89
  go_wp2_with (first
    | (with_reducible refine wl_box (o := ⟨some 4, _, _, _, _, _⟩) rfl 3 (.tmp 1) _ [.int .i64 x] rfl rfl rfl ?_; intro g4 w4 r4 p4 l4 b4)
    | (with_reducible refine wl_box (o := ⟨some 5, _, _, _, _, _⟩) rfl 3 (.tmp 2) _ [.int .i64 y] rfl rfl rfl ?_; intro g5 w5 r5 p5 l5 b5))
  refine (HC _ (b4.trans (b5.mono b4.size)) _ _).mono ?_
  rintro e w2 ⟨rfl, b6⟩
  go_wp2_with fail
  go_ret
  exact ⟨rfl, (b4.trans (b5.mono b4.size)).trans (b6.mono (b4.trans (b5.mono b4.size)).size)⟩

set_option maxRecDepth 100000 in
theorem clone0_any (w : World) : Calls Tryz.prog 85 #[nilS] w fun e w' => e = .returned nilS ∧ w = w' := by
  have hn : ∀ w, (binOp .eql 23 (.slice none 0 0) (.slice none 0 0)).run Tryz.prog w = .ok (.bool true) w := fun w => by kernel_rfl
  go_enter Tryz.func85, Tryz.ntmps85
  go_wp2_with fail
  go_ret
  exact ⟨rfl, rfl⟩
set_option maxRecDepth 100000 in
theorem lenP_any (w : World) (mb : Nat) (es : Ents) (hm : MapAt w mb es) : Calls Tryz.prog 98 #[.agg #[.map (some mb)]] w fun e w' => e = .returned (.int .i64 es.length) ∧ Below w.heap.size w w' := by
  replace hm := hide hm
  go_enter Tryz.func98, Tryz.ntmps98
  go_wp2_with (first
    | ((with_reducible refine wl_box (o := ⟨some 1, _, _, _, _, _⟩) rfl 66 (.tmp 0) _ [.map (some mb)] rfl rfl rfl ?_); intro g3 w3 r3 p3 l3 b3; have c0 := r3.cell (j := 0) rfl; have m3 := hide (hm.out.later b3))
    | (with_reducible refine wl_mapLenP (o := ⟨some 5, _, _, _, _, _⟩) rfl (.tmp 4) mb es rfl rfl m3.out ?_))
  go_ret
  exact ⟨rfl, b3⟩
set_option maxRecDepth 100000 in
theorem lenU_any (w : World) (mb : Nat) (es : Ents) (hm : MapAt w mb es) : Calls Tryz.prog 99 #[.agg #[.map (some mb)]] w fun e w' => e = .returned (.int .i64 es.length) ∧ Below w.heap.size w w' := by
  replace hm := hide hm
  go_enter Tryz.func99, Tryz.ntmps99
  go_wp2_with (first
    | ((with_reducible refine wl_box (o := ⟨some 1, _, _, _, _, _⟩) rfl 69 (.tmp 0) _ [.map (some mb)] rfl rfl rfl ?_); intro g3 w3 r3 p3 l3 b3; have c0 := r3.cell (j := 0) rfl; have m3 := hide (hm.out.later b3))
    | (with_reducible refine wl_mapLenU (o := ⟨some 5, _, _, _, _, _⟩) rfl (.tmp 4) mb es rfl rfl m3.out ?_))
  go_ret
  exact ⟨rfl, b3⟩
set_option maxRecDepth 100000 in
theorem lenP_no (w : World) : Calls Tryz.prog 98 #[.agg #[.map none]] w fun e w' => e = .returned (.int .i64 0) ∧ Below w.heap.size w w' := by
  go_enter Tryz.func98, Tryz.ntmps98
  go_wp2_with (first
    | ((with_reducible refine wl_box (o := ⟨some 1, _, _, _, _, _⟩) rfl 66 (.tmp 0) _ [.map none] rfl rfl rfl ?_); intro g3 w3 r3 p3 l3 b3; have c0 := r3.cell (j := 0) rfl))
  go_ret
  exact ⟨rfl, b3⟩
set_option maxRecDepth 100000 in
theorem lenU_no (w : World) : Calls Tryz.prog 99 #[.agg #[.map none]] w fun e w' => e = .returned (.int .i64 0) ∧ Below w.heap.size w w' := by
  go_enter Tryz.func99, Tryz.ntmps99
  go_wp2_with (first
    | ((with_reducible refine wl_box (o := ⟨some 1, _, _, _, _, _⟩) rfl 69 (.tmp 0) _ [.map none] rfl rfl rfl ?_); intro g3 w3 r3 p3 l3 b3; have c0 := r3.cell (j := 0) rfl))
  go_ret
  exact ⟨rfl, b3⟩
set_option maxRecDepth 100000 in
set_option maxHeartbeats 1000000 in
theorem getP_any (w : World) (mb : Nat) (es : Ents) (f : Nm) (hm : MapAt w mb es) (hp : PrE es) (hf : f.length ≤ maxLen) :
    Calls Tryz.prog 92 #[.agg #[.map (some mb)], encStr f] w fun e w' => e = .returned (.tuple #[(atE es f).getD zP, .bool (atE es f).isSome]) ∧ Below w.heap.size w w' := by
  obtain ⟨q, hq⟩ := hp.at f
  obtain ⟨b, hb⟩ : ∃ b, (atE es f).isSome = b := ⟨_, rfl⟩
  have h1 := onePr q
  have hsz := szPr q
  rw [hb, hq]
  replace hm := hide hm
  replace hq := hide hq
  replace hb := hide hb
  clear hp
  go_enter Tryz.func92, Tryz.ntmps92
  go_wp2_with (first
    | ((with_reducible refine wl_box (o := ⟨some 2, _, _, _, _, _⟩) rfl 66 (.tmp 0) _ [.map (some mb)] rfl rfl rfl ?_); intro g3 w3 r3 p3 l3 b3)
    | ((with_reducible refine wl_alloc (o := ⟨some 4, _, _, _, _, _⟩) rfl 87 _ [encStr [], encStr []] rfl zeroPr rfl ?_); intro g4 w4 r4 p4 l4 b4; have r34 := r3.later b4; have B4 := b3.trans (b4.mono b3.size); have m4 := hide (hm.out.later B4); have c0 := r34.cell (j := 0) rfl)
    | (with_reducible refine wl_lookEP (o := ⟨some 12, _, _, _, _, _⟩) rfl (.tmp 10) (.tmp 11) f mb es q.v b hq.out hb.out rfl rfl rfl m4.out hf ?_)
    | ((with_reducible refine wl_alloc (o := ⟨some 6, _, _, _, _, _⟩) rfl 87 _ [encStr [], encStr []] rfl zeroPr rfl ?_); intro g7 w6 r6 p6 l6 b6)
    | ((with_reducible refine wl_store_row rfl 87 (.tmp 6) (.tmp 13) g7 87 _ q.cells rfl rfl rfl r6 hsz rfl h1 ?_); intro w7 r7 o7; have b7 := b6.trans ((o7.below p6).mono (Nat.le_refl _)); have B7 := B4.trans (b7.mono B4.size); have r47 := r4.later b7)
    | (with_reducible refine wl_load_row (o := ⟨some 15, _, _, _, _, _⟩) rfl 87 (.tmp 6) g7 87 q.cells _ rfl rfl r7 Tryz.underlying87 rfl hsz ?_)
    | ((with_reducible refine wl_store_row rfl 87 (.tmp 4) (.tmp 15) g4 87 _ q.cells rfl rfl rfl r47 hsz rfl h1 ?_); intro w8 r8 o8; have B8 := B7.trans ((o8.below (Nat.le_trans b3.size p4)).mono (Nat.le_refl _))))
  refine bodyPost_ret (v := .tuple #[q.v, .bool b]) ?_ rfl ⟨rfl, B8⟩
  exact results_rt2 Tryz.results92 _ _ g4 87 _ _ _ rfl r8 Tryz.underlying87 rfl hsz rfl
end Go.Proofs.YtpbkejmffddelaaGreat

/-
  A hash as plain data; its length. Own work.
-/
namespace Go.Proofs.YtpbkejmffddelaaGreat
open Go.RowKit Go.Shelf Go.Maps
/-- A table of pairs, each by its field. -/
def hE (qs : List Pr) : Ents := qs.map fun q => (q.f, q.v)
theorem hE_pr (qs : List Pr) : PrE (hE qs) := by
  intro p hp
  obtain ⟨q, _, rfl⟩ := List.mem_map.1 hp
  exact ⟨q, rfl⟩
theorem hE_len (qs : List Pr) : (hE qs).length = qs.length := by simp [hE]
theorem hE_names (qs : List Pr) : (hE qs).map (·.1) = qs.map Pr.f := by simp [hE]
theorem bb_irr : ∀ a : List UInt8, bytesBefore a a = false
  | [] => rfl
  | x :: r => by simp [bytesBefore, bb_irr r]
theorem atE_nth {l : Ents} (h : riseE l) {i : Nat} {p : Nm × Value} (hi : l[i]? = some p) : atE l p.1 = some p.2 := by
  induction l generalizing i with
  | nil => simp at hi
  | cons y r ih =>
    obtain ⟨h1, h2⟩ := List.pairwise_cons.1 h
    match i with
    | 0 =>
      obtain rfl : y = p := by simpa using hi
      simp [atE]
    | j + 1 =>
      have hj : r[j]? = some p := by simpa using hi
      have hne : y.1 ≠ p.1 := by
        intro e
        have := h1 p (List.mem_of_getElem? hj)
        rw [e, bb_irr] at this; cases this
      unfold atE
      rw [List.find?_cons, beq_eq_false_iff_ne.2 hne]
      exact ih h2 hj
/-- Pairs in a row of one's own. -/
def prC (qs : List Pr) : List Value := (qs.map Pr.cells).flatten
theorem prC_app (a b : List Pr) : prC (a ++ b) = prC a ++ prC b := by simp [prC]
theorem prC_len (a : List Pr) : (prC a).length = a.length * 2 := by
  induction a with
  | nil => rfl
  | cons x r ih => rw [prC, List.map_cons, List.flatten_cons, List.length_append, show (r.map Pr.cells).flatten.length = _ from ih]; simp; omega
theorem prC_at : ∀ (l : List Pr) (i j : Nat) (a : Pr) (u : Value), l[i]? = some a → a.cells[j]? = some u → (prC l)[i * 2 + j]? = some u := by
  intro l
  induction l with
  | nil => intro i j a u h; simp at h
  | cons b r ih =>
    intro i j a u hi hj
    have hjl : j < 2 := (List.getElem?_eq_some_iff.1 hj).1
    match i with
    | 0 =>
      obtain rfl : b = a := by simpa using hi
      show (b.cells ++ prC r)[0 * 2 + j]? = _
      rw [List.getElem?_append_left (by show 0 * 2 + j < 2; omega), Nat.zero_mul, Nat.zero_add, hj]
    | i + 1 =>
      show (b.cells ++ prC r)[(i + 1) * 2 + j]? = _
      rw [List.getElem?_append_right (by show 2 ≤ _; omega), show (i + 1) * 2 + j - b.cells.length = i * 2 + j by show (i + 1) * 2 + j - 2 = _; omega]
      exact ih i j a u (by simpa using hi) hj
abbrev OwnP (w : World) (T : Nat) (v : Value) (l : List Pr) : Prop := w.ownsRow T 87 2 v l.length (prC l)
theorem OwnP.slv {w : World} {T : Nat} {v : Value} {l : List Pr} (h : OwnP w T v l) : SlV Pr.cells 2 w w.heap.size v l := by
  rcases h.2 with ⟨rfl, h0⟩ | ⟨g, cap, cur, rfl, hT, hg, h1, h2, h3, h4⟩
  · exact ⟨none, 0, by rw [h0], fun h => by omega⟩
  · refine ⟨_, cap, rfl, fun _ => ⟨g, 0, rfl, (Array.getElem?_eq_some_iff.1 hg).1, fun i a hi j u hj => ?_⟩⟩
    have hil : i < l.length := (List.getElem?_eq_some_iff.1 hi).1
    have hjl : j < 2 := (List.getElem?_eq_some_iff.1 hj).1
    have e2 : (cur.toList.take (l.length * 2))[i * 2 + j]? = some u := by rw [h4]; exact prC_at l i j a u hi hj
    rw [List.getElem?_take, if_pos (by omega)] at e2
    rw [show 0 + i * 2 + j = i * 2 + j by omega, cell_of_row w g _ cur _ (0, 0) hg, ← Array.getElem?_toList]
    exact e2
theorem But.grown {g : Nat} {a b c : World} {r : Option Nat} (h : But g a b) (hg : b.grownBy c r) (hr : ∀ k, r = some k → a.heap.size ≤ k) : But g a c :=
  ⟨hg.os.trans h.os, hg.tape.trans h.tape, hg.output.trans h.output, Nat.le_trans h.size hg.size, fun i hi hne => (hg.block i (Nat.lt_of_lt_of_le hi h.size) (fun e => by have := hr i e.symm; omega)).trans (h.block i hi hne)⟩
theorem own_at_but {w w' : World} {B e size n g T : Nat} {v : Value} {xs vs : List Value} (h : w.ownsRow B e size v n xs) (r : Row w T g vs) (hT : e ≠ T) (u : But g w w') : w'.ownsRow B e size v n xs := by
  refine ⟨h.1, h.2.imp id fun ⟨k, cap, cur, ev, h1, hg, h2⟩ => ⟨k, cap, cur, ev, h1, (u.block k (Array.getElem?_eq_some_iff.1 hg).1 ?_).trans hg, h2⟩⟩
  rintro rfl
  have := hg.symm.trans (show w.heap[k]? = _ from r)
  simp at this
  exact hT this.2
theorem pairI : ∃ i, Tryz.prog.info? 87 = some i ∧ i.zero = some (.agg [encStr [], encStr []].toArray) ∧ i.size = 2 ∧ i.bytes = 32 :=
  info_partsV (show (Tryz.prog.info? 87).map (fun i => (i.zero, i.size, i.bytes)) = some (some (.agg [encStr [], encStr []].toArray), 2, 32) by kernel_rfl)
theorem builtPl (k : Int) (t : Nm) (A A' : Option Addr) (n c n' c' : Nat) : Tryz.prog.built 26 [(0, .int .i64 k), (1, encStr t), (3, .slice A n c), (4, .slice A' n' c')] = some [.int .i64 k, encStr t, nilS, .slice A n c, .slice A' n' c'].toArray := by kernel_rfl
set_option maxRecDepth 100000 in
theorem items_h (w : World) (v : Value) (k : Int) (t : Nm) (hm : Option Nat) (sm : Option Nat) (zp : Value) (h : Held w v k t hm nilS sm zp) (hk : k ≠ 4) :
    Calls Tryz.prog 37 #[v] w fun e w' => e = .returned nilS ∧ Below w.heap.size w w' := by
  have HH := held_ev w v k t hm nilS sm zp h
  have hsz := szVv k t hm nilS sm zp
  have h1 := hide h.one
  have e1 : decide (k = 4) = false := decide_eq_false hk
  have f1 : (k == 4) = false := beq_eq_false_iff_ne.2 hk
  go_enter Tryz.func37, Tryz.ntmps37
  go_wp2_with fail
  refine HH.mono ?_
  rintro e w1 ⟨rfl, b1⟩
  go_wp2_with (first
    | ((with_reducible refine wl_alloc (o := ⟨some 3, _, _, _, _, _⟩) rfl 72 _ (vC 0 [] none nilS none nilP) rfl zeroVv rfl ?_); intro g3 w3 r3 p3 l3 b3)
    | ((with_reducible refine wl_store_row rfl 72 (.tmp 3) (.tmp 5) g3 72 _ (vC k t hm nilS sm zp) rfl rfl rfl r3 hsz rfl h1.out ?_); intro w4 r4 o4; have b4 := b3.trans ((o4.below p3).mono (Nat.le_refl _)); have c0 := r4.cell (j := 0) rfl; have c3 := r4.cell (j := 3) rfl))
  refine (clone0_any w4).mono ?_
  rintro e w5 ⟨rfl, rfl⟩
  go_wp2_with fail
  go_ret
  exact ⟨rfl, b1.trans (b4.mono b1.size)⟩
end Go.Proofs.YtpbkejmffddelaaGreat

/-
  A hash as plain data: Plain; Len. Own work.
-/
namespace Go.Proofs.YtpbkejmffddelaaGreat
open Go.RowKit Go.Shelf Go.Maps
abbrev plC : List Value := [.int .i64 2, encStr [], nilS, nilS, nilS]
theorem onePl : ∀ u ∈ plC, u.oneCell' = true := by simp [Value.oneCell', encStr]
def SPl2 (gv g3 : Nat) (opn : Nat) (v : Value) : Prop :=
  match opn with
  | 0 => v = .pointer (some ⟨g3, 0, none⟩)
  | 1 => v = .int .i64 2
  | 2 => v = .pointer (some ⟨g3, 1, none⟩)
  | 3 => v = encStr []
  | 4 => v = ptr gv
  | 5 | 11 => v = nilS
  | 6 | 8 => v = .pointer (some ⟨g3, 5, none⟩)
  | 7 | 9 => v = nilP
  | 10 => v = .int .i64 0
  | 12 => v = .agg plC.toArray
  | _ => True

theorem own_one {w : World} {B e size n : Nat} {v : Value} {xs : List Value} (h : w.ownsRow B e size v n xs) : v.oneCell' = true := by
  rcases h.2 with ⟨rfl, _⟩ | ⟨g, cap, cur, rfl, _⟩ <;> rfl
set_option maxRecDepth 100000 in
set_option maxHeartbeats 4000000 in
theorem plain_h (w : World) (B gv mb : Nat) (qs : List Pr) (hH : HVal w B gv mb (hE qs)) (hl : qs.length ≤ 1000) (hs : ∀ q ∈ qs, q.f.length ≤ maxLen) :
    Calls Tryz.prog 25 #[ptr gv] w fun e w' => ∃ vp, e = .returned (vlV ⟨2, [], qs, [], []⟩ vp nilS nilS) ∧ SlV Pr.cells 2 w' w'.heap.size vp qs ∧ Below w.heap.size w w' := by
  obtain ⟨ip, hip, hiz, his, hib⟩ := pairI
  have hsz := szVv 2 [] (some mb) nilS none nilP
  have h1 := hide hH.v.one
  have hrise := hide hH.map.rise
  have hlI : (qs.length : Int) ≤ 1000 := by omega
  go_enter Tryz.func25, Tryz.ntmps25
  go_wp2_with (first
    | ((with_reducible refine wl_alloc (o := ⟨some 2, _, _, _, _, _⟩) rfl 26 _ [.int .i64 0, encStr [], nilS, nilS, nilS] rfl zeroVl rfl ?_); intro g2 w1 r2 p2 l2 b2))
  refine (held_any w1 gv _ _ _ _ _ _ (hH.later b2).v).mono ?_
  rintro e w2 ⟨rfl, b1⟩
  have B2 := b2.trans (b1.mono b2.size)
  have r22 := r2.later b1
  go_wp2_with (first
    | ((with_reducible refine wl_alloc (o := ⟨some 3, _, _, _, _, _⟩) rfl 72 _ (vC 0 [] none nilS none nilP) rfl zeroVv rfl ?_); intro g3 w3 r3 p3 l3 b3)
    | ((with_reducible refine wl_store_row rfl 72 (.tmp 3) (.tmp 10) g3 72 _ (vC 2 [] (some mb) nilS none nilP) rfl rfl rfl r3 hsz rfl h1.out ?_); intro w4 r4 o4; have b4 := b3.trans ((o4.below p3).mono (Nat.le_refl _))))
  rename_i K6 hK6
  have B4 := B2.trans (b4.mono B2.size)
  have r24 := r22.later b4
  have hH0 := hH
  replace hH := hH.later B4
  have r3 := r4
  have hg3lt := r4.lt
  have hg2lt := r24.lt
  have hg2' := p2
  have p3' : w.heap.size ≤ g3 := Nat.le_trans B2.size p3
  refine wp_region_vals [5, 10, 11, 13, 14] (SPl2 gv g3) (JA w4 26 [.int .i64 0, encStr [], nilS, nilS, nilS] plC 3 4) (by kernel_rfl) (by kernel_rfl) (by kernel_rfl) (by kernel_rfl) (by kernel_rfl) ⟨(Below.refl _ _).drew, fun h => absurd h (by decide)⟩ ?obs2 ?he2
  case obs2 =>
    refine ⟨?_, ?_, ?_, ?_, ?_, ?_, ?_, ?_, ?_, ?_, ?_, ?_, ?_, ?_, ?_, trivial⟩
    · refine .inl ⟨by kernel_rfl, fun L a1 w1 n h => ⟨.pointer (some ⟨g3, 0, none⟩), rfl, ?_⟩⟩
      have e0 : a1.eval (.tmp 3) = _ := h.var n 3 (by kernel_rfl)
      unfold execOp
      simp only [e0]
      go_simp
    · exact .inl ⟨by kernel_rfl, fun L a1 w1 n h => ⟨_, rfl, run_load1 3 (.tmp 11) g3 0 _ rfl Tryz.isAgg3 (h.dep n 0 11 (by kernel_rfl) rfl) ((r3.later h.inv.1).cell rfl)⟩⟩
    · refine .inl ⟨by kernel_rfl, fun L a1 w1 n h => ⟨.pointer (some ⟨g3, 1, none⟩), rfl, ?_⟩⟩
      have e0 : a1.eval (.tmp 3) = _ := h.var n 3 (by kernel_rfl)
      unfold execOp
      simp only [e0]
      go_simp
    · exact .inl ⟨by kernel_rfl, fun L a1 w1 n h => ⟨_, rfl, run_load1 9 (.tmp 13) g3 1 _ rfl Tryz.isAgg9 (h.dep n 2 13 (by kernel_rfl) rfl) ((r3.later h.inv.1).cell rfl)⟩⟩
    · exact .inl ⟨by kernel_rfl, fun L a1 w1 n h => ⟨_, rfl, run_move (.tmp 0) rfl (h.var n 0 (by kernel_rfl))⟩⟩
    · refine .inr fun L a1 w1 n h K hK => ?_
      have e0 : a1.eval (.tmp 15) = ptr gv := h.dep n 4 15 (by kernel_rfl) rfl
      refine st_call 37 _ _ #[ptr gv] rfl Tryz.call37 ?_ (items_h w1 (ptr gv) 2 [] (some mb) none nilP (hH.held.later h.inv.1) (by decide)) ?_
      · simp only [List.map_toArray, List.map_cons, List.map_nil, e0]
      · rintro e w3 ⟨rfl, b9⟩
        exact ⟨_, rfl, hK _ w3 rfl (JA.grow h.inv b9 rfl rfl rfl)⟩
    · refine .inl ⟨by kernel_rfl, fun L a1 w1 n h => ⟨.pointer (some ⟨g3, 5, none⟩), rfl, ?_⟩⟩
      have e0 : a1.eval (.tmp 3) = _ := h.var n 3 (by kernel_rfl)
      unfold execOp
      simp only [e0]
      go_simp
    · exact .inl ⟨by kernel_rfl, fun L a1 w1 n h => ⟨_, rfl, run_load1 70 (.tmp 17) g3 5 _ rfl Tryz.isAgg70 (h.dep n 6 17 (by kernel_rfl) rfl) ((r3.later h.inv.1).cell rfl)⟩⟩
    · refine .inl ⟨by kernel_rfl, fun L a1 w1 n h => ⟨.pointer (some ⟨g3, 5, none⟩), rfl, ?_⟩⟩
      have e0 : a1.eval (.tmp 3) = _ := h.var n 3 (by kernel_rfl)
      unfold execOp
      simp only [e0]
      go_simp
    · exact .inl ⟨by kernel_rfl, fun L a1 w1 n h => ⟨_, rfl, run_load1 70 (.tmp 19) g3 5 _ rfl Tryz.isAgg70 (h.dep n 8 19 (by kernel_rfl) rfl) ((r3.later h.inv.1).cell rfl)⟩⟩
    · refine .inr fun L a1 w1 n h K hK => ?_
      have e0 : a1.eval (.tmp 20) = nilP := h.dep n 9 20 (by kernel_rfl) rfl
      refine st_call 90 _ _ #[nilP] rfl Tryz.call90 ?_ (len_no w1 nilP (.inl rfl)) ?_
      · simp only [List.map_toArray, List.map_cons, List.map_nil, e0]
      · rintro e w3 ⟨rfl, h9⟩
        exact ⟨_, rfl, hK _ w3 rfl (JA.grow h.inv (by rw [← h9]; exact Below.refl _ _) rfl rfl rfl)⟩
    · refine .inr fun L a1 w1 n h K hK => ?_
      have e0 : a1.eval (.tmp 18) = nilP := h.dep n 7 18 (by kernel_rfl) rfl
      have e2 : a1.eval (.tmp 21) = .int .i64 0 := h.dep n 10 21 (by kernel_rfl) rfl
      refine st_call 89 _ _ #[nilP, .int .i64 0, .int .i64 0] rfl Tryz.call89 ?_ (range_nos w1 nilP 0 0 (.inl rfl)) ?_
      · simp only [List.map_toArray, List.map_cons, List.map_nil, e0, e2]; rfl
      · rintro e w3 ⟨rfl, b9⟩
        exact ⟨_, rfl, hK _ w3 rfl (JA.grow h.inv b9 rfl rfl rfl)⟩
    · refine .inl ⟨by kernel_rfl, fun L a1 w1 n h => ⟨.agg plC.toArray, rfl, ?_⟩⟩
      have e0 : a1.eval (.tmp 12) = _ := h.dep n 1 12 (by kernel_rfl) rfl
      have e1 : a1.eval (.tmp 14) = _ := h.dep n 3 14 (by kernel_rfl) rfl
      have e2 : a1.eval (.tmp 16) = _ := h.dep n 5 16 (by kernel_rfl) rfl
      have e3 : a1.eval (.tmp 22) = _ := h.dep n 11 22 (by kernel_rfl) rfl
      exact run_buildX 26 [(0, .tmp 12), (1, .tmp 14), (3, .tmp 16), (4, .tmp 22)] rfl [(0, .int .i64 2), (1, encStr []), (3, nilS), (4, nilS)] (by simp only [List.map_cons, List.map_nil, e0, e1, e2, e3]) _ (builtPl 2 [] none none 0 0 0 0)
    · refine .inr fun L a1 w1 n h K hK => ?_
      have no : L.getD 14 false = false := n.later (by kernel_rfl)
      refine st_alloc 26 _ _ rfl zeroVl rfl ?_
      intro g7 w3 r7 a7 l7 b7
      exact hK _ _ trivial (JA.made h.inv b7 r7 a7 rfl no)
    · refine .inr fun L a1 w1 n h K hK => ?_
      have yes : L.getD 13 false = true := n.dep (by kernel_rfl)
      have no : L.getD 14 false = false := n.not_yet
      obtain ⟨g7, p7, n7, r7⟩ := h.inv.2 yes
      have r7' : Row w1 26 g7 (bif L.getD 14 false then plC else _) := r7
      rw [no, cond_false] at r7'
      refine st_store_row 26 (.tmp 4) (.tmp 23) g7 26 _ (plC) rfl p7 (h.dep n 12 23 (by kernel_rfl) rfl) r7' (szVl ⟨2, [], [], [], []⟩ nilS nilS nilS) (rfl) (onePl) ?_
      intro w3 r3 o3
      exact hK undef w3 trivial (JA.filled h.inv o3 n7 r3 p7 rfl)
  case he2 =>
    intro V w5 hV hJ
    obtain ⟨g4, e4, p4, r4⟩ := hJ.2 rfl
    have e4 : V 13 = ptr g4 := e4
    have r4 : Row w5 26 g4 plC := r4
    have b5 : Below w4.heap.size w4 w5 := hJ.1
    clear hV hJ
    simp only [putOps, List.setIfInBounds_toArray, List.set_cons_succ, List.set_cons_zero, Nat.reduceAdd]
    rw [e4]
    refine hK6 _ _ ?_
    have B5 := B4.trans (b5.mono B4.size)
    have r25 := r24.later b5
    have r35 : Row w5 TV g3 ([.int .i64 2, encStr []] ++ ([.map (some mb)] ++ [nilS, .map none, nilP])) := r3.later b5
    generalize V 0 = v0
    generalize V 1 = v1
    generalize V 2 = v2
    generalize V 3 = v3
    generalize V 4 = v4
    generalize V 5 = v5
    generalize V 6 = v6
    generalize V 7 = v7
    generalize V 8 = v8
    generalize V 9 = v9
    generalize V 10 = v10
    generalize V 11 = v11
    generalize V 12 = v12
    clear e4 r2 r22 r3 b2 b1 b3 b4
    go_wp2_with (first
      | (with_reducible refine wl_load_part (o := ⟨some 25, _, _, _, _, _⟩) rfl 66 (.tmp 24) g3 2 72 [.int .i64 2, encStr []] [.map (some mb)] [nilS, .map none, nilP] _ rfl rfl r35 rfl Tryz.underlying66 rfl (by kernel_rfl) ?_))
    have HT := textsP_any w5 mb (hE qs) (hH.later b5).map (by rw [hE_len]; exact hl)
    rw [hE_len, hE_names] at HT
    refine HT.mono ?_
    rintro e w6 ⟨nv, rfl, own6, b6⟩
    have B6 := B5.trans (b6.mono B5.size)
    have own6 : w6.ownsRow w5.heap.size 9 1 nv (qs.map Pr.f).length ((qs.map Pr.f).map encStr) := by rw [List.length_map]; exact own6
    have sl6 := OwnW.slv own6
    obtain ⟨NA, nc, rfl⟩ := sl6.sl
    have r26 := r25.later b6
    have r36 := r35.later b6
    have r46 := r4.later b6
    have hg4 : w.heap.size ≤ g4 := Nat.le_trans B4.size p4
    have hn34 : g3 ≠ g4 := by omega
    have hn24 : g2 ≠ g4 := by omega
    have r46' := r46
    clear sl6 HT r4 r25 r35
    rw [List.length_map]
    rw [List.length_map] at own6
    go_wp2_with fail
    go_loopw [28] (fun iv wr => ∃ (i : Nat) (ov : Value), i ≤ qs.length ∧ iv = .int .i64 (i : Int) ∧ Row wr 26 g4 [.int .i64 2, encStr [], ov, nilS, nilS] ∧ OwnP wr w6.heap.size ov (qs.take i) ∧ But g4 w6 wr) (fun iv _ => qs.length - (intOf iv).toNat)
    case atStart => exact ⟨0, nilS, by omega, rfl, r46, World.ownsRow_nil _ _ _ _, But.refl _ _⟩
    case round =>
      clear r46
      obtain ⟨i, ov, hi, rfl, r4, ownP, UW⟩ := hrel
      have hwb := UW.size
      have BW := B6.trans (UW.below hg4 B6.size)
      by_cases hlt : i < qs.length
      · have hltI : (i : Int) < (qs.length : Int) := by omega
        obtain ⟨q, hq⟩ : ∃ q, qs[i]? = some q := ⟨_, List.getElem?_eq_getElem hlt⟩
        have hqn : (qs.map Pr.f)[i]? = some q.f := by rw [List.getElem?_map, hq]; rfl
        have own6' : wr.ownsRow w5.heap.size 9 1 (.slice NA qs.length nc) (qs.map Pr.f).length ((qs.map Pr.f).map encStr) := own_at_but (by rw [List.length_map]; exact own6) r46' (by decide) UW
        obtain ⟨x1, ga, oa, rfl, hga, hca⟩ := (OwnW.slv own6').at hqn
        have q0 := hca 0 _ rfl
        rw [Nat.add_zero, Nat.mul_one] at q0
        have r3w := r36.but UW hn34
        have hmore := hide (take_more hq)
        have hat : atE (hE qs) q.f = some q.v := atE_nth hrise.out (p := (q.f, q.v)) (by rw [hE, List.getElem?_map, hq]; rfl)
        have hqs := hide (hs q (List.mem_of_getElem? hq))
        have hHw := (hH0.later BW)
        have htl : (qs.take i).length = i := by rw [List.length_take]; omega
        have hlt9 := hide hlt
        have szq := szPr q
        have oneq := onePr q
        clear hq hqn own6' x1 hga hca
        go_wp2_with (first
          | (with_reducible refine wl_run (o := ⟨some 30, _, _, _, _, _⟩) rfl (.pointer (some ⟨ga, oa + i * 1, none⟩)) (run_idxO 23 (.tmp 26) (.tmp 28) 9 1 ga oa qs.length nc i rfl Tryz.underlying23 Tryz.sizeOf9 rfl rfl hlt) ?_)
          | (with_reducible refine wl_load_part (o := ⟨some 34, _, _, _, _, _⟩) rfl 66 (.tmp 33) g3 2 72 [.int .i64 2, encStr []] [.map (some mb)] [nilS, .map none, nilP] _ rfl rfl r3w rfl Tryz.underlying66 rfl (by kernel_rfl) ?_))
        have HG := getP_any wr mb (hE qs) q.f hHw.map hHw.pr hqs.out
        rw [hat] at HG
        refine HG.mono ?_
        rintro e w7 ⟨rfl, b7⟩
        have r47 := r4.later b7
        have own7 := own_later ownP b7
        have hwb7 := Nat.le_trans hwb b7.size
        have hc4 := r47.cell (j := 2) rfl
        have hm1 : (qs.take i).length + 1 ≤ maxLen := by rw [htl]; simp only [maxLen]; omega
        have hm2 : ((qs.take i).length + 1) * 32 ≤ 140737488355328 := by rw [htl]; omega
        have h02 : 0 < 2 := by decide
        replace htl := hide htl
        clear HG hat q0 ownP r4
        go_wp2_with (first
          | ((with_reducible refine wl_alloc (o := ⟨some 7, _, _, _, _, _⟩) rfl 87 _ [encStr [], encStr []] rfl zeroPr rfl ?_); intro g7 w8 r8 p8 l8 b8)
          | ((with_reducible refine wl_store_row rfl 87 (.tmp 7) (.tmp 37) g7 87 _ q.cells rfl rfl rfl r8 szq rfl oneq ?_); intro w9 r9 o9; have b9 := b8.trans ((o9.below p8).mono (Nat.le_refl _)); have r49 := r47.later b9; have c49 := r49.cell (j := 2) rfl; have own9 := own_later own7 b9)
          | (with_reducible refine wl_load_row (o := ⟨some 41, _, _, _, _, _⟩) rfl 87 (.tmp 7) g7 87 q.cells _ rfl rfl r9 Tryz.underlying87 rfl szq ?_)
          | ((with_reducible refine wl_build1B (o := ⟨some 42, _, _, _, _, _⟩) rfl 22 (.tmp 41) rfl 87 ip _ q.cells 2 Tryz.underlying22 hip hiz rfl his rfl h02 (by decide) rfl ?_); intro g10 w10 r10 p10 l10 b10; have own10 := own_later own9 b10; have r410 := r49.later b10; have hwb10 := Nat.le_trans hwb7 (Nat.le_trans b9.size b10.size))
          | ((at_builtin; with_reducible refine wl_append_at (o := ⟨some 43, _, _, _, _, _⟩) rfl (.tmp 40) (.tmp 42) 22 rfl w6.heap.size 87 ip _ 2 32 Tryz.underlying22 hip hiz his hib rfl h02 ov _ _ rfl own10 ⟨g10, 0, none⟩ 1 1 q.cells rfl rfl (row_src r10) oneq hm1 hm2 hwb10 ?_); intro v11 w11 own11 gr11 at11; have r411 := r410.grownS own10 (by decide) gr11)
          | ((with_reducible refine wl_store rfl 22 (.tmp 44) (.tmp 43) g4 2 26 [.int .i64 2, encStr [], ov, nilS, nilS] v11 rfl (by kernel_rfl) rfl rfl r411 (by simp) (own_one own11) ?_); intro w12 r12 o12; replace r12 : Row w12 26 g4 [.int .i64 2, encStr [], v11, nilS, nilS] := r12))
        have own12 : OwnP w12 w6.heap.size v11 (qs.take (i + 1)) := by
          rw [hmore.out, OwnP, List.length_append, prC_app]
          exact own_at_but (own11) r411 (by decide) (But.only o12)
        have U12 : But g4 w6 w12 := ((((UW.trans (But.of b7 g4)).trans (But.of b9 g4)).trans (But.of b10 g4)).grown gr11 (fun k hk => (own10.lt k hk).1)).trans (But.only o12)
        go_roundw
        case rel => exact ⟨i + 1, v11, by have := hlt9.out; omega, by go_num, r12, own12, U12⟩
        case measure => have := hlt9.out; simp [intOf]; omega
      · obtain rfl : i = qs.length := by omega
        rw [List.take_length] at ownP
        have r2w := r26.but UW hn24
        have onev := own_one ownP
        have one5 : ∀ u ∈ [Value.int .i64 2, encStr [], ov, nilS, nilS], u.oneCell' = true := by
          intro u hu
          simp only [List.mem_cons, List.not_mem_nil, or_false] at hu
          rcases hu with rfl | rfl | rfl | rfl | rfl
          · rfl
          · rfl
          · exact onev
          · rfl
          · rfl
        go_wp2_with (first
          | (with_reducible refine wl_load_row (o := ⟨some 46, _, _, _, _, _⟩) rfl 26 (.tmp 4) g4 26 [.int .i64 2, encStr [], ov, nilS, nilS] _ rfl rfl r4 Tryz.underlying26 rfl (by kernel_rfl) ?_)
          | ((with_reducible refine wl_store_row rfl 26 (.tmp 2) (.tmp 46) g2 26 _ [.int .i64 2, encStr [], ov, nilS, nilS] rfl rfl rfl r2w (by kernel_rfl) rfl one5 ?_); intro w7 r7 o7))
        have hg2 : w.heap.size ≤ g2 := hg2'
        refine bodyPost_ret (v := .agg [.int .i64 2, encStr [], ov, nilS, nilS].toArray) ?_ rfl ⟨ov, rfl, OwnP.slv (l := qs) (own_at_but ownP r2w (by decide) (But.only o7)), BW.trans ((o7.below hg2).mono (Nat.le_refl _))⟩
        exact results_cell_row Tryz.results25 _ _ g2 26 _ (0, 0) _ rfl r7 Tryz.underlying26 rfl (by kernel_rfl)
end Go.Proofs.YtpbkejmffddelaaGreat

/-
  A hash's length; a value of plain data of kind 2. Own work.
-/
namespace Go.Proofs.YtpbkejmffddelaaGreat
open Go.RowKit Go.Shelf Go.Maps
abbrev TTP : TypeId := 66
abbrev TTU : TypeId := 69
abbrev undTP := Tryz.underlying66
abbrev undTU := Tryz.underlying69
def SLn2 (g3 mb : Nat) (es : Ents) (mT mN : List Value) (opn : Nat) (v : Value) : Prop :=
  match opn with
  | 0 => v = .pointer (some ⟨g3, 1, none⟩)
  | 1 => v = encStr []
  | 2 | 9 | 13 | 17 => v = .int .i64 0
  | 3 => v = .pointer (some ⟨g3, 2, none⟩)
  | 4 => v = .agg mT.toArray
  | 5 | 6 | 10 | 14 | 18 | 19 => v = .int .i64 (es.length : Int)
  | 7 => v = .pointer (some ⟨g3, 3, none⟩)
  | 8 => v = nilS
  | 11 => v = .pointer (some ⟨g3, 4, none⟩)
  | 12 => v = .agg mN.toArray
  | 15 => v = .pointer (some ⟨g3, 5, none⟩)
  | 16 => v = nilP
  | _ => True

set_option maxRecDepth 100000 in
set_option maxHeartbeats 1000000 in
theorem len_h (w : World) (B gv mb : Nat) (es : Ents) (hH : HVal w B gv mb es) (hl : es.length ≤ 1000000) :
    Calls Tryz.prog 35 #[ptr gv] w fun e w' => e = .returned (.int .i64 (es.length : Int)) ∧ Below w.heap.size w w' := by
  have hsz := szVv 2 [] (some mb) nilS none nilP
  have h1 := hide hH.v.one
  have ha1 := hide (show IntKind.i64.wrap ((0 : Int) + (es.length : Int)) = (es.length : Int) from wrap_id (by omega) (by omega) (by omega))
  have ha2 := hide (show IntKind.i64.wrap ((es.length : Int) + 0) = (es.length : Int) from wrap_id (by omega) (by omega) (by omega))
  obtain ⟨mT, hmT⟩ : ∃ mT : List Value, mT = [.map (some mb)] := ⟨_, rfl⟩
  go_enter Tryz.func35, Tryz.ntmps35
  go_wp2_with fail
  refine (held_any w gv _ _ _ _ _ _ hH.v).mono ?_
  rintro e w1 ⟨rfl, b1⟩
  go_wp2_with (first
    | ((with_reducible refine wl_alloc (o := ⟨some 3, _, _, _, _, _⟩) rfl 72 _ (vC 0 [] none nilS none nilP) rfl zeroVv rfl ?_); intro g3 w3 r3 p3 l3 b3)
    | ((with_reducible refine wl_store_row rfl 72 (.tmp 3) (.tmp 5) g3 72 _ (vC 2 [] (some mb) nilS none nilP) rfl rfl rfl r3 hsz rfl h1.out ?_); intro w4 r4 o4; have b4 := b3.trans ((o4.below p3).mono (Nat.le_refl _))))
  have B4 := b1.trans (b4.mono b1.size)
  have hm := hH.map.later B4
  clear r3
  have r3 : Row w4 TV g3 (vC 2 [] (some mb) nilS none nilP) := r4
  refine wp_region_vals [5, 13, 17] (SLn2 g3 mb es [.map (some mb)] [.map none]) (fun _ _ wz => Below w4.heap.size w4 wz) (by kernel_rfl) (by kernel_rfl) (by kernel_rfl) (by kernel_rfl) (by kernel_rfl) ((Below.refl _ _).drew) ?obs2 ?he2
  case obs2 =>
    refine ⟨?_, ?_, ?_, ?_, ?_, ?_, ?_, ?_, ?_, ?_, ?_, ?_, ?_, ?_, ?_, ?_, ?_, ?_, ?_, ?_, trivial⟩
    · refine .inl ⟨by kernel_rfl, fun L a1 w1 n h => ⟨.pointer (some ⟨g3, 1, none⟩), rfl, ?_⟩⟩
      have e0 : a1.eval (.tmp 3) = _ := h.var n 3 (by kernel_rfl)
      unfold execOp
      simp only [e0]
      go_simp
    · exact .inl ⟨by kernel_rfl, fun L a1 w1 n h => ⟨_, rfl, run_load1 9 (.tmp 6) g3 1 _ rfl Tryz.isAgg9 (h.dep n 0 6 (by kernel_rfl) rfl) ((r3.later h.inv).cell rfl)⟩⟩
    · exact .inl ⟨by kernel_rfl, fun L a1 w1 n h => ⟨_, rfl, run_lenStr 9 (.tmp 7) _ rfl Tryz.underlying9 (h.dep n 1 7 (by kernel_rfl) rfl)⟩⟩
    · refine .inl ⟨by kernel_rfl, fun L a1 w1 n h => ⟨.pointer (some ⟨g3, 2, none⟩), rfl, ?_⟩⟩
      have e0 : a1.eval (.tmp 3) = _ := h.var n 3 (by kernel_rfl)
      unfold execOp
      simp only [e0]
      go_simp
    · exact .inl ⟨by kernel_rfl, fun L a1 w1 n h => ⟨_, rfl, run_loadP TTP (.tmp 9) g3 2 TV [.int .i64 2, encStr []] [.map (some mb)] [nilS, .map none, nilP] _ rfl (h.dep n 3 9 (by kernel_rfl) rfl) (r3.later h.inv) rfl undTP rfl (by kernel_rfl)⟩⟩
    · refine .inr fun L a1 w1 n h K hK => ?_
      have e0 : a1.eval (.tmp 10) = .agg #[.map (some mb)] := h.dep n 4 10 (by kernel_rfl) rfl
      refine st_call 98 _ _ #[.agg #[.map (some mb)]] rfl Tryz.call98 ?_ (lenP_any w1 mb es (hm.later h.inv)) ?_
      · simp only [List.map_toArray, List.map_cons, List.map_nil, e0]
      · rintro e w3 ⟨rfl, b9⟩
        exact ⟨_, rfl, hK _ w3 rfl (h.inv.trans (b9.mono h.inv.size))⟩
    · exact .inl ⟨by kernel_rfl, fun L a1 w1 n h => ⟨_, rfl, run_addZ (.tmp 8) (.tmp 11) rfl (h.dep n 2 8 (by kernel_rfl) rfl) (h.dep n 5 11 (by kernel_rfl) rfl) ha1.out⟩⟩
    · refine .inl ⟨by kernel_rfl, fun L a1 w1 n h => ⟨.pointer (some ⟨g3, 3, none⟩), rfl, ?_⟩⟩
      have e0 : a1.eval (.tmp 3) = _ := h.var n 3 (by kernel_rfl)
      unfold execOp
      simp only [e0]
      go_simp
    · exact .inl ⟨by kernel_rfl, fun L a1 w1 n h => ⟨_, rfl, run_load1 23 (.tmp 13) g3 3 _ rfl Tryz.isAgg23 (h.dep n 7 13 (by kernel_rfl) rfl) ((r3.later h.inv).cell rfl)⟩⟩
    · exact .inl ⟨by kernel_rfl, fun L a1 w1 n h => ⟨_, rfl, run_lenSl 23 (.tmp 14) none 0 0 rfl ⟨_, Tryz.underlying23⟩ (h.dep n 8 14 (by kernel_rfl) rfl)⟩⟩
    · exact .inl ⟨by kernel_rfl, fun L a1 w1 n h => ⟨_, rfl, run_addZ (.tmp 12) (.tmp 15) rfl (h.dep n 6 12 (by kernel_rfl) rfl) (h.dep n 9 15 (by kernel_rfl) rfl) ha2.out⟩⟩
    · refine .inl ⟨by kernel_rfl, fun L a1 w1 n h => ⟨.pointer (some ⟨g3, 4, none⟩), rfl, ?_⟩⟩
      have e0 : a1.eval (.tmp 3) = _ := h.var n 3 (by kernel_rfl)
      unfold execOp
      simp only [e0]
      go_simp
    · exact .inl ⟨by kernel_rfl, fun L a1 w1 n h => ⟨_, rfl, run_loadP TTU (.tmp 17) g3 4 TV [.int .i64 2, encStr [], .map (some mb), nilS] [.map none] [nilP] _ rfl (h.dep n 11 17 (by kernel_rfl) rfl) (r3.later h.inv) rfl undTU rfl (by kernel_rfl)⟩⟩
    · refine .inr fun L a1 w1 n h K hK => ?_
      have e0 : a1.eval (.tmp 18) = .agg #[.map none] := h.dep n 12 18 (by kernel_rfl) rfl
      refine st_call 99 _ _ #[.agg #[.map none]] rfl Tryz.call99 ?_ (lenU_no w1) ?_
      · simp only [List.map_toArray, List.map_cons, List.map_nil, e0]
      · rintro e w3 ⟨rfl, b9⟩
        exact ⟨_, rfl, hK _ w3 rfl (h.inv.trans (b9.mono h.inv.size))⟩
    · exact .inl ⟨by kernel_rfl, fun L a1 w1 n h => ⟨_, rfl, run_addZ (.tmp 16) (.tmp 19) rfl (h.dep n 10 16 (by kernel_rfl) rfl) (h.dep n 13 19 (by kernel_rfl) rfl) ha2.out⟩⟩
    · refine .inl ⟨by kernel_rfl, fun L a1 w1 n h => ⟨.pointer (some ⟨g3, 5, none⟩), rfl, ?_⟩⟩
      have e0 : a1.eval (.tmp 3) = _ := h.var n 3 (by kernel_rfl)
      unfold execOp
      simp only [e0]
      go_simp
    · exact .inl ⟨by kernel_rfl, fun L a1 w1 n h => ⟨_, rfl, run_load1 70 (.tmp 21) g3 5 _ rfl Tryz.isAgg70 (h.dep n 15 21 (by kernel_rfl) rfl) ((r3.later h.inv).cell rfl)⟩⟩
    · refine .inr fun L a1 w1 n h K hK => ?_
      have e0 : a1.eval (.tmp 22) = nilP := h.dep n 16 22 (by kernel_rfl) rfl
      refine st_call 90 _ _ #[nilP] rfl Tryz.call90 ?_ (len_no w1 nilP (.inl rfl)) ?_
      · simp only [List.map_toArray, List.map_cons, List.map_nil, e0]
      · rintro e w3 ⟨rfl, h9⟩
        exact ⟨_, rfl, hK _ w3 rfl (by rw [← h9]; exact h.inv)⟩
    · exact .inl ⟨by kernel_rfl, fun L a1 w1 n h => ⟨_, rfl, run_addZ (.tmp 20) (.tmp 23) rfl (h.dep n 14 20 (by kernel_rfl) rfl) (h.dep n 17 23 (by kernel_rfl) rfl) ha2.out⟩⟩
    · exact .inl ⟨by kernel_rfl, fun L a1 w1 n h => ⟨_, rfl, run_assign (.tmp 24) rfl (h.dep n 18 24 (by kernel_rfl) rfl)⟩⟩
  case he2 =>
    intro V w9 hV hJ
    have b9 : Below w4.heap.size w4 w9 := hJ
    have hE : V 19 = .int .i64 (es.length : Int) := hV 19 _ rfl
    clear hV hJ
    simp only [putOps, List.setIfInBounds_toArray, List.set_cons_succ, List.set_cons_zero, Nat.reduceAdd]
    rw [hE]
    go_wp2_with fail
    go_ret
    exact ⟨rfl, B4.trans (b9.mono B4.size)⟩
end Go.Proofs.YtpbkejmffddelaaGreat

/-
  A hash of plain data. Own work.
-/
namespace Go.Proofs.YtpbkejmffddelaaGreat
open Go.RowKit Go.Shelf Go.Maps
def foldP (ps : List Pr) : Ents := ps.foldl (fun es p => putE es p.f p.v) []
theorem foldP_more {l : List Pr} {i : Nat} {p : Pr} (h : l[i]? = some p) : foldP (l.take (i + 1)) = putE (foldP (l.take i)) p.f p.v := by
  rw [take_more h, foldP, List.foldl_append]; rfl
theorem putE_le (l : Ents) (n : Nm) (v : Value) : (putE l n v).length ≤ l.length + 1 := by
  unfold putE
  rw [insE_len]
  have : (delE l n).length ≤ l.length := List.length_filter_le _ _
  show (delE l n).length + 1 ≤ _
  omega
def SOf12 (gv g1 C4 : Nat) (A4 : Option Addr) (opn : Nat) (v : Value) : Prop :=
  match opn with
  | 0 => v = ptr gv
  | 1 => v = nilP
  | 2 => v = .pointer (some ⟨g1, 4, none⟩)
  | 3 => v = .slice A4 0 C4
  | 4 => v = .bool true
  | _ => True

set_option maxRecDepth 100000 in
set_option maxHeartbeats 2000000 in
theorem of_h (w : World) (ps : List Pr) (vp vl vs : Value) (h : VlM w w.heap.size ⟨2, [], ps, [], []⟩ vp vl vs) (few : ps.length ≤ 220) (hc : (⟨2, [], ps, [], []⟩ : Vl).chk = 0) (hs : ∀ q ∈ ps, q.f.length ≤ maxLen) :
    Calls Tryz.prog 21 #[vlV ⟨2, [], ps, [], []⟩ vp vl vs] w fun e w' => ∃ gv mb, e = .returned (.tuple #[ptr gv, .int .i64 0]) ∧ HVal w' w.heap.size gv mb (foldP ps) ∧ Below w.heap.size w w' := by
  have hsz := szVl ⟨2, [], ps, [], []⟩ vp vl vs
  have HC := fun (w1 : World) (hb : Below w.heap.size w w1) => check_any w1 ⟨2, [], ps, [], []⟩ vp vl vs (h.later hb) ⟨few, by simp, by simp⟩ (by simp)
  rw [hc] at HC
  replace HC := hide HC
  obtain ⟨A2, C2, rfl⟩ := h.p.sl
  obtain ⟨A3, C3, e3⟩ := h.l.sl
  have e3 : vl = .slice A3 0 C3 := e3
  subst e3
  obtain ⟨A4, C4, e4⟩ := h.s.sl
  have e4 : vs = .slice A4 0 C4 := e4
  subst e4
  have hlI : (ps.length : Int) ≤ 220 := by omega
  have hpP := h.p
  clear h hc
  go_enter Tryz.func21, Tryz.ntmps21
  go_wp2_with (first
    | ((with_reducible refine wl_box (o := ⟨some 1, _, _, _, _, _⟩) rfl 26 (.tmp 0) _ [.int .i64 2, encStr [], .slice A2 ps.length C2, .slice A3 0 C3, .slice A4 0 C4] rfl rfl rfl ?_); intro g1 w1 r1 p1 l1 b1)
    | (with_reducible refine wl_load_row (o := ⟨some 8, _, _, _, _, _⟩) rfl 26 (.tmp 1) g1 26 [.int .i64 2, encStr [], .slice A2 ps.length C2, .slice A3 0 C3, .slice A4 0 C4] _ rfl rfl r1 Tryz.underlying26 rfl hsz ?_))
  refine (HC.out w1 b1).mono ?_
  rintro e w2 ⟨rfl, b2⟩
  have B2 := b1.trans (b2.mono b1.size)
  have r12 := r1.later b2
  have c0 := r12.cell (j := 0) rfl
  go_wp2_with fail
  refine (new2_any w2).mono ?_
  rintro e w3 ⟨gv, mb, rfl, h3, b3⟩
  have B3 := B2.trans (b3.mono B2.size)
  have r13 := r12.later b3
  clear c0
  have c1 := r13.cell (j := 1) rfl
  go_wp2_with fail
  refine (setText_no w3 (ptr gv) 2 [] (some mb) nilS none nilP (encStr []) h3.held (by decide)).mono ?_
  rintro e w4 ⟨rfl, b4⟩
  have B4 := B3.trans (b4.mono B3.size)
  have r14 := r13.later b4
  have h4 := h3.later b4
  clear c1
  have c2 := r14.cell (j := 2) rfl
  have hmb : w.heap.size ≤ mb := Nat.le_trans B2.size h4.lo.2
  have hgl : g1 < w2.heap.size := r12.lt
  clear r1 r12 r13 h3 b1 b2 b3 b4
  go_wp2_with fail
  go_loopw [23] (fun iv wr => ∃ i : Nat, i ≤ ps.length ∧ iv = .int .i64 (i : Int) ∧ HVal wr w2.heap.size gv mb (foldP (ps.take i)) ∧ (foldP (ps.take i)).length ≤ i ∧ But mb w4 wr) (fun iv _ => ps.length - (intOf iv).toNat)
  case atStart => exact ⟨0, by omega, rfl, h4, by simp [foldP], But.refl _ _⟩
  case round =>
    clear c2
    obtain ⟨i, hi, rfl, hH, hel, UW⟩ := hrel
    have BW := B4.trans (UW.below hmb B4.size)
    have hne : g1 ≠ mb := by have := h4.lo.2; omega
    have r1w := r14.but UW hne
    by_cases hlt : i < ps.length
    · have hltI : (i : Int) < (ps.length : Int) := by omega
      obtain ⟨a, ha⟩ : ∃ a, ps[i]? = some a := ⟨_, List.getElem?_eq_getElem hlt⟩
      have hfm := hide (foldP_more ha)
      have haf := hide (hs a (List.mem_of_getElem? ha))
      have hple := hide (putE_le (foldP (ps.take i)) a.f a.v)
      obtain ⟨x1, ga, oa, rfl, hga, hca⟩ := (hpP.below BW).at ha
      have hszp := szPr a
      have hone := onePr a
      have hlt9 := hide hlt
      have hel9 := hide hel
      replace hH := hide hH
      clear ha x1 hga hel hi r14
      go_wp2_with (first
        | (with_reducible refine wl_run (o := ⟨some 25, _, _, _, _, _⟩) rfl (.pointer (some ⟨ga, oa + i * 2, none⟩)) (run_idxO 22 (.tmp 21) (.tmp 23) 87 2 ga oa ps.length C2 i rfl Tryz.underlying22 Tryz.sizeOf87 rfl rfl hlt) ?_)
        | (with_reducible refine wl_load_cells (o := ⟨some 26, _, _, _, _, _⟩) rfl 87 (.tmp 25) ga (oa + i * 2) a.cells _ rfl rfl hca Tryz.underlying87 rfl hszp ?_)
        | ((with_reducible refine wl_alloc (o := ⟨some 7, _, _, _, _, _⟩) rfl 87 _ [encStr [], encStr []] rfl zeroPr rfl ?_); intro g7 w6 r6 p6 l6 b6)
        | ((with_reducible refine wl_store_row rfl 87 (.tmp 7) (.tmp 26) g7 87 _ a.cells rfl rfl rfl r6 hszp rfl hone ?_); intro w7 r7 o7; have b7 := b6.trans ((o7.below p6).mono (Nat.le_refl _)); have q0 := r7.cell (j := 0) rfl; have q1 := r7.cell (j := 1) rfl))
      refine (setField_h w7 w2.heap.size gv mb (foldP (ps.take i)) a.f a.t (hH.out.later b7) haf.out (by have := hel9.out; have := hlt9.out; simp only [maxLen]; omega)).mono ?_
      rintro e w8 ⟨rfl, h8, u8⟩
      have h8 : HVal w8 w2.heap.size gv mb (foldP (ps.take (i + 1))) := by rw [hfm.out]; exact h8
      have U8 := UW.trans ((But.of b7 mb).trans u8)
      have hel8 : (foldP (ps.take (i + 1))).length ≤ i + 1 := by rw [hfm.out]; exact Nat.le_trans hple.out (by have := hel9.out; omega)
      clear q0 q1
      go_wp2_with fail
      go_roundw
      case rel => exact ⟨i + 1, by have := hlt9.out; omega, by go_num, h8, hel8, U8⟩
      case measure => have := hlt9.out; simp [intOf]; omega
    · obtain rfl : i = ps.length := by omega
      rw [List.take_length] at hH
      have c3 := r1w.cell (j := 3) rfl
      replace hel := hide hel
      go_wp2_with fail
      refine (setItems_no wr (ptr gv) 2 [] (some mb) nilS none nilP (.slice A3 0 C3) hH.held (by decide) (by decide)).mono ?_
      rintro e w9 ⟨rfl, b9⟩
      have B9 := BW.trans (b9.mono BW.size)
      have r1 := r1w.later b9
      replace hH := hH.later b9
      clear c3 r14 r1w
      go_wp2_with fail
      rename_i K6 hK6
      refine wp_region_vals [1, 4] (SOf12 gv g1 C4 A4) (fun _ _ wz => Below w9.heap.size w9 wz) (by kernel_rfl) (by kernel_rfl) (by kernel_rfl) (by kernel_rfl) (by kernel_rfl) ((Below.refl _ _).drew) ?obs2 ?he2
      case obs2 =>
        refine ⟨?_, ?_, ?_, ?_, ?_, trivial⟩
        · exact .inl ⟨by kernel_rfl, fun L a1 w1 n h => ⟨_, rfl, run_move (.tmp 5) rfl (h.var n 5 (by kernel_rfl))⟩⟩
        · refine .inr fun L a1 w1 n h K hK => ?_
          have e0 : a1.eval (.tmp 38) = ptr gv := h.dep n 0 38 (by kernel_rfl) rfl
          refine st_call 38 _ _ #[ptr gv] rfl Tryz.call38 ?_ (sorted_ev w1 (ptr gv) 2 [] (some mb) nilS none nilP (hH.held.later h.inv)) ?_
          · simp only [List.map_toArray, List.map_cons, List.map_nil, e0]
          · rintro e w3 ⟨rfl, b9⟩
            exact ⟨_, rfl, hK _ w3 rfl (h.inv.trans (b9.mono h.inv.size))⟩
        · refine .inl ⟨by kernel_rfl, fun L a1 w1 n h => ⟨.pointer (some ⟨g1, 4, none⟩), rfl, ?_⟩⟩
          have e0 : a1.eval (.tmp 1) = _ := h.var n 1 (by kernel_rfl)
          unfold execOp
          simp only [e0]
          go_simp
        · exact .inl ⟨by kernel_rfl, fun L a1 w1 n h => ⟨_, rfl, run_load1 24 (.tmp 40) g1 4 _ rfl Tryz.isAgg24 (h.dep n 2 40 (by kernel_rfl) rfl) ((r1.later h.inv).cell rfl)⟩⟩
        · refine .inr fun L a1 w1 n h K hK => ?_
          have e0 : a1.eval (.tmp 39) = nilP := h.dep n 1 39 (by kernel_rfl) rfl
          have e1 : a1.eval (.tmp 41) = .slice A4 0 C4 := h.dep n 3 41 (by kernel_rfl) rfl
          refine st_call 80 _ _ #[nilP, .slice A4 0 C4] rfl Tryz.call80 ?_ (fill_no w1 nilP A4 C4) ?_
          · simp only [List.map_toArray, List.map_cons, List.map_nil, e0, e1]
          · rintro e w3 ⟨rfl, h9⟩
            exact ⟨_, rfl, hK _ w3 rfl (by rw [← h9]; exact h.inv)⟩
      case he2 =>
        intro V w10 hV hJ
        have b10 : Below w9.heap.size w9 w10 := hJ
        clear hV hJ
        simp only [putOps, List.setIfInBounds_toArray, List.set_cons_succ, List.set_cons_zero, Nat.reduceAdd]
        refine hK6 _ _ ?_
        have h10 := hH.later b10
        have B10 := B9.trans (b10.mono B9.size)
        go_wp2_with fail
        go_ret2
        exact ⟨gv, mb, rfl, ⟨h10.v, h10.map, h10.pr, Nat.le_trans B2.size h10.lo.1, Nat.le_trans B2.size h10.lo.2⟩, B10⟩
end Go.Proofs.YtpbkejmffddelaaGreat

/-
  The laws' example. Own work.
-/
namespace Go.Proofs.YtpbkejmffddelaaGreat
open Go.RowKit Go.Shelf Go.Maps
abbrev q0 : Pr := ⟨[97], [98, 99]⟩
abbrev x0 : Vl := ⟨2, [], [q0], [], []⟩
theorem x0_own : x0.own = x0 := by decide
theorem x0_chk : x0.chk = 0 := by decide
theorem x0_size : x0.own.size = 27 := by decide
theorem x0_lng : lngT x0.own.tells = false := by decide
theorem x0_few : x0.Few := ⟨by decide, by decide, by decide⟩
theorem x0_fold : foldP x0.ps = hE [q0] := rfl
def PlF (v : Value) (w : World) : Prop := ∃ vp, v = vlV x0 vp nilS nilS ∧ SlV Pr.cells 2 w w.heap.size vp [q0]
theorem PlF.later {v : Value} {w w' : World} (h : PlF v w) (hb : Below w.heap.size w w') : PlF v w' := by
  obtain ⟨a, e, m⟩ := h
  exact ⟨a, e, m.later hb⟩
theorem builtX0 (g : Nat) : Tryz.prog.built 26 [(0, .int .i64 2), (2, .slice (some ⟨g, 0, none⟩) 1 1)] = some [.int .i64 2, encStr [], .slice (some ⟨g, 0, none⟩) 1 1, nilS, nilS].toArray := by kernel_rfl
theorem Row.slP1 {w : World} {g : Nat} {a : Pr} (h : Row w 87 g a.cells) : SlV Pr.cells 2 w w.heap.size (.slice (some ⟨g, 0, none⟩) 1 1) [a] :=
  OwnP.slv (T := 0) (l := [a]) (h.owns (base := 0) (n := 1) (size := 2) (Nat.zero_le _) rfl (by decide))
def FAw (q : Unit) (opn : Nat) (v : Value) (w : World) : Prop :=
  match opn with
  | 14 => PlF v w
  | _ => True
theorem FAw_mono (q : Unit) : ∀ j v w w', FAw q j v w → Below w.heap.size w w' → FAw q j v w' := by
  intro j v w w' h hb
  unfold FAw at h ⊢
  split at h
  · exact h.later hb
  · trivial

def SAw3 (g1 gp gv : Nat) (opn : Nat) (v : Value) : Prop :=
  match opn with
  | 0 | 15 => v = .agg (vlC x0 (.slice (some ⟨gp, 0, none⟩) 1 1) nilS nilS).toArray
  | 1 => v = .int .i64 27
  | 2 | 3 | 5 | 6 | 7 | 10 | 11 | 12 | 16 | 17 | 18 => v = .bool true
  | 4 => v = .int .i64 0
  | 8 | 13 => v = ptr gv
  | 9 => v = .int .i64 1
  | _ => True

set_option maxRecDepth 100000 in
set_option maxHeartbeats 2000000 in
theorem awake_any (w : World) : Calls Tryz.prog 10 #[] w fun e w' => e = .returned (.bool true) ∧ Below w.heap.size w w' := by
  obtain ⟨ip, hip, hiz, his, hib⟩ := pairI
  have hbp := builtPr [97] [98, 99]
  have hbx := builtX0
  have h02 : 0 < 2 := by decide
  go_enter Tryz.func10, Tryz.ntmps10
  go_wp2_with (first
    | (with_reducible refine wl_build (o := ⟨some 4, _, _, _, _, _⟩) rfl 87 [(0, _), (1, _)] rfl [(0, encStr [97]), (1, encStr [98, 99])] rfl [encStr [97], encStr [98, 99]] hbp ?_)
    | ((with_reducible refine wl_build1B (o := ⟨some 5, _, _, _, _, _⟩) rfl 22 (.tmp 4) rfl 87 ip _ [encStr [97], encStr [98, 99]] 2 Tryz.underlying22 hip hiz rfl his rfl h02 (by decide) rfl ?_); intro gp w2 r2 p2 l2 b2)
    | ((with_reducible refine wl_build (o := ⟨some 6, _, _, _, _, _⟩) rfl 26 [(0, _), (2, .tmp 5)] rfl [(0, .int .i64 2), (2, .slice (some ⟨gp, 0, none⟩) 1 1)] rfl [.int .i64 2, encStr [], .slice (some ⟨gp, 0, none⟩) 1 1, nilS, nilS] (hbx gp) ?_))
    | ((with_reducible refine wl_alloc (o := ⟨some 1, _, _, _, _, _⟩) rfl 26 _ [.int .i64 0, encStr [], nilS, nilS, nilS] rfl zeroVl rfl ?_); intro g1 w3 r3 p3 l3 b3)
    | ((with_reducible refine wl_store_row rfl 26 (.tmp 1) (.tmp 6) g1 26 _ [.int .i64 2, encStr [], .slice (some ⟨gp, 0, none⟩) 1 1, nilS, nilS] rfl rfl rfl r3 (by kernel_rfl) rfl (by simp [Value.oneCell', encStr]) ?_); intro w4 r4 o4; have b4 := b3.trans ((o4.below p3).mono (Nat.le_refl _)); have B4 := b2.trans (b4.mono b2.size); have rp := r2.later b4)
    | (with_reducible refine wl_load_row (o := ⟨some 8, _, _, _, _, _⟩) rfl 26 (.tmp 1) g1 26 [.int .i64 2, encStr [], .slice (some ⟨gp, 0, none⟩) 1 1, nilS, nilS] _ rfl rfl r4 Tryz.underlying26 rfl (by kernel_rfl) ?_))
  have hM : VlM w4 w4.heap.size x0 (.slice (some ⟨gp, 0, none⟩) 1 1) nilS nilS := ⟨Row.slP1 (a := q0) rp, SlV.nil _ _, SlV.nil _ _⟩
  refine (of_h w4 [q0] (.slice (some ⟨gp, 0, none⟩) 1 1) nilS nilS hM (by decide) x0_chk (by intro q hq; simp only [List.mem_singleton] at hq; subst hq; decide)).mono ?_
  rintro e w5 ⟨gv, mb, rfl, hH, b5⟩
  have hH : HVal w5 w4.heap.size gv mb (hE [q0]) := hH
  have B5 := B4.trans (b5.mono B4.size)
  have r1 : Row w5 26 g1 (vlC x0 (.slice (some ⟨gp, 0, none⟩) 1 1) nilS nilS) := r4.later b5
  replace hM := hM.later b5
  obtain ⟨B, hB⟩ : ∃ B, B = w4.heap.size := ⟨_, rfl⟩
  rw [← hB] at hH
  clear hB
  go_wp2_with fail
  refine wp_region_valsG [1, 9, 14, 16] (SAw3 g1 gp gv) (JF w5 [1, 9, 14, 16] (FAw ())) (by kernel_rfl) (by kernel_rfl) (by kernel_rfl) (by kernel_rfl) (JF.start _) ?obs3 ?he3
  case obs3 =>
    refine ⟨?_, ?_, ?_, ?_, ?_, ?_, ?_, ?_, ?_, ?_, ?_, ?_, ?_, ?_, ?_, ?_, ?_, ?_, ?_, trivial⟩
    · refine ⟨.inl rfl, ?_⟩
      exact .inl ⟨by kernel_rfl, fun L a1 w1 n h => ⟨_, rfl, run_loadRow 26 (.tmp 1) g1 26 _ _ rfl (h.var n 1 (by kernel_rfl)) (r1.later h.inv.1) Tryz.underlying26 rfl (szVl x0 _ _ _)⟩⟩
    · refine ⟨.inl rfl, ?_⟩
      refine .inr fun L a1 w1 n h K hK => ?_
      have e0 : a1.eval (.tmp 12) = vlV x0 (.slice (some ⟨gp, 0, none⟩) 1 1) nilS nilS := h.dep n 0 12 (by kernel_rfl) rfl
      refine JF.call (FAw_mono ()) h hK 13 rfl 41 _ _ #[vlV x0 (.slice (some ⟨gp, 0, none⟩) 1 1) nilS nilS] rfl Tryz.call41 ?_ (size_any w1 x0 _ _ _ (hM.later h.inv.1) x0_few.own (by decide) x0_lng) ?_
      · simp only [List.map_toArray, List.map_cons, List.map_nil, e0]
      · rintro e w3 ⟨rfl, b9⟩
        exact ⟨_, rfl, (show Value.int .i64 _ = Value.int .i64 27 by rw [x0_size]), trivial, b9⟩
    · refine ⟨.inl rfl, ?_⟩
      exact .inl ⟨by kernel_rfl, fun L a1 w1 n h => ⟨_, rfl, run_eqlI (.tmp 13) (.const (.int .i64 27)) rfl (h.dep n 1 13 (by kernel_rfl) rfl) rfl rfl⟩⟩
    · refine ⟨.inl rfl, ?_⟩
      exact .inl ⟨by kernel_rfl, fun L a1 w1 n h => ⟨_, rfl, run_move (.tmp 14) rfl (h.dep n 2 14 (by kernel_rfl) rfl)⟩⟩
    · refine ⟨.inr ⟨3, true, 15, rfl, by kernel_rfl, rfl, by simp, fun v h => h⟩, ?_⟩
      exact .inl ⟨by kernel_rfl, fun L a1 w1 n h => ⟨_, rfl, run_move (.tmp 3) rfl (h.var n 3 (by kernel_rfl))⟩⟩
    · refine ⟨.inr ⟨3, true, 15, rfl, by kernel_rfl, rfl, by simp, fun v h => h⟩, ?_⟩
      exact .inl ⟨by kernel_rfl, fun L a1 w1 n h => ⟨_, rfl, run_eqlI (.tmp 16) (.const (.int .i64 0)) rfl (h.dep n 4 16 (by kernel_rfl) rfl) rfl rfl⟩⟩
    · refine ⟨.inl rfl, ?_⟩
      exact .inl ⟨by kernel_rfl, fun L a1 w1 n h => ⟨_, rfl, run_pickT (.tmp 15) _ _ rfl (h.dep n 3 15 (by kernel_rfl) rfl) (h.dep n 5 17 (by kernel_rfl) rfl)⟩⟩
    · refine ⟨.inl rfl, ?_⟩
      exact .inl ⟨by kernel_rfl, fun L a1 w1 n h => ⟨_, rfl, run_move (.tmp 18) rfl (h.dep n 6 18 (by kernel_rfl) rfl)⟩⟩
    · refine ⟨.inr ⟨7, true, 19, rfl, by kernel_rfl, rfl, by simp, fun v h => h⟩, ?_⟩
      exact .inl ⟨by kernel_rfl, fun L a1 w1 n h => ⟨_, rfl, run_move (.tmp 2) rfl (h.var n 2 (by kernel_rfl))⟩⟩
    · refine ⟨.inr ⟨7, true, 19, rfl, by kernel_rfl, rfl, by simp, fun v h => h⟩, ?_⟩
      refine .inr fun L a1 w1 n h K hK => ?_
      have e0 : a1.eval (.tmp 20) = ptr gv := h.dep n 8 20 (by kernel_rfl) rfl
      refine JF.call (FAw_mono ()) h hK 21 rfl 35 _ _ #[ptr gv] rfl Tryz.call35 ?_ (len_h w1 B gv mb (hE [q0]) (hH.later h.inv.1) (by decide)) ?_
      · simp only [List.map_toArray, List.map_cons, List.map_nil, e0]
      · rintro e w3 ⟨rfl, b9⟩
        exact ⟨_, rfl, rfl, trivial, b9⟩
    · refine ⟨.inr ⟨7, true, 19, rfl, by kernel_rfl, rfl, by simp, fun v h => h⟩, ?_⟩
      exact .inl ⟨by kernel_rfl, fun L a1 w1 n h => ⟨_, rfl, run_eqlI (.tmp 21) (.const (.int .i64 1)) rfl (h.dep n 9 21 (by kernel_rfl) rfl) rfl rfl⟩⟩
    · refine ⟨.inl rfl, ?_⟩
      exact .inl ⟨by kernel_rfl, fun L a1 w1 n h => ⟨_, rfl, run_pickT (.tmp 19) _ _ rfl (h.dep n 7 19 (by kernel_rfl) rfl) (h.dep n 10 22 (by kernel_rfl) rfl)⟩⟩
    · refine ⟨.inl rfl, ?_⟩
      exact .inl ⟨by kernel_rfl, fun L a1 w1 n h => ⟨_, rfl, run_move (.tmp 23) rfl (h.dep n 11 23 (by kernel_rfl) rfl)⟩⟩
    · refine ⟨.inr ⟨12, true, 24, rfl, by kernel_rfl, rfl, by simp, fun v h => h⟩, ?_⟩
      exact .inl ⟨by kernel_rfl, fun L a1 w1 n h => ⟨_, rfl, run_move (.tmp 2) rfl (h.var n 2 (by kernel_rfl))⟩⟩
    · refine ⟨.inr ⟨12, true, 24, rfl, by kernel_rfl, rfl, by simp, fun v h => h⟩, ?_⟩
      refine .inr fun L a1 w1 n h K hK => ?_
      have e0 : a1.eval (.tmp 25) = ptr gv := h.dep n 13 25 (by kernel_rfl) rfl
      refine JF.call (FAw_mono ()) h hK 26 rfl 25 _ _ #[ptr gv] rfl Tryz.call25 ?_ (plain_h w1 B gv mb [q0] (hH.later h.inv.1) (by decide) (by intro q hq; simp only [List.mem_singleton] at hq; subst hq; decide)) ?_
      · simp only [List.map_toArray, List.map_cons, List.map_nil, e0]
      · rintro e w3 ⟨p9, rfl, s9, b9⟩
        exact ⟨_, rfl, trivial, ⟨p9, rfl, s9⟩, b9⟩
    · refine ⟨.inr ⟨12, true, 24, rfl, by kernel_rfl, rfl, by simp, fun v h => h⟩, ?_⟩
      exact .inl ⟨by kernel_rfl, fun L a1 w1 n h => ⟨_, rfl, run_loadRow 26 (.tmp 1) g1 26 _ _ rfl (h.var n 1 (by kernel_rfl)) (r1.later h.inv.1) Tryz.underlying26 rfl (szVl x0 _ _ _)⟩⟩
    · refine ⟨.inr ⟨12, true, 24, rfl, by kernel_rfl, rfl, by simp, fun v h => h⟩, ?_⟩
      refine .inr fun L a1 w1 n h K hK => ?_
      obtain ⟨p9, v9, s9⟩ := JF.get h n 14 26 (by kernel_rfl) (by kernel_rfl) rfl
      have e0 : a1.eval (.tmp 26) = vlV x0 p9 nilS nilS := v9
      have e1 : a1.eval (.tmp 27) = vlV x0 (.slice (some ⟨gp, 0, none⟩) 1 1) nilS nilS := h.dep n 15 27 (by kernel_rfl) rfl
      refine JF.call (FAw_mono ()) h hK 28 rfl 24 _ _ #[vlV x0 p9 nilS nilS, vlV x0 (.slice (some ⟨gp, 0, none⟩) 1 1) nilS nilS] rfl Tryz.call24 ?_ (rsameV_any w1 x0 x0 _ _ _ _ _ _ ⟨s9, SlV.nil _ _, SlV.nil _ _⟩ (hM.later h.inv.1) (x0_few.fits (by decide)) (x0_few.fits (by decide))) ?_
      · simp only [List.map_toArray, List.map_cons, List.map_nil, e0, e1]
      · rintro e w3 ⟨rfl, b9⟩
        exact ⟨_, rfl, (show Value.bool _ = Value.bool true by simp), trivial, b9⟩
    · refine ⟨.inl rfl, ?_⟩
      exact .inl ⟨by kernel_rfl, fun L a1 w1 n h => ⟨_, rfl, run_pickT (.tmp 24) _ _ rfl (h.dep n 12 24 (by kernel_rfl) rfl) (h.dep n 16 28 (by kernel_rfl) rfl)⟩⟩
    · refine ⟨.inl rfl, ?_⟩
      exact .inl ⟨by kernel_rfl, fun L a1 w1 n h => ⟨_, rfl, run_assign (.tmp 29) rfl (h.dep n 17 29 (by kernel_rfl) rfl)⟩⟩
  case he3 =>
    intro V w9 hV hJ
    have b9 : Below w5.heap.size w5 w9 := hJ.1
    have hE9 : V 18 = .bool true := hV 18 _ rfl
    clear hV hJ
    simp only [putOps, List.setIfInBounds_toArray, List.set_cons_succ, List.set_cons_zero, Nat.reduceAdd]
    rw [hE9]
    go_wp2_with fail
    go_ret
    exact ⟨rfl, B5.trans (b9.mono B5.size)⟩
end Go.Proofs.YtpbkejmffddelaaGreat

/-
  Values that came in as arguments. Own work.
-/
namespace Go.Proofs.YtpbkejmffddelaaGreat
open Go.RowKit Go.Shelf Go.ChangeShapes Go.WideShapes
instance : Inhabited Sc := ⟨⟨[], 0⟩⟩
instance : Inhabited Vl := ⟨⟨0, [], [], [], []⟩⟩
section
variable {H : Type} {enc : TypeId × Value → H} {w : World} {spare : Nat → Bool} {held : Bool}
/-- A field of a struct that was read. -/
theorem field_one {n off : Nat} {t : TypeId} {fs : Array Field} {cs : List Value} {xs : List (DataW H × List MemPlace)} (hlen : xs.length = fs.size)
    (hf : ∀ (i : Nat) (f : Field), fs[i]? = some f → DataW.trod enc Tryz.prog w 0 spare held n f.type ((cs.drop f.offset).take (Tryz.prog.cellsOf f.type)) = xs[i]?)
    (i : Nat) (hi : fs[i]?.map (fun f => (f.offset, f.type)) = some (off, t)) (h1 : Tryz.prog.cellsOf t = 1) (ho : off < cs.length) : ∃ v x, cs[off]? = some v ∧ DataW.trod enc Tryz.prog w 0 spare held n t [v] = some x := by
  obtain ⟨f, hfi, hft⟩ := Option.map_eq_some_iff.1 hi
  injection hft with h2 h3
  have hlt : i < xs.length := by rw [hlen]; exact (Array.getElem?_eq_some_iff.1 hfi).1
  have h := hf i f hfi
  rw [h2, h3, h1, List.getElem?_eq_getElem hlt] at h
  have e : (cs.drop off).take 1 = [cs[off]] := by
    rw [List.drop_eq_getElem_cons ho]; rfl
  rw [e] at h
  exact ⟨_, _, List.getElem?_eq_getElem ho, h⟩
set_option maxRecDepth 100000 in
theorem open_score {fuel : Nat} {cs : List Value} {x : DataW H × List MemPlace} (h : DataW.trod enc Tryz.prog w 0 spare held fuel 99 cs = some x) : ∃ q : Sc, cs = q.cells ∧ isI q.s := by
  obtain ⟨xs, n, _, rfl, hl, hlen, hf⟩ := DataW.trod_struct (fs := Tryz.prog.fieldsOf 99) Tryz.underlying99 h
  rw [show Tryz.prog.cellsOf 99 = 2 by kernel_rfl] at hl
  obtain ⟨v1, x1, g1, h1⟩ := field_one hlen hf 0 (show (Tryz.prog.fieldsOf 99)[0]?.map (fun f => (f.offset, f.type)) = some (0, 9) by kernel_rfl) (by kernel_rfl) (by omega)
  obtain ⟨v2, x2, g2, h2⟩ := field_one hlen hf 1 (show (Tryz.prog.fieldsOf 99)[1]?.map (fun f => (f.offset, f.type)) = some (1, 3) by kernel_rfl) (by kernel_rfl) (by omega)
  obtain ⟨s1, e1, _, _⟩ := DataW.trod_string Tryz.underlying9 h1
  obtain ⟨z, e2, _, hz⟩ := DataW.trod_int Tryz.underlying3 h2
  refine ⟨⟨s1.data.toList, z⟩, ?_, wf_i64 hz⟩
  simp only [List.cons.injEq, and_true] at e1 e2
  subst e1 e2
  match cs, hl with
  | [u1, u2], _ =>
    simp at g1 g2
    rw [g1, g2]
theorem open_sc1 {fuel : Nat} {cs : List Value} {x : DataW H × List MemPlace} (h : DataW.trod enc Tryz.prog w 0 spare held fuel 99 cs = some x) : ∃ q : Sc, cs = q.cells := let ⟨q, e, _⟩ := open_score h; ⟨q, e⟩
set_option maxRecDepth 100000 in
theorem open_pair {fuel : Nat} {cs : List Value} {x : DataW H × List MemPlace} (h : DataW.trod enc Tryz.prog w 0 spare held fuel 87 cs = some x) : ∃ q : Pr, cs = q.cells := by
  obtain ⟨xs, n, _, rfl, hl, hlen, hf⟩ := DataW.trod_struct (fs := Tryz.prog.fieldsOf 87) Tryz.underlying87 h
  rw [show Tryz.prog.cellsOf 87 = 2 by kernel_rfl] at hl
  obtain ⟨v1, x1, g1, h1⟩ := field_one hlen hf 0 (show (Tryz.prog.fieldsOf 87)[0]?.map (fun f => (f.offset, f.type)) = some (0, 9) by kernel_rfl) (by kernel_rfl) (by omega)
  obtain ⟨v2, x2, g2, h2⟩ := field_one hlen hf 1 (show (Tryz.prog.fieldsOf 87)[1]?.map (fun f => (f.offset, f.type)) = some (1, 9) by kernel_rfl) (by kernel_rfl) (by omega)
  obtain ⟨s1, e1, _, _⟩ := DataW.trod_string Tryz.underlying9 h1
  obtain ⟨s2, e2, _, _⟩ := DataW.trod_string Tryz.underlying9 h2
  refine ⟨⟨s1.data.toList, s2.data.toList⟩, ?_⟩
  simp only [List.cons.injEq, and_true] at e1 e2
  subst e1 e2
  match cs, hl with
  | [u1, u2], _ =>
    simp at g1 g2
    rw [g1, g2]
theorem open_word {fuel : Nat} {cs : List Value} {x : DataW H × List MemPlace} (h : DataW.trod enc Tryz.prog w 0 spare held fuel 9 cs = some x) : ∃ q : Nm, cs = cS q := by
  obtain ⟨s1, e1, _, _⟩ := DataW.trod_string Tryz.underlying9 h
  exact ⟨s1.data.toList, e1⟩
set_option maxRecDepth 100000 in
theorem open_slP {fuel : Nat} {v : Value} {x : DataW H × List MemPlace} (h : DataW.trod enc Tryz.prog w 0 spare held fuel 22 [v] = some x) (hz : ∀ n ∈ x.1.weights Tryz.prog 22, n ≤ reachBytes) :
    ∃ l : List Pr, SlV Pr.cells 2 w w.heap.size v l ∧ l.length ≤ 140737488355328 ∧ (∃ A c, v = .slice A l.length c ∧ l.length ≤ c) := by
  rcases Go.Deep.open_slice Tryz.underlying22 h with ⟨hcs, _⟩ | ⟨a, len, cap, m, n, D, Pl, hcs, _, hl, hm, hmm, rfl, hx⟩
  · simp only [List.cons.injEq, and_true] at hcs
    subst hcs
    exact ⟨[], SlV.nil _ _, by simp, none, 0, rfl, Nat.le_refl _⟩
  · simp only [List.cons.injEq, and_true] at hcs
    subst hcs
    have hnm : len ≤ m := by rw [hmm]; split <;> omega
    have hb := hz ((((List.range len).map D).length + ((List.range (m - len)).map fun j => D (len + j)).length) * Tryz.prog.bytesOf 87) (by simp [DataW.weights, Tryz.underlying22])
    rw [show Tryz.prog.bytesOf 87 = 32 by kernel_rfl] at hb
    simp only [List.length_map, List.length_range, reachBytes] at hb
    have key : ∀ i, i < len → ∃ q : Pr, (∀ j v, (Pr.cells q)[j]? = some v → w.cell? ((a.add (i * 2)).add j) = some v) := by
      intro i hi
      obtain ⟨cs', h1, h2⟩ := hx i (by omega)
      rw [show Tryz.prog.cellsOf 87 = 2 by kernel_rfl] at h1
      obtain ⟨_, hlen, hat⟩ := World.cells?_some h1
      obtain ⟨q, rfl⟩ := open_pair h2
      refine ⟨q, fun j v hj => ?_⟩
      have hj6 := (List.getElem?_eq_some_iff.1 hj).1
      have := hat j hj6
      rw [this]
      exact hj
    obtain ⟨q, hq⟩ := Go.Deep.choose_lt (α := Pr) key
    refine ⟨(List.range len).map q, ⟨some a, cap, by simp, fun h0 => ?_⟩, by simp; omega, some a, cap, by simp, by simpa using hl⟩
    simp only [List.length_map, List.length_range] at h0
    obtain ⟨b, off, spot⟩ := a
    have hc0 := (hq 0 h0) 0 _ rfl
    have hspot : spot = none := by simpa [Addr.add] using World.cell?_spot hc0
    subst hspot
    refine ⟨b, off, rfl, ?_, fun i y hy j u hu => ?_⟩
    · have := block_lt_of_cell hc0
      simpa [Addr.add] using this
    · have hi : i < len := by have := (List.getElem?_eq_some_iff.1 hy).1; simpa using this
      rw [List.getElem?_map, List.getElem?_range hi] at hy
      obtain rfl : q i = y := by simpa using hy
      have := hq i hi j u hu
      rw [addr_plain, addr_plain] at this
      exact this
set_option maxRecDepth 100000 in
theorem open_slW {fuel : Nat} {v : Value} {x : DataW H × List MemPlace} (h : DataW.trod enc Tryz.prog w 0 spare held fuel 23 [v] = some x) (hz : ∀ n ∈ x.1.weights Tryz.prog 23, n ≤ reachBytes) :
    ∃ l : List Nm, SlV cS 1 w w.heap.size v l ∧ l.length ≤ 140737488355328 ∧ (∃ A c, v = .slice A l.length c ∧ l.length ≤ c) := by
  rcases Go.Deep.open_slice Tryz.underlying23 h with ⟨hcs, _⟩ | ⟨a, len, cap, m, n, D, Pl, hcs, _, hl, hm, hmm, rfl, hx⟩
  · simp only [List.cons.injEq, and_true] at hcs
    subst hcs
    exact ⟨[], SlV.nil _ _, by simp, none, 0, rfl, Nat.le_refl _⟩
  · simp only [List.cons.injEq, and_true] at hcs
    subst hcs
    have hnm : len ≤ m := by rw [hmm]; split <;> omega
    have hb := hz ((((List.range len).map D).length + ((List.range (m - len)).map fun j => D (len + j)).length) * Tryz.prog.bytesOf 9) (by simp [DataW.weights, Tryz.underlying23])
    rw [show Tryz.prog.bytesOf 9 = 16 by kernel_rfl] at hb
    simp only [List.length_map, List.length_range, reachBytes] at hb
    have key : ∀ i, i < len → ∃ q : Nm, (∀ j v, (cS q)[j]? = some v → w.cell? ((a.add (i * 1)).add j) = some v) := by
      intro i hi
      obtain ⟨cs', h1, h2⟩ := hx i (by omega)
      rw [show Tryz.prog.cellsOf 9 = 1 by kernel_rfl] at h1
      obtain ⟨_, hlen, hat⟩ := World.cells?_some h1
      obtain ⟨q, rfl⟩ := open_word h2
      refine ⟨q, fun j v hj => ?_⟩
      have hj6 := (List.getElem?_eq_some_iff.1 hj).1
      have := hat j hj6
      rw [this]
      exact hj
    obtain ⟨q, hq⟩ := Go.Deep.choose_lt (α := Nm) key
    refine ⟨(List.range len).map q, ⟨some a, cap, by simp, fun h0 => ?_⟩, by simp; omega, some a, cap, by simp, by simpa using hl⟩
    simp only [List.length_map, List.length_range] at h0
    obtain ⟨b, off, spot⟩ := a
    have hc0 := (hq 0 h0) 0 _ rfl
    have hspot : spot = none := by simpa [Addr.add] using World.cell?_spot hc0
    subst hspot
    refine ⟨b, off, rfl, ?_, fun i y hy j u hu => ?_⟩
    · have := block_lt_of_cell hc0
      simpa [Addr.add] using this
    · have hi : i < len := by have := (List.getElem?_eq_some_iff.1 hy).1; simpa using this
      rw [List.getElem?_map, List.getElem?_range hi] at hy
      obtain rfl : q i = y := by simpa using hy
      have := hq i hi j u hu
      rw [addr_plain, addr_plain] at this
      exact this
set_option maxRecDepth 100000 in
theorem open_slS {fuel : Nat} {v : Value} {x : DataW H × List MemPlace} (h : DataW.trod enc Tryz.prog w 0 spare held fuel 24 [v] = some x) (hz : ∀ n ∈ x.1.weights Tryz.prog 24, n ≤ reachBytes) :
    ∃ l : List Sc, SlV Sc.cells 2 w w.heap.size v l ∧ l.length ≤ 140737488355328 ∧ (∃ A c, v = .slice A l.length c ∧ l.length ≤ c) := by
  rcases Go.Deep.open_slice Tryz.underlying24 h with ⟨hcs, _⟩ | ⟨a, len, cap, m, n, D, Pl, hcs, _, hl, hm, hmm, rfl, hx⟩
  · simp only [List.cons.injEq, and_true] at hcs
    subst hcs
    exact ⟨[], SlV.nil _ _, by simp, none, 0, rfl, Nat.le_refl _⟩
  · simp only [List.cons.injEq, and_true] at hcs
    subst hcs
    have hnm : len ≤ m := by rw [hmm]; split <;> omega
    have hb := hz ((((List.range len).map D).length + ((List.range (m - len)).map fun j => D (len + j)).length) * Tryz.prog.bytesOf 99) (by simp [DataW.weights, Tryz.underlying24])
    rw [show Tryz.prog.bytesOf 99 = 24 by kernel_rfl] at hb
    simp only [List.length_map, List.length_range, reachBytes] at hb
    have key : ∀ i, i < len → ∃ q : Sc, (∀ j v, (Sc.cells q)[j]? = some v → w.cell? ((a.add (i * 2)).add j) = some v) := by
      intro i hi
      obtain ⟨cs', h1, h2⟩ := hx i (by omega)
      rw [show Tryz.prog.cellsOf 99 = 2 by kernel_rfl] at h1
      obtain ⟨_, hlen, hat⟩ := World.cells?_some h1
      obtain ⟨q, rfl⟩ := open_sc1 h2
      refine ⟨q, fun j v hj => ?_⟩
      have hj6 := (List.getElem?_eq_some_iff.1 hj).1
      have := hat j hj6
      rw [this]
      exact hj
    obtain ⟨q, hq⟩ := Go.Deep.choose_lt (α := Sc) key
    refine ⟨(List.range len).map q, ⟨some a, cap, by simp, fun h0 => ?_⟩, by simp; omega, some a, cap, by simp, by simpa using hl⟩
    simp only [List.length_map, List.length_range] at h0
    obtain ⟨b, off, spot⟩ := a
    have hc0 := (hq 0 h0) 0 _ rfl
    have hspot : spot = none := by simpa [Addr.add] using World.cell?_spot hc0
    subst hspot
    refine ⟨b, off, rfl, ?_, fun i y hy j u hu => ?_⟩
    · have := block_lt_of_cell hc0
      simpa [Addr.add] using this
    · have hi : i < len := by have := (List.getElem?_eq_some_iff.1 hy).1; simpa using this
      rw [List.getElem?_map, List.getElem?_range hi] at hy
      obtain rfl : q i = y := by simpa using hy
      have := hq i hi j u hu
      rw [addr_plain, addr_plain] at this
      exact this
/-- As field_one, and the field's datum. -/
theorem field_two {n off : Nat} {t : TypeId} {fs : Array Field} {cs : List Value} {xs : List (DataW H × List MemPlace)} (hlen : xs.length = fs.size)
    (hf : ∀ (i : Nat) (f : Field), fs[i]? = some f → DataW.trod enc Tryz.prog w 0 spare held n f.type ((cs.drop f.offset).take (Tryz.prog.cellsOf f.type)) = xs[i]?)
    (i : Nat) (hi : fs[i]?.map (fun f => (f.offset, f.type)) = some (off, t)) (h1 : Tryz.prog.cellsOf t = 1) (ho : off < cs.length) : ∃ v x, cs[off]? = some v ∧ DataW.trod enc Tryz.prog w 0 spare held n t [v] = some x ∧ (xs.map (·.1))[i]? = some x.1 := by
  obtain ⟨f, hfi, hft⟩ := Option.map_eq_some_iff.1 hi
  injection hft with h2 h3
  have hlt : i < xs.length := by rw [hlen]; exact (Array.getElem?_eq_some_iff.1 hfi).1
  have h := hf i f hfi
  rw [h2, h3, h1, List.getElem?_eq_getElem hlt] at h
  have e : (cs.drop off).take 1 = [cs[off]] := by
    rw [List.drop_eq_getElem_cons ho]; rfl
  rw [e] at h
  exact ⟨_, _, List.getElem?_eq_getElem ho, h, by rw [List.getElem?_map, List.getElem?_eq_getElem hlt]; rfl⟩
set_option maxRecDepth 100000 in
theorem open_val {fuel : Nat} {cs : List Value} {x : DataW H × List MemPlace} (h : DataW.trod enc Tryz.prog w 0 spare held fuel 26 cs = some x) (hz : ∀ n ∈ x.1.weights Tryz.prog 26, n ≤ reachBytes) :
    ∃ (q : Vl) (vp vl vs : Value), cs = vlC q vp vl vs ∧ VlM w w.heap.size q vp vl vs ∧ q.Fits ∧ (∃ A c, vs = .slice A q.ss.length c ∧ q.ss.length ≤ c) := by
  obtain ⟨xs, n, _, rfl, hl, hlen, hf⟩ := DataW.trod_struct (fs := Tryz.prog.fieldsOf 26) Tryz.underlying26 h
  rw [show Tryz.prog.cellsOf 26 = 5 by kernel_rfl] at hl
  have hzz : ∀ n ∈ DataW.weightsEach Tryz.prog ((Tryz.prog.fieldsOf 26).toList.map (·.type)) (xs.map (·.1)), n ≤ reachBytes := by
    intro n hn
    refine hz n ?_
    show n ∈ DataW.weights Tryz.prog 26 (.agg (xs.map (·.1)))
    simp only [DataW.weights, Tryz.underlying26]
    exact hn
  have wt : ∀ (i : Nat) (t : TypeId) (d : DataW H), ((Tryz.prog.fieldsOf 26).toList.map (·.type))[i]? = some t → (xs.map (·.1))[i]? = some d → ∀ n ∈ d.weights Tryz.prog t, n ≤ reachBytes :=
    fun i t d ht hd n hn => hzz n (DataW.weights_mem_each ht hd n hn)
  obtain ⟨v0, x0, g0, h0, d0⟩ := field_two hlen hf 0 (show (Tryz.prog.fieldsOf 26)[0]?.map (fun f => (f.offset, f.type)) = some (0, 3) by kernel_rfl) (by kernel_rfl) (by omega)
  obtain ⟨v1, x1, g1, h1, d1⟩ := field_two hlen hf 1 (show (Tryz.prog.fieldsOf 26)[1]?.map (fun f => (f.offset, f.type)) = some (1, 9) by kernel_rfl) (by kernel_rfl) (by omega)
  obtain ⟨v2, x2, g2, h2, d2⟩ := field_two hlen hf 2 (show (Tryz.prog.fieldsOf 26)[2]?.map (fun f => (f.offset, f.type)) = some (2, 22) by kernel_rfl) (by kernel_rfl) (by omega)
  obtain ⟨v3, x3, g3, h3, d3⟩ := field_two hlen hf 3 (show (Tryz.prog.fieldsOf 26)[3]?.map (fun f => (f.offset, f.type)) = some (3, 23) by kernel_rfl) (by kernel_rfl) (by omega)
  obtain ⟨v4, x4, g4, h4, d4⟩ := field_two hlen hf 4 (show (Tryz.prog.fieldsOf 26)[4]?.map (fun f => (f.offset, f.type)) = some (4, 24) by kernel_rfl) (by kernel_rfl) (by omega)
  obtain ⟨z, e0, _, hz0⟩ := DataW.trod_int Tryz.underlying3 h0
  obtain ⟨s1, e1, ex1, _⟩ := DataW.trod_string Tryz.underlying9 h1
  obtain ⟨ps, hps, hpl, _⟩ := open_slP h2 (wt 2 _ _ (by kernel_rfl) d2)
  obtain ⟨ls, hls, hll, _⟩ := open_slW h3 (wt 3 _ _ (by kernel_rfl) d3)
  obtain ⟨ss, hss, hsl, hsc⟩ := open_slS h4 (wt 4 _ _ (by kernel_rfl) d4)
  have ht := wt 1 9 _ (by kernel_rfl) d1 s1.data.toList.length (by rw [ex1]; simp [DataW.weights])
  simp only [reachBytes] at ht
  refine ⟨⟨z, s1.data.toList, ps, ls, ss⟩, v2, v3, v4, ?_, ⟨hps, hls, hss⟩, ⟨hpl, hll, hsl, by show s1.data.toList.length ≤ _; omega⟩, hsc⟩
  simp only [List.cons.injEq, and_true] at e0 e1
  subst e0 e1
  match cs, hl with
  | [u0, u1, u2, u3, u4], _ =>
    simp at g0 g1 g2 g3 g4
    rw [g0, g1, g2, g3, g4]
set_option maxRecDepth 100000 in
theorem open_entry {fuel : Nat} {cs : List Value} {x : DataW H × List MemPlace} (h : DataW.trod enc Tryz.prog w 0 spare held fuel 28 cs = some x) (hz : ∀ n ∈ x.1.weights Tryz.prog 28, n ≤ reachBytes) :
    ∃ (key : Nm) (q : Vl) (vp vl vs : Value) (at_ : Int), cs = [encStr key] ++ (vlC q vp vl vs ++ [.int .i64 at_]) ∧ VlM w w.heap.size q vp vl vs ∧ q.Fits ∧ (∃ A c, vs = .slice A q.ss.length c ∧ q.ss.length ≤ c) ∧ key.length ≤ 140737488355328 ∧ isI at_ := by
  obtain ⟨xs, n, _, rfl, hl, hlen, hf⟩ := DataW.trod_struct (fs := Tryz.prog.fieldsOf 28) Tryz.underlying28 h
  rw [show Tryz.prog.cellsOf 28 = 7 by kernel_rfl] at hl
  have hzz : ∀ n ∈ DataW.weightsEach Tryz.prog ((Tryz.prog.fieldsOf 28).toList.map (·.type)) (xs.map (·.1)), n ≤ reachBytes := by
    intro n hn
    refine hz n ?_
    show n ∈ DataW.weights Tryz.prog 28 (.agg (xs.map (·.1)))
    simp only [DataW.weights, Tryz.underlying28]
    exact hn
  have wt : ∀ (i : Nat) (t : TypeId) (d : DataW H), ((Tryz.prog.fieldsOf 28).toList.map (·.type))[i]? = some t → (xs.map (·.1))[i]? = some d → ∀ n ∈ d.weights Tryz.prog t, n ≤ reachBytes :=
    fun i t d ht hd n hn => hzz n (DataW.weights_mem_each ht hd n hn)
  obtain ⟨v0, x0, g0, h0, d0⟩ := field_two hlen hf 0 (show (Tryz.prog.fieldsOf 28)[0]?.map (fun f => (f.offset, f.type)) = some (0, 9) by kernel_rfl) (by kernel_rfl) (by omega)
  obtain ⟨v2, x2, g2, h2, d2⟩ := field_two hlen hf 2 (show (Tryz.prog.fieldsOf 28)[2]?.map (fun f => (f.offset, f.type)) = some (6, 3) by kernel_rfl) (by kernel_rfl) (by omega)
  obtain ⟨f1, hf1, hf1t⟩ := Option.map_eq_some_iff.1 (show (Tryz.prog.fieldsOf 28)[1]?.map (fun f => (f.offset, f.type)) = some (1, 26) by kernel_rfl)
  injection hf1t with e1 e2
  have hlt : 1 < xs.length := by rw [hlen]; exact (Array.getElem?_eq_some_iff.1 hf1).1
  have h1 := hf 1 f1 hf1
  rw [e1, e2, show Tryz.prog.cellsOf 26 = 5 by kernel_rfl, List.getElem?_eq_getElem hlt] at h1
  obtain ⟨q, vp, vl, vs, hq, hm, hfit, hcap⟩ := open_val h1 (wt 1 _ _ (by kernel_rfl) (by rw [List.getElem?_map, List.getElem?_eq_getElem hlt]; rfl))
  obtain ⟨z, e0, _, hz0⟩ := DataW.trod_int Tryz.underlying3 h2
  obtain ⟨s1, es1, ex1, _⟩ := DataW.trod_string Tryz.underlying9 h0
  have ht := wt 0 9 _ (by kernel_rfl) d0 s1.data.toList.length (by rw [ex1]; simp [DataW.weights])
  simp only [reachBytes] at ht
  refine ⟨s1.data.toList, q, vp, vl, vs, z, ?_, hm, hfit, hcap, by omega, wf_i64 hz0⟩
  simp only [List.cons.injEq, and_true] at e0 es1
  subst e0 es1
  match cs, hl with
  | [u0, u1, u2, u3, u4, u5, u6], _ =>
    simp at g0 g2
    simp only [List.drop_succ_cons, List.drop_zero, List.take_succ_cons, List.take_zero, List.cons.injEq, and_true] at hq
    obtain ⟨a1, a2, a3, a4, a5⟩ := hq
    rw [g0, g2, a1, a2, a3, a4, a5]
    rfl
end
end Go.Proofs.YtpbkejmffddelaaGreat
