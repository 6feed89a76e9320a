/-
  The disk: Names. Own work.
-/
import Derived.Test.YtaflmiopaiigbaaDiskL
namespace Go.Proofs.Ytaflmiopaiigbaa
open Go.RowKit Go.Maps Go.ChangeMaps
set_option linter.unusedVariables false
set_option linter.unusedSimpArgs false
theorem bb_lt : ∀ a b : List UInt8, bytesBefore a b = true → a < b
  | [], [], h => by simp [bytesBefore] at h
  | [], b :: s, _ => List.nil_lt_cons ..
  | a :: r, [], h => by simp [bytesBefore] at h
  | a :: r, b :: s, h => by
    simp only [bytesBefore, Bool.or_eq_true, Bool.and_eq_true, decide_eq_true_eq, beq_iff_eq] at h
    rw [List.cons_lt_cons_iff]
    rcases h with h | ⟨h1, h2⟩
    · exact .inl h
    · exact .inr ⟨h1, bb_lt r s h2⟩
theorem sorted_names {l : Ents} (h : riseE l) : (l.map (·.1)).mergeSort leB = l.map (·.1) := by
  refine List.mergeSort_of_pairwise (List.pairwise_map.2 (h.imp fun {p q} hpq => ?_))
  simp only [leB, decide_eq_true_eq]
  exact List.le_of_lt (bb_lt _ _ hpq)
theorem owb_later {w w' : World} {T e n : Nat} {v : Value} {xs : List Value} (h : w.ownsRow T e 1 v n xs) (hb : Below w.heap.size w w') : w'.ownsRow T e 1 v n xs := by
  have hlt := h.lt
  refine ⟨h.1, h.2.imp id fun ⟨g, cap, cur, e, h1, hg, h2⟩ => ⟨g, cap, cur, e, h1, (hb.block g (Array.getElem?_eq_some_iff.1 hg).1).trans hg, h2⟩⟩
theorem below_grown {w w' : World} (h : Below w.heap.size w w') : w.grownBy w' none := ⟨h.os, h.tape, h.output, h.size, fun i hi _ => h.block i hi⟩
set_option maxRecDepth 100000 in
theorem names_no (w : World) (v : Value) (h : Unmade w v) : Calls Try.prog 17 #[v] w fun e w' => e = .returned (.slice none 0 0) ∧ w = w' := by
  go_enter Try.func17, Try.ntmps17
  go_wp2_with fail
  refine (made_no w v h).mono ?_
  rintro e w1 ⟨rfl, rfl⟩
  go_wp2_with fail
  go_ret
  exact ⟨rfl, rfl⟩
set_option maxRecDepth 100000 in
set_option maxHeartbeats 1000000 in
theorem names_ent (w : World) (gd mb : Nat) (pl : Value) (l : Ents) (h : DRow w gd pl (.map (some mb))) (hm : MapAt w mb l) (hl : l.length ≤ 64) :
    Calls Try.prog 17 #[ptr gd] w fun e w' => ∃ v, e = .returned v ∧ w'.ownsRow w.heap.size 9 1 v l.length ((l.map (·.1)).map encStr) ∧ Below w.heap.size w w' := by
  obtain ⟨i0, hi, hz, hs, hb⟩ := str_info
  have hbl := hm.lt
  have c1 := h.cell (j := 1) rfl
  have hown : w.ownsMap Try.prog 9 heldE mb l.length (entD l) := hm
  have hsz : size (entD l) = l.length := entD_size l
  have HM := hide hm
  clear hm
  go_enter Try.func17, Try.ntmps17
  go_wp2_with fail
  refine (made_yes w gd mb pl h).mono ?_
  rintro e w1 ⟨rfl, rfl⟩
  clear h
  go_wp2_with (first
    | (at_range; refine wpList_range_own _ rfl _ 70 rfl 9 86 keyS Try.underlying70 _ mb l.length _ rfl hown ?_; intro w0 hrg0 hg0 hs0)
    | go_in)
  clear hs0
  go_frame
  go_loopw [3] (fun v wr => ∃ (left : Lit → Bool) (cnt : Nat) (ss : List Nm), wr.ranges Try.prog 9 heldE mb w.heap.size l.length (entD l) left cnt ∧ ss.length + cnt ≤ l.length ∧ wr.ownsRow w.heap.size 9 1 v ss.length (ss.map encStr) ∧ Collected (entD l) left ss ∧ Below w.heap.size w wr)
    (fun _ wr => wr.rangeLeft mb w.heap.size)
  case atStart => exact ⟨_, _, [], hrg0, by simp [hsz], World.ownsRow_nil _ _ _ _, Collected.start _, (Below.refl _ _).grown hg0 (Nat.le_refl _) (fun j hj => by cases hj)⟩
  case round =>
    clear hrg0 hg0 c1
    obtain ⟨left, cnt, ss, hrg, hcs, hrow, hC, hnx⟩ := hrel
    go_wp2_with (first
      | (at_next; refine wpList_next_ranges _ rfl _ rfl 9 keyS heldE encStr (fun v : Value => v) (fun key kl hk => by obtain ⟨x, hx, _⟩ := Maps.keyOf_str Try.underlying9 hk; exact ⟨x, hx⟩) (fun v y _ => ⟨v, rfl⟩) mb w.heap.size l.length _ _ _ rfl hrg ?_ ?_)
      | go_in)
    · intro hc0 hl0
      have hperm := hC.perm hown keyS Try.underlying9 hl0
      rw [entD_keys] at hperm
      have hsort := (mergeSort_of_perm hperm).trans (sorted_names HM.out.rise)
      have hlen : ss.length = l.length := by simpa using hperm.length_eq
      have HS := sort_own wr w.heap.size _ ss hrow (by omega)
      rw [hsort, hlen] at HS
      have hlt := hrow.lt
      clear hperm hsort hC hcs
      go_wp2_with fail
      refine HS.mono ?_
      rintro e w2 ⟨rfl, own2, hg2⟩
      go_wp2_with fail
      go_ret
      exact ⟨_, rfl, own2, hnx.grown hg2 hnx.size (fun j hj => (hlt j hj).1)⟩
    · intro x c kl yd yp w2 cnt2 hkey hlk hv hat hrg2 hlt hg2 hs2 hen
      obtain ⟨x', ex, rfl, _⟩ := Maps.keyOf_str Try.underlying9 hkey
      obtain rfl : x = x' := encStr_inj ex
      have hrow2 := hrow.kept hg2 (.inr (row_ne_iter hrow hrg).symm)
      have sz2 : w.heap.size ≤ w2.heap.size := Nat.le_trans hnx.size hg2.size
      have hl1 := hide (show ss.length + 1 ≤ maxLen by simp only [maxLen]; omega)
      have hl2 := hide (show (ss.length + 1) * 16 ≤ 140737488355328 by omega)
      clear hs2
      go_wp2_with (first
        | ((with_reducible refine wl_build1 rfl 43 (.tmp 18) rfl 9 i0 (.string ByteArray.empty) (encStr x) Try.underlying43 hi hz hs rfl rfl rfl ?_); intro g3 w3 r3 p3 l3 b3; have hrow3 := owb_later hrow2 b3)
        | ((with_reducible refine wl_append_at rfl (.tmp 17) (.tmp 19) 43 rfl w.heap.size 9 i0 (.string ByteArray.empty) 1 16 Try.underlying43 hi hz hs hb rfl (by decide) u3 ss.length (ss.map encStr) rfl hrow3 ⟨g3, 0, none⟩ 1 1 [encStr x] rfl rfl (row_src r3) (one_str x) hl1.out hl2.out (Nat.le_trans sz2 b3.size) ?_); intro v' w4 own4 hg4 hl4))
      have hrg3 := (hrg2.kept (below_grown b3) (by simp) (by simp)).kept hg4 (row_ne_low hrow3 hbl) (row_ne_iter hrow3 (hrg2.kept (below_grown b3) (by simp) (by simp)))
      have hlt3 := hrow3.lt
      go_roundw
      case rel =>
        refine ⟨_, cnt2, ss ++ [x], hrg3, by simp; omega, by simpa using own4, hC.step hlk hat, ?_⟩
        exact ((hnx.grown hg2 hnx.size (fun j hj => by cases hj; exact Nat.le_refl _)).trans (b3.mono sz2)).grown hg4 (Nat.le_trans sz2 b3.size) (fun j hj => (hlt3 j hj).1)
      case measure => rw [hrg3.left_eq, hrg.left_eq]; exact hlt
end Go.Proofs.Ytaflmiopaiigbaa
