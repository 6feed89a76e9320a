/-
  The reader of pack, its texts: a contract each. Own work.
-/
import Derived.Test.YtfkdjcikmfljdaaReader
namespace Go.Proofs.Ytfkdjcikmfljdaa
open Go.RowKit
set_option linter.unusedVariables false
set_option linter.unusedSimpArgs false

theorem Sp.later {w w' : World} {lo hi n : Nat} {A : Option Addr} {xs : List Int} (h : Sp w lo hi A n xs) (hb : Below w.heap.size w w') : Sp w' lo hi A n xs :=
  ⟨h.1, fun h0 => let ⟨b, o, e, h1, h2, hc⟩ := h.2 h0; ⟨b, o, e, h1, h2, fun j hj => (hb.cell (p := ⟨b, o + j, none⟩) (block_lt_of_cell (hc j hj) : b < w.heap.size)).trans (hc j hj)⟩⟩
theorem Rd.later {w w' : World} {lo g : Nat} {xs : List Int} {e : Int} (h : Rd w lo g xs e) (hb : Below w.heap.size w w') : Rd w' lo g xs e := by
  obtain ⟨A, n, c, h0, h1, h2, h3, h4, h5⟩ := h
  exact ⟨A, n, c, h0, h1.below hb h1.lt, h2.later hb, h3, h4, h5⟩

theorem take_int {lo g : Nat} {xs : List Int} {e : Int} (w : World) (h : Rd w lo g xs e) (v : Int) (h0 : 0 ≤ v) (hv : v ≤ 4294967296) :
    Calls Try.prog 48 #[.pointer (some ⟨g, 0, none⟩), .int .i64 v] w (TkPost w lo g (tk v.toNat xs e)) := by
  obtain ⟨k, rfl⟩ := Int.eq_ofNat_of_zero_le h0
  exact take_any w h k (by omega)

theorem Sp.from_ {w : World} {lo lo' hi n : Nat} {A : Option Addr} {xs : List Int} (h : Sp w lo hi A n xs) (hl : lo' ≤ lo) : Sp w lo' hi A n xs :=
  ⟨h.1, fun h0 => let ⟨b, o, e, h1, h2, hc⟩ := h.2 h0; ⟨b, o, e, Nat.le_trans hl h1, h2, hc⟩⟩

def TextPost (w : World) (lo g : Nat) (r : List Int × List Int × Int) (en : Ending) (w' : World) : Prop :=
  ∃ A n c, en = .returned (.slice A n c) ∧ Sp w' w.heap.size w'.heap.size A n r.1 ∧ Rd w' lo g r.2.1 r.2.2 ∧ w.grownBy w' (some g)

/-- What is told of a text of at most so many bytes. -/
def tkText (most : Int) (xs : List Int) (e : Int) : List Int × List Int × Int :=
  let v := unum 4 xs e
  let r := (tk 4 xs e).2
  if most < v then ([], [], if r.2 ≠ 0 then r.2 else 5) else tk v.toNat r.1 r.2

theorem tk_nil {n : Nat} {xs : List Int} {e : Int} (h5 : e ≠ 0 → xs = []) : (tk n xs e).2.2 ≠ 0 → (tk n xs e).2.1 = [] := by
  unfold tk
  split
  · rename_i he; exact fun _ => h5 he
  · split
    · exact fun _ => rfl
    · exact fun h => absurd rfl h

set_option maxHeartbeats 400000 in
theorem bytes_any {lo g : Nat} {xs : List Int} {e : Int} (w : World) (h : Rd w lo g xs e) (hx : IsBy xs) (most : Int) (m0 : -9223372036854775808 ≤ most) (m1 : most ≤ 9223372036854775807) :
    Calls Try.prog 32 #[.pointer (some ⟨g, 0, none⟩), .int .i64 most] w (TextPost w lo g (tkText most xs e)) := by
  have hub := unum_bound (n := 4) (e := e) hx
  have hu : unum 4 xs e < 4294967296 := hub.2
  have hc := hide (u32_any w h hx)
  have hnil := tk_nil (n := 4) (rd_nil h)
  unfold tkText
  generalize unum 4 xs e = v at *
  generalize (tk 4 xs e).2 = r at *
  obtain ⟨ys, e1⟩ := r
  dsimp only at *
  have h0 := hub.1
  clear h hx hub
  by_cases hm : most < v
  · rw [if_pos hm]
    by_cases he : e1 = 0
    · subst he
      rw [if_neg (by simp)]
      go_enter Try.func32, Try.ntmps32
      go_wp2_with (first
        | (go_at_call 28; refine hc.out.mono ?_; rintro en w1 ⟨rfl, hr, hg⟩)
        | (go_at_call 52; refine (above_any v most _ h0 (by omega) m0 m1).mono ?_; rintro en w2 ⟨rfl, rfl⟩)
        | (go_at_call 53; refine (fail_new _ hr 5).mono ?_; rintro en w2 ⟨rfl, hr2, hg2⟩))
      go_ret
      exact ⟨none, 0, 0, rfl, Sp.nil_, hr2, grown_trans hg hg2⟩
    · rw [if_pos he]
      have hys := hide (hnil he)
      clear hnil
      go_enter Try.func32, Try.ntmps32
      go_wp2_with (first
        | (go_at_call 28; refine hc.out.mono ?_; rintro en w1 ⟨rfl, hr, hg⟩)
        | (go_at_call 52; refine (above_any v most _ h0 (by omega) m0 m1).mono ?_; rintro en w2 ⟨rfl, rfl⟩)
        | (go_at_call 53; refine (fail_old _ hr he 5).mono ?_; rintro en w2 ⟨rfl, rfl⟩))
      go_ret
      exact ⟨none, 0, 0, rfl, Sp.nil_, by rw [← hys.out]; exact hr, hg⟩
  · rw [if_neg hm]
    clear hnil
    go_enter Try.func32, Try.ntmps32
    go_wp2_with (first
      | (go_at_call 28; refine hc.out.mono ?_; rintro en w1 ⟨rfl, hr, hg⟩)
      | (go_at_call 52; refine (above_any _ most _ h0 (by omega) m0 m1).mono ?_; rintro en w2 ⟨rfl, rfl⟩)
      | (go_at_call 48; refine (take_int _ hr v h0 (by omega)).mono ?_; rintro en w2 ⟨A2, n2, c2, rfl, hs2, hn2, hr2, hg2⟩)
      | (go_at_call 10; refine (clone_new A2 n2 c2 _ _ hs2.lt_size hn2).mono ?_; rintro en w3 ⟨A3, n3, c3, rfl, hb3, hn3, hc3, hl3⟩))
    go_ret
    exact ⟨A3, n3, c3, rfl, hb3.from_ (Nat.le_trans hg.size hg2.size), hr2.later hl3, grown_trans hg (grown_trans hg2 (grown_of_below hl3))⟩

theorem rest_any {lo g : Nat} {xs : List Int} {e : Int} (w : World) (h : Rd w lo g xs e) (hl : xs.length ≤ 4294967296) :
    Calls Try.prog 34 #[.pointer (some ⟨g, 0, none⟩)] w (TextPost w lo g (tk xs.length xs e)) := by
  go_enter Try.func34, Try.ntmps34
  go_wp2_with (first
    | (go_at_call 36; refine (left_any _ h).mono ?_; rintro en w1 ⟨rfl, rfl⟩)
    | (go_at_call 48; refine (take_any _ h xs.length hl).mono ?_; rintro en w2 ⟨A2, n2, c2, rfl, hs2, hn2, hr2, hg2⟩)
    | (go_at_call 10; refine (clone_new A2 n2 c2 _ _ hs2.lt_size hn2).mono ?_; rintro en w3 ⟨A3, n3, c3, rfl, hb3, hn3, hc3, hl3⟩))
  go_ret
  exact ⟨A3, n3, c3, rfl, hb3.from_ hg2.size, hr2.later hl3, grown_trans hg2 (grown_of_below hl3)⟩

/-- The last answer. -/
def endV (xs : List Int) (e : Int) : Int := if e = 0 ∧ 0 < xs.length then 3 else e
theorem end_any {lo g : Nat} {xs : List Int} {e : Int} (w : World) (h : Rd w lo g xs e) :
    Calls Try.prog 38 #[.pointer (some ⟨g, 0, none⟩)] w fun en w' => en = .returned (.int .i64 (endV xs e)) ∧ w = w' := by
  unfold endV
  by_cases he : e = 0
  · subst he
    by_cases hl : 0 < xs.length
    · rw [if_pos ⟨rfl, hl⟩]
      go_enter Try.func38, Try.ntmps38
      go_wp2_with (first
        | (go_at_call 37; refine (err_any _ h).mono ?_; rintro en w1 ⟨rfl, rfl⟩)
        | (go_at_call 36; refine (left_any _ h).mono ?_; rintro en w1 ⟨rfl, rfl⟩))
      go_ret
      exact ⟨rfl, rfl⟩
    · rw [if_neg (fun h => hl h.2)]
      have hl0 : ¬ (0 : Int) < (xs.length : Int) := by omega
      go_enter Try.func38, Try.ntmps38
      go_wp2_with (first
        | (go_at_call 37; refine (err_any _ h).mono ?_; rintro en w1 ⟨rfl, rfl⟩)
        | (go_at_call 36; refine (left_any _ h).mono ?_; rintro en w1 ⟨rfl, rfl⟩))
      go_ret
      exact ⟨rfl, rfl⟩
  · rw [if_neg (fun h => he h.1)]
    have hd : (e == 0) = false := beq_eq_false_iff_ne.2 he
    go_enter Try.func38, Try.ntmps38
    go_wp2_with (go_at_call 37; refine (err_any _ h).mono ?_; rintro en w1 ⟨rfl, rfl⟩)
    go_ret
    exact ⟨rfl, rfl⟩

theorem read_any (A : Option Addr) (n c : Nat) (xs : List Int) (w : World) (h : Bs w w.heap.size A n xs) (hn : n ≤ 1000000) :
    Calls Try.prog 25 #[.slice A n c] w fun en w' => ∃ g, en = .returned (.pointer (some ⟨g, 0, none⟩)) ∧ w.heap.size ≤ g ∧ g < w'.heap.size ∧ Rd w' w.heap.size g xs 0 ∧ Below w.heap.size w w' := by
  go_enter Try.func25, Try.ntmps25
  go_wp2_with (go_at_call 10; refine (clone_new A n c xs _ h (by omega)).mono ?_; rintro e w1 ⟨A1, n1, c1, rfl, hb1, hn1, hc1, hl1⟩)
  go_ret
  have hlen : n1 ≤ 1000000 := by have := hb1.1; have := h.1; omega
  simp only [maxLen] at hc1
  exact ⟨w1.heap.size, rfl, hl1.size, by simp, ⟨A1, n1, c1, hl1.size, heap_alloc_new w1 _, hb1.later ((Below.refl _ _).alloc (Nat.le_refl _) _), hn1, ⟨by omega, by omega⟩, fun h => absurd rfl h⟩, hl1.alloc hl1.size _⟩
end Go.Proofs.Ytfkdjcikmfljdaa
