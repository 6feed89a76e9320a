/-
  The laws ZsetBetween, ZsetPlays. Own work.
-/
import Derived.Test.YtfklfgaomcbchaaZsetY
namespace Go.Proofs.Ytfklfgaomcbchaa
open Go.RowKit Go.Shelf
set_option linter.unusedVariables false
set_option linter.unusedSimpArgs false
set_option maxRecDepth 100000 in
set_option maxHeartbeats 2000000 in
theorem zsetBetween_any (w : World) (A : Option Addr) (n c : Nat) (f : Nat → ZA) (x y : Int) (h : ZActs w w.heap.size A n f) : Calls Try.prog 5 #[.slice A n c, .int .i64 x, .int .i64 y] w fun e w' => e = .returned (.bool true) ∧ Below w.heap.size w w' := by
  have HF := few_any w A n c f w.heap.size h
  have HA := awake_any
  go_enter Try.func5, Try.ntmps5
  go_wp2_with fail
  refine HF.mono ?_
  rintro e w1 ⟨⟨b, rfl, hb⟩, rfl⟩
  clear HF
  cases b with
  | false =>
    clear hb
    go_wp2_with fail
    refine (HA w).mono ?_
    rintro e w2 ⟨rfl, b2⟩
    go_wp2_with fail
    go_ret
    exact ⟨rfl, b2⟩
  | true =>
    have hfew := hb rfl
    clear hb
    go_wp2_with fail
    refine (lmade_any w A n c f h hfew).mono ?_
    rintro e w2 ⟨gz, mb, hd, Ls, v, rfl, hz, own, hll, hnm, hfold, B2⟩
    have hwb := B2.size
    have hLs : Ls.length ≤ 120 := Nat.le_trans hll hfew.1
    have hsl : (scs Ls).length = Ls.length := by simp
    clear hfold hfew
    go_wp2_with fail
    refine (between_any w2 w.heap.size gz mb hd Ls x y hz (by omega)).mono ?_
    rintro e w3 ⟨v3, rfl, own3, b3⟩
    have own' := own_later own b3
    have B3 := B2.trans (b3.mono hwb)
    have hwb3 := B3.size
    go_wp2_with fail
    refine (rbetween_any w3 v (scs Ls) x y (own_scv own') (by omega)).mono ?_
    rintro e w4 ⟨v4, rfl, own4, b4⟩
    have own3' := own_later own3 b4
    have B4 := B3.trans (b4.mono hwb3)
    have hwb4 := B4.size
    have hle : (betw (scs Ls) x y).length ≤ 1000001 := Nat.le_trans (List.length_filter_le _ _) (by omega)
    go_wp2_with fail
    refine (rsame_any w4 v3 v4 _ _ (own_scv own3') (own_scv own4) hle hle).mono ?_
    rintro e w5 ⟨rfl, b5⟩
    have B5 := B4.trans (b5.mono hwb4)
    have hwb5 := B5.size
    rw [show decide (betw (scs Ls) x y = (scs Ls).filter fun a => !decide (a.s < x) && decide (a.s ≤ y)) = true from decide_eq_true rfl]
    go_wp2_with fail
    refine (HA w5).mono ?_
    rintro e w6 ⟨rfl, b6⟩
    go_wp2_with fail
    go_ret
    exact ⟨rfl, B5.trans (b6.mono hwb5)⟩
end Go.Proofs.Ytfklfgaomcbchaa
