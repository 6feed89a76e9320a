/-
  The law WireTurns: contract. Own work.
-/
import Derived.Test.YtlihoijbfffjcaaWireH
namespace Go.Proofs.Ytlihoijbfffjcaa
open Go.RowKit Go.Conc
set_option linter.unusedVariables false
set_option linter.unusedSimpArgs false
theorem equal_self' (A B : Option Addr) (n m c d : Nat) (xs : List Int) (w : World) (h1 : Bs w w.heap.size A n xs) (h2 : Bs w w.heap.size B m xs) : Calls Try.prog 40 #[.slice A n c, .slice B m d] w fun e w' => e = .returned (.bool true) ∧ w = w' :=
  (equal_any A B n m c d xs xs w h1 h2).mono fun e w' h => ⟨by rw [h.1, equal_self], h.2⟩
set_option maxRecDepth 100000 in
set_option maxHeartbeats 1000000 in
theorem wireTurns_any (A : Option Addr) (m c : Nat) (xs : List Int) (at_ b : Int) (w : World) (h : Bs w w.heap.size A m xs) (hby : IsBy xs) (hb : 0 ≤ b ∧ b < 256) :
    Calls Try.prog 15 #[.slice A m c, .int .i64 at_, .int .u8 b] w fun e w' => e = .returned (.bool true) ∧ Below w.heap.size w w' := by
  by_cases hlong : (2000 : Int) < (m : Int)
  · have hd : decide ((2000 : Int) < (m : Int)) = true := by simp; omega
    go_enter Try.func15, Try.ntmps15
    go_wp2_with fail
    refine (awake_any w).mono ?_
    rintro e w2 ⟨rfl, b2⟩
    go_wp2
    go_ret
    exact ⟨rfl, b2⟩
  · have hd : decide ((2000 : Int) < (m : Int)) = false := by simp; omega
    have hm : m ≤ 2000 := by omega
    have hxl := h.1
    have tl := turnS_len xs at_ b
    have tb := turnS_back (xs := xs) (at_ := at_) hby hb
    have tby := turnS_by (xs := xs) (at_ := at_) hby hb
    have T1 := fun A c w h => turn_all A m c xs at_ b w h hby hm hb
    have T2 := fun A c w h => refTurn_any A m c xs at_ b w h hby hm hb
    have T3 := fun A c w h => turn_all A m c (turnS xs at_ b) at_ b w h tby hm hb
    rw [tb] at T3
    generalize turnS xs at_ b = ts at *
    clear tb tby tl hlong hby hb
    have T1 := hide T1
    have T2 := hide T2
    have T3 := hide T3
    go_enter Try.func15, Try.ntmps15
    go_wp2_with fail
    refine (clone_own A m c xs w h (by omega)).mono ?_
    rintro e w1 ⟨A1, c1, rfl, ho, b1⟩
    have h1 := own_bs ho
    have hf1 := h.later b1
    go_wp2_with fail
    refine (T1.out A c w1 hf1).mono ?_
    rintro e w2 ⟨A2, c2, rfl, h2, b2⟩
    have h1 := h1.later b2
    have hf2 := hf1.later b2
    have B2 := b1.trans (b2.mono b1.size)
    clear ho
    go_wp2_with fail
    refine (T2.out A1 c1 w2 h1).mono ?_
    rintro e w3 ⟨A3, c3, rfl, h3, b3⟩
    have h1 := h1.later b3
    have h2 := h2.later b3
    have hf3 := hf2.later b3
    have B3 := B2.trans (b3.mono B2.size)
    go_wp2_with fail
    refine (equal_self' A2 A3 m m c2 c3 ts w3 h2 h3).mono ?_
    rintro e w4 ⟨rfl, rfl⟩
    go_wp2_with fail
    refine (T3.out A2 c2 w3 h2).mono ?_
    rintro e w5 ⟨A5, c5, rfl, h5, b5⟩
    have h1 := h1.later b5
    have hf5 := hf3.later b5
    have B5 := B3.trans (b5.mono B3.size)
    go_wp2_with fail
    refine (equal_self' A5 A1 m m c5 c1 xs w5 h5 h1).mono ?_
    rintro e w6 ⟨rfl, rfl⟩
    go_wp2_with fail
    refine (equal_self' A A1 m m c c1 xs w5 hf5 h1).mono ?_
    rintro e w6 ⟨rfl, rfl⟩
    go_wp2_with fail
    refine (awake_any w5).mono ?_
    rintro e w7 ⟨rfl, b7⟩
    go_wp2_with fail
    go_ret
    exact ⟨rfl, B5.trans (b7.mono B5.size)⟩
end Go.Proofs.Ytlihoijbfffjcaa
