/- Proved: the law MacFirst (P6.3) answers true and leaves its argument as it read before. For every key and every two numbers; no condition but the tie of the two tables of sha to the program's text. -/
import Derived.Test.YtlhgfobhdhddlaaDoorRows
import Derived.Test.YtlhgfobhdhddlaaDoorCards
import Derived.Test.YtlhgfobhdhddlaaDoorTie
import Derived.WalkKit
import Derived.ProofKit
import Derived.OpenShut
import Derived.ShutString
import Derived.ChangeOld
import Derived.Below
import Derived.LaidMore
import Derived.Stop.Joined
import Derived.SevenTiedAt
import Derived.Test.YtlhgfobhdhddlaaDoorGE
import Derived.Test.YtlhgfobhdhddlaaDoorGC
set_option linter.unusedVariables false
set_option linter.unusedSimpArgs false
/-
  HKDF: the law MacFirst: contract. Own work.
-/
namespace Go.Proofs.YtlhgfobhdhddlaaDoor
open Go.RowKit
theorem expL_take {ks is : List Int} {n k : Nat} (h : k ≤ n) : (expL ks is n).take k = expL ks is k := by
  unfold expL
  rw [List.take_take, Nat.min_eq_left h]
  have hle : expQ k ≤ expQ n := by unfold expQ; omega
  obtain ⟨j, hj⟩ := Nat.exists_eq_add_of_le hle
  rw [hj]
  exact expA_more (by unfold expQ; omega) j
def SMf (A9 A11 : Option Addr) (X Y c9 c11 k : Nat) (opn : Nat) (v : Value) : Prop :=
  match opn with
  | 0 | 1 | 2 | 3 | 4 | 8 | 9 | 10 | 14 | 15 | 16 | 23 | 24 | 25 | 26 | 27 | 28 => v = .bool true
  | 5 | 17 => v = .slice A9 X c9
  | 6 | 7 => v = .int .i64 (X : Int)
  | 11 | 20 => v = .slice A11 Y c11
  | 12 | 13 => v = .int .i64 (Y : Int)
  | 18 | 21 => v = .int .i64 (k : Int)
  | 19 => v = .slice A9 k c9
  | 22 => v = .slice A11 k c11
  | _ => True

set_option maxRecDepth 100000 in
set_option maxHeartbeats 2000000 in
theorem macFirst_any (ks : List Int) (u v : Int) (A : Option Addr) (m c : Nat) (w : World) (hT : Tabs w) (hx : Bs w w.heap.size A m ks) (hkb : IsBy ks) (hc : m ≤ c) (u0 : 0 ≤ u) (u1 : u < 65536) (v0 : 0 ≤ v) (v1 : v < 65536) :
    Calls Tryd.prog 11 #[.slice A m c, .int .u16 u, .int .u16 v] w fun e w' => e = .returned (.bool true) ∧ Below w.heap.size w w' := by
  by_cases g1 : (600 : Int) < (m : Int)
  · have hd : decide ((600 : Int) < (m : Int)) = true := by simp; omega
    go_enter Tryd.func11, Tryd.ntmps11
    go_wp2_with fail
    refine (mawake_any _ hT).mono ?_
    rintro e w2 ⟨rfl, b2⟩
    go_wp2
    go_ret
    exact ⟨rfl, b2⟩
  have hd : decide ((600 : Int) < (m : Int)) = false := by simp; omega
  obtain ⟨X, hX, hXe⟩ : ∃ X : Nat, X ≤ 8160 ∧ Hid (u % 8161 = (X : Int)) := ⟨(u % 8161).toNat, by omega, hide (by omega)⟩
  obtain ⟨Y, hY, hYe⟩ : ∃ Y : Nat, Y ≤ 399 ∧ Hid (v % 400 = (Y : Int)) := ⟨(v % 400).toNat, by omega, hide (by omega)⟩
  have b105 : IsBy [105] := by_of_all (by decide)
  have P1 := fun B d w hT hx ht hd => expand_any ks [105] X A B m c 1 d w hT hx hkb hc (by omega) ht b105 hd (by decide) (by omega)
  have P2 := fun B d w hT hx ht hd => expand_any ks [105] Y A B m c 1 d w hT hx hkb hc (by omega) ht b105 hd (by decide) (by omega)
  have kc := fun (w : World) (C : Array Value) (n c : Nat) => Lib.run_convert_bytes_const (P := Tryd.prog) w 22 5 C n c Tryd.underlying22 Tryd.underlying5
  rcases Nat.lt_or_ge Y X with hYX | hYX
  · have hkX : Y ≤ X := Nat.le_of_lt hYX
    have hkY : Y ≤ Y := Nat.le_refl _
    have hdk : decide (Y < X) = true := by simp; omega
    have t1 := expL_take (ks := ks) (is := [105]) hkX
    have t2 := expL_take (ks := ks) (is := [105]) hkY
    have T1 := hide t1; have T2 := hide t2
    clear t1 t2
    obtain ⟨F1, hF1⟩ : ∃ F, F = expL ks [105] X := ⟨_, rfl⟩
    obtain ⟨F2, hF2⟩ : ∃ F, F = expL ks [105] Y := ⟨_, rfl⟩
    obtain ⟨FS, hFS⟩ : ∃ F, F = expL ks [105] Y := ⟨_, rfl⟩
    rw [← hF1] at P1
    rw [← hF2] at P2
    have T1 : Hid (F1.take Y = FS) := by rw [hF1, hFS]; exact T1
    have T2 : Hid (F2.take Y = FS) := by rw [hF2, hFS]; exact T2
    clear hF1 hF2 hFS
    go_enter Tryd.func11, Tryd.ntmps11
    go_wp2_with fail
    rw [hXe.out, hYe.out]
    have hb1 := Bs.lit' w 5 (1, 2) [105] #[.int .u8 105] 1 _ rfl rfl rfl
    have b1 : Below w.heap.size w (w.alloc (.cells #[.int .u8 105] 5 (1, 2))) := (Below.refl _ _).alloc (Nat.le_refl _) _
    refine (P1 _ 1 _ (hT.later b1) (hx.later b1) hb1 (Nat.le_refl _)).mono ?_
    rintro e w3 ⟨A9, c9, rfl, h9, hc9, _, b3⟩
    have B3 := b1.trans (b3.mono b1.size)
    clear hb1 b1 b3 P1
    go_wp2_with fail
    have hb2 := Bs.lit' w3 5 (1, 2) [105] #[.int .u8 105] 1 _ rfl rfl rfl
    have b4 : Below w3.heap.size w3 (w3.alloc (.cells #[.int .u8 105] 5 (1, 2))) := (Below.refl _ _).alloc (Nat.le_refl _) _
    have B4 := B3.trans (b4.mono B3.size)
    refine (P2 _ 1 _ (hT.later B4) (hx.later B4) hb2 (Nat.le_refl _)).mono ?_
    rintro e wS ⟨A11, c11, rfl, h11, hc11, _, b5⟩
    have BS := B4.trans (b5.mono B4.size)
    have hx9 := ((h9.later b4).later b5).take hkX
    have hx11 := h11.take hkY
    rw [T1.out] at hx9
    rw [T2.out] at hx11
    have hT0 := hT.later BS
    clear hb2 b4 b5 P2 h9 h11 B3 B4 hT hx kc
    have hT := hT0
    clear hT0
    have hS1 := fun w => run_sliceTo (P := Tryd.prog) w 22 5 1 Tryd.underlying22 Tryd.sizeOf5 A9 X c9 .i64 (Y : Int) Y rfl (by omega)
    have hS2 := fun w => run_sliceTo (P := Tryd.prog) w 22 5 1 Tryd.underlying22 Tryd.sizeOf5 A11 Y c11 .i64 (Y : Int) Y rfl (by omega)
    go_wp2_with fail
    rename_i K1 hK1
    refine wp_region_valsG [23, 26] (SMf A9 A11 X Y c9 c11 Y) (JR wS) (by kernel_rfl) (by kernel_rfl) (by kernel_rfl) (by kernel_rfl) (Below.refl _ _).drew ?obs ?he
    case obs =>
        refine ⟨?_, ?_, ?_, ?_, ?_, ?_, ?_, ?_, ?_, ?_, ?_, ?_, ?_, ?_, ?_, ?_, ?_, ?_, ?_, ?_, ?_, ?_, ?_, ?_, ?_, ?_, ?_, ?_, ?_, trivial⟩
        · refine ⟨.inl rfl, ?_⟩
          exact .inl ⟨by kernel_rfl, fun L a1 w1 n' h => ⟨_, rfl, run_move (.tmp 10) rfl (h.var n' 10 (by kernel_rfl))⟩⟩
        · refine ⟨.inl rfl, ?_⟩
          exact .inl ⟨by kernel_rfl, fun L a1 w1 n' h => ⟨_, rfl, run_move (.tmp 43) rfl (h.dep n' 0 43 (by kernel_rfl) rfl)⟩⟩
        · refine ⟨.inr ⟨1, true, 44, rfl, by kernel_rfl, rfl, by simp, fun v h => h⟩, ?_⟩
          exact .inl ⟨by kernel_rfl, fun L a1 w1 n' h => ⟨_, rfl, run_move (.tmp 12) rfl (h.var n' 12 (by kernel_rfl))⟩⟩
        · refine ⟨.inl rfl, ?_⟩
          exact .inl ⟨by kernel_rfl, fun L a1 w1 n' h => ⟨_, rfl, run_pickT (.tmp 44) _ _ rfl (h.dep n' 1 44 (by kernel_rfl) rfl) (h.dep n' 2 45 (by kernel_rfl) rfl)⟩⟩
        · refine ⟨.inl rfl, ?_⟩
          exact .inl ⟨by kernel_rfl, fun L a1 w1 n' h => ⟨_, rfl, run_move (.tmp 46) rfl (h.dep n' 3 46 (by kernel_rfl) rfl)⟩⟩
        · refine ⟨.inr ⟨4, true, 47, rfl, by kernel_rfl, rfl, by simp, fun v h => h⟩, ?_⟩
          exact .inl ⟨by kernel_rfl, fun L a1 w1 n' h => ⟨_, rfl, run_move (.tmp 9) rfl (h.var n' 9 (by kernel_rfl))⟩⟩
        · refine ⟨.inr ⟨4, true, 47, rfl, by kernel_rfl, rfl, by simp, fun v h => h⟩, ?_⟩
          exact .inl ⟨by kernel_rfl, fun L a1 w1 n' h => ⟨_, rfl, run_lenS 22 (.tmp 48) 5 _ _ _ rfl Tryd.underlying22 (h.dep n' 5 48 (by kernel_rfl) rfl)⟩⟩
        · refine ⟨.inr ⟨4, true, 47, rfl, by kernel_rfl, rfl, by simp, fun v h => h⟩, ?_⟩
          exact .inl ⟨by kernel_rfl, fun L a1 w1 n' h => ⟨_, rfl, run_move (.tmp 7) rfl (h.var n' 7 (by kernel_rfl))⟩⟩
        · refine ⟨.inr ⟨4, true, 47, rfl, by kernel_rfl, rfl, by simp, fun v h => h⟩, ?_⟩
          refine .inl ⟨by kernel_rfl, fun L a1 w1 n' h => ⟨.bool true, rfl, ?_⟩⟩
          have e0 : a1.eval (.tmp 49) = _ := h.dep n' 6 49 (by kernel_rfl) rfl
          have e1 : a1.eval (.tmp 50) = _ := h.dep n' 7 50 (by kernel_rfl) rfl
          unfold execOp
          simp only [e0, e1]
          go_simp
        · refine ⟨.inl rfl, ?_⟩
          exact .inl ⟨by kernel_rfl, fun L a1 w1 n' h => ⟨_, rfl, run_pickT (.tmp 47) _ _ rfl (h.dep n' 4 47 (by kernel_rfl) rfl) (h.dep n' 8 51 (by kernel_rfl) rfl)⟩⟩
        · refine ⟨.inl rfl, ?_⟩
          exact .inl ⟨by kernel_rfl, fun L a1 w1 n' h => ⟨_, rfl, run_move (.tmp 52) rfl (h.dep n' 9 52 (by kernel_rfl) rfl)⟩⟩
        · refine ⟨.inr ⟨10, true, 53, rfl, by kernel_rfl, rfl, by simp, fun v h => h⟩, ?_⟩
          exact .inl ⟨by kernel_rfl, fun L a1 w1 n' h => ⟨_, rfl, run_move (.tmp 11) rfl (h.var n' 11 (by kernel_rfl))⟩⟩
        · refine ⟨.inr ⟨10, true, 53, rfl, by kernel_rfl, rfl, by simp, fun v h => h⟩, ?_⟩
          exact .inl ⟨by kernel_rfl, fun L a1 w1 n' h => ⟨_, rfl, run_lenS 22 (.tmp 54) 5 _ _ _ rfl Tryd.underlying22 (h.dep n' 11 54 (by kernel_rfl) rfl)⟩⟩
        · refine ⟨.inr ⟨10, true, 53, rfl, by kernel_rfl, rfl, by simp, fun v h => h⟩, ?_⟩
          exact .inl ⟨by kernel_rfl, fun L a1 w1 n' h => ⟨_, rfl, run_move (.tmp 8) rfl (h.var n' 8 (by kernel_rfl))⟩⟩
        · refine ⟨.inr ⟨10, true, 53, rfl, by kernel_rfl, rfl, by simp, fun v h => h⟩, ?_⟩
          refine .inl ⟨by kernel_rfl, fun L a1 w1 n' h => ⟨.bool true, rfl, ?_⟩⟩
          have e0 : a1.eval (.tmp 55) = _ := h.dep n' 12 55 (by kernel_rfl) rfl
          have e1 : a1.eval (.tmp 56) = _ := h.dep n' 13 56 (by kernel_rfl) rfl
          unfold execOp
          simp only [e0, e1]
          go_simp
        · refine ⟨.inl rfl, ?_⟩
          exact .inl ⟨by kernel_rfl, fun L a1 w1 n' h => ⟨_, rfl, run_pickT (.tmp 53) _ _ rfl (h.dep n' 10 53 (by kernel_rfl) rfl) (h.dep n' 14 57 (by kernel_rfl) rfl)⟩⟩
        · refine ⟨.inl rfl, ?_⟩
          exact .inl ⟨by kernel_rfl, fun L a1 w1 n' h => ⟨_, rfl, run_move (.tmp 58) rfl (h.dep n' 15 58 (by kernel_rfl) rfl)⟩⟩
        · refine ⟨.inr ⟨16, true, 59, rfl, by kernel_rfl, rfl, by simp, fun v h => h⟩, ?_⟩
          exact .inl ⟨by kernel_rfl, fun L a1 w1 n' h => ⟨_, rfl, run_move (.tmp 9) rfl (h.var n' 9 (by kernel_rfl))⟩⟩
        · refine ⟨.inr ⟨16, true, 59, rfl, by kernel_rfl, rfl, by simp, fun v h => h⟩, ?_⟩
          exact .inl ⟨by kernel_rfl, fun L a1 w1 n' h => ⟨_, rfl, run_move (.tmp 13) rfl (h.var n' 13 (by kernel_rfl))⟩⟩
        · refine ⟨.inr ⟨16, true, 59, rfl, by kernel_rfl, rfl, by simp, fun v h => h⟩, ?_⟩
          refine .inl ⟨by kernel_rfl, fun L a1 w1 n' h => ⟨.slice A9 Y c9, rfl, ?_⟩⟩
          have e0 : a1.eval (.tmp 60) = _ := h.dep n' 17 60 (by kernel_rfl) rfl
          have e1 : a1.eval (.tmp 61) = _ := h.dep n' 18 61 (by kernel_rfl) rfl
          unfold execOp
          simp only [e0, e1, Option.map_some, Option.map_none, Sem.run_bind, hS1, Result.andThen_ok, Sem.run_pure]
        · refine ⟨.inr ⟨16, true, 59, rfl, by kernel_rfl, rfl, by simp, fun v h => h⟩, ?_⟩
          exact .inl ⟨by kernel_rfl, fun L a1 w1 n' h => ⟨_, rfl, run_move (.tmp 11) rfl (h.var n' 11 (by kernel_rfl))⟩⟩
        · refine ⟨.inr ⟨16, true, 59, rfl, by kernel_rfl, rfl, by simp, fun v h => h⟩, ?_⟩
          exact .inl ⟨by kernel_rfl, fun L a1 w1 n' h => ⟨_, rfl, run_move (.tmp 13) rfl (h.var n' 13 (by kernel_rfl))⟩⟩
        · refine ⟨.inr ⟨16, true, 59, rfl, by kernel_rfl, rfl, by simp, fun v h => h⟩, ?_⟩
          refine .inl ⟨by kernel_rfl, fun L a1 w1 n' h => ⟨.slice A11 Y c11, rfl, ?_⟩⟩
          have e0 : a1.eval (.tmp 63) = _ := h.dep n' 20 63 (by kernel_rfl) rfl
          have e1 : a1.eval (.tmp 64) = _ := h.dep n' 21 64 (by kernel_rfl) rfl
          unfold execOp
          simp only [e0, e1, Option.map_some, Option.map_none, Sem.run_bind, hS2, Result.andThen_ok, Sem.run_pure]
        · refine ⟨.inr ⟨16, true, 59, rfl, by kernel_rfl, rfl, by simp, fun v h => h⟩, ?_⟩
          refine .inr fun L a1 w1 n' h K hK => ?_
          have e0 : a1.eval (.tmp 62) = .slice A9 Y c9 := h.dep n' 19 62 (by kernel_rfl) rfl
          have e1 : a1.eval (.tmp 65) = .slice A11 Y c11 := h.dep n' 22 65 (by kernel_rfl) rfl
          refine st_call 17 _ _ #[.slice A9 Y c9, .slice A11 Y c11] rfl Tryd.call17 ?_ (equal_same A9 A11 Y Y c9 c11 FS w1 (hx9.later h.inv) (hx11.later h.inv)) ?_
          · simp only [List.map_toArray, List.map_cons, List.map_nil, e0, e1]
          · rintro e w3 ⟨rfl, b9⟩
            exact ⟨_, rfl, hK _ w3 rfl (JR.call h.inv b9)⟩
        · refine ⟨.inl rfl, ?_⟩
          exact .inl ⟨by kernel_rfl, fun L a1 w1 n' h => ⟨_, rfl, run_pickT (.tmp 59) _ _ rfl (h.dep n' 16 59 (by kernel_rfl) rfl) (h.dep n' 23 66 (by kernel_rfl) rfl)⟩⟩
        · refine ⟨.inl rfl, ?_⟩
          exact .inl ⟨by kernel_rfl, fun L a1 w1 n' h => ⟨_, rfl, run_move (.tmp 67) rfl (h.dep n' 24 67 (by kernel_rfl) rfl)⟩⟩
        · refine ⟨.inr ⟨25, true, 68, rfl, by kernel_rfl, rfl, by simp, fun v h => h⟩, ?_⟩
          refine .inr fun L a1 w1 n' h K hK => ?_
          refine st_call 24 _ _ #[] rfl Tryd.call24 ?_ (mawake_any w1 (hT.later h.inv)) ?_
          · simp
          · rintro e w3 ⟨rfl, b9⟩
            exact ⟨_, rfl, hK _ w3 rfl (JR.call h.inv b9)⟩
        · refine ⟨.inl rfl, ?_⟩
          exact .inl ⟨by kernel_rfl, fun L a1 w1 n' h => ⟨_, rfl, run_pickT (.tmp 68) _ _ rfl (h.dep n' 25 68 (by kernel_rfl) rfl) (h.dep n' 26 69 (by kernel_rfl) rfl)⟩⟩
        · refine ⟨.inl rfl, ?_⟩
          exact .inl ⟨by kernel_rfl, fun L a1 w1 n' h => ⟨_, rfl, run_assign (.tmp 70) rfl (h.dep n' 27 70 (by kernel_rfl) rfl)⟩⟩
    case he =>
      intro V w5 hV hJ
      have h28 : V 28 = .bool true := hV 28 6 rfl
      have hB : Below wS.heap.size wS w5 := hJ
      clear hV hJ
      simp only [putOps, List.setIfInBounds_toArray, List.set_cons_succ, List.set_cons_zero]
      refine hK1 _ _ ?_
      go_wp2
      go_ret
      exact ⟨congrArg Ending.returned h28, BS.trans (hB.mono BS.size)⟩

  · have hkX : X ≤ X := Nat.le_refl _
    have hkY : X ≤ Y := hYX
    have hdk : decide (Y < X) = false := by simp; omega
    have t1 := expL_take (ks := ks) (is := [105]) hkX
    have t2 := expL_take (ks := ks) (is := [105]) hkY
    have T1 := hide t1; have T2 := hide t2
    clear t1 t2
    obtain ⟨F1, hF1⟩ : ∃ F, F = expL ks [105] X := ⟨_, rfl⟩
    obtain ⟨F2, hF2⟩ : ∃ F, F = expL ks [105] Y := ⟨_, rfl⟩
    obtain ⟨FS, hFS⟩ : ∃ F, F = expL ks [105] X := ⟨_, rfl⟩
    rw [← hF1] at P1
    rw [← hF2] at P2
    have T1 : Hid (F1.take X = FS) := by rw [hF1, hFS]; exact T1
    have T2 : Hid (F2.take X = FS) := by rw [hF2, hFS]; exact T2
    clear hF1 hF2 hFS
    go_enter Tryd.func11, Tryd.ntmps11
    go_wp2_with fail
    rw [hXe.out, hYe.out]
    have hb1 := Bs.lit' w 5 (1, 2) [105] #[.int .u8 105] 1 _ rfl rfl rfl
    have b1 : Below w.heap.size w (w.alloc (.cells #[.int .u8 105] 5 (1, 2))) := (Below.refl _ _).alloc (Nat.le_refl _) _
    refine (P1 _ 1 _ (hT.later b1) (hx.later b1) hb1 (Nat.le_refl _)).mono ?_
    rintro e w3 ⟨A9, c9, rfl, h9, hc9, _, b3⟩
    have B3 := b1.trans (b3.mono b1.size)
    clear hb1 b1 b3 P1
    go_wp2_with fail
    have hb2 := Bs.lit' w3 5 (1, 2) [105] #[.int .u8 105] 1 _ rfl rfl rfl
    have b4 : Below w3.heap.size w3 (w3.alloc (.cells #[.int .u8 105] 5 (1, 2))) := (Below.refl _ _).alloc (Nat.le_refl _) _
    have B4 := B3.trans (b4.mono B3.size)
    refine (P2 _ 1 _ (hT.later B4) (hx.later B4) hb2 (Nat.le_refl _)).mono ?_
    rintro e wS ⟨A11, c11, rfl, h11, hc11, _, b5⟩
    have BS := B4.trans (b5.mono B4.size)
    have hx9 := ((h9.later b4).later b5).take hkX
    have hx11 := h11.take hkY
    rw [T1.out] at hx9
    rw [T2.out] at hx11
    have hT0 := hT.later BS
    clear hb2 b4 b5 P2 h9 h11 B3 B4 hT hx kc
    have hT := hT0
    clear hT0
    have hS1 := fun w => run_sliceTo (P := Tryd.prog) w 22 5 1 Tryd.underlying22 Tryd.sizeOf5 A9 X c9 .i64 (X : Int) X rfl (by omega)
    have hS2 := fun w => run_sliceTo (P := Tryd.prog) w 22 5 1 Tryd.underlying22 Tryd.sizeOf5 A11 Y c11 .i64 (X : Int) X rfl (by omega)
    go_wp2_with fail
    rename_i K1 hK1
    refine wp_region_valsG [23, 26] (SMf A9 A11 X Y c9 c11 X) (JR wS) (by kernel_rfl) (by kernel_rfl) (by kernel_rfl) (by kernel_rfl) (Below.refl _ _).drew ?obs ?he
    case obs =>
        refine ⟨?_, ?_, ?_, ?_, ?_, ?_, ?_, ?_, ?_, ?_, ?_, ?_, ?_, ?_, ?_, ?_, ?_, ?_, ?_, ?_, ?_, ?_, ?_, ?_, ?_, ?_, ?_, ?_, ?_, trivial⟩
        · refine ⟨.inl rfl, ?_⟩
          exact .inl ⟨by kernel_rfl, fun L a1 w1 n' h => ⟨_, rfl, run_move (.tmp 10) rfl (h.var n' 10 (by kernel_rfl))⟩⟩
        · refine ⟨.inl rfl, ?_⟩
          exact .inl ⟨by kernel_rfl, fun L a1 w1 n' h => ⟨_, rfl, run_move (.tmp 43) rfl (h.dep n' 0 43 (by kernel_rfl) rfl)⟩⟩
        · refine ⟨.inr ⟨1, true, 44, rfl, by kernel_rfl, rfl, by simp, fun v h => h⟩, ?_⟩
          exact .inl ⟨by kernel_rfl, fun L a1 w1 n' h => ⟨_, rfl, run_move (.tmp 12) rfl (h.var n' 12 (by kernel_rfl))⟩⟩
        · refine ⟨.inl rfl, ?_⟩
          exact .inl ⟨by kernel_rfl, fun L a1 w1 n' h => ⟨_, rfl, run_pickT (.tmp 44) _ _ rfl (h.dep n' 1 44 (by kernel_rfl) rfl) (h.dep n' 2 45 (by kernel_rfl) rfl)⟩⟩
        · refine ⟨.inl rfl, ?_⟩
          exact .inl ⟨by kernel_rfl, fun L a1 w1 n' h => ⟨_, rfl, run_move (.tmp 46) rfl (h.dep n' 3 46 (by kernel_rfl) rfl)⟩⟩
        · refine ⟨.inr ⟨4, true, 47, rfl, by kernel_rfl, rfl, by simp, fun v h => h⟩, ?_⟩
          exact .inl ⟨by kernel_rfl, fun L a1 w1 n' h => ⟨_, rfl, run_move (.tmp 9) rfl (h.var n' 9 (by kernel_rfl))⟩⟩
        · refine ⟨.inr ⟨4, true, 47, rfl, by kernel_rfl, rfl, by simp, fun v h => h⟩, ?_⟩
          exact .inl ⟨by kernel_rfl, fun L a1 w1 n' h => ⟨_, rfl, run_lenS 22 (.tmp 48) 5 _ _ _ rfl Tryd.underlying22 (h.dep n' 5 48 (by kernel_rfl) rfl)⟩⟩
        · refine ⟨.inr ⟨4, true, 47, rfl, by kernel_rfl, rfl, by simp, fun v h => h⟩, ?_⟩
          exact .inl ⟨by kernel_rfl, fun L a1 w1 n' h => ⟨_, rfl, run_move (.tmp 7) rfl (h.var n' 7 (by kernel_rfl))⟩⟩
        · refine ⟨.inr ⟨4, true, 47, rfl, by kernel_rfl, rfl, by simp, fun v h => h⟩, ?_⟩
          refine .inl ⟨by kernel_rfl, fun L a1 w1 n' h => ⟨.bool true, rfl, ?_⟩⟩
          have e0 : a1.eval (.tmp 49) = _ := h.dep n' 6 49 (by kernel_rfl) rfl
          have e1 : a1.eval (.tmp 50) = _ := h.dep n' 7 50 (by kernel_rfl) rfl
          unfold execOp
          simp only [e0, e1]
          go_simp
        · refine ⟨.inl rfl, ?_⟩
          exact .inl ⟨by kernel_rfl, fun L a1 w1 n' h => ⟨_, rfl, run_pickT (.tmp 47) _ _ rfl (h.dep n' 4 47 (by kernel_rfl) rfl) (h.dep n' 8 51 (by kernel_rfl) rfl)⟩⟩
        · refine ⟨.inl rfl, ?_⟩
          exact .inl ⟨by kernel_rfl, fun L a1 w1 n' h => ⟨_, rfl, run_move (.tmp 52) rfl (h.dep n' 9 52 (by kernel_rfl) rfl)⟩⟩
        · refine ⟨.inr ⟨10, true, 53, rfl, by kernel_rfl, rfl, by simp, fun v h => h⟩, ?_⟩
          exact .inl ⟨by kernel_rfl, fun L a1 w1 n' h => ⟨_, rfl, run_move (.tmp 11) rfl (h.var n' 11 (by kernel_rfl))⟩⟩
        · refine ⟨.inr ⟨10, true, 53, rfl, by kernel_rfl, rfl, by simp, fun v h => h⟩, ?_⟩
          exact .inl ⟨by kernel_rfl, fun L a1 w1 n' h => ⟨_, rfl, run_lenS 22 (.tmp 54) 5 _ _ _ rfl Tryd.underlying22 (h.dep n' 11 54 (by kernel_rfl) rfl)⟩⟩
        · refine ⟨.inr ⟨10, true, 53, rfl, by kernel_rfl, rfl, by simp, fun v h => h⟩, ?_⟩
          exact .inl ⟨by kernel_rfl, fun L a1 w1 n' h => ⟨_, rfl, run_move (.tmp 8) rfl (h.var n' 8 (by kernel_rfl))⟩⟩
        · refine ⟨.inr ⟨10, true, 53, rfl, by kernel_rfl, rfl, by simp, fun v h => h⟩, ?_⟩
          refine .inl ⟨by kernel_rfl, fun L a1 w1 n' h => ⟨.bool true, rfl, ?_⟩⟩
          have e0 : a1.eval (.tmp 55) = _ := h.dep n' 12 55 (by kernel_rfl) rfl
          have e1 : a1.eval (.tmp 56) = _ := h.dep n' 13 56 (by kernel_rfl) rfl
          unfold execOp
          simp only [e0, e1]
          go_simp
        · refine ⟨.inl rfl, ?_⟩
          exact .inl ⟨by kernel_rfl, fun L a1 w1 n' h => ⟨_, rfl, run_pickT (.tmp 53) _ _ rfl (h.dep n' 10 53 (by kernel_rfl) rfl) (h.dep n' 14 57 (by kernel_rfl) rfl)⟩⟩
        · refine ⟨.inl rfl, ?_⟩
          exact .inl ⟨by kernel_rfl, fun L a1 w1 n' h => ⟨_, rfl, run_move (.tmp 58) rfl (h.dep n' 15 58 (by kernel_rfl) rfl)⟩⟩
        · refine ⟨.inr ⟨16, true, 59, rfl, by kernel_rfl, rfl, by simp, fun v h => h⟩, ?_⟩
          exact .inl ⟨by kernel_rfl, fun L a1 w1 n' h => ⟨_, rfl, run_move (.tmp 9) rfl (h.var n' 9 (by kernel_rfl))⟩⟩
        · refine ⟨.inr ⟨16, true, 59, rfl, by kernel_rfl, rfl, by simp, fun v h => h⟩, ?_⟩
          exact .inl ⟨by kernel_rfl, fun L a1 w1 n' h => ⟨_, rfl, run_move (.tmp 13) rfl (h.var n' 13 (by kernel_rfl))⟩⟩
        · refine ⟨.inr ⟨16, true, 59, rfl, by kernel_rfl, rfl, by simp, fun v h => h⟩, ?_⟩
          refine .inl ⟨by kernel_rfl, fun L a1 w1 n' h => ⟨.slice A9 X c9, rfl, ?_⟩⟩
          have e0 : a1.eval (.tmp 60) = _ := h.dep n' 17 60 (by kernel_rfl) rfl
          have e1 : a1.eval (.tmp 61) = _ := h.dep n' 18 61 (by kernel_rfl) rfl
          unfold execOp
          simp only [e0, e1, Option.map_some, Option.map_none, Sem.run_bind, hS1, Result.andThen_ok, Sem.run_pure]
        · refine ⟨.inr ⟨16, true, 59, rfl, by kernel_rfl, rfl, by simp, fun v h => h⟩, ?_⟩
          exact .inl ⟨by kernel_rfl, fun L a1 w1 n' h => ⟨_, rfl, run_move (.tmp 11) rfl (h.var n' 11 (by kernel_rfl))⟩⟩
        · refine ⟨.inr ⟨16, true, 59, rfl, by kernel_rfl, rfl, by simp, fun v h => h⟩, ?_⟩
          exact .inl ⟨by kernel_rfl, fun L a1 w1 n' h => ⟨_, rfl, run_move (.tmp 13) rfl (h.var n' 13 (by kernel_rfl))⟩⟩
        · refine ⟨.inr ⟨16, true, 59, rfl, by kernel_rfl, rfl, by simp, fun v h => h⟩, ?_⟩
          refine .inl ⟨by kernel_rfl, fun L a1 w1 n' h => ⟨.slice A11 X c11, rfl, ?_⟩⟩
          have e0 : a1.eval (.tmp 63) = _ := h.dep n' 20 63 (by kernel_rfl) rfl
          have e1 : a1.eval (.tmp 64) = _ := h.dep n' 21 64 (by kernel_rfl) rfl
          unfold execOp
          simp only [e0, e1, Option.map_some, Option.map_none, Sem.run_bind, hS2, Result.andThen_ok, Sem.run_pure]
        · refine ⟨.inr ⟨16, true, 59, rfl, by kernel_rfl, rfl, by simp, fun v h => h⟩, ?_⟩
          refine .inr fun L a1 w1 n' h K hK => ?_
          have e0 : a1.eval (.tmp 62) = .slice A9 X c9 := h.dep n' 19 62 (by kernel_rfl) rfl
          have e1 : a1.eval (.tmp 65) = .slice A11 X c11 := h.dep n' 22 65 (by kernel_rfl) rfl
          refine st_call 17 _ _ #[.slice A9 X c9, .slice A11 X c11] rfl Tryd.call17 ?_ (equal_same A9 A11 X X c9 c11 FS w1 (hx9.later h.inv) (hx11.later h.inv)) ?_
          · simp only [List.map_toArray, List.map_cons, List.map_nil, e0, e1]
          · rintro e w3 ⟨rfl, b9⟩
            exact ⟨_, rfl, hK _ w3 rfl (JR.call h.inv b9)⟩
        · refine ⟨.inl rfl, ?_⟩
          exact .inl ⟨by kernel_rfl, fun L a1 w1 n' h => ⟨_, rfl, run_pickT (.tmp 59) _ _ rfl (h.dep n' 16 59 (by kernel_rfl) rfl) (h.dep n' 23 66 (by kernel_rfl) rfl)⟩⟩
        · refine ⟨.inl rfl, ?_⟩
          exact .inl ⟨by kernel_rfl, fun L a1 w1 n' h => ⟨_, rfl, run_move (.tmp 67) rfl (h.dep n' 24 67 (by kernel_rfl) rfl)⟩⟩
        · refine ⟨.inr ⟨25, true, 68, rfl, by kernel_rfl, rfl, by simp, fun v h => h⟩, ?_⟩
          refine .inr fun L a1 w1 n' h K hK => ?_
          refine st_call 24 _ _ #[] rfl Tryd.call24 ?_ (mawake_any w1 (hT.later h.inv)) ?_
          · simp
          · rintro e w3 ⟨rfl, b9⟩
            exact ⟨_, rfl, hK _ w3 rfl (JR.call h.inv b9)⟩
        · refine ⟨.inl rfl, ?_⟩
          exact .inl ⟨by kernel_rfl, fun L a1 w1 n' h => ⟨_, rfl, run_pickT (.tmp 68) _ _ rfl (h.dep n' 25 68 (by kernel_rfl) rfl) (h.dep n' 26 69 (by kernel_rfl) rfl)⟩⟩
        · refine ⟨.inl rfl, ?_⟩
          exact .inl ⟨by kernel_rfl, fun L a1 w1 n' h => ⟨_, rfl, run_assign (.tmp 70) rfl (h.dep n' 27 70 (by kernel_rfl) rfl)⟩⟩
    case he =>
      intro V w5 hV hJ
      have h28 : V 28 = .bool true := hV 28 6 rfl
      have hB : Below wS.heap.size wS w5 := hJ
      clear hV hJ
      simp only [putOps, List.setIfInBounds_toArray, List.set_cons_succ, List.set_cons_zero]
      refine hK1 _ _ ?_
      go_wp2
      go_ret
      exact ⟨congrArg Ending.returned h28, BS.trans (hB.mono BS.size)⟩

end Go.Proofs.YtlhgfobhdhddlaaDoor

/- Proved: the law MacFirst (P6.3) answers true and leaves its argument as it read before. For every key and every two numbers; no condition but the tie of the two tables of sha to the program's text. -/
namespace Go.Proofs.YtlhgfobhdhddlaaDoor.macFirst
open Go.ChangeShapes Go.WideShapes Go.ChangeAt Go.WideMaps Go.WideElems Go.RowKit

theorem own : ownKnob Tryd.prog.godebug = none := by kernel_rfl
theorem laidOut : laidOutB Tryd.prog = true := by kernel_rfl
theorem door_met (os : Os) (args : Array Value) : laidMetH Tryd.prog laid2 ((World.doorLaid Tryd.prog 400 os).forCall (fun _ _ => 0) ⟨#[], args, []⟩).memory :=
  laidMetH_of_parts3 (fuel := 8) (laidMet_of_run' 8 (by kernel_rfl) (by kernel_rfl)) (by kernel_rfl) (by kernel_rfl)

set_option maxRecDepth 100000 in
theorem lifted (os : Os) (started : os.Started) (H : Type) (enc : TypeId × Value → H) :
    ReturnsInHanded {} Tryd.checked os 11 .any (fun w args => (Rows.macFirstSpec.pre enc Tryd.prog Tryd.f11 [] false w args ∧ laidMetH Tryd.prog laid2 w) ∧ sizedMet enc Tryd.prog Tryd.f11 (OpenSpec.ofChange Rows.macFirstSpec) false w args)
      (Rows.macFirstSpec.post enc Tryd.prog Tryd.f11 false true false false) := by
  refine returnsInHanded_of_change_and (C := Tryd.checked) (X := fun w _ => laidMetH Tryd.prog laid2 w) (fun _ _ _ hh h => h.of_heap hh) own started (by kernel_rfl) Tryd.func11
    (ChangeSpec.witness_shaped (enc := enc) (C := Tryd.checked) (os := os) (X := fun w _ => laidMetH Tryd.prog laid2 w) false (World.doorLaid Tryd.prog 400 os) #[.slice none 0 0, .int .u16 0, .int .u16 0] 8 rfl (World.shaped_of_RefB (by kernel_rfl) (by kernel_rfl)) (by kernel_rfl) (by kernel_rfl) (by kernel_rfl) (door_met os _)) ?_
  intro W base args ds gs before hval0 hW _ _ hL _
  have hval : ∀ (j : Nat) t v, Tryd.f11.params[j]? = some t → args[j]? = some v → Value.okWide Tryd.prog W .any base t v := hval0
  have hW' := hW
  obtain ⟨p, q, hA0, hV, rfl, hfz, hnd⟩ := hW
  have hA : DataW.TrodAll enc Tryd.prog W 0 (fun _ => true) true Tryd.f11.params.toList args.toList ds p := hA0
  rw [Tryd.params11] at hA hval
  obtain ⟨v0, vs0, d0, ds0, p0, q0, hargs, rfl, rfl, h0, r0⟩ := trodAll_cons hA
  obtain ⟨v1, vs1, d1, ds1, p1, q1, rfl, rfl, rfl, h1, r1⟩ := trodAll_cons r0
  obtain ⟨v2, vs2, d2, ds2, p2, q2, rfl, rfl, rfl, h2, r2⟩ := trodAll_cons r1
  obtain ⟨rfl, rfl, rfl⟩ := trodAll_nil r2
  obtain rfl : args = #[v0, v1, v2] := by cases args; simp_all
  obtain ⟨rfl, rfl⟩ := trodVars_none hV
  obtain ⟨a0, len0, cap0, rfl⟩ := okWide_slice Tryd.underlying22 (hval 0 22 v0 rfl rfl)
  have k0 := h0
  have lt0 : ∀ x ∈ p0, x.block < W.heap.size := by obtain ⟨m, hm⟩ := k0; exact DataW.trod_lt m _ _ _ hm
  obtain ⟨a1, rfl, rfl, rfl, w1⟩ := open_int Tryd.underlying38 (hval 1 38 v1 rfl rfl) h1
  obtain ⟨a2, rfl, rfl, rfl, w2⟩ := open_int Tryd.underlying38 (hval 2 38 v2 rfl rfl) h2
  clear hA0 hval0
  have hT : Tabs W := tabs_of_laid hL
  obtain ⟨x0, b0, by0, m0⟩ : ∃ xs, Bs W W.heap.size a0 len0 xs ∧ IsBy xs ∧ len0 ≤ cap0 := by
    obtain ⟨fuel, hf⟩ := k0
    obtain ⟨A', n', c', xs, hv, hb, hby, h1, h2⟩ := trod_bs Tryd.underlying22 Tryd.underlying5 (by kernel_rfl) hf
    simp at hv
    obtain ⟨rfl, rfl, rfl⟩ := hv
    exact ⟨xs, hb, hby, h1⟩
  refine (macFirst_any x0 a1 a2 a0 len0 cap0 W hT b0 by0 m0 (wf_u16 w1).1 (wf_u16 w1).2 (wf_u16 w2).1 (wf_u16 w2).2).mono fun e W' ⟨he, bel⟩ => ?_
  subst he
  exact ⟨_, rfl, _, _, _, [], _, [], hW', trodAll_mk1 (shut_bool Tryd.underlying4 _), (trodAll_cons_mk (Below.trod laidOut (by kernel_rfl) (of_decide_eq_true (by kernel_rfl)) k0 bel lt0) (trodAll_cons_mk (shut_int Tryd.underlying38 w1) (trodAll_cons_mk (shut_int Tryd.underlying38 w2) trodAll_mk0))), rfl, bel.frame _, fun h => by cases h⟩

theorem over : Rows.MacFirstSaid :=
  OpenClaim.holds_of_wide 11 Tryd.f11 rfl rfl rfl rfl rfl rfl rfl ⟨rfl, rfl, rfl, rfl, rfl⟩ rfl rfl rfl rfl rfl (by kernel_rfl) Tryd.func11 (by kernel_rfl)
    (of_decide_eq_true (by kernel_rfl)) (by unfold Func.isWrapper; first | (rw [if_pos (by decide +kernel)]; kernel_rfl) | (rw [if_neg (by decide +kernel)]; exact ⟨rfl, rfl⟩))
    (fun os started H enc _ => lifted os started H enc)

/-- The given statement. -/
theorem proved : Rows.MacFirstCardSaid :=
  Claim7.holds_tied_plain_at .later [] [.data, .data] true (true, "2a1334606687450c169f9de7db10f82ff4b51d6d76a28dc4fa85fcd7173bb2ba") false
    over (fun _ h => by cases h) (by kernel_rfl) (fun _ h => by cases h) macFirst_row_tie rfl ⟨rfl, rfl⟩ (by kernel_rfl) rfl
    (fun f fn hf hfn => by
      obtain rfl : f = 11 := Option.some.inj ((show Tryd.prog.funcNamed "intaglio/intagliolaw06.MacFirst" = some 11 by kernel_rfl).symm.trans hf) |>.symm
      obtain rfl : fn = Tryd.f11 := (Option.some.inj (Tryd.func11.symm.trans hfn)).symm
      exact ⟨by kernel_rfl, fun j t ht => by
        rw [Tryd.params11] at ht
        have hm : t ∈ [22, 38, 38] := by simpa using Array.mem_of_getElem? ht
        have hall : ([22, 38, 38].all fun u => !Tryd.prog.wantsStandIn u) = true := by kernel_rfl
        exact (show Tryd.prog.wantsStandIn t = false by simpa using List.all_eq_true.1 hall t hm)⟩)
    (by kernel_rfl)
#print axioms proved
end Go.Proofs.YtlhgfobhdhddlaaDoor.macFirst
