/-
  Numbers: the document's text of a number. Contract. Own work.
-/
import Derived.Test.YthjcmgjmdjihnaaDoorVerbG
namespace Go.Proofs.YthjcmgjmdjihnaaDoor
open Go.RowKit Go.Lib
set_option linter.unusedVariables false
set_option linter.unusedSimpArgs false
theorem u8_infoV : ∃ i, Tryd.prog.info? 5 = some i ∧ i.zero = some (.int .u8 0) ∧ i.size = 1 := by
  have h : (Tryd.prog.info? 5).map (fun i => (i.zero, i.size, i.bytes)) = some (some (.int .u8 0), 1, 1) := by kernel_rfl
  cases hq : Tryd.prog.info? 5 with
  | none => rw [hq] at h; cases h
  | some i =>
    rw [hq] at h
    simp only [Option.map_some, Option.some.injEq, Prod.mk.injEq] at h
    exact ⟨i, rfl, h.1, h.2.1⟩
theorem itoa_pos {n : Int} (h : ¬ n < 0) : itoa n = decDigits n.toNat := by unfold itoa; rw [if_neg h]
theorem itoa_neg {n : Int} (h : n < 0) : itoa n = 45 :: decDigits n.natAbs := by unfold itoa; rw [if_pos h]
theorem itoa_dig {n : Int} (h0 : 0 ≤ n) (h1 : n < 10) : itoa n = [UInt8.ofNat (48 + n).toNat] := by
  rw [itoa_pos (by omega), decDigits_small (by omega), show 48 + n.toNat = (48 + n).toNat by omega]
theorem itoa_big {n : Int} (h : 10 ≤ n) : itoa n = itoa (n / 10) ++ itoa (n % 10) := by
  rw [itoa_pos (by omega), itoa_pos (by omega), itoa_pos (by omega), decDigits_big (u := n.toNat) (by omega), decDigits_small (u := (n % 10).toNat) (by omega)]
  rw [show (n / 10).toNat = n.toNat / 10 by omega, show (n % 10).toNat = n.toNat % 10 by omega]
theorem itoa_negs {n : Int} (h : n < 0) (h1 : -10 < n) : itoa n = [45] ++ itoa (-n) := by
  rw [itoa_neg h, itoa_pos (by omega), show (-n).toNat = n.natAbs by omega]
  rfl
theorem itoa_negb {n q r : Int} (h : n ≤ -10) (hq : q = -(-n / 10)) (hr : r = -n % 10) : itoa n = itoa q ++ itoa r := by
  rw [itoa_neg (by omega), itoa_neg (n := q) (by omega), itoa_pos (n := r) (by omega), decDigits_big (u := n.natAbs) (by omega), decDigits_small (u := r.toNat) (by omega)]
  rw [show q.natAbs = n.natAbs / 10 by omega, show r.toNat = n.natAbs % 10 by omega]
  rfl
theorem tdiv10 {n : Int} (h : n < 0) : n.tdiv 10 = -(-n / 10) := by
  rw [show n = -(-n) by omega, Int.neg_tdiv, Int.tdiv_eq_ediv_of_nonneg (by omega)]
  simp
theorem tmod10 {n : Int} (h : n < 0) : n.tmod 10 = -(-n % 10) := by
  rw [show n = -(-n) by omega, Int.neg_tmod, Int.tmod_eq_emod_of_nonneg (by omega)]
  simp
set_option maxRecDepth 100000 in
theorem rtext_dig (n : Int) (w : World) (h0 : 0 ≤ n) (h1 : n < 10) :
    Calls Tryd.prog 21 #[.int .i64 n] w fun e w' => e = .returned (encStr (itoa n)) ∧ Below w.heap.size w w' := by
  obtain ⟨i8, h8i, h8z, h8s⟩ := u8_infoV
  rw [itoa_dig h0 h1]
  have hw : IntKind.u8.wrap (48 + n) = 48 + n := by simp [IntKind.wrap, IntKind.bits, IntKind.signed]; omega
  have hz : encStr [UInt8.ofNat (48 + n).toNat] = .string (strOfNums [48 + n]) := rfl
  rw [hz]
  replace hw := hide hw
  clear hz
  go_enter Tryd.func21, Tryd.ntmps21
  go_wp2_with (first
    | ((with_reducible refine wl_build1 (o := ⟨some 12, _, _, _, _, _⟩) rfl 26 (.tmp 11) rfl 5 i8 (.int .u8 0) (.int .u8 (48 + n)) Tryd.underlying26 h8i h8z h8s rfl rfl rfl ?_); intro g3 w3 r3 p3 l3 b3; have bs3 : Bs w3 w3.heap.size (some ⟨g3, 0, none⟩) 1 [48 + n] := Bs.row (t := 5) r3 rfl)
    | (with_reducible refine wl_run (o := ⟨some 13, _, _, _, _, _⟩) rfl (.string (strOfNums [48 + n])) (run_toStr 26 9 5 (.tmp 12) rfl rfl bs3 Tryd.underlying26 Tryd.underlying5 Tryd.underlying9) ?_))
  go_ret
  exact ⟨rfl, b3⟩
set_option maxRecDepth 100000 in
set_option maxHeartbeats 1000000 in
theorem rtext_any : ∀ (N : Nat) (n : Int) (w : World), n.natAbs ≤ N → -9223372036854775808 ≤ n → n ≤ 9223372036854775807 →
    Calls Tryd.prog 21 #[.int .i64 n] w fun e w' => e = .returned (encStr (itoa n)) ∧ Below w.heap.size w w' := by
  obtain ⟨i8, h8i, h8z, h8s⟩ := u8_infoV
  intro N
  induction N with
  | zero =>
    intro n w hN h0 h1
    exact rtext_dig n w (by omega) (by omega)
  | succ N ih =>
    intro n w hN h0 h1
    by_cases c0 : 0 ≤ n
    · by_cases c1 : n < 10
      · exact rtext_dig n w c0 c1
      · have H1 := fun w => ih (n / 10) w (by omega) (by omega) (by omega)
        have H2 := fun w => ih (n % 10) w (by omega) (by omega) (by omega)
        rw [itoa_big (by omega)]
        have l1 := itoa_len (n := n / 10) (by omega) (by omega)
        have l2 := itoa_len (n := n % 10) (by omega) (by omega)
        have c2 : ¬ n < 10 := c1
        generalize itoa (n / 10) = A at *
        generalize itoa (n % 10) = B at *
        replace l1 := hide l1
        replace l2 := hide l2
        clear ih
        go_enter Tryd.func21, Tryd.ntmps21
        go_wp2_with fail
        refine (H1 _).mono ?_
        rintro e w1 ⟨rfl, b1⟩
        go_wp2_with fail
        refine (H2 _).mono ?_
        rintro e w2 ⟨rfl, b2⟩
        go_wp2_with (first
          | (with_reducible refine wl_run (o := ⟨some 22, _, _, _, _, _⟩) rfl (encStr (A ++ B)) (run_addStr (.tmp 18) (.tmp 21) rfl rfl rfl (by have := l1.out; have := l2.out; omega)) ?_))
        go_ret
        exact ⟨rfl, b1.trans (b2.mono b1.size)⟩
    · by_cases c1 : -10 < n
      · have H1 := fun w => rtext_dig (-n) w (by omega) (by omega)
        rw [itoa_negs (by omega) c1]
        have l1 := itoa_len (n := -n) (by omega) (by omega)
        have c3 : n < 0 := by omega
        generalize itoa (-n) = A at *
        replace l1 := hide l1
        clear ih
        go_enter Tryd.func21, Tryd.ntmps21
        go_wp2_with fail
        refine (H1 _).mono ?_
        rintro e w1 ⟨rfl, b1⟩
        go_wp2_with (first
          | (with_reducible refine wl_run (o := ⟨some 28, _, _, _, _, _⟩) rfl (encStr ([45] ++ A)) (run_addStr (.const (.string ⟨#[45]⟩)) (.tmp 27) rfl rfl rfl (by have := l1.out; simp; omega)) ?_))
        go_ret
        exact ⟨rfl, b1⟩
      · have c3 : n < 0 := by omega
        obtain ⟨q, hq⟩ : ∃ q, q = -(-n / 10) := ⟨_, rfl⟩
        obtain ⟨r, hr⟩ : ∃ r, r = -n % 10 := ⟨_, rfl⟩
        have e1 := tdiv10 c3
        have e2 := tmod10 c3
        rw [← hq] at e1
        rw [← hr] at e2
        have q1 : IntKind.i64.wrap q = q := wrap_id rfl (by omega) (by omega)
        have q2 : IntKind.i64.wrap (- -r) = r := wrap_id (by omega) (by omega) (by omega)
        have H1 := fun w => ih q w (by omega) (by omega) (by omega)
        have H2 := fun w => ih r w (by omega) (by omega) (by omega)
        rw [itoa_negb (by omega) hq hr]
        have l1 := itoa_len (n := q) (by omega) (by omega)
        have l2 := itoa_len (n := r) (by omega) (by omega)
        have c4 : ¬ -10 < n := c1
        generalize itoa q = A at *
        generalize itoa r = B at *
        replace l1 := hide l1
        replace l2 := hide l2
        have r0 : 0 ≤ r := by omega
        have r9 : r < 10 := by omega
        have qa : q < 0 := by omega
        clear ih hq hr
        go_enter Tryd.func21, Tryd.ntmps21
        go_wp2_with fail
        refine (H1 _).mono ?_
        rintro e w1 ⟨rfl, b1⟩
        go_wp2_with fail
        refine (H2 _).mono ?_
        rintro e w2 ⟨rfl, b2⟩
        go_wp2_with (first
          | (with_reducible refine wl_run (o := ⟨some 36, _, _, _, _, _⟩) rfl (encStr (A ++ B)) (run_addStr (.tmp 31) (.tmp 35) rfl rfl rfl (by have := l1.out; have := l2.out; omega)) ?_))
        go_ret
        exact ⟨rfl, b1.trans (b2.mono b1.size)⟩
end Go.Proofs.YthjcmgjmdjihnaaDoor
