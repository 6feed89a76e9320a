/- Proved: the law AeadSame (P4.2) answers true and leaves its arguments as they read before. For every two lists of bytes; no condition but the tie of the two tables of chacha to the program's text. -/
import Derived.Test.YtpnlgmkkikmglabDoorRows
import Derived.Test.YtpnlgmkkikmglabDoorCards
import Derived.Test.YtpnlgmkkikmglabDoorTie
import Derived.WalkKit
import Derived.ProofKit
import Derived.OpenShut
import Derived.ShutString
import Derived.ChangeOld
import Derived.Below
import Derived.LaidMore
import Derived.Stop.Joined
import Derived.SevenTiedAt
import Derived.Test.YtpnlgmkkikmglabDoorGE
import Derived.Test.YtpnlgmkkikmglabDoorGB
set_option linter.unusedVariables false
set_option linter.unusedSimpArgs false
/-
  Aead: the law AeadSame: contract. Own work.
-/
namespace Go.Proofs.YtpnlgmkkikmglabDoor
open Go.RowKit
theorem same_upto {xs ys : List Int} : (decide (xs = ys)) = (decide (xs.length = ys.length) && decide (∀ j, j < xs.length → xs.getD j 0 = ys.getD j 0)) := by
  rw [Bool.eq_iff_iff]
  simp only [decide_eq_true_eq, Bool.and_eq_true]
  constructor
  · rintro rfl; exact ⟨rfl, fun _ _ => rfl⟩
  · rintro ⟨hl, h⟩
    refine List.ext_getElem hl fun j h1 h2 => ?_
    have := h j h1
    simpa [List.getD, List.getElem?_eq_getElem h1, List.getElem?_eq_getElem h2] using this
set_option maxRecDepth 100000 in
set_option maxHeartbeats 2000000 in
theorem aeadSame_any (xs ys : List Int) (A D : Option Addr) (m c n d : Nat) (w : World) (hT : Tabs w) (hx : Bs w w.heap.size A m xs) (hxb : IsBy xs) (hy : Bs w w.heap.size D n ys) (hyb : IsBy ys) (hmM : m ≤ maxLen) (hnM : n ≤ maxLen) :
    Calls Tryd.prog 7 #[.slice A m c, .slice D n d] w fun e w' => e = .returned (.bool true) ∧ Below w.heap.size w w' := by
  have HmM := hide hmM
  have HnM := hide hnM
  unfold maxLen at hmM hnM
  by_cases hl1 : 5000 < m
  · have hd : decide ((5000 : Int) < (m : Int)) = true := by simp; omega
    go_enter Tryd.func7, Tryd.ntmps7
    go_wp2_with fail
    refine (awake_any _ hT).mono ?_
    rintro e w3 ⟨rfl, b3⟩
    go_wp2_with fail
    go_ret
    exact ⟨rfl, b3⟩
  have hd : decide ((5000 : Int) < (m : Int)) = false := by simp; omega
  by_cases hl2 : 5000 < n
  · have hd2 : decide ((5000 : Int) < (n : Int)) = true := by simp; omega
    go_enter Tryd.func7, Tryd.ntmps7
    go_wp2_with fail
    refine (awake_any _ hT).mono ?_
    rintro e w3 ⟨rfl, b3⟩
    go_wp2_with fail
    go_ret
    exact ⟨rfl, b3⟩
  have hd2 : decide ((5000 : Int) < (n : Int)) = false := by simp; omega
  have hS1 := fun w hx hy => same_any A D m c n d xs ys w hx hy hxb hyb HmM.out HnM.out
  have hS2 : ∀ w, Bs w w.heap.size A m xs → Calls Tryd.prog 18 #[.slice A m c, .slice A m c] w fun e w' => e = .returned (.bool true) ∧ w = w' := fun w hx => (same_any A A m c m c xs xs w hx hx hxb hxb HmM.out HmM.out).mono fun e w' h => by
    obtain ⟨rfl, rfl⟩ := h
    exact ⟨by simp, rfl⟩
  have hup := same_upto (xs := xs) (ys := ys)
  rw [hx.1, hy.1] at hup
  have Hlx := hide hx.1
  have Hly := hide hy.1
  go_enter Tryd.func7, Tryd.ntmps7
  go_wp2_with fail
  go_loopw [5, 6] (fun sv iv wr => ∃ (k : Nat) (b : Bool), k ≤ m ∧ iv = .int .i64 k ∧ sv = .bool b ∧ (b = true ↔ m = n ∧ ∀ j, j < k → xs.getD j 0 = ys.getD j 0) ∧ Below w.heap.size w wr) (fun _ iv _ => m - (intOf iv).toNat)
  case atStart => exact ⟨0, decide (m = n), Nat.zero_le _, rfl, congrArg Value.bool (eqN m n), by simp, Below.refl _ _⟩
  case round =>
    obtain ⟨k, b, hk, rfl, rfl, hb, br⟩ := hrel
    have hx' := hx.later br
    have hy' := hy.later br
    by_cases hgo : k < m ∧ b = true
    · obtain ⟨hlt, rfl⟩ := hgo
      obtain ⟨hmn, hall⟩ := hb.1 rfl
      obtain ⟨b1, o1, rfl, l1, c1⟩ := hx'.2 (by omega)
      obtain ⟨b2, o2, rfl, l2, c2⟩ := hy'.2 (by omega)
      replace c1 := c1 k hlt
      replace c2 := c2 k (by omega)
      have hkn : k < n := by omega
      have hnext : (xs.getD k 0 == ys.getD k 0) = true ↔ m = n ∧ ∀ j, j < k + 1 → xs.getD j 0 = ys.getD j 0 := by
        rw [beq_iff_eq]
        constructor
        · intro h
          refine ⟨hmn, fun j hj => ?_⟩
          by_cases hjk : j = k
          · subst hjk; exact h
          · exact hall j (by omega)
        · intro h
          exact h.2 k (by omega)
      have HN := hide hnext
      have hdl : decide ((k : Int) < (m : Int)) = true := by simp; omega
      clear hnext hall hb hmn
      go_wp2_with fail
      go_quiet (fail)
      have bq := below_drewn br nq
      go_wp2
      go_roundw
      case rel => exact ⟨k + 1, _, by omega, by go_num, rfl, HN.out, bq⟩
      case measure => simp [intOf]; omega
    · have hfin : b = decide (xs = ys) := by
        rw [hup, Bool.eq_iff_iff, hb]
        simp only [Bool.and_eq_true, decide_eq_true_eq]
        constructor
        · rintro ⟨h1, h2⟩
          have : b = true := hb.2 ⟨h1, h2⟩
          have hkm : k = m := by
            by_cases h : k < m
            · exact absurd ⟨h, this⟩ hgo
            · omega
          subst hkm
          exact ⟨h1, h2⟩
        · rintro ⟨h1, h2⟩
          exact ⟨h1, fun j hj => h2 j (by omega)⟩
      have hstop : (decide ((k : Int) < (m : Int)) && b) = false := by
        rw [Bool.eq_false_iff]
        intro h
        simp only [Bool.and_eq_true, decide_eq_true_eq] at h
        exact hgo ⟨by omega, h.2⟩
      have HF := hide hfin
      have hxr := hx.later br
      have hyr := hy.later br
      by_cases hlt : k < m
      · obtain rfl : b = false := by
          rw [Bool.eq_false_iff]
          exact fun h => hgo ⟨hlt, h⟩
        have hdl : decide ((k : Int) < (m : Int)) = true := by simp; omega
        clear hfin hb hup hgo hstop
        clear hx' hy'
        go_wp2_with fail
        refine (hS1 wr hxr hyr).mono ?_
        rintro e w5 ⟨rfl, rfl⟩
        rw [← HF.out]
        go_wp2_with fail
        refine (hS2 wr hxr).mono ?_
        rintro e w6 ⟨rfl, rfl⟩
        go_wp2_with fail
        refine (awake_any wr (hT.later br)).mono ?_
        rintro e w7 ⟨rfl, b7⟩
        go_wp2_with fail
        go_ret
        exact ⟨rfl, br.trans (b7.mono br.size)⟩
      · have hdl : decide ((k : Int) < (m : Int)) = false := by simp; omega
        clear hfin hb hup hgo hstop
        clear hx' hy'
        go_wp2_with fail
        refine (hS1 wr hxr hyr).mono ?_
        rintro e w5 ⟨rfl, rfl⟩
        rw [← HF.out]
        go_wp2_with fail
        refine (hS2 wr hxr).mono ?_
        rintro e w6 ⟨rfl, rfl⟩
        go_wp2_with fail
        refine (awake_any wr (hT.later br)).mono ?_
        rintro e w7 ⟨rfl, b7⟩
        go_wp2_with fail
        go_ret
        exact ⟨rfl, br.trans (b7.mono br.size)⟩
end Go.Proofs.YtpnlgmkkikmglabDoor

/- Proved: the law AeadSame (P4.2) answers true and leaves its arguments as they read before. For every two lists of bytes; no condition but the tie of the two tables of chacha to the program's text. -/
namespace Go.Proofs.YtpnlgmkkikmglabDoor.aeadSame
open Go.ChangeShapes Go.WideShapes Go.ChangeAt Go.WideMaps Go.WideElems Go.RowKit

theorem own : ownKnob Tryd.prog.godebug = none := by kernel_rfl
theorem laidOut : laidOutB Tryd.prog = true := by kernel_rfl
theorem door_met (os : Os) (args : Array Value) : laidMetH Tryd.prog laid2 ((World.doorLaid Tryd.prog 400 os).forCall (fun _ _ => 0) ⟨#[], args, []⟩).memory :=
  laidMetH_of_parts3 (fuel := 8) (laidMet_of_run' 8 (by kernel_rfl) (by kernel_rfl)) (by kernel_rfl) (by kernel_rfl)

set_option maxRecDepth 100000 in
theorem lifted (os : Os) (started : os.Started) (H : Type) (enc : TypeId × Value → H) :
    ReturnsInHanded {} Tryd.checked os 7 .any (fun w args => (Rows.aeadSameSpec.pre enc Tryd.prog Tryd.f7 [] false w args ∧ laidMetH Tryd.prog laid2 w) ∧ sizedMet enc Tryd.prog Tryd.f7 (OpenSpec.ofChange Rows.aeadSameSpec) false w args)
      (Rows.aeadSameSpec.post enc Tryd.prog Tryd.f7 false true false false) := by
  refine returnsInHanded_of_change_and (C := Tryd.checked) (X := fun w _ => laidMetH Tryd.prog laid2 w) (fun _ _ _ hh h => h.of_heap hh) own started (by kernel_rfl) Tryd.func7
    (ChangeSpec.witness_shaped (enc := enc) (C := Tryd.checked) (os := os) (X := fun w _ => laidMetH Tryd.prog laid2 w) false (World.doorLaid Tryd.prog 400 os) #[.slice none 0 0, .slice none 0 0] 8 rfl (World.shaped_of_RefB (by kernel_rfl) (by kernel_rfl)) (by kernel_rfl) (by kernel_rfl) (by kernel_rfl) (door_met os _)) ?_
  intro W base args ds gs before hval0 hW _ _ hL _
  have hval : ∀ (j : Nat) t v, Tryd.f7.params[j]? = some t → args[j]? = some v → Value.okWide Tryd.prog W .any base t v := hval0
  have hW' := hW
  obtain ⟨p, q, hA0, hV, rfl, hfz, hnd⟩ := hW
  have hA : DataW.TrodAll enc Tryd.prog W 0 (fun _ => true) true Tryd.f7.params.toList args.toList ds p := hA0
  rw [Tryd.params7] at hA hval
  obtain ⟨v0, vs0, d0, ds0, p0, q0, hargs, rfl, rfl, h0, r0⟩ := trodAll_cons hA
  obtain ⟨v1, vs1, d1, ds1, p1, q1, rfl, rfl, rfl, h1, r1⟩ := trodAll_cons r0
  obtain ⟨rfl, rfl, rfl⟩ := trodAll_nil r1
  obtain rfl : args = #[v0, v1] := by cases args; simp_all
  obtain ⟨rfl, rfl⟩ := trodVars_none hV
  obtain ⟨a0, len0, cap0, rfl⟩ := okWide_slice Tryd.underlying24 (hval 0 24 v0 rfl rfl)
  have k0 := h0
  have lt0 : ∀ x ∈ p0, x.block < W.heap.size := by obtain ⟨m, hm⟩ := k0; exact DataW.trod_lt m _ _ _ hm
  obtain ⟨a1, len1, cap1, rfl⟩ := okWide_slice Tryd.underlying24 (hval 1 24 v1 rfl rfl)
  have k1 := h1
  have lt1 : ∀ x ∈ p1, x.block < W.heap.size := by obtain ⟨m, hm⟩ := k1; exact DataW.trod_lt m _ _ _ hm
  clear hA0 hval0
  have hT : Tabs W := tabs_of_laid hL
  obtain ⟨x0, b0, by0, c0, m0⟩ : ∃ xs, Bs W W.heap.size a0 len0 xs ∧ IsBy xs ∧ len0 ≤ cap0 ∧ len0 ≤ maxLen := by
    obtain ⟨fuel, hf⟩ := k0
    obtain ⟨A', n', c', xs, hv, hb, hby, h1, h2⟩ := trod_bs Tryd.underlying24 Tryd.underlying5 (by kernel_rfl) hf
    simp at hv
    obtain ⟨rfl, rfl, rfl⟩ := hv
    exact ⟨xs, hb, hby, h1, Nat.le_trans h1 h2⟩
  obtain ⟨x1, b1, by1, c1, m1⟩ : ∃ xs, Bs W W.heap.size a1 len1 xs ∧ IsBy xs ∧ len1 ≤ cap1 ∧ len1 ≤ maxLen := by
    obtain ⟨fuel, hf⟩ := k1
    obtain ⟨A', n', c', xs, hv, hb, hby, h1, h2⟩ := trod_bs Tryd.underlying24 Tryd.underlying5 (by kernel_rfl) hf
    simp at hv
    obtain ⟨rfl, rfl, rfl⟩ := hv
    exact ⟨xs, hb, hby, h1, Nat.le_trans h1 h2⟩
  refine (aeadSame_any x0 x1 a0 a1 len0 cap0 len1 cap1 W hT b0 by0 b1 by1 m0 m1).mono fun e W' ⟨he, bel⟩ => ?_
  subst he
  exact ⟨_, rfl, _, _, _, [], _, [], hW', trodAll_mk1 (shut_bool Tryd.underlying4 _), (trodAll_cons_mk (Below.trod laidOut (by kernel_rfl) (of_decide_eq_true (by kernel_rfl)) k0 bel lt0) (trodAll_cons_mk (Below.trod laidOut (by kernel_rfl) (of_decide_eq_true (by kernel_rfl)) k1 bel lt1) trodAll_mk0)), rfl, bel.frame _, fun h => by cases h⟩

theorem over : Rows.AeadSameSaid :=
  OpenClaim.holds_of_wide 7 Tryd.f7 rfl rfl rfl rfl rfl rfl rfl ⟨rfl, rfl, rfl, rfl, rfl⟩ rfl rfl rfl rfl rfl (by kernel_rfl) Tryd.func7 (by kernel_rfl)
    (of_decide_eq_true (by kernel_rfl)) (by unfold Func.isWrapper; first | (rw [if_pos (by decide +kernel)]; kernel_rfl) | (rw [if_neg (by decide +kernel)]; exact ⟨rfl, rfl⟩))
    (fun os started H enc _ => lifted os started H enc)

/-- The given statement. -/
theorem proved : Rows.AeadSameCardSaid :=
  Claim7.holds_tied_plain_at .later [] [.data, .data] true (true, "929ffb9c86c2c5e32c173f4681830d65d2b47886d3ac046a8cbbff80cf308d93") false
    over (fun _ h => by cases h) (by kernel_rfl) (fun _ h => by cases h) aeadSame_row_tie rfl ⟨rfl, rfl⟩ (by kernel_rfl) rfl
    (fun f fn hf hfn => by
      obtain rfl : f = 7 := Option.some.inj ((show Tryd.prog.funcNamed "intaglio/intagliolaw04.AeadSame" = some 7 by kernel_rfl).symm.trans hf) |>.symm
      obtain rfl : fn = Tryd.f7 := (Option.some.inj (Tryd.func7.symm.trans hfn)).symm
      exact ⟨by kernel_rfl, fun j t ht => by
        rw [Tryd.params7] at ht
        have hm : t ∈ [24, 24] := by simpa using Array.mem_of_getElem? ht
        have hall : ([24, 24].all fun u => !Tryd.prog.wantsStandIn u) = true := by kernel_rfl
        exact (show Tryd.prog.wantsStandIn t = false by simpa using List.all_eq_true.1 hall t hm)⟩)
    (by kernel_rfl)
#print axioms proved
end Go.Proofs.YtpnlgmkkikmglabDoor.aeadSame
