/- Proved: the law MacExpand (P6.2) answers true and leaves its arguments as they read before. For every key, info and number; no condition but the tie of the two tables of sha to the program's text. -/
import Derived.Test.YtlhgfobhdhddlaaDoorRows
import Derived.Test.YtlhgfobhdhddlaaDoorCards
import Derived.Test.YtlhgfobhdhddlaaDoorTie
import Derived.WalkKit
import Derived.ProofKit
import Derived.OpenShut
import Derived.ShutString
import Derived.ChangeOld
import Derived.Below
import Derived.LaidMore
import Derived.Stop.Joined
import Derived.SevenTiedAt
import Derived.Test.YtlhgfobhdhddlaaDoorGE
import Derived.Test.YtlhgfobhdhddlaaDoorGC
set_option linter.unusedVariables false
set_option linter.unusedSimpArgs false
/-
  HKDF: the law MacExpand: contract. Own work.
-/
namespace Go.Proofs.YtlhgfobhdhddlaaDoor
open Go.RowKit
set_option maxRecDepth 100000 in
set_option maxHeartbeats 2000000 in
theorem macExpand_any (ks is : List Int) (x : Int) (A B : Option Addr) (m c n d : Nat) (w : World) (hT : Tabs w) (hx : Bs w w.heap.size A m ks) (hkb : IsBy ks) (hc : m ≤ c) (ht : Bs w w.heap.size B n is) (htb : IsBy is) (hnd : n ≤ d) (h0 : -9223372036854775808 ≤ x) (h1 : x ≤ 9223372036854775807) :
    Calls Tryd.prog 10 #[.slice A m c, .slice B n d, .int .i64 x] w fun e w' => e = .returned (.bool true) ∧ Below w.heap.size w w' := by
  by_cases g1 : (600 : Int) < (m : Int)
  · have hd : decide ((600 : Int) < (m : Int)) = true := by simp; omega
    go_enter Tryd.func10, Tryd.ntmps10
    go_wp2_with fail
    refine (mawake_any _ hT).mono ?_
    rintro e w2 ⟨rfl, b2⟩
    go_wp2
    go_ret
    exact ⟨rfl, b2⟩
  have hd : decide ((600 : Int) < (m : Int)) = false := by simp; omega
  by_cases g2 : (600 : Int) < (n : Int)
  · have hd2 : decide ((600 : Int) < (n : Int)) = true := by simp; omega
    go_enter Tryd.func10, Tryd.ntmps10
    go_wp2_with fail
    refine (mawake_any _ hT).mono ?_
    rintro e w2 ⟨rfl, b2⟩
    go_wp2
    go_ret
    exact ⟨rfl, b2⟩
  have hd2 : decide ((600 : Int) < (n : Int)) = false := by simp; omega
  by_cases g3 : 300 < x ∧ x ≤ 8160
  · have hd3 : decide (300 < x) = true := by simp; omega
    have hd4 : decide (x ≤ 8160) = true := by simp; omega
    clear g3
    go_enter Tryd.func10, Tryd.ntmps10
    go_wp2_with fail
    refine (mawake_any _ hT).mono ?_
    rintro e w2 ⟨rfl, b2⟩
    go_wp2
    go_ret
    exact ⟨rfl, b2⟩
  by_cases g4 : x < 0 ∨ 8160 < x
  · have P1 := fun w => expand_no x A B m c n d w h0 h1 g4
    have P2 := fun w => refExpand_no x A B m c n d w h0 h1 g4
    have hE := equal_same none none 0 0 0 0 [] w Bs.nil_ Bs.nil_
    rcases g4 with g4 | g4
    · have hd3 : decide (300 < x) = false := by simp; omega
      clear g3 g4
      go_enter Tryd.func10, Tryd.ntmps10
      go_wp2_with fail
      refine (P1 w).mono ?_
      rintro e w' ⟨rfl, rfl⟩
      go_wp2_with fail
      refine (P2 w).mono ?_
      rintro e w' ⟨rfl, rfl⟩
      go_wp2_with fail
      refine hE.mono ?_
      rintro e w2 ⟨rfl, b2⟩
      go_wp2_with fail
      refine (mawake_any _ (hT.later b2)).mono ?_
      rintro e w3 ⟨rfl, b3⟩
      go_wp2_with fail
      go_ret
      exact ⟨rfl, b2.trans (b3.mono b2.size)⟩
    · have hd3 : decide (300 < x) = true := by simp; omega
      have hd4 : decide (x ≤ 8160) = false := by simp; omega
      clear g3 g4
      go_enter Tryd.func10, Tryd.ntmps10
      go_wp2_with fail
      refine (P1 w).mono ?_
      rintro e w' ⟨rfl, rfl⟩
      go_wp2_with fail
      refine (P2 w).mono ?_
      rintro e w' ⟨rfl, rfl⟩
      go_wp2_with fail
      refine hE.mono ?_
      rintro e w2 ⟨rfl, b2⟩
      go_wp2_with fail
      refine (mawake_any _ (hT.later b2)).mono ?_
      rintro e w3 ⟨rfl, b3⟩
      go_wp2_with fail
      go_ret
      exact ⟨rfl, b2.trans (b3.mono b2.size)⟩
  obtain ⟨N, hN⟩ := Int.eq_ofNat_of_zero_le (show 0 ≤ x by omega)
  subst hN
  have hN3 : N ≤ 300 := by omega
  have hd3 : decide (300 < (N : Int)) = false := by simp; omega
  have P1 := fun w hT hx ht => expand_any ks is N A B m c n d w hT hx hkb hc (by omega) ht htb hnd (by omega) (by omega)
  have P2 := fun w hx ht => refExpand_any ks is N A B m c n d w hx hkb hc (by omega) ht htb hnd (by omega) (by omega)
  clear g3 g4
  generalize expL ks is N = FS at *
  go_enter Tryd.func10, Tryd.ntmps10
  go_wp2_with fail
  refine (P1 w hT hx ht).mono ?_
  rintro e w2 ⟨A2, c2, rfl, h2, hc2, _, b2⟩
  go_wp2_with fail
  refine (P2 w2 (hx.later b2) (ht.later b2)).mono ?_
  rintro e w3 ⟨A3, c3, rfl, h3, hc3, _, b3⟩
  have B3 := b2.trans (b3.mono b2.size)
  go_wp2_with fail
  refine (equal_same A2 A3 N N c2 c3 FS w3 (h2.later b3) h3).mono ?_
  rintro e w4 ⟨rfl, b4⟩
  have B4 := B3.trans (b4.mono B3.size)
  go_wp2_with fail
  refine (mawake_any _ (hT.later B4)).mono ?_
  rintro e w5 ⟨rfl, b5⟩
  go_wp2_with fail
  go_ret
  exact ⟨rfl, B4.trans (b5.mono B4.size)⟩
end Go.Proofs.YtlhgfobhdhddlaaDoor

/- Proved: the law MacExpand (P6.2) answers true and leaves its arguments as they read before. For every key, info and number; no condition but the tie of the two tables of sha to the program's text. -/
namespace Go.Proofs.YtlhgfobhdhddlaaDoor.macExpand
open Go.ChangeShapes Go.WideShapes Go.ChangeAt Go.WideMaps Go.WideElems Go.RowKit

theorem own : ownKnob Tryd.prog.godebug = none := by kernel_rfl
theorem laidOut : laidOutB Tryd.prog = true := by kernel_rfl
theorem door_met (os : Os) (args : Array Value) : laidMetH Tryd.prog laid2 ((World.doorLaid Tryd.prog 400 os).forCall (fun _ _ => 0) ⟨#[], args, []⟩).memory :=
  laidMetH_of_parts3 (fuel := 8) (laidMet_of_run' 8 (by kernel_rfl) (by kernel_rfl)) (by kernel_rfl) (by kernel_rfl)

set_option maxRecDepth 100000 in
theorem lifted (os : Os) (started : os.Started) (H : Type) (enc : TypeId × Value → H) :
    ReturnsInHanded {} Tryd.checked os 10 .any (fun w args => (Rows.macExpandSpec.pre enc Tryd.prog Tryd.f10 [] false w args ∧ laidMetH Tryd.prog laid2 w) ∧ sizedMet enc Tryd.prog Tryd.f10 (OpenSpec.ofChange Rows.macExpandSpec) false w args)
      (Rows.macExpandSpec.post enc Tryd.prog Tryd.f10 false true false false) := by
  refine returnsInHanded_of_change_and (C := Tryd.checked) (X := fun w _ => laidMetH Tryd.prog laid2 w) (fun _ _ _ hh h => h.of_heap hh) own started (by kernel_rfl) Tryd.func10
    (ChangeSpec.witness_shaped (enc := enc) (C := Tryd.checked) (os := os) (X := fun w _ => laidMetH Tryd.prog laid2 w) false (World.doorLaid Tryd.prog 400 os) #[.slice none 0 0, .slice none 0 0, .int .i64 0] 8 rfl (World.shaped_of_RefB (by kernel_rfl) (by kernel_rfl)) (by kernel_rfl) (by kernel_rfl) (by kernel_rfl) (door_met os _)) ?_
  intro W base args ds gs before hval0 hW _ _ hL _
  have hval : ∀ (j : Nat) t v, Tryd.f10.params[j]? = some t → args[j]? = some v → Value.okWide Tryd.prog W .any base t v := hval0
  have hW' := hW
  obtain ⟨p, q, hA0, hV, rfl, hfz, hnd⟩ := hW
  have hA : DataW.TrodAll enc Tryd.prog W 0 (fun _ => true) true Tryd.f10.params.toList args.toList ds p := hA0
  rw [Tryd.params10] at hA hval
  obtain ⟨v0, vs0, d0, ds0, p0, q0, hargs, rfl, rfl, h0, r0⟩ := trodAll_cons hA
  obtain ⟨v1, vs1, d1, ds1, p1, q1, rfl, rfl, rfl, h1, r1⟩ := trodAll_cons r0
  obtain ⟨v2, vs2, d2, ds2, p2, q2, rfl, rfl, rfl, h2, r2⟩ := trodAll_cons r1
  obtain ⟨rfl, rfl, rfl⟩ := trodAll_nil r2
  obtain rfl : args = #[v0, v1, v2] := by cases args; simp_all
  obtain ⟨rfl, rfl⟩ := trodVars_none hV
  obtain ⟨a0, len0, cap0, rfl⟩ := okWide_slice Tryd.underlying22 (hval 0 22 v0 rfl rfl)
  have k0 := h0
  have lt0 : ∀ x ∈ p0, x.block < W.heap.size := by obtain ⟨m, hm⟩ := k0; exact DataW.trod_lt m _ _ _ hm
  obtain ⟨a1, len1, cap1, rfl⟩ := okWide_slice Tryd.underlying22 (hval 1 22 v1 rfl rfl)
  have k1 := h1
  have lt1 : ∀ x ∈ p1, x.block < W.heap.size := by obtain ⟨m, hm⟩ := k1; exact DataW.trod_lt m _ _ _ hm
  obtain ⟨a2, rfl, rfl, rfl, w2⟩ := open_int Tryd.underlying3 (hval 2 3 v2 rfl rfl) h2
  clear hA0 hval0
  have hT : Tabs W := tabs_of_laid hL
  obtain ⟨x0, b0, by0, m0⟩ : ∃ xs, Bs W W.heap.size a0 len0 xs ∧ IsBy xs ∧ len0 ≤ cap0 := by
    obtain ⟨fuel, hf⟩ := k0
    obtain ⟨A', n', c', xs, hv, hb, hby, h1, h2⟩ := trod_bs Tryd.underlying22 Tryd.underlying5 (by kernel_rfl) hf
    simp at hv
    obtain ⟨rfl, rfl, rfl⟩ := hv
    exact ⟨xs, hb, hby, h1⟩
  obtain ⟨x1, b1, by1, m1⟩ : ∃ xs, Bs W W.heap.size a1 len1 xs ∧ IsBy xs ∧ len1 ≤ cap1 := by
    obtain ⟨fuel, hf⟩ := k1
    obtain ⟨A', n', c', xs, hv, hb, hby, h1, h2⟩ := trod_bs Tryd.underlying22 Tryd.underlying5 (by kernel_rfl) hf
    simp at hv
    obtain ⟨rfl, rfl, rfl⟩ := hv
    exact ⟨xs, hb, hby, h1⟩
  refine (macExpand_any x0 x1 a2 a0 a1 len0 cap0 len1 cap1 W hT b0 by0 m0 b1 by1 m1 (wf_i64 w2).1 (wf_i64 w2).2).mono fun e W' ⟨he, bel⟩ => ?_
  subst he
  exact ⟨_, rfl, _, _, _, [], _, [], hW', trodAll_mk1 (shut_bool Tryd.underlying4 _), (trodAll_cons_mk (Below.trod laidOut (by kernel_rfl) (of_decide_eq_true (by kernel_rfl)) k0 bel lt0) (trodAll_cons_mk (Below.trod laidOut (by kernel_rfl) (of_decide_eq_true (by kernel_rfl)) k1 bel lt1) (trodAll_cons_mk (shut_int Tryd.underlying3 w2) trodAll_mk0))), rfl, bel.frame _, fun h => by cases h⟩

theorem over : Rows.MacExpandSaid :=
  OpenClaim.holds_of_wide 10 Tryd.f10 rfl rfl rfl rfl rfl rfl rfl ⟨rfl, rfl, rfl, rfl, rfl⟩ rfl rfl rfl rfl rfl (by kernel_rfl) Tryd.func10 (by kernel_rfl)
    (of_decide_eq_true (by kernel_rfl)) (by unfold Func.isWrapper; first | (rw [if_pos (by decide +kernel)]; kernel_rfl) | (rw [if_neg (by decide +kernel)]; exact ⟨rfl, rfl⟩))
    (fun os started H enc _ => lifted os started H enc)

/-- The given statement. -/
theorem proved : Rows.MacExpandCardSaid :=
  Claim7.holds_tied_plain_at .later [] [.data, .data] true (true, "2a1334606687450c169f9de7db10f82ff4b51d6d76a28dc4fa85fcd7173bb2ba") false
    over (fun _ h => by cases h) (by kernel_rfl) (fun _ h => by cases h) macExpand_row_tie rfl ⟨rfl, rfl⟩ (by kernel_rfl) rfl
    (fun f fn hf hfn => by
      obtain rfl : f = 10 := Option.some.inj ((show Tryd.prog.funcNamed "intaglio/intagliolaw06.MacExpand" = some 10 by kernel_rfl).symm.trans hf) |>.symm
      obtain rfl : fn = Tryd.f10 := (Option.some.inj (Tryd.func10.symm.trans hfn)).symm
      exact ⟨by kernel_rfl, fun j t ht => by
        rw [Tryd.params10] at ht
        have hm : t ∈ [22, 22, 3] := by simpa using Array.mem_of_getElem? ht
        have hall : ([22, 22, 3].all fun u => !Tryd.prog.wantsStandIn u) = true := by kernel_rfl
        exact (show Tryd.prog.wantsStandIn t = false by simpa using List.all_eq_true.1 hall t hm)⟩)
    (by kernel_rfl)
#print axioms proved
end Go.Proofs.YtlhgfobhdhddlaaDoor.macExpand
