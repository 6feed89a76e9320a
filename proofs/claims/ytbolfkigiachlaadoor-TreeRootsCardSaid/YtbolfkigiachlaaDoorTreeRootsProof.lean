/- Proved: the law TreeRoots (P12.1) answers true and leaves its argument as it reads before. For every list of lists of bytes; no condition but the tie of the tables of sha and math/bits to the program's text. -/
import Derived.Test.YtbolfkigiachlaaDoorRows
import Derived.Test.YtbolfkigiachlaaDoorCards
import Derived.Test.YtbolfkigiachlaaDoorTie
import Derived.WalkKit
import Derived.ProofKit
import Derived.OpenShut
import Derived.ShutString
import Derived.ChangeOld
import Derived.Below
import Derived.LaidMore
import Derived.Stop.Joined
import Derived.SevenTiedAt
import Derived.Test.YtbolfkigiachlaaDoorGE
import Derived.Test.YtbolfkigiachlaaDoorGA
set_option linter.unusedVariables false
set_option linter.unusedSimpArgs false
/-
  The law TreeRoots: contract. Own work.
-/
namespace Go.Proofs.YtbolfkigiachlaaDoor
open Go.RowKit Tr
/-- Chunks that came in, light: what the calls ask of them. -/
theorem light_ok {css : List (List Int)} (h : lightB css = true) : (∀ xs ∈ css, xs.length ≤ 100000000) ∧ (∀ xs ∈ css, xs.length ≤ 50000000) ∧ css.length ≤ 24 := by
  obtain ⟨h1, h2⟩ := light_len h
  exact ⟨fun xs hx => Nat.le_trans (h2 xs hx) (by decide), fun xs hx => Nat.le_trans (h2 xs hx) (by decide), h1⟩
set_option maxRecDepth 100000 in
set_option maxHeartbeats 2000000 in
theorem treeRoots_any (css : List (List Int)) (A : Option Addr) (n c : Nat) (w : World) (hT : Tb4 w) (hx : Bss w w.heap.size A n css) (hby : ∀ xs ∈ css, IsBy xs) (hc : n ≤ c) :
    Calls Tryd.prog 4 #[.slice A n c] w fun e w' => e = .returned (.bool true) ∧ Below w.heap.size w w' := by
  have hL := light_any css A n c w hx
  cases hl : lightB css with
  | false =>
    rw [hl] at hL
    clear hl hx hby
    go_enter Tryd.func4, Tryd.ntmps4
    go_wp2_with fail
    refine hL.mono ?_
    rintro e w1 ⟨rfl, rfl⟩
    go_wp2_with fail
    refine (tawake_any w hT).mono ?_
    rintro e w4 ⟨rfl, b4⟩
    go_wp2_with fail
    go_ret
    exact ⟨rfl, b4⟩
  | true =>
    rw [hl] at hL
    obtain ⟨hm1, hm2, hn24⟩ := light_ok hl
    have hlen := hx.1
    have H1 := troot_any css A n c w hT hx hby hm1 (by omega)
    have H2 := fun w1 (b : Below w.heap.size w w1) => rroot_any css.length css A n c w1 (Nat.le_refl _) ((hx.below b).up b.size) hby hm2 (by omega) hc
    have hE := eq32S (rtS css) (rtS_len css)
    clear hl hx hby hm1 hm2 hlen hn24
    generalize rtS css = RT at *
    go_enter Tryd.func4, Tryd.ntmps4
    go_wp2_with fail
    refine hL.mono ?_
    rintro e w1 ⟨rfl, rfl⟩
    go_wp2_with fail
    refine H1.mono ?_
    rintro e w2 ⟨rfl, b2⟩
    go_wp2_with fail
    refine (H2 w2 b2).mono ?_
    rintro e w3 ⟨rfl, b3⟩
    have B3 := b2.trans (b3.mono b2.size)
    go_wp2_with (first | rw [hE])
    refine (tawake_any w3 (hT.later B3)).mono ?_
    rintro e w4 ⟨rfl, b4⟩
    go_wp2_with fail
    go_ret
    exact ⟨rfl, B3.trans (b4.mono B3.size)⟩
end Go.Proofs.YtbolfkigiachlaaDoor

/-
  A slice of slices of bytes that came in, with its capacity. Own work.
-/
namespace Go.Proofs.YtbolfkigiachlaaDoor
open Go.RowKit Go.ChangeShapes Go.WideShapes
theorem trod_bssK {H : Type} {enc : TypeId × Value → H} {P : Program} {w : World} {spare : Nat → Bool} {held : Bool} {t e e1 : TypeId} {A : Option Addr} {n c : Nat} {d : DataW H} {p : List MemPlace} (ht : P.underlying t = some (.slice e)) (hc : P.cellsOf e = 1) (ht1 : P.underlying e = some (.slice e1)) (he1 : P.underlying e1 = some (.int .u8)) (hc1 : P.cellsOf e1 = 1)
    (h : DataW.Trod enc P w 0 spare held t (.slice A n c) d p) : ∃ xss, Bss w w.heap.size A n xss ∧ (∀ xs ∈ xss, IsBy xs) ∧ n ≤ c := by
  obtain ⟨xss, h1, h2⟩ := trod_bss ht hc ht1 he1 hc1 h
  refine ⟨xss, h1, h2, ?_⟩
  obtain ⟨fuel, hf⟩ := h
  rcases Go.Deep.open_slice1 ht hc hf with ⟨hcs, _⟩ | ⟨a, len, cap, m, k, V, D, Pl, hcs, _, hl, hm, hmm, _, hx⟩
  · simp [Value.cells] at hcs
    obtain ⟨rfl, rfl, rfl⟩ := hcs
    exact Nat.le_refl _
  · simp [Value.cells] at hcs
    obtain ⟨rfl, rfl, rfl⟩ := hcs
    exact hl
end Go.Proofs.YtbolfkigiachlaaDoor

/- Proved: the law TreeRoots (P12.1) answers true and leaves its argument as it reads before. For every list of lists of bytes; no condition but the tie of the tables of sha and math/bits to the program's text. -/
namespace Go.Proofs.YtbolfkigiachlaaDoor.treeRoots
open Go.ChangeShapes Go.WideShapes Go.ChangeAt Go.WideMaps Go.WideElems Go.RowKit

theorem own : ownKnob Tryd.prog.godebug = none := by kernel_rfl
theorem laidOut : laidOutB Tryd.prog = true := by kernel_rfl
theorem door_met (os : Os) (args : Array Value) : laidMetH Tryd.prog laid4 ((World.doorLaid Tryd.prog 400 os).forCall (fun _ _ => 0) ⟨#[], args, []⟩).memory :=
  laidMetH_of_parts3 (fuel := 8) (laidMet_of_run' 8 (by kernel_rfl) (by kernel_rfl)) (by kernel_rfl) (by kernel_rfl)

set_option maxRecDepth 100000 in
theorem lifted (os : Os) (started : os.Started) (H : Type) (enc : TypeId × Value → H) :
    ReturnsInHanded {} Tryd.checked os 4 .any (fun w args => (Rows.treeRootsSpec.pre enc Tryd.prog Tryd.f4 [] false w args ∧ laidMetH Tryd.prog laid4 w) ∧ sizedMet enc Tryd.prog Tryd.f4 (OpenSpec.ofChange Rows.treeRootsSpec) false w args)
      (Rows.treeRootsSpec.post enc Tryd.prog Tryd.f4 false true false false) := by
  refine returnsInHanded_of_change_and (C := Tryd.checked) (X := fun w _ => laidMetH Tryd.prog laid4 w) (fun _ _ _ hh h => h.of_heap hh) own started (by kernel_rfl) Tryd.func4
    (ChangeSpec.witness_shaped (enc := enc) (C := Tryd.checked) (os := os) (X := fun w _ => laidMetH Tryd.prog laid4 w) false (World.doorLaid Tryd.prog 400 os) #[.slice none 0 0] 8 rfl (World.shaped_of_RefB (by kernel_rfl) (by kernel_rfl)) (by kernel_rfl) (by kernel_rfl) (by kernel_rfl) (door_met os _)) ?_
  intro W base args ds gs before hval0 hW _ _ hL _
  have hval : ∀ (j : Nat) t v, Tryd.f4.params[j]? = some t → args[j]? = some v → Value.okWide Tryd.prog W .any base t v := hval0
  have hW' := hW
  obtain ⟨p, q, hA0, hV, rfl, hfz, hnd⟩ := hW
  have hA : DataW.TrodAll enc Tryd.prog W 0 (fun _ => true) true Tryd.f4.params.toList args.toList ds p := hA0
  rw [Tryd.params4] at hA hval
  obtain ⟨v0, vs0, d0, ds0, p0, q0, hargs, rfl, rfl, h0, r0⟩ := trodAll_cons hA
  obtain ⟨rfl, rfl, rfl⟩ := trodAll_nil r0
  obtain rfl : args = #[v0] := by cases args; simp_all
  obtain ⟨rfl, rfl⟩ := trodVars_none hV
  obtain ⟨a0, len0, cap0, rfl⟩ := okWide_slice Tryd.underlying28 (hval 0 28 v0 rfl rfl)
  have k0 := h0
  have lt0 : ∀ x ∈ p0, x.block < W.heap.size := by obtain ⟨m, hm⟩ := k0; exact DataW.trod_lt m _ _ _ hm
  clear hA0 hval0
  have hT : Tb4 W := tb4_of_laid hL
  obtain ⟨xss, b1, by1, hc1⟩ := trod_bssK Tryd.underlying28 (by kernel_rfl) Tryd.underlying22 Tryd.underlying5 (by kernel_rfl) k0
  refine (treeRoots_any xss a0 len0 cap0 W hT b1 by1 hc1).mono fun e W' ⟨he, bel⟩ => ?_
  subst he
  exact ⟨_, rfl, _, _, _, [], _, [], hW', trodAll_mk1 (shut_bool Tryd.underlying4 _), (trodAll_cons_mk (Below.trod laidOut (by kernel_rfl) (of_decide_eq_true (by kernel_rfl)) k0 bel lt0) trodAll_mk0), rfl, bel.frame _, fun h => by cases h⟩

theorem over : Rows.TreeRootsSaid :=
  OpenClaim.holds_of_wide 4 Tryd.f4 rfl rfl rfl rfl rfl rfl rfl ⟨rfl, rfl, rfl, rfl, rfl⟩ rfl rfl rfl rfl rfl (by kernel_rfl) Tryd.func4 (by kernel_rfl)
    (of_decide_eq_true (by kernel_rfl)) (by unfold Func.isWrapper; first | (rw [if_pos (by decide +kernel)]; kernel_rfl) | (rw [if_neg (by decide +kernel)]; exact ⟨rfl, rfl⟩))
    (fun os started H enc _ => lifted os started H enc)

/-- The given statement. -/
theorem proved : Rows.TreeRootsCardSaid :=
  Claim7.holds_tied_plain_at .later [] [.data, .data, .data, .data] true (true, "b0648fd518c4990ce08bac7685aa8f2f5a1b9293710d0082bfd0a6ad335a5abc") false
    over (fun _ h => by cases h) (by kernel_rfl) (fun _ h => by cases h) treeRoots_row_tie rfl ⟨rfl, rfl⟩ (by kernel_rfl) rfl
    (fun f fn hf hfn => by
      obtain rfl : f = 4 := Option.some.inj ((show Tryd.prog.funcNamed "intaglio/intagliolaw12.TreeRoots" = some 4 by kernel_rfl).symm.trans hf) |>.symm
      obtain rfl : fn = Tryd.f4 := (Option.some.inj (Tryd.func4.symm.trans hfn)).symm
      exact ⟨by kernel_rfl, fun j t ht => by
        rw [Tryd.params4] at ht
        have hm : t ∈ [28] := by simpa using Array.mem_of_getElem? ht
        have hall : ([28].all fun u => !Tryd.prog.wantsStandIn u) = true := by kernel_rfl
        exact (show Tryd.prog.wantsStandIn t = false by simpa using List.all_eq_true.1 hall t hm)⟩)
    (by kernel_rfl)
#print axioms proved
end Go.Proofs.YtbolfkigiachlaaDoor.treeRoots
