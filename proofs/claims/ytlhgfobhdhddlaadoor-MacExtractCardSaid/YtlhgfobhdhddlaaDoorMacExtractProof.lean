/- Proved: the law MacExtract (P6.1) answers true and leaves its arguments as they read before. For every salt and secret; no condition but the tie of the two tables of sha to the program's text. -/
import Derived.Test.YtlhgfobhdhddlaaDoorRows
import Derived.Test.YtlhgfobhdhddlaaDoorCards
import Derived.Test.YtlhgfobhdhddlaaDoorTie
import Derived.WalkKit
import Derived.ProofKit
import Derived.OpenShut
import Derived.ShutString
import Derived.ChangeOld
import Derived.Below
import Derived.LaidMore
import Derived.Stop.Joined
import Derived.SevenTiedAt
import Derived.Test.YtlhgfobhdhddlaaDoorGE
import Derived.Test.YtlhgfobhdhddlaaDoorGC
set_option linter.unusedVariables false
set_option linter.unusedSimpArgs false
/-
  HKDF: the law MacExtract: contract. Own work.
-/
namespace Go.Proofs.YtlhgfobhdhddlaaDoor
open Go.RowKit
/-- So many bytes. -/
def NlF (n : Nat) (xs : List Int) (v : Value) (w : World) : Prop := ∃ A c, v = .slice A n c ∧ Bs w w.heap.size A n xs ∧ n ≤ c
theorem NlF.later {n : Nat} {xs : List Int} {v : Value} {w w' : World} (h : NlF n xs v w) (hb : Below w.heap.size w w') : NlF n xs v w' := by
  obtain ⟨A, c, e, b, h1⟩ := h
  exact ⟨A, c, e, b.later hb, h1⟩
def FEx  (opn : Nat) (v : Value) (w : World) : Prop :=
  match opn with
  | 10 => NlF 32 (List.replicate 32 0) v w
  | _ => True
theorem FEx_mono  : ∀ j v w w', FEx  j v w → Below w.heap.size w w' → FEx  j v w' := by
  intro j v w w' h hb
  unfold FEx at h ⊢
  split at h
  · exact h.later hb
  · trivial

def SMx (FS FN : List Int) (A B : Option Addr) (m c n d : Nat) (opn : Nat) (v : Value) : Prop :=
  match opn with
  | 0 | 3 => v = .slice A m c
  | 1 | 4 | 8 | 11 => v = .slice B n d
  | 2 | 5 => v = .agg (bv FS).toArray
  | 6 | 7 | 13 | 14 | 15 | 16 | 17 | 18 => v = .bool true
  | 9 | 12 => v = .agg (bv FN).toArray
  | _ => True

set_option maxRecDepth 100000 in
set_option maxHeartbeats 2000000 in
theorem macExtract_any (ks ts : List Int) (A B : Option Addr) (m c n d : Nat) (w : World) (hT : Tabs w) (hx : Bs w w.heap.size A m ks) (hkb : IsBy ks) (hc : m ≤ c) (ht : Bs w w.heap.size B n ts) (htb : IsBy ts) :
    Calls Tryd.prog 9 #[.slice A m c, .slice B n d] w fun e w' => e = .returned (.bool true) ∧ Below w.heap.size w w' := by
  obtain ⟨i0, hi, hz, hsz, hby⟩ := u8_info
  by_cases h1 : (600 : Int) < (m : Int)
  · have hd : decide ((600 : Int) < (m : Int)) = true := by simp; omega
    go_enter Tryd.func9, Tryd.ntmps9
    go_wp2_with fail
    refine (mawake_any _ hT).mono ?_
    rintro e w2 ⟨rfl, b2⟩
    go_wp2
    go_ret
    exact ⟨rfl, b2⟩
  have hd : decide ((600 : Int) < (m : Int)) = false := by simp; omega
  by_cases h2 : (600 : Int) < (n : Int)
  · have hd2 : decide ((600 : Int) < (n : Int)) = true := by simp; omega
    go_enter Tryd.func9, Tryd.ntmps9
    go_wp2_with fail
    refine (mawake_any _ hT).mono ?_
    rintro e w2 ⟨rfl, b2⟩
    go_wp2
    go_ret
    exact ⟨rfl, b2⟩
  have hd2 : decide ((600 : Int) < (n : Int)) = false := by simp; omega
  have P1 := fun w hT hx ht => extract_any ks ts A B m c n d w hT hx hkb hc (by omega) ht htb (by omega)
  have P2 := fun w hx ht => refExtract_any ks ts A B m c n d w hx hkb hc (by omega) ht htb (by omega)
  have P3 := fun w hT ht => extract_any [] ts none B 0 0 n d w hT Bs.nil_ (fun _ h => by cases h) (Nat.le_refl _) (by decide) ht htb (by omega)
  have P4 := fun A' c' w hT hx hc ht => extract_any (List.replicate 32 0) ts A' B 32 c' n d w hT hx (IsBy.rep _) hc (by decide) ht htb (by omega)
  have hzz : hmacS (List.replicate 32 0) ts = hmacS [] ts := by
    have := hmacS_zeros (ks := []) (ts := ts) (z := 32) (by decide)
    rwa [List.nil_append] at this
  rw [hzz] at P4
  have lFS := hide (hmacS_len ks ts)
  have lFN := hide (hmacS_len [] ts)
  clear hzz
  generalize hmacS ks ts = FS at *
  generalize hmacS [] ts = FN at *
  go_enter Tryd.func9, Tryd.ntmps9
  go_wp2_with fail
  rename_i K1 hK1
  refine wp_region_valsG [2, 5, 9, 10, 12, 16] (SMx FS FN A B m c n d) (JF w [2, 5, 9, 10, 12, 16] FEx) (by kernel_rfl) (by kernel_rfl) (by kernel_rfl) (by kernel_rfl) (JF.start _) ?obs ?he
  case obs =>
    refine ⟨?_, ?_, ?_, ?_, ?_, ?_, ?_, ?_, ?_, ?_, ?_, ?_, ?_, ?_, ?_, ?_, ?_, ?_, ?_, trivial⟩
    · refine ⟨.inl rfl, ?_⟩
      exact .inl ⟨by kernel_rfl, fun L a1 w1 n' h => ⟨_, rfl, run_move (.tmp 0) rfl (h.var n' 0 (by kernel_rfl))⟩⟩
    · refine ⟨.inl rfl, ?_⟩
      exact .inl ⟨by kernel_rfl, fun L a1 w1 n' h => ⟨_, rfl, run_move (.tmp 1) rfl (h.var n' 1 (by kernel_rfl))⟩⟩
    · refine ⟨.inl rfl, ?_⟩
      refine .inr fun L a1 w1 n' h K hK => ?_
      have e0 : a1.eval (.tmp 14) = .slice A m c := h.dep n' 0 14 (by kernel_rfl) rfl
      have e1 : a1.eval (.tmp 15) = .slice B n d := h.dep n' 1 15 (by kernel_rfl) rfl
      refine JF.call FEx_mono h hK 16 rfl 27 _ _ #[.slice A m c, .slice B n d] rfl Tryd.call27 ?_ (P1 w1 (hT.later h.inv.1) (hx.later h.inv.1) (ht.later h.inv.1)) ?_
      · simp only [List.map_toArray, List.map_cons, List.map_nil, e0, e1]
      · rintro e w3 ⟨rfl, b9⟩
        exact ⟨_, rfl, rfl, trivial, b9⟩
    · refine ⟨.inl rfl, ?_⟩
      exact .inl ⟨by kernel_rfl, fun L a1 w1 n' h => ⟨_, rfl, run_move (.tmp 0) rfl (h.var n' 0 (by kernel_rfl))⟩⟩
    · refine ⟨.inl rfl, ?_⟩
      exact .inl ⟨by kernel_rfl, fun L a1 w1 n' h => ⟨_, rfl, run_move (.tmp 1) rfl (h.var n' 1 (by kernel_rfl))⟩⟩
    · refine ⟨.inl rfl, ?_⟩
      refine .inr fun L a1 w1 n' h K hK => ?_
      have e0 : a1.eval (.tmp 17) = .slice A m c := h.dep n' 3 17 (by kernel_rfl) rfl
      have e1 : a1.eval (.tmp 18) = .slice B n d := h.dep n' 4 18 (by kernel_rfl) rfl
      refine JF.call FEx_mono h hK 19 rfl 28 _ _ #[.slice A m c, .slice B n d] rfl Tryd.call28 ?_ (P2 w1 (hx.later h.inv.1) (ht.later h.inv.1)) ?_
      · simp only [List.map_toArray, List.map_cons, List.map_nil, e0, e1]
      · rintro e w3 ⟨rfl, b9⟩
        exact ⟨_, rfl, rfl, trivial, b9⟩
    · refine ⟨.inl rfl, ?_⟩
      exact .inl ⟨by kernel_rfl, fun L a1 w1 n' h => ⟨_, rfl, run_eqlT (.tmp 16) (.tmp 19) rfl Tryd.underlying25 (Classical.choose_spec u8_info).1 (by kernel_rfl) Tryd.underlying5 Tryd.isAgg5 FS (h.dep n' 2 16 (by kernel_rfl) rfl) (h.dep n' 5 19 (by kernel_rfl) rfl) (lFS.out) (by kernel_rfl)⟩⟩
    · refine ⟨.inl rfl, ?_⟩
      exact .inl ⟨by kernel_rfl, fun L a1 w1 n' h => ⟨_, rfl, run_move (.tmp 20) rfl (h.dep n' 6 20 (by kernel_rfl) rfl)⟩⟩
    · refine ⟨.inr ⟨7, true, 21, rfl, by kernel_rfl, rfl, by simp, fun v h => h⟩, ?_⟩
      exact .inl ⟨by kernel_rfl, fun L a1 w1 n' h => ⟨_, rfl, run_move (.tmp 1) rfl (h.var n' 1 (by kernel_rfl))⟩⟩
    · refine ⟨.inr ⟨7, true, 21, rfl, by kernel_rfl, rfl, by simp, fun v h => h⟩, ?_⟩
      refine .inr fun L a1 w1 n' h K hK => ?_
      have e1 : a1.eval (.tmp 22) = .slice B n d := h.dep n' 8 22 (by kernel_rfl) rfl
      refine JF.call FEx_mono h hK 23 rfl 27 _ _ #[.slice none 0 0, .slice B n d] rfl Tryd.call27 ?_ (P3 w1 (hT.later h.inv.1) (ht.later h.inv.1)) ?_
      · simp only [List.map_toArray, List.map_cons, List.map_nil, e1]; rfl
      · rintro e w3 ⟨rfl, b9⟩
        exact ⟨_, rfl, rfl, trivial, b9⟩
    · refine ⟨.inr ⟨7, true, 21, rfl, by kernel_rfl, rfl, by simp, fun v h => h⟩, ?_⟩
      refine .inr fun L a1 w1 n' h K hK => ?_
      refine st_make 22 (.const (.int .i64 32)) (.const (.int .i64 32)) rfl 5 i0 (.int .u8 0) Tryd.underlying22 hi hz hsz rfl .i64 .i64 32 32 _ _ rfl rfl rfl rfl (Nat.le_refl _) (by rw [hby]; omega) (by omega) ?_
      intro g7 w3 r7 a7 l7 b7
      exact JF.few FEx_mono h hK 24 rfl _ trivial ⟨_, _, rfl, by (have := (own_rep r7).bs (own_rep r7).lt; rwa [List.length_replicate] at this), Nat.le_refl _⟩ b7
    · refine ⟨.inr ⟨7, true, 21, rfl, by kernel_rfl, rfl, by simp, fun v h => h⟩, ?_⟩
      exact .inl ⟨by kernel_rfl, fun L a1 w1 n' h => ⟨_, rfl, run_move (.tmp 1) rfl (h.var n' 1 (by kernel_rfl))⟩⟩
    · refine ⟨.inr ⟨7, true, 21, rfl, by kernel_rfl, rfl, by simp, fun v h => h⟩, ?_⟩
      refine .inr fun L a1 w1 n' h K hK => ?_
      obtain ⟨A24, c24, v24, q24, h24⟩ := JF.get h n' 10 24 (by kernel_rfl) (by kernel_rfl) rfl
      have e0 : a1.eval (.tmp 24) = .slice A24 32 c24 := v24
      have e1 : a1.eval (.tmp 25) = .slice B n d := h.dep n' 11 25 (by kernel_rfl) rfl
      refine JF.call FEx_mono h hK 26 rfl 27 _ _ #[.slice A24 32 c24, .slice B n d] rfl Tryd.call27 ?_ (P4 A24 c24 w1 (hT.later h.inv.1) q24 h24 (ht.later h.inv.1)) ?_
      · simp only [List.map_toArray, List.map_cons, List.map_nil, e0, e1]
      · rintro e w3 ⟨rfl, b9⟩
        exact ⟨_, rfl, rfl, trivial, b9⟩
    · refine ⟨.inr ⟨7, true, 21, rfl, by kernel_rfl, rfl, by simp, fun v h => h⟩, ?_⟩
      exact .inl ⟨by kernel_rfl, fun L a1 w1 n' h => ⟨_, rfl, run_eqlT (.tmp 23) (.tmp 26) rfl Tryd.underlying25 (Classical.choose_spec u8_info).1 (by kernel_rfl) Tryd.underlying5 Tryd.isAgg5 FN (h.dep n' 9 23 (by kernel_rfl) rfl) (h.dep n' 12 26 (by kernel_rfl) rfl) (lFN.out) (by kernel_rfl)⟩⟩
    · refine ⟨.inl rfl, ?_⟩
      exact .inl ⟨by kernel_rfl, fun L a1 w1 n' h => ⟨_, rfl, run_pickT (.tmp 21) _ _ rfl (h.dep n' 7 21 (by kernel_rfl) rfl) (h.dep n' 13 27 (by kernel_rfl) rfl)⟩⟩
    · refine ⟨.inl rfl, ?_⟩
      exact .inl ⟨by kernel_rfl, fun L a1 w1 n' h => ⟨_, rfl, run_move (.tmp 28) rfl (h.dep n' 14 28 (by kernel_rfl) rfl)⟩⟩
    · refine ⟨.inr ⟨15, true, 29, rfl, by kernel_rfl, rfl, by simp, fun v h => h⟩, ?_⟩
      refine .inr fun L a1 w1 n' h K hK => ?_
      refine JF.call FEx_mono h hK 30 rfl 24 _ _ #[] rfl Tryd.call24 ?_ (mawake_any w1 (hT.later h.inv.1)) ?_
      · simp
      · rintro e w3 ⟨rfl, b9⟩
        exact ⟨_, rfl, rfl, trivial, b9⟩
    · refine ⟨.inl rfl, ?_⟩
      exact .inl ⟨by kernel_rfl, fun L a1 w1 n' h => ⟨_, rfl, run_pickT (.tmp 29) _ _ rfl (h.dep n' 15 29 (by kernel_rfl) rfl) (h.dep n' 16 30 (by kernel_rfl) rfl)⟩⟩
    · refine ⟨.inl rfl, ?_⟩
      exact .inl ⟨by kernel_rfl, fun L a1 w1 n' h => ⟨_, rfl, run_assign (.tmp 31) rfl (h.dep n' 17 31 (by kernel_rfl) rfl)⟩⟩
  case he =>
    intro V w5 hV hJ
    have h18 : V 18 = .bool true := hV 18 4 rfl
    have hB : Below w.heap.size w w5 := hJ.1
    clear hV hJ
    simp only [putOps, List.setIfInBounds_toArray, List.set_cons_succ, List.set_cons_zero]
    refine hK1 _ _ ?_
    go_wp2
    go_ret
    exact ⟨congrArg Ending.returned h18, hB⟩
end Go.Proofs.YtlhgfobhdhddlaaDoor

/- Proved: the law MacExtract (P6.1) answers true and leaves its arguments as they read before. For every salt and secret; no condition but the tie of the two tables of sha to the program's text. -/
namespace Go.Proofs.YtlhgfobhdhddlaaDoor.macExtract
open Go.ChangeShapes Go.WideShapes Go.ChangeAt Go.WideMaps Go.WideElems Go.RowKit

theorem own : ownKnob Tryd.prog.godebug = none := by kernel_rfl
theorem laidOut : laidOutB Tryd.prog = true := by kernel_rfl
theorem door_met (os : Os) (args : Array Value) : laidMetH Tryd.prog laid2 ((World.doorLaid Tryd.prog 400 os).forCall (fun _ _ => 0) ⟨#[], args, []⟩).memory :=
  laidMetH_of_parts3 (fuel := 8) (laidMet_of_run' 8 (by kernel_rfl) (by kernel_rfl)) (by kernel_rfl) (by kernel_rfl)

set_option maxRecDepth 100000 in
theorem lifted (os : Os) (started : os.Started) (H : Type) (enc : TypeId × Value → H) :
    ReturnsInHanded {} Tryd.checked os 9 .any (fun w args => (Rows.macExtractSpec.pre enc Tryd.prog Tryd.f9 [] false w args ∧ laidMetH Tryd.prog laid2 w) ∧ sizedMet enc Tryd.prog Tryd.f9 (OpenSpec.ofChange Rows.macExtractSpec) false w args)
      (Rows.macExtractSpec.post enc Tryd.prog Tryd.f9 false true false false) := by
  refine returnsInHanded_of_change_and (C := Tryd.checked) (X := fun w _ => laidMetH Tryd.prog laid2 w) (fun _ _ _ hh h => h.of_heap hh) own started (by kernel_rfl) Tryd.func9
    (ChangeSpec.witness_shaped (enc := enc) (C := Tryd.checked) (os := os) (X := fun w _ => laidMetH Tryd.prog laid2 w) false (World.doorLaid Tryd.prog 400 os) #[.slice none 0 0, .slice none 0 0] 8 rfl (World.shaped_of_RefB (by kernel_rfl) (by kernel_rfl)) (by kernel_rfl) (by kernel_rfl) (by kernel_rfl) (door_met os _)) ?_
  intro W base args ds gs before hval0 hW _ _ hL _
  have hval : ∀ (j : Nat) t v, Tryd.f9.params[j]? = some t → args[j]? = some v → Value.okWide Tryd.prog W .any base t v := hval0
  have hW' := hW
  obtain ⟨p, q, hA0, hV, rfl, hfz, hnd⟩ := hW
  have hA : DataW.TrodAll enc Tryd.prog W 0 (fun _ => true) true Tryd.f9.params.toList args.toList ds p := hA0
  rw [Tryd.params9] at hA hval
  obtain ⟨v0, vs0, d0, ds0, p0, q0, hargs, rfl, rfl, h0, r0⟩ := trodAll_cons hA
  obtain ⟨v1, vs1, d1, ds1, p1, q1, rfl, rfl, rfl, h1, r1⟩ := trodAll_cons r0
  obtain ⟨rfl, rfl, rfl⟩ := trodAll_nil r1
  obtain rfl : args = #[v0, v1] := by cases args; simp_all
  obtain ⟨rfl, rfl⟩ := trodVars_none hV
  obtain ⟨a0, len0, cap0, rfl⟩ := okWide_slice Tryd.underlying22 (hval 0 22 v0 rfl rfl)
  have k0 := h0
  have lt0 : ∀ x ∈ p0, x.block < W.heap.size := by obtain ⟨m, hm⟩ := k0; exact DataW.trod_lt m _ _ _ hm
  obtain ⟨a1, len1, cap1, rfl⟩ := okWide_slice Tryd.underlying22 (hval 1 22 v1 rfl rfl)
  have k1 := h1
  have lt1 : ∀ x ∈ p1, x.block < W.heap.size := by obtain ⟨m, hm⟩ := k1; exact DataW.trod_lt m _ _ _ hm
  clear hA0 hval0
  have hT : Tabs W := tabs_of_laid hL
  obtain ⟨x0, b0, by0, m0⟩ : ∃ xs, Bs W W.heap.size a0 len0 xs ∧ IsBy xs ∧ len0 ≤ cap0 := by
    obtain ⟨fuel, hf⟩ := k0
    obtain ⟨A', n', c', xs, hv, hb, hby, h1, h2⟩ := trod_bs Tryd.underlying22 Tryd.underlying5 (by kernel_rfl) hf
    simp at hv
    obtain ⟨rfl, rfl, rfl⟩ := hv
    exact ⟨xs, hb, hby, h1⟩
  obtain ⟨x1, b1, by1, m1⟩ : ∃ xs, Bs W W.heap.size a1 len1 xs ∧ IsBy xs ∧ len1 ≤ cap1 := by
    obtain ⟨fuel, hf⟩ := k1
    obtain ⟨A', n', c', xs, hv, hb, hby, h1, h2⟩ := trod_bs Tryd.underlying22 Tryd.underlying5 (by kernel_rfl) hf
    simp at hv
    obtain ⟨rfl, rfl, rfl⟩ := hv
    exact ⟨xs, hb, hby, h1⟩
  refine (macExtract_any x0 x1 a0 a1 len0 cap0 len1 cap1 W hT b0 by0 m0 b1 by1).mono fun e W' ⟨he, bel⟩ => ?_
  subst he
  exact ⟨_, rfl, _, _, _, [], _, [], hW', trodAll_mk1 (shut_bool Tryd.underlying4 _), (trodAll_cons_mk (Below.trod laidOut (by kernel_rfl) (of_decide_eq_true (by kernel_rfl)) k0 bel lt0) (trodAll_cons_mk (Below.trod laidOut (by kernel_rfl) (of_decide_eq_true (by kernel_rfl)) k1 bel lt1) trodAll_mk0)), rfl, bel.frame _, fun h => by cases h⟩

theorem over : Rows.MacExtractSaid :=
  OpenClaim.holds_of_wide 9 Tryd.f9 rfl rfl rfl rfl rfl rfl rfl ⟨rfl, rfl, rfl, rfl, rfl⟩ rfl rfl rfl rfl rfl (by kernel_rfl) Tryd.func9 (by kernel_rfl)
    (of_decide_eq_true (by kernel_rfl)) (by unfold Func.isWrapper; first | (rw [if_pos (by decide +kernel)]; kernel_rfl) | (rw [if_neg (by decide +kernel)]; exact ⟨rfl, rfl⟩))
    (fun os started H enc _ => lifted os started H enc)

/-- The given statement. -/
theorem proved : Rows.MacExtractCardSaid :=
  Claim7.holds_tied_plain_at .later [] [.data, .data] true (true, "2a1334606687450c169f9de7db10f82ff4b51d6d76a28dc4fa85fcd7173bb2ba") false
    over (fun _ h => by cases h) (by kernel_rfl) (fun _ h => by cases h) macExtract_row_tie rfl ⟨rfl, rfl⟩ (by kernel_rfl) rfl
    (fun f fn hf hfn => by
      obtain rfl : f = 9 := Option.some.inj ((show Tryd.prog.funcNamed "intaglio/intagliolaw06.MacExtract" = some 9 by kernel_rfl).symm.trans hf) |>.symm
      obtain rfl : fn = Tryd.f9 := (Option.some.inj (Tryd.func9.symm.trans hfn)).symm
      exact ⟨by kernel_rfl, fun j t ht => by
        rw [Tryd.params9] at ht
        have hm : t ∈ [22, 22] := by simpa using Array.mem_of_getElem? ht
        have hall : ([22, 22].all fun u => !Tryd.prog.wantsStandIn u) = true := by kernel_rfl
        exact (show Tryd.prog.wantsStandIn t = false by simpa using List.all_eq_true.1 hall t hm)⟩)
    (by kernel_rfl)
#print axioms proved
end Go.Proofs.YtlhgfobhdhddlaaDoor.macExtract
