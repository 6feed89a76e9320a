/- Proved: the law TreeBinds (P12.5) answers true and leaves its arguments as they read before. For every list of lists of bytes and every claim; no condition but the tie of the tables of sha and math/bits to the program's text. -/
import Derived.Test.YtbolfkigiachlaaDoorRows
import Derived.Test.YtbolfkigiachlaaDoorCards
import Derived.Test.YtbolfkigiachlaaDoorTie
import Derived.WalkKit
import Derived.ProofKit
import Derived.OpenShut
import Derived.ShutString
import Derived.ChangeOld
import Derived.Below
import Derived.LaidMore
import Derived.Stop.Joined
import Derived.SevenTiedAt
import Derived.Test.YtbolfkigiachlaaDoorGF
import Derived.Test.YtbolfkigiachlaaDoorGE
set_option linter.unusedVariables false
set_option linter.unusedSimpArgs false
/-
  The law TreeBinds: contract. Own work.
-/
namespace Go.Proofs.YtbolfkigiachlaaDoor
open Go.RowKit Tr
def STn3 (RT : List Int) (b o nn c g3 i m cc np pc lm lc : Nat) (LA CA PA : Option Addr) (N : Int) (cb : Bool) (opn : Nat) (v : Value) : Prop :=
  match opn with
  | 0 | 2 => v = .slice (some ⟨b, o, none⟩) nn c
  | 1 => v = .agg (bv RT).toArray
  | 3 => v = .int .i64 (nn : Int)
  | 4 => v = .pointer (some ⟨g3, 1, none⟩)
  | 5 => v = .int .i64 (i : Int)
  | 6 => v = .pointer (some ⟨g3, 2, none⟩)
  | 7 => v = .slice CA m cc
  | 8 => v = .pointer (some ⟨g3, 3, none⟩)
  | 9 => v = .slice PA np pc
  | 10 => v = .bool cb
  | 11 => v = .bool (!cb)
  | _ => True
def STn9 (RT : List Int) (b o nn c g3 i m cc np pc lm lc : Nat) (LA CA PA : Option Addr) (N : Int) (cb : Bool) (opn : Nat) (v : Value) : Prop :=
  match opn with
  | 0 => v = .slice (some ⟨b, o, none⟩) nn c
  | 1 => v = .pointer (some ⟨g3, 1, none⟩)
  | 2 => v = .int .i64 (i : Int)
  | 3 => v = .pointer (some ⟨b, o + i, none⟩)
  | 4 => v = .slice LA lm lc
  | 6 => v = .pointer (some ⟨g3, 2, none⟩)
  | 7 => v = .slice CA m cc
  | _ => True
def FTn9 (ta tb : List Int) (opn : Nat) (v : Value) (w : World) : Prop :=
  match opn with
  | 5 => SlF ta v w
  | 8 => SlF tb v w
  | 9 => SlF ta v w
  | 10 => SlF tb v w
  | _ => True
theorem FTn9_mono (ta tb : List Int) : ∀ j v w w', FTn9 ta tb j v w → Below w.heap.size w w' → FTn9 ta tb j v w' := by
  intro j v w w' h hb
  unfold FTn9 at h ⊢
  split at h
  · exact h.later hb
  · exact h.later hb
  · exact h.later hb
  · exact h.later hb
  · trivial
def STn16 (sa sb2 q q2 : List Int) (g3 g12 g13 rb ro rn rc pb po np pc k : Nat) (opn : Nat) (v : Value) : Prop :=
  match opn with
  | 0 => v = .agg (bv sa).toArray
  | 1 => v = .slice (some ⟨rb, ro, none⟩) rn rc
  | 2 | 9 => v = .int .i64 (k : Int)
  | 3 => v = .pointer (some ⟨rb, ro + k * 32, none⟩)
  | 4 => v = .agg (bv q).toArray
  | 6 => v = .agg (bv sb2).toArray
  | 7 => v = .pointer (some ⟨g3, 3, none⟩)
  | 8 => v = .slice (some ⟨pb, po, none⟩) np pc
  | 10 => v = .pointer (some ⟨pb, po + k * 32, none⟩)
  | 11 => v = .agg (bv q2).toArray
  | _ => True
def FTn16 (ta2 tb2 : List Int) (opn : Nat) (v : Value) (w : World) : Prop :=
  match opn with
  | 5 => SlF ta2 v w
  | 12 => SlF tb2 v w
  | 13 => SlF ta2 v w
  | 14 => SlF tb2 v w
  | _ => True
theorem FTn16_mono (ta2 tb2 : List Int) : ∀ j v w w', FTn16 ta2 tb2 j v w → Below w.heap.size w w' → FTn16 ta2 tb2 j v w' := by
  intro j v w w' h hb
  unfold FTn16 at h ⊢
  split at h
  · exact h.later hb
  · exact h.later hb
  · exact h.later hb
  · exact h.later hb
  · trivial
def STn17 (sa sb2 q q2 : List Int) (g3 g12 g13 rb ro rn rc pb po np pc k : Nat) (opn : Nat) (v : Value) : Prop :=
  match opn with
  | 0 => v = .slice (some ⟨rb, ro, none⟩) rn rc
  | 1 | 8 => v = .int .i64 (k : Int)
  | 2 => v = .pointer (some ⟨rb, ro + k * 32, none⟩)
  | 3 => v = .agg (bv q).toArray
  | 4 => v = .agg (bv sa).toArray
  | 6 => v = .pointer (some ⟨g3, 3, none⟩)
  | 7 => v = .slice (some ⟨pb, po, none⟩) np pc
  | 9 => v = .pointer (some ⟨pb, po + k * 32, none⟩)
  | 10 => v = .agg (bv q2).toArray
  | 11 => v = .agg (bv sb2).toArray
  | _ => True
def FTn17 (ta2 tb2 : List Int) (opn : Nat) (v : Value) (w : World) : Prop :=
  match opn with
  | 5 => SlF ta2 v w
  | 12 => SlF tb2 v w
  | 13 => SlF ta2 v w
  | 14 => SlF tb2 v w
  | _ => True
theorem FTn17_mono (ta2 tb2 : List Int) : ∀ j v w w', FTn17 ta2 tb2 j v w → Below w.heap.size w w' → FTn17 ta2 tb2 j v w' := by
  intro j v w w' h hb
  unfold FTn17 at h ⊢
  split at h
  · exact h.later hb
  · exact h.later hb
  · exact h.later hb
  · exact h.later hb
  · trivial

def STn19 (b o nn c g3 i m cc np pc lm lc : Nat) (LA CA PA : Option Addr) (N : Int) (cl : Bool) (opn : Nat) (v : Value) : Prop :=
  match opn with
  | 0 => v = .pointer (some ⟨g3, 2, none⟩)
  | 1 => v = .slice CA m cc
  | 2 => v = .slice (some ⟨b, o, none⟩) nn c
  | 3 => v = .pointer (some ⟨g3, 1, none⟩)
  | 4 => v = .int .i64 (i : Int)
  | 5 => v = .pointer (some ⟨b, o + i, none⟩)
  | 6 => v = .slice LA lm lc
  | 7 | 8 | 10 | 11 | 12 | 13 | 14 => v = .bool true
  | 9 => v = undef
  | _ => True
def STn20 (b o nn c g3 i m cc np pc lm lc : Nat) (LA CA PA : Option Addr) (N : Int) (opn : Nat) (v : Value) : Prop :=
  match opn with
  | 0 => v = .pointer (some ⟨g3, 2, none⟩)
  | 1 => v = .slice CA m cc
  | 2 => v = .slice (some ⟨b, o, none⟩) nn c
  | 3 => v = .pointer (some ⟨g3, 1, none⟩)
  | 4 => v = .int .i64 (i : Int)
  | 5 => v = .pointer (some ⟨b, o + i, none⟩)
  | 6 => v = .slice LA lm lc
  | 7 | 8 => v = .bool false
  | 9 | 10 | 11 | 12 | 13 | 14 => v = .bool true
  | _ => True

set_option maxRecDepth 100000 in
set_option maxHeartbeats 16000000 in
theorem treeBinds_any (css : List (List Int)) (A : Option Addr) (nn c : Nat) (N I : Int) (cx : List Int) (ps : List (List Int)) (CA PA : Option Addr) (m cc pc : Nat) (w : World) (hT : Tb4 w) (hx : Bss w w.heap.size A nn css) (hby : ∀ xs ∈ css, IsBy xs) (hc : nn ≤ c) (hcx : Bs w w.heap.size CA m cx) (hcby : IsBy cx) (hmc : m ≤ cc) (hS : Sms w w.heap.size PA ps) :
    Calls Tryd.prog 9 #[.slice A nn c, .agg [Value.int .i64 N, .int .i64 I, .slice CA m cc, .slice PA ps.length pc].toArray] w fun e w' => e = .returned (.bool true) ∧ Below w.heap.size w w' := by
  have hL := fun w1 (b : Below w.heap.size w w1) => light_any css A nn c w1 ((hx.below b).up b.size)
  obtain ⟨np, hnp⟩ : ∃ np, ps.length = np := ⟨_, rfl⟩
  rw [hnp]
  have HNp := hide hnp
  clear hnp
  cases hl : lightB css with
  | false =>
    rw [hl] at hL
    clear hl hx hby hcx hS
    go_enter Tryd.func9, Tryd.ntmps9
    go_wp2_with (first
      | (with_reducible refine wl_box (o := ⟨some 3, _, _, _, _, _⟩) rfl 36 _ (.agg [Value.int .i64 N, .int .i64 I, .slice CA m cc, .slice PA np pc].toArray) [Value.int .i64 N, .int .i64 I, .slice CA m cc, .slice PA np pc] rfl rfl rfl ?_; intro g3 w2 r3 p3 l3 b2; have d1 := r3.cell (j := 1) rfl; have d2 := r3.cell (j := 2) rfl; have d3 := r3.cell (j := 3) rfl))
    refine (hL w2 b2).mono ?_
    rintro e wl ⟨rfl, rfl⟩
    go_wp2_with fail
    refine (tawake_any w2 (hT.later b2)).mono ?_
    rintro e w4 ⟨rfl, b4⟩
    go_wp2_with fail
    go_ret
    exact ⟨rfl, b2.trans (b4.mono b2.size)⟩
  | true =>
  rw [hl] at hL
  have hlen := hx.1
  by_cases h200 : 200 < m
  · have hd2 : decide ((200 : Int) < (m : Int)) = true := by simp; omega
    clear hl hx hby hcx hS
    go_enter Tryd.func9, Tryd.ntmps9
    go_wp2_with (first
      | (with_reducible refine wl_box (o := ⟨some 3, _, _, _, _, _⟩) rfl 36 _ (.agg [Value.int .i64 N, .int .i64 I, .slice CA m cc, .slice PA np pc].toArray) [Value.int .i64 N, .int .i64 I, .slice CA m cc, .slice PA np pc] rfl rfl rfl ?_; intro g3 w2 r3 p3 l3 b2; have d1 := r3.cell (j := 1) rfl; have d2 := r3.cell (j := 2) rfl; have d3 := r3.cell (j := 3) rfl))
    refine (hL w2 b2).mono ?_
    rintro e wl ⟨rfl, rfl⟩
    go_wp2_with fail
    refine (tawake_any w2 (hT.later b2)).mono ?_
    rintro e w4 ⟨rfl, b4⟩
    go_wp2_with fail
    go_ret
    exact ⟨rfl, b2.trans (b4.mono b2.size)⟩
  have hd2 : decide ((200 : Int) < (m : Int)) = false := by simp; omega
  by_cases h20 : 20 < np
  · have hd3 : decide ((20 : Int) < (np : Int)) = true := by simp; omega
    clear hl hx hby hcx hS
    go_enter Tryd.func9, Tryd.ntmps9
    go_wp2_with (first
      | (with_reducible refine wl_box (o := ⟨some 3, _, _, _, _, _⟩) rfl 36 _ (.agg [Value.int .i64 N, .int .i64 I, .slice CA m cc, .slice PA np pc].toArray) [Value.int .i64 N, .int .i64 I, .slice CA m cc, .slice PA np pc] rfl rfl rfl ?_; intro g3 w2 r3 p3 l3 b2; have d1 := r3.cell (j := 1) rfl; have d2 := r3.cell (j := 2) rfl; have d3 := r3.cell (j := 3) rfl))
    refine (hL w2 b2).mono ?_
    rintro e wl ⟨rfl, rfl⟩
    go_wp2_with fail
    refine (tawake_any w2 (hT.later b2)).mono ?_
    rintro e w4 ⟨rfl, b4⟩
    go_wp2_with fail
    go_ret
    exact ⟨rfl, b2.trans (b4.mono b2.size)⟩
  have hd3 : decide ((20 : Int) < (np : Int)) = false := by simp; omega
  by_cases hI0 : I < 0
  · have hd4 : decide (I < 0) = true := by simp; omega
    clear hl hx hby hcx hS
    go_enter Tryd.func9, Tryd.ntmps9
    go_wp2_with (first
      | (with_reducible refine wl_box (o := ⟨some 3, _, _, _, _, _⟩) rfl 36 _ (.agg [Value.int .i64 N, .int .i64 I, .slice CA m cc, .slice PA np pc].toArray) [Value.int .i64 N, .int .i64 I, .slice CA m cc, .slice PA np pc] rfl rfl rfl ?_; intro g3 w2 r3 p3 l3 b2; have d1 := r3.cell (j := 1) rfl; have d2 := r3.cell (j := 2) rfl; have d3 := r3.cell (j := 3) rfl))
    refine (hL w2 b2).mono ?_
    rintro e wl ⟨rfl, rfl⟩
    go_wp2_with fail
    refine (tawake_any w2 (hT.later b2)).mono ?_
    rintro e w4 ⟨rfl, b4⟩
    go_wp2_with fail
    go_ret
    exact ⟨rfl, b2.trans (b4.mono b2.size)⟩
  obtain ⟨i, rfl⟩ : ∃ i : Nat, I = (i : Int) := ⟨I.toNat, by omega⟩
  have hd4 : decide ((i : Int) < 0) = false := by simp
  by_cases hin : ¬ i < nn
  · have hd5 : decide ((nn : Int) ≤ (i : Int)) = true := by simp; omega
    clear hl hx hby hcx hS
    go_enter Tryd.func9, Tryd.ntmps9
    go_wp2_with (first
      | (with_reducible refine wl_box (o := ⟨some 3, _, _, _, _, _⟩) rfl 36 _ (.agg [Value.int .i64 N, .int .i64 (i : Int), .slice CA m cc, .slice PA np pc].toArray) [Value.int .i64 N, .int .i64 (i : Int), .slice CA m cc, .slice PA np pc] rfl rfl rfl ?_; intro g3 w2 r3 p3 l3 b2; have d1 := r3.cell (j := 1) rfl; have d2 := r3.cell (j := 2) rfl; have d3 := r3.cell (j := 3) rfl))
    refine (hL w2 b2).mono ?_
    rintro e wl ⟨rfl, rfl⟩
    go_wp2_with fail
    refine (tawake_any w2 (hT.later b2)).mono ?_
    rintro e w4 ⟨rfl, b4⟩
    go_wp2_with fail
    go_ret
    exact ⟨rfl, b2.trans (b4.mono b2.size)⟩
  have hin : i < nn := by omega
  have hd5 : decide ((nn : Int) ≤ (i : Int)) = false := by simp; omega
  obtain ⟨hm1, hm2, hn24⟩ := light_ok hl
  have hll := (light_len hl).2
  obtain ⟨b, o, rfl, hbB, hcells⟩ := hx.2 (by omega)
  obtain ⟨LA, lm, lc, hcell0, hbl⟩ := hcells i hin
  obtain ⟨la, hla⟩ : ∃ la, css[i]? = some la := ⟨_, List.getElem?_eq_getElem (by omega)⟩
  rw [show css.getD i [] = la by rw [List.getD, hla]; rfl] at hbl
  have hlam := List.mem_of_getElem? hla
  have hlaby := hby la hlam
  have hlal := hll la hlam
  have hlm := hbl.1
  have hcl0 := hcx.1
  have hLc0 : ∀ w1, Below w.heap.size w w1 → w1.cell? ⟨b, o + i, none⟩ = some (.slice LA lm lc) := fun w1 hb => (hb.cell (p := ⟨b, o + i, none⟩) hbB).trans hcell0
  have HR0 := fun w1 (hb : Below w.heap.size w w1) => troot_any css (some ⟨b, o, none⟩) nn c w1 (hT.later hb) ((hx.below hb).up hb.size) hby hm1 (by omega)
  have HC0 := fun w1 (hb : Below w.heap.size w w1) => check_any (rtS css) nn i cx ps CA PA m cc pc w1 (hT.later hb).1 (rtS_len css) (by omega) hin (hcx.later hb) hcby (by omega) (hS.later hb) (by have := HNp.out; omega)
  rw [HNp.out] at HC0
  have HP0 := fun w1 (hb : Below w.heap.size w w1) => rpath_any css.length css (some ⟨b, o, none⟩) nn c i w1 (Nat.le_refl _) ((hx.below hb).up hb.size) hby hm2 (by omega) hc hin
  have HSd := fun w1 => rsides_any nn i w1 (by omega) hin
  have hrs := path_sums css i
  have hrsl : (pathT leafS nodeS noneS css i).length = (sidesT nn i).length := by rw [path_len leafS nodeS noneS css i, hlen]
  have hback : upS (leafS la) (sidesT nn i) (pathT leafS nodeS noneS css i) = rtS css := by
    have := back_up leafS nodeS noneS css.length css i la rfl hla
    rwa [hlen] at this
  have HCT : chkB (rtS css) nn i cx ps = true → (sidesT nn i).length = ps.length ∧ upS (leafS cx) (sidesT nn i) ps = rtS css := chkB_true
  have hss20 : (sidesT nn i).length ≤ 20 := sides_many (by omega)
  have HTa0 := fun w1 (hb : Below w.heap.size w w1) => leafText_any la LA lm lc w1 (hbl.later hb) (by omega)
  have HTb0 := fun w1 (hb : Below w.heap.size w w1) => leafText_any cx CA m cc w1 (hcx.later hb) (by omega)
  have hq1 : (css.length : Int) = (nn : Int) := by omega
  generalize chkB (rtS css) nn i cx ps = cb at *
  generalize sidesT nn i = ss at *
  generalize pathT leafS nodeS noneS css i = rs at *
  generalize rtS css = RT at *
  replace HCT := hide HCT
  replace hback := hide hback
  replace hrsl := hide hrsl
  have hnI : (nn : Int) ≤ 24 := by omega
  have hqN : (np : Int) ≤ 20 := by omega
  clear hl hm1 hm2 hll hcells hcell0 hla hlam hby hx hq1
  go_enter Tryd.func9, Tryd.ntmps9
  go_wp2_with (first
    | (with_reducible refine wl_box (o := ⟨some 3, _, _, _, _, _⟩) rfl 36 _ (.agg [Value.int .i64 N, .int .i64 (i : Int), .slice CA m cc, .slice PA np pc].toArray) [Value.int .i64 N, .int .i64 (i : Int), .slice CA m cc, .slice PA np pc] rfl rfl rfl ?_; intro g3 w2 r3 p3 l3 b2; have d1 := r3.cell (j := 1) rfl; have d2 := r3.cell (j := 2) rfl; have d3 := r3.cell (j := 3) rfl))
  refine (hL w2 b2).mono ?_
  rintro e wl ⟨rfl, rfl⟩
  go_wp2_with fail
  have HR := fun w1 (hb : Below w2.heap.size w2 w1) => HR0 w1 (b2.trans (hb.mono b2.size))
  have HC := fun w1 (hb : Below w2.heap.size w2 w1) => HC0 w1 (b2.trans (hb.mono b2.size))
  clear HR0 HC0
  rename_i K1 hK1
  refine wp_region_vals [1, 10] (STn3 RT b o nn c g3 i m cc np pc lm lc LA CA PA N cb) (JR w2) (by kernel_rfl) (by kernel_rfl) (by kernel_rfl) (by kernel_rfl) (by kernel_rfl) (Below.refl _ _).drew ?obs3 ?he3
  case obs3 =>
    refine ⟨?_, ?_, ?_, ?_, ?_, ?_, ?_, ?_, ?_, ?_, ?_, ?_, trivial⟩
    · exact .inl ⟨by kernel_rfl, fun L a1 w1 n h => ⟨_, rfl, run_move (.tmp 0) rfl (h.var n 0 (by kernel_rfl))⟩⟩
    · refine .inr fun L a1 w1 n h K hK => ?_
      have e0 : a1.eval (.tmp 42) = .slice (some ⟨b, o, none⟩) nn c := h.dep n 0 42 (by kernel_rfl) rfl
      refine st_call 16 _ _ #[.slice (some ⟨b, o, none⟩) nn c] rfl Tryd.call16 ?_ (HR w1 h.inv) ?_
      · simp only [List.map_toArray, List.map_cons, List.map_nil, e0]
      · rintro e w3 ⟨rfl, b9⟩
        exact ⟨_, rfl, hK _ w3 rfl (h.inv.trans (b9.mono h.inv.size))⟩
    · exact .inl ⟨by kernel_rfl, fun L a1 w1 n h => ⟨_, rfl, run_move (.tmp 0) rfl (h.var n 0 (by kernel_rfl))⟩⟩
    · exact .inl ⟨by kernel_rfl, fun L a1 w1 n h => ⟨_, rfl, run_lenSl 28 22 Tryd.underlying28 (.tmp 44) rfl (h.dep n 2 44 (by kernel_rfl) rfl)⟩⟩
    · refine .inl ⟨by kernel_rfl, fun L a1 w1 n h => ⟨.pointer (some ⟨g3, 1, none⟩), rfl, ?_⟩⟩
      have e0 : a1.eval (.tmp 3) = _ := h.var n 3 (by kernel_rfl)
      unfold execOp
      simp only [e0]
      go_simp
    · exact .inl ⟨by kernel_rfl, fun L a1 w1 n h => ⟨_, rfl, run_loadA 3 (.tmp 46) ⟨g3, 1, none⟩ rfl Tryd.isAgg3 (h.dep n 4 46 (by kernel_rfl) rfl) ((Row.later r3 h.inv).cell (j := 1) (v := .int .i64 (i : Int)) rfl)⟩⟩
    · refine .inl ⟨by kernel_rfl, fun L a1 w1 n h => ⟨.pointer (some ⟨g3, 2, none⟩), rfl, ?_⟩⟩
      have e0 : a1.eval (.tmp 3) = _ := h.var n 3 (by kernel_rfl)
      unfold execOp
      simp only [e0]
      go_simp
    · exact .inl ⟨by kernel_rfl, fun L a1 w1 n h => ⟨_, rfl, run_loadA 22 (.tmp 48) ⟨g3, 2, none⟩ rfl Tryd.isAgg22 (h.dep n 6 48 (by kernel_rfl) rfl) ((Row.later r3 h.inv).cell (j := 2) (v := .slice CA m cc) rfl)⟩⟩
    · refine .inl ⟨by kernel_rfl, fun L a1 w1 n h => ⟨.pointer (some ⟨g3, 3, none⟩), rfl, ?_⟩⟩
      have e0 : a1.eval (.tmp 3) = _ := h.var n 3 (by kernel_rfl)
      unfold execOp
      simp only [e0]
      go_simp
    · exact .inl ⟨by kernel_rfl, fun L a1 w1 n h => ⟨_, rfl, run_loadA 31 (.tmp 50) ⟨g3, 3, none⟩ rfl Tryd.isAgg31 (h.dep n 8 50 (by kernel_rfl) rfl) ((Row.later r3 h.inv).cell (j := 3) (v := .slice PA np pc) rfl)⟩⟩
    · refine .inr fun L a1 w1 n h K hK => ?_
      have e0 : a1.eval (.tmp 43) = .agg (bv RT).toArray := h.dep n 1 43 (by kernel_rfl) rfl
      have e1 : a1.eval (.tmp 45) = .int .i64 (nn : Int) := h.dep n 3 45 (by kernel_rfl) rfl
      have e2 : a1.eval (.tmp 47) = .int .i64 (i : Int) := h.dep n 5 47 (by kernel_rfl) rfl
      have e3 : a1.eval (.tmp 49) = .slice CA m cc := h.dep n 7 49 (by kernel_rfl) rfl
      have e4 : a1.eval (.tmp 51) = .slice PA np pc := h.dep n 9 51 (by kernel_rfl) rfl
      refine st_call 21 _ _ #[.agg (bv RT).toArray, .int .i64 (nn : Int), .int .i64 (i : Int), .slice CA m cc, .slice PA np pc] rfl Tryd.call21 ?_ (HC w1 h.inv) ?_
      · simp only [List.map_toArray, List.map_cons, List.map_nil, e0, e1, e2, e3, e4]
      · rintro e w3 ⟨rfl, b9⟩
        exact ⟨_, rfl, hK _ w3 rfl (h.inv.trans (b9.mono h.inv.size))⟩
    · exact .inl ⟨by kernel_rfl, fun L a1 w1 n h => ⟨_, rfl, run_notB (.tmp 52) cb rfl (h.dep n 10 52 (by kernel_rfl) rfl) rfl⟩⟩
  case he3 =>
    intro V w4 hV hJ
    have b4 : Below w2.heap.size w2 w4 := hJ
    have hv : V 11 = .bool (!cb) := hV 11 53 rfl
    clear hV hJ HR HC
    have B4 := b2.trans (b4.mono b2.size)
    replace r3 := r3.later b4
    have d1 := r3.cell (j := 1) rfl
    simp only [putOps, List.setIfInBounds_toArray, List.set_cons_succ, List.set_cons_zero, Nat.reduceAdd]
    rw [hv]
    refine hK1 _ _ ?_
    clear hv b4 b2
    cases cb with
    | false =>
      simp only [Bool.not_false]
      go_wp2_with fail
      refine (tawake_any w4 (hT.later B4)).mono ?_
      rintro e w5 ⟨rfl, b5⟩
      go_wp2_with fail
      go_ret
      exact ⟨rfl, B4.trans (b5.mono B4.size)⟩
    | true =>
      simp only [Bool.not_true]
      obtain ⟨hsl, hup⟩ := HCT.out rfl
      replace hup := hide hup
      replace hsl := hide hsl
      go_wp2_with fail
      refine (HP0 w4 B4).mono ?_
      rintro e w5 ⟨pv, rfl, own, b5⟩
      obtain ⟨RA, rc, rfl, hbp, hrc, _, _⟩ := owns_bs (N := 32 * rs.length) own (Nat.mul_comm _ _)
      have hRS : Sms w5 w5.heap.size RA rs := ⟨hbp, hrs.1, hrs.2⟩
      have B5 := B4.trans (b5.mono B4.size)
      replace r3 := r3.later b5
      replace d1 := r3.cell (j := 1) rfl
      clear hbp own hrs HP0
      go_wp2_with fail
      refine (HSd w5).mono ?_
      rintro e w6 hret
      obtain ⟨AS, cs, rfl, hsd, b6⟩ := retSd_at hret
      have B6 := B5.trans (b6.mono B5.size)
      replace r3 := r3.later b6
      replace hRS := hRS.later b6
      have d3 := r3.cell (j := 3) rfl
      obtain ⟨rn, hrn⟩ : ∃ rn, rs.length = rn := ⟨_, rfl⟩
      have hrnp : rn = np := by have := hrsl.out; have := HNp.out; have := hsl.out; omega
      have hq7 : ((rn : Int) != (np : Int)) = false := by simp; omega
      rw [hrn]
      have HRn := hide hrn
      have HSl := hsl
      clear HSd hret hrn hsl d1 hrnp
      go_wp2_with fail
      have hLc := fun w1 (hb : Below w6.heap.size w6 w1) => hLc0 w1 (B6.trans (hb.mono B6.size))
      have HTa := fun w1 (hb : Below w6.heap.size w6 w1) => HTa0 w1 (B6.trans (hb.mono B6.size))
      have HTb := fun w1 (hb : Below w6.heap.size w6 w1) => HTb0 w1 (B6.trans (hb.mono B6.size))
      have hI := InvT.start ss rs ps hlaby hcby hlal (by omega)
      have hss20I : (ss.length : Int) ≤ 20 := by omega
      have hfin : ∀ (k : Nat) (ta tb : List Int) (cl : Bool), InvT la cx ss rs ps k ta tb cl → ss.length ≤ k → cl = false → la = cx := fun k ta tb cl h hk hcl => h.last hk (by have := hrsl.out; omega) (by have := HSl.out; omega) (hback.out.trans hup.out.symm) hcl
      replace hfin := hide hfin
      clear HTa0 HTb0
      obtain ⟨ta, hta⟩ : ∃ ta, ta = 0 :: la := ⟨_, rfl⟩
      obtain ⟨tb, htb⟩ : ∃ tb, tb = 0 :: cx := ⟨_, rfl⟩
      rw [← hta] at HTa hI
      rw [← htb] at HTb hI
      clear hta htb
      rename_i K2 hK2
      refine wp_region_vals [5, 8, 9, 10] (STn9 RT b o nn c g3 i m cc np pc lm lc LA CA PA N true) (JF w6 [5, 8, 9, 10] (FTn9 ta tb)) (by kernel_rfl) (by kernel_rfl) (by kernel_rfl) (by kernel_rfl) (by kernel_rfl) (JF.start _) ?obs9 ?he9
      case obs9 =>
        refine ⟨?_, ?_, ?_, ?_, ?_, ?_, ?_, ?_, ?_, ?_, ?_, trivial⟩
        · exact .inl ⟨by kernel_rfl, fun L a1 w1 n h => ⟨_, rfl, run_move (.tmp 0) rfl (h.var n 0 (by kernel_rfl))⟩⟩
        · refine .inl ⟨by kernel_rfl, fun L a1 w1 n h => ⟨.pointer (some ⟨g3, 1, none⟩), rfl, ?_⟩⟩
          have e0 : a1.eval (.tmp 3) = _ := h.var n 3 (by kernel_rfl)
          unfold execOp
          simp only [e0]
          go_simp
        · exact .inl ⟨by kernel_rfl, fun L a1 w1 n h => ⟨_, rfl, run_loadA 3 (.tmp 74) ⟨g3, 1, none⟩ rfl Tryd.isAgg3 (h.dep n 1 74 (by kernel_rfl) rfl) ((Row.later r3 h.inv.1).cell (j := 1) (v := .int .i64 (i : Int)) rfl)⟩⟩
        · exact .inl ⟨by kernel_rfl, fun L a1 w1 n h => ⟨_, rfl, run_indexSl 28 (.tmp 73) (.tmp 75) 22 b o nn c i rfl Tryd.underlying28 Tryd.sizeOf22 (h.dep n 0 73 (by kernel_rfl) rfl) (h.dep n 2 75 (by kernel_rfl) rfl) hin⟩⟩
        · exact .inl ⟨by kernel_rfl, fun L a1 w1 n h => ⟨_, rfl, run_loadA 22 (.tmp 76) ⟨b, o + i, none⟩ rfl Tryd.isAgg22 (h.dep n 3 76 (by kernel_rfl) rfl) (hLc w1 h.inv.1)⟩⟩
        · refine .inr fun L a1 w1 n h K hK => ?_
          have e0 : a1.eval (.tmp 77) = .slice LA lm lc := h.dep n 4 77 (by kernel_rfl) rfl
          refine JF.call (FTn9_mono ta tb) h hK 78 rfl 27 _ _ #[.slice LA lm lc] rfl Tryd.call27 ?_ (HTa w1 h.inv.1) ?_
          · simp only [List.map_toArray, List.map_cons, List.map_nil, e0]
          · rintro e w3 h9
            obtain ⟨v9, rfl, f9, b9⟩ := SlF.of_ret h9
            exact ⟨_, rfl, trivial, f9, b9⟩
        · refine .inl ⟨by kernel_rfl, fun L a1 w1 n h => ⟨.pointer (some ⟨g3, 2, none⟩), rfl, ?_⟩⟩
          have e0 : a1.eval (.tmp 3) = _ := h.var n 3 (by kernel_rfl)
          unfold execOp
          simp only [e0]
          go_simp
        · exact .inl ⟨by kernel_rfl, fun L a1 w1 n h => ⟨_, rfl, run_loadA 22 (.tmp 79) ⟨g3, 2, none⟩ rfl Tryd.isAgg22 (h.dep n 6 79 (by kernel_rfl) rfl) ((Row.later r3 h.inv.1).cell (j := 2) (v := .slice CA m cc) rfl)⟩⟩
        · refine .inr fun L a1 w1 n h K hK => ?_
          have e0 : a1.eval (.tmp 80) = .slice CA m cc := h.dep n 7 80 (by kernel_rfl) rfl
          refine JF.call (FTn9_mono ta tb) h hK 81 rfl 27 _ _ #[.slice CA m cc] rfl Tryd.call27 ?_ (HTb w1 h.inv.1) ?_
          · simp only [List.map_toArray, List.map_cons, List.map_nil, e0]
          · rintro e w3 h9
            obtain ⟨v9, rfl, f9, b9⟩ := SlF.of_ret h9
            exact ⟨_, rfl, trivial, f9, b9⟩
        · refine .inr fun L a1 w1 n h K hK => ?_
          obtain ⟨A9, c9, v9, h9⟩ := JF.get h n 5 78 (by kernel_rfl) (by kernel_rfl) rfl
          exact JF.run (FTn9_mono ta tb) h hK 8 rfl (.slice A9 ta.length c9) (run_assign (.tmp 78) rfl v9) trivial ⟨A9, c9, rfl, h9⟩
        · refine .inr fun L a1 w1 n h K hK => ?_
          obtain ⟨A9, c9, v9, h9⟩ := JF.get h n 8 81 (by kernel_rfl) (by kernel_rfl) rfl
          exact JF.run (FTn9_mono ta tb) h hK 9 rfl (.slice A9 tb.length c9) (run_assign (.tmp 81) rfl v9) trivial ⟨A9, c9, rfl, h9⟩
      case he9 =>
        intro V w7 hV hJ
        obtain ⟨A1, c1, v1, h1, l1, m1⟩ := JF.last hJ 9 8 rfl rfl
        obtain ⟨A2, c2, v2, h2, l2, m2⟩ := JF.last hJ 10 9 rfl rfl
        have b7 := hJ.1
        clear hV hJ HTa HTb hLc
        simp only [putOps, List.setIfInBounds_toArray, List.set_cons_succ, List.set_cons_zero, Nat.reduceAdd]
        rw [v1, v2]
        refine hK2 _ _ ?_
        clear v1 v2 m1 m2
        have B7 := B6.trans (b7.mono B6.size)
        replace r3 := r3.later b7
        replace hRS := hRS.later b7
        replace hsd := hsd.later b7
        go_wp2_with fail
        by_cases heq : ta = tb
        · refine (equal_dec A1 A2 _ _ c1 c2 ta tb w7 h1 h2 hI.ba hI.bb true (decide_eq_true heq)).mono ?_
          rintro e we ⟨rfl, be⟩
          have hcb : clB ta tb = false := by unfold clB; rw [decide_eq_true heq]; rfl
          have HCl := hide hcb
          clear hcb heq
          go_wp2_with fail
          have b07 : Below w7.heap.size w7 we := be
          have BW := B7.trans (b07.mono B7.size)
          replace r3 := r3.later b07
          replace hRS := hRS.later b07
          replace hsd := hsd.later b07
          have hs1 := h1.later be
          have hs2 := h2.later be
          have hIs := hI
          rw [HCl.out] at hIs
          clear h1 h2 hI
          go_loopw [8, 9, 10, 11] (fun av bv' clv kv wr => ∃ (k : Nat) (ta tb : List Int) (cl : Bool) (A1 : Option Addr) (c1 : Nat) (A2 : Option Addr) (c2 : Nat), k ≤ ss.length ∧ av = .slice A1 ta.length c1 ∧ bv' = .slice A2 tb.length c2 ∧ clv = .bool cl ∧ kv = .int .i64 k ∧ Bs wr wr.heap.size A1 ta.length ta ∧ ta.length ≤ c1 ∧ Bs wr wr.heap.size A2 tb.length tb ∧ tb.length ≤ c2 ∧ InvT la cx ss rs ps k ta tb cl ∧ Below (we).heap.size we wr) (fun _ _ _ kv _ => ss.length - (intOf kv).toNat)
          case atStart => exact ⟨0, ta, tb, false, A1, c1, A2, c2, Nat.zero_le _, rfl, rfl, rfl, rfl, hs1, l1, hs2, l2, hIs, Below.refl _ _⟩
          case round =>
            clear hs1 hs2 hIs l1 l2 HCl
            obtain ⟨k, ta, tb, cl, A1, c1, A2, c2, hk, rfl, rfl, rfl, rfl, h1, l1, h2, l2, hI, bk⟩ := hrel
            have Bk := BW.trans (bk.mono BW.size)
            replace r3 := r3.later bk
            by_cases hlt : k < ss.length
            · have hd9 : decide ((k : Int) < (ss.length : Int)) = true := by simp; omega
              have hkr : k < rs.length := by have := hrsl.out; omega
              have hkp : k < ps.length := by have := HSl.out; omega
              obtain ⟨q, hqq⟩ : ∃ q, rs[k]? = some q := ⟨_, List.getElem?_eq_getElem hkr⟩
              obtain ⟨q2, hqq2⟩ : ∃ q2, ps[k]? = some q2 := ⟨_, List.getElem?_eq_getElem hkp⟩
              obtain ⟨bb, hbb⟩ : ∃ bb, ss[k]? = some bb := ⟨_, List.getElem?_eq_getElem hlt⟩
              have hql := hRS.len q (List.mem_of_getElem? hqq)
              have hqy := hRS.byt q (List.mem_of_getElem? hqq)
              have hql2 := hS.len q2 (List.mem_of_getElem? hqq2)
              have hqy2 := hS.byt q2 (List.mem_of_getElem? hqq2)
              have zq := hide (size32b hql)
              have zq2 := hide (size32b hql2)
              have hqr : k < rn := by have := HRn.out; omega
              have hqp : k < np := by have := HNp.out; omega
              have hkI : (k : Int) ≤ 20 := by omega
              obtain ⟨rb, ro, rfl, hrB, hcR⟩ := hRS.cells hqq
              obtain ⟨pb, po, rfl, hpB, hcP⟩ := hS.cells hqq2
              obtain ⟨sb, so, rfl, hsB, hcS⟩ := hsd (by omega)
              have hcs : ∀ w1, Below (we).heap.size we w1 → w1.cell? ⟨sb, so + k, none⟩ = some (sideV bb) := fun w1 hb => by
                rw [hb.cell (p := ⟨sb, so + k, none⟩) hsB, hcS k hlt, List.getD, hbb]; rfl
              have hclA0 : ∀ w1, Below wr.heap.size wr w1 → ∀ j v, (bv q)[j]? = some v → w1.cell? ⟨rb, ro + k * 32 + j, none⟩ = some v := fun w1 hb j v hv => ((bk.trans (hb.mono bk.size)).cell (p := ⟨rb, ro + k * 32 + j, none⟩) hrB).trans (hcR j v hv)
              have hclB0 : ∀ w1, Below wr.heap.size wr w1 → ∀ j v, (bv q2)[j]? = some v → w1.cell? ⟨pb, po + k * 32 + j, none⟩ = some v := fun w1 hb j v hv => ((Bk.trans (hb.mono Bk.size)).cell (p := ⟨pb, po + k * 32 + j, none⟩) hpB).trans (hcP j v hv)
              have hq3 : k < ss.length := hlt
              clear hcR hcP hcS hRS hS hsd hT hcx hbl hLc0
              cases bb with
              | false =>
                have HNa : ∀ w1, Calls Tryd.prog 30 #[.agg (bv (sumS ta)).toArray, .agg (bv q).toArray] w1 (RetBs (stT false (sumS ta) q) w1) := fun w1 => nodeText_any (sumS ta) q w1 (sumS_len _) hql
                have HNb : ∀ w1, Calls Tryd.prog 30 #[.agg (bv (sumS tb)).toArray, .agg (bv q2).toArray] w1 (RetBs (stT false (sumS tb) q2) w1) := fun w1 => nodeText_any (sumS tb) q2 w1 (sumS_len _) hql2
                have hI2 := hI.step false q q2 hbb hqq hqq2 hql hql2 hqy hqy2
                obtain ⟨ta2, hta2⟩ : ∃ x, x = stT false (sumS ta) q := ⟨_, rfl⟩
                obtain ⟨tb2, htb2⟩ : ∃ x, x = stT false (sumS tb) q2 := ⟨_, rfl⟩
                rw [← hta2] at HNa hI2
                rw [← htb2] at HNb hI2
                have hsl1 := sumS_len ta
                have hsl2 := sumS_len tb
                have HS1 := rsum_any ta A1 _ c1 wr h1 hI.ba l1 (by have := hI.la_; omega)
                have HS2 := fun w1 (hb : Below wr.heap.size wr w1) => rsum_any tb A2 _ c2 w1 (h2.later hb) hI.bb l2 (by have := hI.lb_; omega)
                have hsdv : ∀ w1, Below (we).heap.size we w1 → w1.cell? ⟨sb, so + k, none⟩ = some (.int .i64 1) := hcs
                have za := hide (size32b hsl1)
                have zb := hide (size32b hsl2)
                have lza := hide (show (bv (List.replicate 32 0)).length = (bv (sumS ta)).length by rw [bv_len, bv_len, hsl1, List.length_replicate])
                have lzb := hide (show (bv (List.replicate 32 0)).length = (bv (sumS tb)).length by rw [bv_len, bv_len, hsl2, List.length_replicate])
                clear hta2 htb2 hsl1 hsl2 hcs hbb hqq hqq2 hI
                generalize sumS ta = sa at *
                generalize sumS tb = sb2 at *
                have HS2 := hide HS2
                go_wp2_with fail
                refine HS1.mono ?_
                rintro e w5 ⟨rfl, b5⟩
                clear HS1
                go_wp2_with fail
                refine (HS2.out w5 b5).mono ?_
                rintro e w6s ⟨rfl, b6s⟩
                have bs6 := b5.trans (b6s.mono b5.size)
                go_wp2_with (first
                  | ((with_reducible refine wl_alloc (o := ⟨some 12, _, _, _, _, _⟩) rfl 23 _ (bv (List.replicate 32 0)) rfl zero32b rfl ?_); intro g12 w7a r12 p12 l12 b7a)
                  | ((with_reducible refine wl_alloc (o := ⟨some 13, _, _, _, _, _⟩) rfl 23 _ (bv (List.replicate 32 0)) rfl zero32b rfl ?_); intro g13 w8 r13 p13 l13 b8; have r12b := r12.later b8; have n13 : g13 ≠ g12 := (by have := r12.lt; omega))
                  | ((with_reducible refine wl_store_row rfl 23 (.tmp 12) (.tmp 100) g12 23 _ (bv sa) rfl rfl rfl r12b za.out lza.out (bv_one _) ?_); intro w10 r12c o10; have r13b := r13.only o10 n13)
                  | ((with_reducible refine wl_store_row rfl 23 (.tmp 13) (.tmp 102) g13 23 _ (bv sb2) rfl rfl rfl r13b zb.out lzb.out (bv_one _) ?_); intro w11 r13c o11; have r12d := r12c.only o11 (Ne.symm n13); have b11 : Below wr.heap.size wr w11 := (((bs6.trans (b7a.mono bs6.size)).trans (b8.mono (Nat.le_trans bs6.size b7a.size))).trans (o10.below (Nat.le_trans bs6.size p12))).trans (o11.below (Nat.le_trans (Nat.le_trans bs6.size b7a.size) p13)); have cside := hsdv w11 (bk.trans (b11.mono bk.size))))
                have b0 := bk.trans (b11.mono bk.size)
                have r3 := r3.later b11
                have HTa := HNa
                have HTb := HNb
                have r12 := r12d
                have r13 := r13c
                have hclA := fun w1 (hb : Below w11.heap.size w11 w1) => hclA0 w1 (b11.trans (hb.mono b11.size))
                have hclB := fun w1 (hb : Below w11.heap.size w11 w1) => hclB0 w1 (b11.trans (hb.mono b11.size))
                rename_i Kx hKx
                refine wp_region_vals [5, 12, 13, 14] (STn16 sa sb2 q q2 g3 g12 g13 rb ro rn rc pb po np pc k) (JF w11 [5, 12, 13, 14] (FTn16 ta2 tb2)) (by kernel_rfl) (by kernel_rfl) (by kernel_rfl) (by kernel_rfl) (by kernel_rfl) (JF.start _) ?obsL1 ?heL1
                case obsL1 =>
                  refine ⟨?_, ?_, ?_, ?_, ?_, ?_, ?_, ?_, ?_, ?_, ?_, ?_, ?_, ?_, ?_, trivial⟩
                  · exact .inl ⟨by kernel_rfl, fun L a1 w1 n h => ⟨_, rfl, run_loadRow 23 (.tmp 12) g12 23 _ _ rfl (h.var n 12 (by kernel_rfl)) ((r12.later h.inv.1)) Tryd.underlying23 rfl (za.out)⟩⟩
                  · exact .inl ⟨by kernel_rfl, fun L a1 w1 n h => ⟨_, rfl, run_move (.tmp 5) rfl (h.var n 5 (by kernel_rfl))⟩⟩
                  · exact .inl ⟨by kernel_rfl, fun L a1 w1 n h => ⟨_, rfl, run_move (.tmp 11) rfl (h.var n 11 (by kernel_rfl))⟩⟩
                  · exact .inl ⟨by kernel_rfl, fun L a1 w1 n h => ⟨_, rfl, run_indexSlN 31 (.tmp 109) (.tmp 110) 23 32 rb ro rn rc k rfl Tryd.underlying31 Tryd.sizeOf23 (h.dep n 1 109 (by kernel_rfl) rfl) (h.dep n 2 110 (by kernel_rfl) rfl) hqr⟩⟩
                  · exact .inl ⟨by kernel_rfl, fun L a1 w1 n h => ⟨_, rfl, run_loadM 23 (.tmp 111) rb (ro + k * 32) (bv q) _ rfl (h.dep n 3 111 (by kernel_rfl) rfl) (hclA w1 h.inv.1) Tryd.underlying23 rfl zq.out⟩⟩
                  · refine .inr fun L a1 w1 n h K hK => ?_
                    have e0 : a1.eval (.tmp 108) = .agg (bv sa).toArray := h.dep n 0 108 (by kernel_rfl) rfl
                    have e1 : a1.eval (.tmp 112) = .agg (bv q).toArray := h.dep n 4 112 (by kernel_rfl) rfl
                    refine JF.call (FTn16_mono ta2 tb2) h hK 113 rfl 30 _ _ #[.agg (bv sa).toArray, .agg (bv q).toArray] rfl Tryd.call30 ?_ (HTa w1) ?_
                    · simp only [List.map_toArray, List.map_cons, List.map_nil, e0, e1]
                    · rintro e w3 h9
                      obtain ⟨v9, rfl, f9, b9⟩ := SlF.of_ret h9
                      exact ⟨_, rfl, trivial, f9, b9⟩
                  · exact .inl ⟨by kernel_rfl, fun L a1 w1 n h => ⟨_, rfl, run_loadRow 23 (.tmp 13) g13 23 _ _ rfl (h.var n 13 (by kernel_rfl)) ((r13.later h.inv.1)) Tryd.underlying23 rfl (zb.out)⟩⟩
                  · refine .inl ⟨by kernel_rfl, fun L a1 w1 n h => ⟨.pointer (some ⟨g3, 3, none⟩), rfl, ?_⟩⟩
                    have e0 : a1.eval (.tmp 3) = _ := h.var n 3 (by kernel_rfl)
                    unfold execOp
                    simp only [e0]
                    go_simp
                  · exact .inl ⟨by kernel_rfl, fun L a1 w1 n h => ⟨_, rfl, run_loadA 31 (.tmp 115) ⟨g3, 3, none⟩ rfl Tryd.isAgg31 (h.dep n 7 115 (by kernel_rfl) rfl) ((r3.later h.inv.1).cell (j := 3) rfl)⟩⟩
                  · exact .inl ⟨by kernel_rfl, fun L a1 w1 n h => ⟨_, rfl, run_move (.tmp 11) rfl (h.var n 11 (by kernel_rfl))⟩⟩
                  · exact .inl ⟨by kernel_rfl, fun L a1 w1 n h => ⟨_, rfl, run_indexSlN 31 (.tmp 116) (.tmp 117) 23 32 pb po np pc k rfl Tryd.underlying31 Tryd.sizeOf23 (h.dep n 8 116 (by kernel_rfl) rfl) (h.dep n 9 117 (by kernel_rfl) rfl) hqp⟩⟩
                  · exact .inl ⟨by kernel_rfl, fun L a1 w1 n h => ⟨_, rfl, run_loadM 23 (.tmp 118) pb (po + k * 32) (bv q2) _ rfl (h.dep n 10 118 (by kernel_rfl) rfl) (hclB w1 h.inv.1) Tryd.underlying23 rfl zq2.out⟩⟩
                  · refine .inr fun L a1 w1 n h K hK => ?_
                    have e0 : a1.eval (.tmp 114) = .agg (bv sb2).toArray := h.dep n 6 114 (by kernel_rfl) rfl
                    have e1 : a1.eval (.tmp 119) = .agg (bv q2).toArray := h.dep n 11 119 (by kernel_rfl) rfl
                    refine JF.call (FTn16_mono ta2 tb2) h hK 120 rfl 30 _ _ #[.agg (bv sb2).toArray, .agg (bv q2).toArray] rfl Tryd.call30 ?_ (HTb w1) ?_
                    · simp only [List.map_toArray, List.map_cons, List.map_nil, e0, e1]
                    · rintro e w3 h9
                      obtain ⟨v9, rfl, f9, b9⟩ := SlF.of_ret h9
                      exact ⟨_, rfl, trivial, f9, b9⟩
                  · refine .inr fun L a1 w1 n h K hK => ?_
                    obtain ⟨A9, c9, v9, h9⟩ := JF.get h n 5 113 (by kernel_rfl) (by kernel_rfl) rfl
                    exact JF.run (FTn16_mono ta2 tb2) h hK 8 rfl (.slice A9 ta2.length c9) (run_assign (.tmp 113) rfl v9) trivial ⟨A9, c9, rfl, h9⟩
                  · refine .inr fun L a1 w1 n h K hK => ?_
                    obtain ⟨A9, c9, v9, h9⟩ := JF.get h n 12 120 (by kernel_rfl) (by kernel_rfl) rfl
                    exact JF.run (FTn16_mono ta2 tb2) h hK 9 rfl (.slice A9 tb2.length c9) (run_assign (.tmp 120) rfl v9) trivial ⟨A9, c9, rfl, h9⟩
                case heL1 =>
                  intro V w12 hV hJ
                  obtain ⟨A3, c3, v3, h3, l3, m3⟩ := JF.last hJ 13 8 rfl rfl
                  obtain ⟨A4, c4, v4, h4, l4, m4⟩ := JF.last hJ 14 9 rfl rfl
                  have b12 := hJ.1
                  clear hV hJ HTa HTb HNa HNb
                  simp only [putOps, List.setIfInBounds_toArray, List.set_cons_succ, List.set_cons_zero, Nat.reduceAdd]
                  rw [v3, v4]
                  refine hKx _ _ ?_
                  clear v3 v4 m3 m4
                  have b012 := b0.trans (b12.mono b0.size)
                  cases cl with
                  | true =>
                    go_wp2_with fail
                    go_roundw
                    case rel => exact ⟨k + 1, ta2, tb2, true, A3, c3, A4, c4, by omega, rfl, rfl, rfl, by go_num, h3, l3, h4, l4, hI2, b012⟩
                    case measure => simp [intOf]; omega
                  | false =>
                    have hI : InvT la cx ss rs ps (k + 1) ta2 tb2 (clB ta2 tb2) := hI2
                    go_wp2_with fail
                    by_cases heq : ta2 = tb2
                    · refine (equal_dec A3 A4 _ _ c3 c4 ta2 tb2 w12 h3 h4 hI.ba hI.bb true (decide_eq_true heq)).mono ?_
                      rintro e we ⟨rfl, be⟩
                      have hcb : clB ta2 tb2 = false := by unfold clB; rw [decide_eq_true heq]; rfl
                      have HCl := hide hcb
                      clear hcb heq
                      go_wp2_with fail
                      go_roundw
                      case rel => exact ⟨k + 1, ta2, tb2, false, A3, c3, A4, c4, by omega, rfl, rfl, rfl, by go_num, h3.later be, l3, h4.later be, l4, by rw [HCl.out] at hI; exact hI, b012.trans (be.mono b012.size)⟩
                      case measure => simp [intOf]; omega
                    · refine (equal_dec A3 A4 _ _ c3 c4 ta2 tb2 w12 h3 h4 hI.ba hI.bb false (decide_eq_false heq)).mono ?_
                      rintro e we ⟨rfl, be⟩
                      go_wp2_with fail
                      refine (rsum_any ta2 A3 _ c3 we (h3.later be) hI.ba l3 (by have := hI.la_; omega)).mono ?_
                      rintro e wf ⟨rfl, bf⟩
                      go_wp2_with fail
                      refine (rsum_any tb2 A4 _ c4 wf ((h4.later be).later bf) hI.bb l4 (by have := hI.lb_; omega)).mono ?_
                      rintro e wg ⟨rfl, bg⟩
                      have hE := eq32 (sumS ta2) (sumS tb2) (sumS_len _) (sumS_len _)
                      have hcb : clB ta2 tb2 = decide (sumS ta2 = sumS tb2) := by unfold clB; rw [decide_eq_false heq]; rfl
                      have HCl := hide hcb
                      clear hcb heq
                      go_wp2_with (first | rw [hE])
                      go_roundw
                      case rel => exact ⟨k + 1, ta2, tb2, decide (sumS ta2 = sumS tb2), A3, c3, A4, c4, by omega, rfl, rfl, rfl, by go_num, ((h3.later be).later bf).later bg, l3, ((h4.later be).later bf).later bg, l4, by rw [HCl.out] at hI; exact hI, b012.trans (((be.trans (bf.mono be.size)).trans (bg.mono (Nat.le_trans be.size bf.size))).mono b012.size)⟩
                      case measure => simp [intOf]; omega
              | true =>
                have HNa : ∀ w1, Calls Tryd.prog 30 #[.agg (bv q).toArray, .agg (bv (sumS ta)).toArray] w1 (RetBs (stT true (sumS ta) q) w1) := fun w1 => nodeText_any q (sumS ta) w1 hql (sumS_len _)
                have HNb : ∀ w1, Calls Tryd.prog 30 #[.agg (bv q2).toArray, .agg (bv (sumS tb)).toArray] w1 (RetBs (stT true (sumS tb) q2) w1) := fun w1 => nodeText_any q2 (sumS tb) w1 hql2 (sumS_len _)
                have hI2 := hI.step true q q2 hbb hqq hqq2 hql hql2 hqy hqy2
                obtain ⟨ta2, hta2⟩ : ∃ x, x = stT true (sumS ta) q := ⟨_, rfl⟩
                obtain ⟨tb2, htb2⟩ : ∃ x, x = stT true (sumS tb) q2 := ⟨_, rfl⟩
                rw [← hta2] at HNa hI2
                rw [← htb2] at HNb hI2
                have hsl1 := sumS_len ta
                have hsl2 := sumS_len tb
                have HS1 := rsum_any ta A1 _ c1 wr h1 hI.ba l1 (by have := hI.la_; omega)
                have HS2 := fun w1 (hb : Below wr.heap.size wr w1) => rsum_any tb A2 _ c2 w1 (h2.later hb) hI.bb l2 (by have := hI.lb_; omega)
                have hsdv : ∀ w1, Below (we).heap.size we w1 → w1.cell? ⟨sb, so + k, none⟩ = some (.int .i64 0) := hcs
                have za := hide (size32b hsl1)
                have zb := hide (size32b hsl2)
                have lza := hide (show (bv (List.replicate 32 0)).length = (bv (sumS ta)).length by rw [bv_len, bv_len, hsl1, List.length_replicate])
                have lzb := hide (show (bv (List.replicate 32 0)).length = (bv (sumS tb)).length by rw [bv_len, bv_len, hsl2, List.length_replicate])
                clear hta2 htb2 hsl1 hsl2 hcs hbb hqq hqq2 hI
                generalize sumS ta = sa at *
                generalize sumS tb = sb2 at *
                have HS2 := hide HS2
                go_wp2_with fail
                refine HS1.mono ?_
                rintro e w5 ⟨rfl, b5⟩
                clear HS1
                go_wp2_with fail
                refine (HS2.out w5 b5).mono ?_
                rintro e w6s ⟨rfl, b6s⟩
                have bs6 := b5.trans (b6s.mono b5.size)
                go_wp2_with (first
                  | ((with_reducible refine wl_alloc (o := ⟨some 12, _, _, _, _, _⟩) rfl 23 _ (bv (List.replicate 32 0)) rfl zero32b rfl ?_); intro g12 w7a r12 p12 l12 b7a)
                  | ((with_reducible refine wl_alloc (o := ⟨some 13, _, _, _, _, _⟩) rfl 23 _ (bv (List.replicate 32 0)) rfl zero32b rfl ?_); intro g13 w8 r13 p13 l13 b8; have r12b := r12.later b8; have n13 : g13 ≠ g12 := (by have := r12.lt; omega))
                  | ((with_reducible refine wl_store_row rfl 23 (.tmp 12) (.tmp 100) g12 23 _ (bv sa) rfl rfl rfl r12b za.out lza.out (bv_one _) ?_); intro w10 r12c o10; have r13b := r13.only o10 n13)
                  | ((with_reducible refine wl_store_row rfl 23 (.tmp 13) (.tmp 102) g13 23 _ (bv sb2) rfl rfl rfl r13b zb.out lzb.out (bv_one _) ?_); intro w11 r13c o11; have r12d := r12c.only o11 (Ne.symm n13); have b11 : Below wr.heap.size wr w11 := (((bs6.trans (b7a.mono bs6.size)).trans (b8.mono (Nat.le_trans bs6.size b7a.size))).trans (o10.below (Nat.le_trans bs6.size p12))).trans (o11.below (Nat.le_trans (Nat.le_trans bs6.size b7a.size) p13)); have cside := hsdv w11 (bk.trans (b11.mono bk.size))))
                have b0 := bk.trans (b11.mono bk.size)
                have r3 := r3.later b11
                have HTa := HNa
                have HTb := HNb
                have r12 := r12d
                have r13 := r13c
                have hclA := fun w1 (hb : Below w11.heap.size w11 w1) => hclA0 w1 (b11.trans (hb.mono b11.size))
                have hclB := fun w1 (hb : Below w11.heap.size w11 w1) => hclB0 w1 (b11.trans (hb.mono b11.size))
                rename_i Kx hKx
                refine wp_region_vals [5, 12, 13, 14] (STn17 sa sb2 q q2 g3 g12 g13 rb ro rn rc pb po np pc k) (JF w11 [5, 12, 13, 14] (FTn17 ta2 tb2)) (by kernel_rfl) (by kernel_rfl) (by kernel_rfl) (by kernel_rfl) (by kernel_rfl) (JF.start _) ?obsL2 ?heL2
                case obsL2 =>
                  refine ⟨?_, ?_, ?_, ?_, ?_, ?_, ?_, ?_, ?_, ?_, ?_, ?_, ?_, ?_, ?_, trivial⟩
                  · exact .inl ⟨by kernel_rfl, fun L a1 w1 n h => ⟨_, rfl, run_move (.tmp 5) rfl (h.var n 5 (by kernel_rfl))⟩⟩
                  · exact .inl ⟨by kernel_rfl, fun L a1 w1 n h => ⟨_, rfl, run_move (.tmp 11) rfl (h.var n 11 (by kernel_rfl))⟩⟩
                  · exact .inl ⟨by kernel_rfl, fun L a1 w1 n h => ⟨_, rfl, run_indexSlN 31 (.tmp 121) (.tmp 122) 23 32 rb ro rn rc k rfl Tryd.underlying31 Tryd.sizeOf23 (h.dep n 0 121 (by kernel_rfl) rfl) (h.dep n 1 122 (by kernel_rfl) rfl) hqr⟩⟩
                  · exact .inl ⟨by kernel_rfl, fun L a1 w1 n h => ⟨_, rfl, run_loadM 23 (.tmp 123) rb (ro + k * 32) (bv q) _ rfl (h.dep n 2 123 (by kernel_rfl) rfl) (hclA w1 h.inv.1) Tryd.underlying23 rfl zq.out⟩⟩
                  · exact .inl ⟨by kernel_rfl, fun L a1 w1 n h => ⟨_, rfl, run_loadRow 23 (.tmp 12) g12 23 _ _ rfl (h.var n 12 (by kernel_rfl)) ((r12.later h.inv.1)) Tryd.underlying23 rfl (za.out)⟩⟩
                  · refine .inr fun L a1 w1 n h K hK => ?_
                    have e0 : a1.eval (.tmp 124) = .agg (bv q).toArray := h.dep n 3 124 (by kernel_rfl) rfl
                    have e1 : a1.eval (.tmp 125) = .agg (bv sa).toArray := h.dep n 4 125 (by kernel_rfl) rfl
                    refine JF.call (FTn17_mono ta2 tb2) h hK 126 rfl 30 _ _ #[.agg (bv q).toArray, .agg (bv sa).toArray] rfl Tryd.call30 ?_ (HTa w1) ?_
                    · simp only [List.map_toArray, List.map_cons, List.map_nil, e0, e1]
                    · rintro e w3 h9
                      obtain ⟨v9, rfl, f9, b9⟩ := SlF.of_ret h9
                      exact ⟨_, rfl, trivial, f9, b9⟩
                  · refine .inl ⟨by kernel_rfl, fun L a1 w1 n h => ⟨.pointer (some ⟨g3, 3, none⟩), rfl, ?_⟩⟩
                    have e0 : a1.eval (.tmp 3) = _ := h.var n 3 (by kernel_rfl)
                    unfold execOp
                    simp only [e0]
                    go_simp
                  · exact .inl ⟨by kernel_rfl, fun L a1 w1 n h => ⟨_, rfl, run_loadA 31 (.tmp 127) ⟨g3, 3, none⟩ rfl Tryd.isAgg31 (h.dep n 6 127 (by kernel_rfl) rfl) ((r3.later h.inv.1).cell (j := 3) rfl)⟩⟩
                  · exact .inl ⟨by kernel_rfl, fun L a1 w1 n h => ⟨_, rfl, run_move (.tmp 11) rfl (h.var n 11 (by kernel_rfl))⟩⟩
                  · exact .inl ⟨by kernel_rfl, fun L a1 w1 n h => ⟨_, rfl, run_indexSlN 31 (.tmp 128) (.tmp 129) 23 32 pb po np pc k rfl Tryd.underlying31 Tryd.sizeOf23 (h.dep n 7 128 (by kernel_rfl) rfl) (h.dep n 8 129 (by kernel_rfl) rfl) hqp⟩⟩
                  · exact .inl ⟨by kernel_rfl, fun L a1 w1 n h => ⟨_, rfl, run_loadM 23 (.tmp 130) pb (po + k * 32) (bv q2) _ rfl (h.dep n 9 130 (by kernel_rfl) rfl) (hclB w1 h.inv.1) Tryd.underlying23 rfl zq2.out⟩⟩
                  · exact .inl ⟨by kernel_rfl, fun L a1 w1 n h => ⟨_, rfl, run_loadRow 23 (.tmp 13) g13 23 _ _ rfl (h.var n 13 (by kernel_rfl)) ((r13.later h.inv.1)) Tryd.underlying23 rfl (zb.out)⟩⟩
                  · refine .inr fun L a1 w1 n h K hK => ?_
                    have e0 : a1.eval (.tmp 131) = .agg (bv q2).toArray := h.dep n 10 131 (by kernel_rfl) rfl
                    have e1 : a1.eval (.tmp 132) = .agg (bv sb2).toArray := h.dep n 11 132 (by kernel_rfl) rfl
                    refine JF.call (FTn17_mono ta2 tb2) h hK 133 rfl 30 _ _ #[.agg (bv q2).toArray, .agg (bv sb2).toArray] rfl Tryd.call30 ?_ (HTb w1) ?_
                    · simp only [List.map_toArray, List.map_cons, List.map_nil, e0, e1]
                    · rintro e w3 h9
                      obtain ⟨v9, rfl, f9, b9⟩ := SlF.of_ret h9
                      exact ⟨_, rfl, trivial, f9, b9⟩
                  · refine .inr fun L a1 w1 n h K hK => ?_
                    obtain ⟨A9, c9, v9, h9⟩ := JF.get h n 5 126 (by kernel_rfl) (by kernel_rfl) rfl
                    exact JF.run (FTn17_mono ta2 tb2) h hK 8 rfl (.slice A9 ta2.length c9) (run_assign (.tmp 126) rfl v9) trivial ⟨A9, c9, rfl, h9⟩
                  · refine .inr fun L a1 w1 n h K hK => ?_
                    obtain ⟨A9, c9, v9, h9⟩ := JF.get h n 12 133 (by kernel_rfl) (by kernel_rfl) rfl
                    exact JF.run (FTn17_mono ta2 tb2) h hK 9 rfl (.slice A9 tb2.length c9) (run_assign (.tmp 133) rfl v9) trivial ⟨A9, c9, rfl, h9⟩
                case heL2 =>
                  intro V w12 hV hJ
                  obtain ⟨A3, c3, v3, h3, l3, m3⟩ := JF.last hJ 13 8 rfl rfl
                  obtain ⟨A4, c4, v4, h4, l4, m4⟩ := JF.last hJ 14 9 rfl rfl
                  have b12 := hJ.1
                  clear hV hJ HTa HTb HNa HNb
                  simp only [putOps, List.setIfInBounds_toArray, List.set_cons_succ, List.set_cons_zero, Nat.reduceAdd]
                  rw [v3, v4]
                  refine hKx _ _ ?_
                  clear v3 v4 m3 m4
                  have b012 := b0.trans (b12.mono b0.size)
                  cases cl with
                  | true =>
                    go_wp2_with fail
                    go_roundw
                    case rel => exact ⟨k + 1, ta2, tb2, true, A3, c3, A4, c4, by omega, rfl, rfl, rfl, by go_num, h3, l3, h4, l4, hI2, b012⟩
                    case measure => simp [intOf]; omega
                  | false =>
                    have hI : InvT la cx ss rs ps (k + 1) ta2 tb2 (clB ta2 tb2) := hI2
                    go_wp2_with fail
                    by_cases heq : ta2 = tb2
                    · refine (equal_dec A3 A4 _ _ c3 c4 ta2 tb2 w12 h3 h4 hI.ba hI.bb true (decide_eq_true heq)).mono ?_
                      rintro e we ⟨rfl, be⟩
                      have hcb : clB ta2 tb2 = false := by unfold clB; rw [decide_eq_true heq]; rfl
                      have HCl := hide hcb
                      clear hcb heq
                      go_wp2_with fail
                      go_roundw
                      case rel => exact ⟨k + 1, ta2, tb2, false, A3, c3, A4, c4, by omega, rfl, rfl, rfl, by go_num, h3.later be, l3, h4.later be, l4, by rw [HCl.out] at hI; exact hI, b012.trans (be.mono b012.size)⟩
                      case measure => simp [intOf]; omega
                    · refine (equal_dec A3 A4 _ _ c3 c4 ta2 tb2 w12 h3 h4 hI.ba hI.bb false (decide_eq_false heq)).mono ?_
                      rintro e we ⟨rfl, be⟩
                      go_wp2_with fail
                      refine (rsum_any ta2 A3 _ c3 we (h3.later be) hI.ba l3 (by have := hI.la_; omega)).mono ?_
                      rintro e wf ⟨rfl, bf⟩
                      go_wp2_with fail
                      refine (rsum_any tb2 A4 _ c4 wf ((h4.later be).later bf) hI.bb l4 (by have := hI.lb_; omega)).mono ?_
                      rintro e wg ⟨rfl, bg⟩
                      have hE := eq32 (sumS ta2) (sumS tb2) (sumS_len _) (sumS_len _)
                      have hcb : clB ta2 tb2 = decide (sumS ta2 = sumS tb2) := by unfold clB; rw [decide_eq_false heq]; rfl
                      have HCl := hide hcb
                      clear hcb heq
                      go_wp2_with (first | rw [hE])
                      go_roundw
                      case rel => exact ⟨k + 1, ta2, tb2, decide (sumS ta2 = sumS tb2), A3, c3, A4, c4, by omega, rfl, rfl, rfl, by go_num, ((h3.later be).later bf).later bg, l3, ((h4.later be).later bf).later bg, l4, by rw [HCl.out] at hI; exact hI, b012.trans (((be.trans (bf.mono be.size)).trans (bg.mono (Nat.le_trans be.size bf.size))).mono b012.size)⟩
                      case measure => simp [intOf]; omega
            · have hd9 : decide ((k : Int) < (ss.length : Int)) = false := by simp; omega
              have hLc := fun w1 (hb : Below wr.heap.size wr w1) => hLc0 w1 (Bk.trans (hb.mono Bk.size))
              have H5 := fun w1 (hb : Below wr.heap.size wr w1) => tawake_any w1 (hT.later (Bk.trans (hb.mono Bk.size)))
              by_cases hcxla : cx = la
              · have HE := fun w1 (hb : Below wr.heap.size wr w1) => equal_dec CA LA m lm cc lc cx la w1 (hcx.later (Bk.trans (hb.mono Bk.size))) (hbl.later (Bk.trans (hb.mono Bk.size))) hcby hlaby true (decide_eq_true hcxla)
                clear h1 h2 hI hcx hbl hT hLc0
                go_wp2_with fail
                rename_i K9 hK9
                refine wp_region_valsS [7, 12] (STn19 b o nn c g3 i m cc np pc lm lc LA CA PA N cl) (JR wr) (by kernel_rfl) (by kernel_rfl) (by kernel_rfl) (by kernel_rfl) (Below.refl _ _).drew ?obsE3 ?heE3
                case obsE3 =>
                  refine ⟨?_, ?_, ?_, ?_, ?_, ?_, ?_, ?_, ?_, ?_, ?_, ?_, ?_, ?_, ?_, trivial⟩
                  · refine .inl ⟨.inl rfl, ?_⟩
                    refine .inl ⟨by kernel_rfl, fun L a1 w1 n h => ⟨.pointer (some ⟨g3, 2, none⟩), rfl, ?_⟩⟩
                    have e0 : a1.eval (.tmp 3) = _ := h.var n 3 (by kernel_rfl)
                    unfold execOp
                    simp only [e0]
                    go_simp
                  · refine .inl ⟨.inl rfl, ?_⟩
                    exact .inl ⟨by kernel_rfl, fun L a1 w1 n h => ⟨_, rfl, run_loadA 22 (.tmp 148) ⟨g3, 2, none⟩ rfl Tryd.isAgg22 (h.dep n 0 148 (by kernel_rfl) rfl) ((Row.later r3 h.inv).cell (j := 2) (v := .slice CA m cc) rfl)⟩⟩
                  · refine .inl ⟨.inl rfl, ?_⟩
                    exact .inl ⟨by kernel_rfl, fun L a1 w1 n h => ⟨_, rfl, run_move (.tmp 0) rfl (h.var n 0 (by kernel_rfl))⟩⟩
                  · refine .inl ⟨.inl rfl, ?_⟩
                    refine .inl ⟨by kernel_rfl, fun L a1 w1 n h => ⟨.pointer (some ⟨g3, 1, none⟩), rfl, ?_⟩⟩
                    have e0 : a1.eval (.tmp 3) = _ := h.var n 3 (by kernel_rfl)
                    unfold execOp
                    simp only [e0]
                    go_simp
                  · refine .inl ⟨.inl rfl, ?_⟩
                    exact .inl ⟨by kernel_rfl, fun L a1 w1 n h => ⟨_, rfl, run_loadA 3 (.tmp 151) ⟨g3, 1, none⟩ rfl Tryd.isAgg3 (h.dep n 3 151 (by kernel_rfl) rfl) ((Row.later r3 h.inv).cell (j := 1) (v := .int .i64 (i : Int)) rfl)⟩⟩
                  · refine .inl ⟨.inl rfl, ?_⟩
                    exact .inl ⟨by kernel_rfl, fun L a1 w1 n h => ⟨_, rfl, run_indexSl 28 (.tmp 150) (.tmp 152) 22 b o nn c i rfl Tryd.underlying28 Tryd.sizeOf22 (h.dep n 2 150 (by kernel_rfl) rfl) (h.dep n 4 152 (by kernel_rfl) rfl) hin⟩⟩
                  · refine .inl ⟨.inl rfl, ?_⟩
                    exact .inl ⟨by kernel_rfl, fun L a1 w1 n h => ⟨_, rfl, run_loadA 22 (.tmp 153) ⟨b, o + i, none⟩ rfl Tryd.isAgg22 (h.dep n 5 153 (by kernel_rfl) rfl) (hLc w1 h.inv)⟩⟩
                  · refine .inl ⟨.inl rfl, ?_⟩
                    refine .inr fun L a1 w1 n h K hK => ?_
                    have e0 : a1.eval (.tmp 149) = .slice CA m cc := h.dep n 1 149 (by kernel_rfl) rfl
                    have e1 : a1.eval (.tmp 154) = .slice LA lm lc := h.dep n 6 154 (by kernel_rfl) rfl
                    refine st_call 28 _ _ #[.slice CA m cc, .slice LA lm lc] rfl Tryd.call28 ?_ (HE w1 h.inv) ?_
                    · simp only [List.map_toArray, List.map_cons, List.map_nil, e0, e1]
                    · rintro e w3 ⟨rfl, b9⟩
                      exact ⟨_, rfl, hK _ w3 rfl (h.inv.trans (b9.mono h.inv.size))⟩
                  · refine .inl ⟨.inl rfl, ?_⟩
                    exact .inl ⟨by kernel_rfl, fun L a1 w1 n h => ⟨_, rfl, run_move (.tmp 155) rfl (h.dep n 7 155 (by kernel_rfl) rfl)⟩⟩
                  · exact .inr ⟨⟨8, false, 156, rfl, by kernel_rfl, rfl, by simp, fun v h => by rw [show v = .bool true from h]; first | exact ne_tf | exact ne_ft | exact ne_undef _⟩, by kernel_rfl, rfl⟩
                  · refine .inl ⟨.inl rfl, ?_⟩
                    exact .inl ⟨by kernel_rfl, fun L a1 w1 n h => ⟨_, rfl, run_pickT (.tmp 156) _ _ rfl (h.dep n 8 156 (by kernel_rfl) rfl) rfl⟩⟩
                  · refine .inl ⟨.inl rfl, ?_⟩
                    exact .inl ⟨by kernel_rfl, fun L a1 w1 n h => ⟨_, rfl, run_move (.tmp 158) rfl (h.dep n 10 158 (by kernel_rfl) rfl)⟩⟩
                  · refine .inl ⟨.inr ⟨11, true, 159, rfl, by kernel_rfl, rfl, by simp, fun v h => h⟩, ?_⟩
                    refine .inr fun L a1 w1 n h K hK => ?_
                    refine st_call 10 _ _ #[] rfl Tryd.call10 ?_ (H5 w1 h.inv) ?_
                    · simp
                    · rintro e w3 ⟨rfl, b9⟩
                      exact ⟨_, rfl, hK _ w3 rfl (h.inv.trans (b9.mono h.inv.size))⟩
                  · refine .inl ⟨.inl rfl, ?_⟩
                    exact .inl ⟨by kernel_rfl, fun L a1 w1 n h => ⟨_, rfl, run_pickT (.tmp 159) _ _ rfl (h.dep n 11 159 (by kernel_rfl) rfl) (h.dep n 12 160 (by kernel_rfl) rfl)⟩⟩
                  · refine .inl ⟨.inl rfl, ?_⟩
                    exact .inl ⟨by kernel_rfl, fun L a1 w1 n h => ⟨_, rfl, run_assign (.tmp 161) rfl (h.dep n 13 161 (by kernel_rfl) rfl)⟩⟩
                case heE3 =>
                  intro V wz hV hJ
                  have bz : Below wr.heap.size wr wz := hJ
                  have hv : V 14 = .bool true := hV 14 4 rfl
                  clear hV hJ
                  simp only [putOps, List.setIfInBounds_toArray, List.set_cons_succ, List.set_cons_zero, Nat.reduceAdd]
                  rw [hv]
                  refine hK9 _ _ ?_
                  go_wp2_with fail
                  go_ret
                  exact ⟨rfl, Bk.trans (bz.mono Bk.size)⟩
              · have hcl : cl = true := by
                  cases cl with
                  | true => rfl
                  | false => exact absurd (hfin.out k ta tb false hI (by omega) rfl).symm hcxla
                subst hcl
                have HE := fun w1 (hb : Below wr.heap.size wr w1) => equal_dec CA LA m lm cc lc cx la w1 (hcx.later (Bk.trans (hb.mono Bk.size))) (hbl.later (Bk.trans (hb.mono Bk.size))) hcby hlaby false (decide_eq_false hcxla)
                clear h1 h2 hI hcx hbl hT hLc0
                go_wp2_with fail
                rename_i K9 hK9
                refine wp_region_valsS [7, 12] (STn20 b o nn c g3 i m cc np pc lm lc LA CA PA N) (JR wr) (by kernel_rfl) (by kernel_rfl) (by kernel_rfl) (by kernel_rfl) (Below.refl _ _).drew ?obsE4 ?heE4
                case obsE4 =>
                  refine ⟨?_, ?_, ?_, ?_, ?_, ?_, ?_, ?_, ?_, ?_, ?_, ?_, ?_, ?_, ?_, trivial⟩
                  · refine .inl ⟨.inl rfl, ?_⟩
                    refine .inl ⟨by kernel_rfl, fun L a1 w1 n h => ⟨.pointer (some ⟨g3, 2, none⟩), rfl, ?_⟩⟩
                    have e0 : a1.eval (.tmp 3) = _ := h.var n 3 (by kernel_rfl)
                    unfold execOp
                    simp only [e0]
                    go_simp
                  · refine .inl ⟨.inl rfl, ?_⟩
                    exact .inl ⟨by kernel_rfl, fun L a1 w1 n h => ⟨_, rfl, run_loadA 22 (.tmp 148) ⟨g3, 2, none⟩ rfl Tryd.isAgg22 (h.dep n 0 148 (by kernel_rfl) rfl) ((Row.later r3 h.inv).cell (j := 2) (v := .slice CA m cc) rfl)⟩⟩
                  · refine .inl ⟨.inl rfl, ?_⟩
                    exact .inl ⟨by kernel_rfl, fun L a1 w1 n h => ⟨_, rfl, run_move (.tmp 0) rfl (h.var n 0 (by kernel_rfl))⟩⟩
                  · refine .inl ⟨.inl rfl, ?_⟩
                    refine .inl ⟨by kernel_rfl, fun L a1 w1 n h => ⟨.pointer (some ⟨g3, 1, none⟩), rfl, ?_⟩⟩
                    have e0 : a1.eval (.tmp 3) = _ := h.var n 3 (by kernel_rfl)
                    unfold execOp
                    simp only [e0]
                    go_simp
                  · refine .inl ⟨.inl rfl, ?_⟩
                    exact .inl ⟨by kernel_rfl, fun L a1 w1 n h => ⟨_, rfl, run_loadA 3 (.tmp 151) ⟨g3, 1, none⟩ rfl Tryd.isAgg3 (h.dep n 3 151 (by kernel_rfl) rfl) ((Row.later r3 h.inv).cell (j := 1) (v := .int .i64 (i : Int)) rfl)⟩⟩
                  · refine .inl ⟨.inl rfl, ?_⟩
                    exact .inl ⟨by kernel_rfl, fun L a1 w1 n h => ⟨_, rfl, run_indexSl 28 (.tmp 150) (.tmp 152) 22 b o nn c i rfl Tryd.underlying28 Tryd.sizeOf22 (h.dep n 2 150 (by kernel_rfl) rfl) (h.dep n 4 152 (by kernel_rfl) rfl) hin⟩⟩
                  · refine .inl ⟨.inl rfl, ?_⟩
                    exact .inl ⟨by kernel_rfl, fun L a1 w1 n h => ⟨_, rfl, run_loadA 22 (.tmp 153) ⟨b, o + i, none⟩ rfl Tryd.isAgg22 (h.dep n 5 153 (by kernel_rfl) rfl) (hLc w1 h.inv)⟩⟩
                  · refine .inl ⟨.inl rfl, ?_⟩
                    refine .inr fun L a1 w1 n h K hK => ?_
                    have e0 : a1.eval (.tmp 149) = .slice CA m cc := h.dep n 1 149 (by kernel_rfl) rfl
                    have e1 : a1.eval (.tmp 154) = .slice LA lm lc := h.dep n 6 154 (by kernel_rfl) rfl
                    refine st_call 28 _ _ #[.slice CA m cc, .slice LA lm lc] rfl Tryd.call28 ?_ (HE w1 h.inv) ?_
                    · simp only [List.map_toArray, List.map_cons, List.map_nil, e0, e1]
                    · rintro e w3 ⟨rfl, b9⟩
                      exact ⟨_, rfl, hK _ w3 rfl (h.inv.trans (b9.mono h.inv.size))⟩
                  · refine .inl ⟨.inl rfl, ?_⟩
                    exact .inl ⟨by kernel_rfl, fun L a1 w1 n h => ⟨_, rfl, run_move (.tmp 155) rfl (h.dep n 7 155 (by kernel_rfl) rfl)⟩⟩
                  · refine .inl ⟨.inr ⟨8, false, 156, rfl, by kernel_rfl, rfl, by simp, fun v h => h⟩, ?_⟩
                    exact .inl ⟨by kernel_rfl, fun L a1 w1 n h => ⟨_, rfl, run_move (.tmp 10) rfl (h.var n 10 (by kernel_rfl))⟩⟩
                  · refine .inl ⟨.inl rfl, ?_⟩
                    exact .inl ⟨by kernel_rfl, fun L a1 w1 n h => ⟨_, rfl, run_pickF (.tmp 156) _ _ rfl (h.dep n 8 156 (by kernel_rfl) rfl) (h.dep n 9 157 (by kernel_rfl) rfl)⟩⟩
                  · refine .inl ⟨.inl rfl, ?_⟩
                    exact .inl ⟨by kernel_rfl, fun L a1 w1 n h => ⟨_, rfl, run_move (.tmp 158) rfl (h.dep n 10 158 (by kernel_rfl) rfl)⟩⟩
                  · refine .inl ⟨.inr ⟨11, true, 159, rfl, by kernel_rfl, rfl, by simp, fun v h => h⟩, ?_⟩
                    refine .inr fun L a1 w1 n h K hK => ?_
                    refine st_call 10 _ _ #[] rfl Tryd.call10 ?_ (H5 w1 h.inv) ?_
                    · simp
                    · rintro e w3 ⟨rfl, b9⟩
                      exact ⟨_, rfl, hK _ w3 rfl (h.inv.trans (b9.mono h.inv.size))⟩
                  · refine .inl ⟨.inl rfl, ?_⟩
                    exact .inl ⟨by kernel_rfl, fun L a1 w1 n h => ⟨_, rfl, run_pickT (.tmp 159) _ _ rfl (h.dep n 11 159 (by kernel_rfl) rfl) (h.dep n 12 160 (by kernel_rfl) rfl)⟩⟩
                  · refine .inl ⟨.inl rfl, ?_⟩
                    exact .inl ⟨by kernel_rfl, fun L a1 w1 n h => ⟨_, rfl, run_assign (.tmp 161) rfl (h.dep n 13 161 (by kernel_rfl) rfl)⟩⟩
                case heE4 =>
                  intro V wz hV hJ
                  have bz : Below wr.heap.size wr wz := hJ
                  have hv : V 14 = .bool true := hV 14 4 rfl
                  clear hV hJ
                  simp only [putOps, List.setIfInBounds_toArray, List.set_cons_succ, List.set_cons_zero, Nat.reduceAdd]
                  rw [hv]
                  refine hK9 _ _ ?_
                  go_wp2_with fail
                  go_ret
                  exact ⟨rfl, Bk.trans (bz.mono Bk.size)⟩

        · refine (equal_dec A1 A2 _ _ c1 c2 ta tb w7 h1 h2 hI.ba hI.bb false (decide_eq_false heq)).mono ?_
          rintro e we ⟨rfl, be⟩
          go_wp2_with fail
          refine (rsum_any ta A1 _ c1 we (h1.later be) hI.ba l1 (by have := hI.la_; omega)).mono ?_
          rintro e wf ⟨rfl, bf⟩
          go_wp2_with fail
          refine (rsum_any tb A2 _ c2 wf ((h2.later be).later bf) hI.bb l2 (by have := hI.lb_; omega)).mono ?_
          rintro e wg ⟨rfl, bg⟩
          have hE := eq32 (sumS ta) (sumS tb) (sumS_len _) (sumS_len _)
          have hcb : clB ta tb = decide (sumS ta = sumS tb) := by unfold clB; rw [decide_eq_false heq]; rfl
          have HCl := hide hcb
          clear hcb heq
          go_wp2_with (first | rw [hE])
          have b07 : Below w7.heap.size w7 wg := ((be.trans (bf.mono be.size)).trans (bg.mono (Nat.le_trans be.size bf.size)))
          have BW := B7.trans (b07.mono B7.size)
          replace r3 := r3.later b07
          replace hRS := hRS.later b07
          replace hsd := hsd.later b07
          have hs1 := ((h1.later be).later bf).later bg
          have hs2 := ((h2.later be).later bf).later bg
          have hIs := hI
          rw [HCl.out] at hIs
          clear h1 h2 hI
          go_loopw [8, 9, 10, 11] (fun av bv' clv kv wr => ∃ (k : Nat) (ta tb : List Int) (cl : Bool) (A1 : Option Addr) (c1 : Nat) (A2 : Option Addr) (c2 : Nat), k ≤ ss.length ∧ av = .slice A1 ta.length c1 ∧ bv' = .slice A2 tb.length c2 ∧ clv = .bool cl ∧ kv = .int .i64 k ∧ Bs wr wr.heap.size A1 ta.length ta ∧ ta.length ≤ c1 ∧ Bs wr wr.heap.size A2 tb.length tb ∧ tb.length ≤ c2 ∧ InvT la cx ss rs ps k ta tb cl ∧ Below (wg).heap.size wg wr) (fun _ _ _ kv _ => ss.length - (intOf kv).toNat)
          case atStart => exact ⟨0, ta, tb, decide (sumS ta = sumS tb), A1, c1, A2, c2, Nat.zero_le _, rfl, rfl, rfl, rfl, hs1, l1, hs2, l2, hIs, Below.refl _ _⟩
          case round =>
            clear hs1 hs2 hIs l1 l2 HCl
            obtain ⟨k, ta, tb, cl, A1, c1, A2, c2, hk, rfl, rfl, rfl, rfl, h1, l1, h2, l2, hI, bk⟩ := hrel
            have Bk := BW.trans (bk.mono BW.size)
            replace r3 := r3.later bk
            by_cases hlt : k < ss.length
            · have hd9 : decide ((k : Int) < (ss.length : Int)) = true := by simp; omega
              have hkr : k < rs.length := by have := hrsl.out; omega
              have hkp : k < ps.length := by have := HSl.out; omega
              obtain ⟨q, hqq⟩ : ∃ q, rs[k]? = some q := ⟨_, List.getElem?_eq_getElem hkr⟩
              obtain ⟨q2, hqq2⟩ : ∃ q2, ps[k]? = some q2 := ⟨_, List.getElem?_eq_getElem hkp⟩
              obtain ⟨bb, hbb⟩ : ∃ bb, ss[k]? = some bb := ⟨_, List.getElem?_eq_getElem hlt⟩
              have hql := hRS.len q (List.mem_of_getElem? hqq)
              have hqy := hRS.byt q (List.mem_of_getElem? hqq)
              have hql2 := hS.len q2 (List.mem_of_getElem? hqq2)
              have hqy2 := hS.byt q2 (List.mem_of_getElem? hqq2)
              have zq := hide (size32b hql)
              have zq2 := hide (size32b hql2)
              have hqr : k < rn := by have := HRn.out; omega
              have hqp : k < np := by have := HNp.out; omega
              have hkI : (k : Int) ≤ 20 := by omega
              obtain ⟨rb, ro, rfl, hrB, hcR⟩ := hRS.cells hqq
              obtain ⟨pb, po, rfl, hpB, hcP⟩ := hS.cells hqq2
              obtain ⟨sb, so, rfl, hsB, hcS⟩ := hsd (by omega)
              have hcs : ∀ w1, Below (wg).heap.size wg w1 → w1.cell? ⟨sb, so + k, none⟩ = some (sideV bb) := fun w1 hb => by
                rw [hb.cell (p := ⟨sb, so + k, none⟩) hsB, hcS k hlt, List.getD, hbb]; rfl
              have hclA0 : ∀ w1, Below wr.heap.size wr w1 → ∀ j v, (bv q)[j]? = some v → w1.cell? ⟨rb, ro + k * 32 + j, none⟩ = some v := fun w1 hb j v hv => ((bk.trans (hb.mono bk.size)).cell (p := ⟨rb, ro + k * 32 + j, none⟩) hrB).trans (hcR j v hv)
              have hclB0 : ∀ w1, Below wr.heap.size wr w1 → ∀ j v, (bv q2)[j]? = some v → w1.cell? ⟨pb, po + k * 32 + j, none⟩ = some v := fun w1 hb j v hv => ((Bk.trans (hb.mono Bk.size)).cell (p := ⟨pb, po + k * 32 + j, none⟩) hpB).trans (hcP j v hv)
              have hq3 : k < ss.length := hlt
              clear hcR hcP hcS hRS hS hsd hT hcx hbl hLc0
              cases bb with
              | false =>
                have HNa : ∀ w1, Calls Tryd.prog 30 #[.agg (bv (sumS ta)).toArray, .agg (bv q).toArray] w1 (RetBs (stT false (sumS ta) q) w1) := fun w1 => nodeText_any (sumS ta) q w1 (sumS_len _) hql
                have HNb : ∀ w1, Calls Tryd.prog 30 #[.agg (bv (sumS tb)).toArray, .agg (bv q2).toArray] w1 (RetBs (stT false (sumS tb) q2) w1) := fun w1 => nodeText_any (sumS tb) q2 w1 (sumS_len _) hql2
                have hI2 := hI.step false q q2 hbb hqq hqq2 hql hql2 hqy hqy2
                obtain ⟨ta2, hta2⟩ : ∃ x, x = stT false (sumS ta) q := ⟨_, rfl⟩
                obtain ⟨tb2, htb2⟩ : ∃ x, x = stT false (sumS tb) q2 := ⟨_, rfl⟩
                rw [← hta2] at HNa hI2
                rw [← htb2] at HNb hI2
                have hsl1 := sumS_len ta
                have hsl2 := sumS_len tb
                have HS1 := rsum_any ta A1 _ c1 wr h1 hI.ba l1 (by have := hI.la_; omega)
                have HS2 := fun w1 (hb : Below wr.heap.size wr w1) => rsum_any tb A2 _ c2 w1 (h2.later hb) hI.bb l2 (by have := hI.lb_; omega)
                have hsdv : ∀ w1, Below (wg).heap.size wg w1 → w1.cell? ⟨sb, so + k, none⟩ = some (.int .i64 1) := hcs
                have za := hide (size32b hsl1)
                have zb := hide (size32b hsl2)
                have lza := hide (show (bv (List.replicate 32 0)).length = (bv (sumS ta)).length by rw [bv_len, bv_len, hsl1, List.length_replicate])
                have lzb := hide (show (bv (List.replicate 32 0)).length = (bv (sumS tb)).length by rw [bv_len, bv_len, hsl2, List.length_replicate])
                clear hta2 htb2 hsl1 hsl2 hcs hbb hqq hqq2 hI
                generalize sumS ta = sa at *
                generalize sumS tb = sb2 at *
                have HS2 := hide HS2
                go_wp2_with fail
                refine HS1.mono ?_
                rintro e w5 ⟨rfl, b5⟩
                clear HS1
                go_wp2_with fail
                refine (HS2.out w5 b5).mono ?_
                rintro e w6s ⟨rfl, b6s⟩
                have bs6 := b5.trans (b6s.mono b5.size)
                go_wp2_with (first
                  | ((with_reducible refine wl_alloc (o := ⟨some 12, _, _, _, _, _⟩) rfl 23 _ (bv (List.replicate 32 0)) rfl zero32b rfl ?_); intro g12 w7a r12 p12 l12 b7a)
                  | ((with_reducible refine wl_alloc (o := ⟨some 13, _, _, _, _, _⟩) rfl 23 _ (bv (List.replicate 32 0)) rfl zero32b rfl ?_); intro g13 w8 r13 p13 l13 b8; have r12b := r12.later b8; have n13 : g13 ≠ g12 := (by have := r12.lt; omega))
                  | ((with_reducible refine wl_store_row rfl 23 (.tmp 12) (.tmp 100) g12 23 _ (bv sa) rfl rfl rfl r12b za.out lza.out (bv_one _) ?_); intro w10 r12c o10; have r13b := r13.only o10 n13)
                  | ((with_reducible refine wl_store_row rfl 23 (.tmp 13) (.tmp 102) g13 23 _ (bv sb2) rfl rfl rfl r13b zb.out lzb.out (bv_one _) ?_); intro w11 r13c o11; have r12d := r12c.only o11 (Ne.symm n13); have b11 : Below wr.heap.size wr w11 := (((bs6.trans (b7a.mono bs6.size)).trans (b8.mono (Nat.le_trans bs6.size b7a.size))).trans (o10.below (Nat.le_trans bs6.size p12))).trans (o11.below (Nat.le_trans (Nat.le_trans bs6.size b7a.size) p13)); have cside := hsdv w11 (bk.trans (b11.mono bk.size))))
                have b0 := bk.trans (b11.mono bk.size)
                have r3 := r3.later b11
                have HTa := HNa
                have HTb := HNb
                have r12 := r12d
                have r13 := r13c
                have hclA := fun w1 (hb : Below w11.heap.size w11 w1) => hclA0 w1 (b11.trans (hb.mono b11.size))
                have hclB := fun w1 (hb : Below w11.heap.size w11 w1) => hclB0 w1 (b11.trans (hb.mono b11.size))
                rename_i Kx hKx
                refine wp_region_vals [5, 12, 13, 14] (STn16 sa sb2 q q2 g3 g12 g13 rb ro rn rc pb po np pc k) (JF w11 [5, 12, 13, 14] (FTn16 ta2 tb2)) (by kernel_rfl) (by kernel_rfl) (by kernel_rfl) (by kernel_rfl) (by kernel_rfl) (JF.start _) ?obsL5 ?heL5
                case obsL5 =>
                  refine ⟨?_, ?_, ?_, ?_, ?_, ?_, ?_, ?_, ?_, ?_, ?_, ?_, ?_, ?_, ?_, trivial⟩
                  · exact .inl ⟨by kernel_rfl, fun L a1 w1 n h => ⟨_, rfl, run_loadRow 23 (.tmp 12) g12 23 _ _ rfl (h.var n 12 (by kernel_rfl)) ((r12.later h.inv.1)) Tryd.underlying23 rfl (za.out)⟩⟩
                  · exact .inl ⟨by kernel_rfl, fun L a1 w1 n h => ⟨_, rfl, run_move (.tmp 5) rfl (h.var n 5 (by kernel_rfl))⟩⟩
                  · exact .inl ⟨by kernel_rfl, fun L a1 w1 n h => ⟨_, rfl, run_move (.tmp 11) rfl (h.var n 11 (by kernel_rfl))⟩⟩
                  · exact .inl ⟨by kernel_rfl, fun L a1 w1 n h => ⟨_, rfl, run_indexSlN 31 (.tmp 109) (.tmp 110) 23 32 rb ro rn rc k rfl Tryd.underlying31 Tryd.sizeOf23 (h.dep n 1 109 (by kernel_rfl) rfl) (h.dep n 2 110 (by kernel_rfl) rfl) hqr⟩⟩
                  · exact .inl ⟨by kernel_rfl, fun L a1 w1 n h => ⟨_, rfl, run_loadM 23 (.tmp 111) rb (ro + k * 32) (bv q) _ rfl (h.dep n 3 111 (by kernel_rfl) rfl) (hclA w1 h.inv.1) Tryd.underlying23 rfl zq.out⟩⟩
                  · refine .inr fun L a1 w1 n h K hK => ?_
                    have e0 : a1.eval (.tmp 108) = .agg (bv sa).toArray := h.dep n 0 108 (by kernel_rfl) rfl
                    have e1 : a1.eval (.tmp 112) = .agg (bv q).toArray := h.dep n 4 112 (by kernel_rfl) rfl
                    refine JF.call (FTn16_mono ta2 tb2) h hK 113 rfl 30 _ _ #[.agg (bv sa).toArray, .agg (bv q).toArray] rfl Tryd.call30 ?_ (HTa w1) ?_
                    · simp only [List.map_toArray, List.map_cons, List.map_nil, e0, e1]
                    · rintro e w3 h9
                      obtain ⟨v9, rfl, f9, b9⟩ := SlF.of_ret h9
                      exact ⟨_, rfl, trivial, f9, b9⟩
                  · exact .inl ⟨by kernel_rfl, fun L a1 w1 n h => ⟨_, rfl, run_loadRow 23 (.tmp 13) g13 23 _ _ rfl (h.var n 13 (by kernel_rfl)) ((r13.later h.inv.1)) Tryd.underlying23 rfl (zb.out)⟩⟩
                  · refine .inl ⟨by kernel_rfl, fun L a1 w1 n h => ⟨.pointer (some ⟨g3, 3, none⟩), rfl, ?_⟩⟩
                    have e0 : a1.eval (.tmp 3) = _ := h.var n 3 (by kernel_rfl)
                    unfold execOp
                    simp only [e0]
                    go_simp
                  · exact .inl ⟨by kernel_rfl, fun L a1 w1 n h => ⟨_, rfl, run_loadA 31 (.tmp 115) ⟨g3, 3, none⟩ rfl Tryd.isAgg31 (h.dep n 7 115 (by kernel_rfl) rfl) ((r3.later h.inv.1).cell (j := 3) rfl)⟩⟩
                  · exact .inl ⟨by kernel_rfl, fun L a1 w1 n h => ⟨_, rfl, run_move (.tmp 11) rfl (h.var n 11 (by kernel_rfl))⟩⟩
                  · exact .inl ⟨by kernel_rfl, fun L a1 w1 n h => ⟨_, rfl, run_indexSlN 31 (.tmp 116) (.tmp 117) 23 32 pb po np pc k rfl Tryd.underlying31 Tryd.sizeOf23 (h.dep n 8 116 (by kernel_rfl) rfl) (h.dep n 9 117 (by kernel_rfl) rfl) hqp⟩⟩
                  · exact .inl ⟨by kernel_rfl, fun L a1 w1 n h => ⟨_, rfl, run_loadM 23 (.tmp 118) pb (po + k * 32) (bv q2) _ rfl (h.dep n 10 118 (by kernel_rfl) rfl) (hclB w1 h.inv.1) Tryd.underlying23 rfl zq2.out⟩⟩
                  · refine .inr fun L a1 w1 n h K hK => ?_
                    have e0 : a1.eval (.tmp 114) = .agg (bv sb2).toArray := h.dep n 6 114 (by kernel_rfl) rfl
                    have e1 : a1.eval (.tmp 119) = .agg (bv q2).toArray := h.dep n 11 119 (by kernel_rfl) rfl
                    refine JF.call (FTn16_mono ta2 tb2) h hK 120 rfl 30 _ _ #[.agg (bv sb2).toArray, .agg (bv q2).toArray] rfl Tryd.call30 ?_ (HTb w1) ?_
                    · simp only [List.map_toArray, List.map_cons, List.map_nil, e0, e1]
                    · rintro e w3 h9
                      obtain ⟨v9, rfl, f9, b9⟩ := SlF.of_ret h9
                      exact ⟨_, rfl, trivial, f9, b9⟩
                  · refine .inr fun L a1 w1 n h K hK => ?_
                    obtain ⟨A9, c9, v9, h9⟩ := JF.get h n 5 113 (by kernel_rfl) (by kernel_rfl) rfl
                    exact JF.run (FTn16_mono ta2 tb2) h hK 8 rfl (.slice A9 ta2.length c9) (run_assign (.tmp 113) rfl v9) trivial ⟨A9, c9, rfl, h9⟩
                  · refine .inr fun L a1 w1 n h K hK => ?_
                    obtain ⟨A9, c9, v9, h9⟩ := JF.get h n 12 120 (by kernel_rfl) (by kernel_rfl) rfl
                    exact JF.run (FTn16_mono ta2 tb2) h hK 9 rfl (.slice A9 tb2.length c9) (run_assign (.tmp 120) rfl v9) trivial ⟨A9, c9, rfl, h9⟩
                case heL5 =>
                  intro V w12 hV hJ
                  obtain ⟨A3, c3, v3, h3, l3, m3⟩ := JF.last hJ 13 8 rfl rfl
                  obtain ⟨A4, c4, v4, h4, l4, m4⟩ := JF.last hJ 14 9 rfl rfl
                  have b12 := hJ.1
                  clear hV hJ HTa HTb HNa HNb
                  simp only [putOps, List.setIfInBounds_toArray, List.set_cons_succ, List.set_cons_zero, Nat.reduceAdd]
                  rw [v3, v4]
                  refine hKx _ _ ?_
                  clear v3 v4 m3 m4
                  have b012 := b0.trans (b12.mono b0.size)
                  cases cl with
                  | true =>
                    go_wp2_with fail
                    go_roundw
                    case rel => exact ⟨k + 1, ta2, tb2, true, A3, c3, A4, c4, by omega, rfl, rfl, rfl, by go_num, h3, l3, h4, l4, hI2, b012⟩
                    case measure => simp [intOf]; omega
                  | false =>
                    have hI : InvT la cx ss rs ps (k + 1) ta2 tb2 (clB ta2 tb2) := hI2
                    go_wp2_with fail
                    by_cases heq : ta2 = tb2
                    · refine (equal_dec A3 A4 _ _ c3 c4 ta2 tb2 w12 h3 h4 hI.ba hI.bb true (decide_eq_true heq)).mono ?_
                      rintro e we ⟨rfl, be⟩
                      have hcb : clB ta2 tb2 = false := by unfold clB; rw [decide_eq_true heq]; rfl
                      have HCl := hide hcb
                      clear hcb heq
                      go_wp2_with fail
                      go_roundw
                      case rel => exact ⟨k + 1, ta2, tb2, false, A3, c3, A4, c4, by omega, rfl, rfl, rfl, by go_num, h3.later be, l3, h4.later be, l4, by rw [HCl.out] at hI; exact hI, b012.trans (be.mono b012.size)⟩
                      case measure => simp [intOf]; omega
                    · refine (equal_dec A3 A4 _ _ c3 c4 ta2 tb2 w12 h3 h4 hI.ba hI.bb false (decide_eq_false heq)).mono ?_
                      rintro e we ⟨rfl, be⟩
                      go_wp2_with fail
                      refine (rsum_any ta2 A3 _ c3 we (h3.later be) hI.ba l3 (by have := hI.la_; omega)).mono ?_
                      rintro e wf ⟨rfl, bf⟩
                      go_wp2_with fail
                      refine (rsum_any tb2 A4 _ c4 wf ((h4.later be).later bf) hI.bb l4 (by have := hI.lb_; omega)).mono ?_
                      rintro e wg ⟨rfl, bg⟩
                      have hE := eq32 (sumS ta2) (sumS tb2) (sumS_len _) (sumS_len _)
                      have hcb : clB ta2 tb2 = decide (sumS ta2 = sumS tb2) := by unfold clB; rw [decide_eq_false heq]; rfl
                      have HCl := hide hcb
                      clear hcb heq
                      go_wp2_with (first | rw [hE])
                      go_roundw
                      case rel => exact ⟨k + 1, ta2, tb2, decide (sumS ta2 = sumS tb2), A3, c3, A4, c4, by omega, rfl, rfl, rfl, by go_num, ((h3.later be).later bf).later bg, l3, ((h4.later be).later bf).later bg, l4, by rw [HCl.out] at hI; exact hI, b012.trans (((be.trans (bf.mono be.size)).trans (bg.mono (Nat.le_trans be.size bf.size))).mono b012.size)⟩
                      case measure => simp [intOf]; omega
              | true =>
                have HNa : ∀ w1, Calls Tryd.prog 30 #[.agg (bv q).toArray, .agg (bv (sumS ta)).toArray] w1 (RetBs (stT true (sumS ta) q) w1) := fun w1 => nodeText_any q (sumS ta) w1 hql (sumS_len _)
                have HNb : ∀ w1, Calls Tryd.prog 30 #[.agg (bv q2).toArray, .agg (bv (sumS tb)).toArray] w1 (RetBs (stT true (sumS tb) q2) w1) := fun w1 => nodeText_any q2 (sumS tb) w1 hql2 (sumS_len _)
                have hI2 := hI.step true q q2 hbb hqq hqq2 hql hql2 hqy hqy2
                obtain ⟨ta2, hta2⟩ : ∃ x, x = stT true (sumS ta) q := ⟨_, rfl⟩
                obtain ⟨tb2, htb2⟩ : ∃ x, x = stT true (sumS tb) q2 := ⟨_, rfl⟩
                rw [← hta2] at HNa hI2
                rw [← htb2] at HNb hI2
                have hsl1 := sumS_len ta
                have hsl2 := sumS_len tb
                have HS1 := rsum_any ta A1 _ c1 wr h1 hI.ba l1 (by have := hI.la_; omega)
                have HS2 := fun w1 (hb : Below wr.heap.size wr w1) => rsum_any tb A2 _ c2 w1 (h2.later hb) hI.bb l2 (by have := hI.lb_; omega)
                have hsdv : ∀ w1, Below (wg).heap.size wg w1 → w1.cell? ⟨sb, so + k, none⟩ = some (.int .i64 0) := hcs
                have za := hide (size32b hsl1)
                have zb := hide (size32b hsl2)
                have lza := hide (show (bv (List.replicate 32 0)).length = (bv (sumS ta)).length by rw [bv_len, bv_len, hsl1, List.length_replicate])
                have lzb := hide (show (bv (List.replicate 32 0)).length = (bv (sumS tb)).length by rw [bv_len, bv_len, hsl2, List.length_replicate])
                clear hta2 htb2 hsl1 hsl2 hcs hbb hqq hqq2 hI
                generalize sumS ta = sa at *
                generalize sumS tb = sb2 at *
                have HS2 := hide HS2
                go_wp2_with fail
                refine HS1.mono ?_
                rintro e w5 ⟨rfl, b5⟩
                clear HS1
                go_wp2_with fail
                refine (HS2.out w5 b5).mono ?_
                rintro e w6s ⟨rfl, b6s⟩
                have bs6 := b5.trans (b6s.mono b5.size)
                go_wp2_with (first
                  | ((with_reducible refine wl_alloc (o := ⟨some 12, _, _, _, _, _⟩) rfl 23 _ (bv (List.replicate 32 0)) rfl zero32b rfl ?_); intro g12 w7a r12 p12 l12 b7a)
                  | ((with_reducible refine wl_alloc (o := ⟨some 13, _, _, _, _, _⟩) rfl 23 _ (bv (List.replicate 32 0)) rfl zero32b rfl ?_); intro g13 w8 r13 p13 l13 b8; have r12b := r12.later b8; have n13 : g13 ≠ g12 := (by have := r12.lt; omega))
                  | ((with_reducible refine wl_store_row rfl 23 (.tmp 12) (.tmp 100) g12 23 _ (bv sa) rfl rfl rfl r12b za.out lza.out (bv_one _) ?_); intro w10 r12c o10; have r13b := r13.only o10 n13)
                  | ((with_reducible refine wl_store_row rfl 23 (.tmp 13) (.tmp 102) g13 23 _ (bv sb2) rfl rfl rfl r13b zb.out lzb.out (bv_one _) ?_); intro w11 r13c o11; have r12d := r12c.only o11 (Ne.symm n13); have b11 : Below wr.heap.size wr w11 := (((bs6.trans (b7a.mono bs6.size)).trans (b8.mono (Nat.le_trans bs6.size b7a.size))).trans (o10.below (Nat.le_trans bs6.size p12))).trans (o11.below (Nat.le_trans (Nat.le_trans bs6.size b7a.size) p13)); have cside := hsdv w11 (bk.trans (b11.mono bk.size))))
                have b0 := bk.trans (b11.mono bk.size)
                have r3 := r3.later b11
                have HTa := HNa
                have HTb := HNb
                have r12 := r12d
                have r13 := r13c
                have hclA := fun w1 (hb : Below w11.heap.size w11 w1) => hclA0 w1 (b11.trans (hb.mono b11.size))
                have hclB := fun w1 (hb : Below w11.heap.size w11 w1) => hclB0 w1 (b11.trans (hb.mono b11.size))
                rename_i Kx hKx
                refine wp_region_vals [5, 12, 13, 14] (STn17 sa sb2 q q2 g3 g12 g13 rb ro rn rc pb po np pc k) (JF w11 [5, 12, 13, 14] (FTn17 ta2 tb2)) (by kernel_rfl) (by kernel_rfl) (by kernel_rfl) (by kernel_rfl) (by kernel_rfl) (JF.start _) ?obsL6 ?heL6
                case obsL6 =>
                  refine ⟨?_, ?_, ?_, ?_, ?_, ?_, ?_, ?_, ?_, ?_, ?_, ?_, ?_, ?_, ?_, trivial⟩
                  · exact .inl ⟨by kernel_rfl, fun L a1 w1 n h => ⟨_, rfl, run_move (.tmp 5) rfl (h.var n 5 (by kernel_rfl))⟩⟩
                  · exact .inl ⟨by kernel_rfl, fun L a1 w1 n h => ⟨_, rfl, run_move (.tmp 11) rfl (h.var n 11 (by kernel_rfl))⟩⟩
                  · exact .inl ⟨by kernel_rfl, fun L a1 w1 n h => ⟨_, rfl, run_indexSlN 31 (.tmp 121) (.tmp 122) 23 32 rb ro rn rc k rfl Tryd.underlying31 Tryd.sizeOf23 (h.dep n 0 121 (by kernel_rfl) rfl) (h.dep n 1 122 (by kernel_rfl) rfl) hqr⟩⟩
                  · exact .inl ⟨by kernel_rfl, fun L a1 w1 n h => ⟨_, rfl, run_loadM 23 (.tmp 123) rb (ro + k * 32) (bv q) _ rfl (h.dep n 2 123 (by kernel_rfl) rfl) (hclA w1 h.inv.1) Tryd.underlying23 rfl zq.out⟩⟩
                  · exact .inl ⟨by kernel_rfl, fun L a1 w1 n h => ⟨_, rfl, run_loadRow 23 (.tmp 12) g12 23 _ _ rfl (h.var n 12 (by kernel_rfl)) ((r12.later h.inv.1)) Tryd.underlying23 rfl (za.out)⟩⟩
                  · refine .inr fun L a1 w1 n h K hK => ?_
                    have e0 : a1.eval (.tmp 124) = .agg (bv q).toArray := h.dep n 3 124 (by kernel_rfl) rfl
                    have e1 : a1.eval (.tmp 125) = .agg (bv sa).toArray := h.dep n 4 125 (by kernel_rfl) rfl
                    refine JF.call (FTn17_mono ta2 tb2) h hK 126 rfl 30 _ _ #[.agg (bv q).toArray, .agg (bv sa).toArray] rfl Tryd.call30 ?_ (HTa w1) ?_
                    · simp only [List.map_toArray, List.map_cons, List.map_nil, e0, e1]
                    · rintro e w3 h9
                      obtain ⟨v9, rfl, f9, b9⟩ := SlF.of_ret h9
                      exact ⟨_, rfl, trivial, f9, b9⟩
                  · refine .inl ⟨by kernel_rfl, fun L a1 w1 n h => ⟨.pointer (some ⟨g3, 3, none⟩), rfl, ?_⟩⟩
                    have e0 : a1.eval (.tmp 3) = _ := h.var n 3 (by kernel_rfl)
                    unfold execOp
                    simp only [e0]
                    go_simp
                  · exact .inl ⟨by kernel_rfl, fun L a1 w1 n h => ⟨_, rfl, run_loadA 31 (.tmp 127) ⟨g3, 3, none⟩ rfl Tryd.isAgg31 (h.dep n 6 127 (by kernel_rfl) rfl) ((r3.later h.inv.1).cell (j := 3) rfl)⟩⟩
                  · exact .inl ⟨by kernel_rfl, fun L a1 w1 n h => ⟨_, rfl, run_move (.tmp 11) rfl (h.var n 11 (by kernel_rfl))⟩⟩
                  · exact .inl ⟨by kernel_rfl, fun L a1 w1 n h => ⟨_, rfl, run_indexSlN 31 (.tmp 128) (.tmp 129) 23 32 pb po np pc k rfl Tryd.underlying31 Tryd.sizeOf23 (h.dep n 7 128 (by kernel_rfl) rfl) (h.dep n 8 129 (by kernel_rfl) rfl) hqp⟩⟩
                  · exact .inl ⟨by kernel_rfl, fun L a1 w1 n h => ⟨_, rfl, run_loadM 23 (.tmp 130) pb (po + k * 32) (bv q2) _ rfl (h.dep n 9 130 (by kernel_rfl) rfl) (hclB w1 h.inv.1) Tryd.underlying23 rfl zq2.out⟩⟩
                  · exact .inl ⟨by kernel_rfl, fun L a1 w1 n h => ⟨_, rfl, run_loadRow 23 (.tmp 13) g13 23 _ _ rfl (h.var n 13 (by kernel_rfl)) ((r13.later h.inv.1)) Tryd.underlying23 rfl (zb.out)⟩⟩
                  · refine .inr fun L a1 w1 n h K hK => ?_
                    have e0 : a1.eval (.tmp 131) = .agg (bv q2).toArray := h.dep n 10 131 (by kernel_rfl) rfl
                    have e1 : a1.eval (.tmp 132) = .agg (bv sb2).toArray := h.dep n 11 132 (by kernel_rfl) rfl
                    refine JF.call (FTn17_mono ta2 tb2) h hK 133 rfl 30 _ _ #[.agg (bv q2).toArray, .agg (bv sb2).toArray] rfl Tryd.call30 ?_ (HTb w1) ?_
                    · simp only [List.map_toArray, List.map_cons, List.map_nil, e0, e1]
                    · rintro e w3 h9
                      obtain ⟨v9, rfl, f9, b9⟩ := SlF.of_ret h9
                      exact ⟨_, rfl, trivial, f9, b9⟩
                  · refine .inr fun L a1 w1 n h K hK => ?_
                    obtain ⟨A9, c9, v9, h9⟩ := JF.get h n 5 126 (by kernel_rfl) (by kernel_rfl) rfl
                    exact JF.run (FTn17_mono ta2 tb2) h hK 8 rfl (.slice A9 ta2.length c9) (run_assign (.tmp 126) rfl v9) trivial ⟨A9, c9, rfl, h9⟩
                  · refine .inr fun L a1 w1 n h K hK => ?_
                    obtain ⟨A9, c9, v9, h9⟩ := JF.get h n 12 133 (by kernel_rfl) (by kernel_rfl) rfl
                    exact JF.run (FTn17_mono ta2 tb2) h hK 9 rfl (.slice A9 tb2.length c9) (run_assign (.tmp 133) rfl v9) trivial ⟨A9, c9, rfl, h9⟩
                case heL6 =>
                  intro V w12 hV hJ
                  obtain ⟨A3, c3, v3, h3, l3, m3⟩ := JF.last hJ 13 8 rfl rfl
                  obtain ⟨A4, c4, v4, h4, l4, m4⟩ := JF.last hJ 14 9 rfl rfl
                  have b12 := hJ.1
                  clear hV hJ HTa HTb HNa HNb
                  simp only [putOps, List.setIfInBounds_toArray, List.set_cons_succ, List.set_cons_zero, Nat.reduceAdd]
                  rw [v3, v4]
                  refine hKx _ _ ?_
                  clear v3 v4 m3 m4
                  have b012 := b0.trans (b12.mono b0.size)
                  cases cl with
                  | true =>
                    go_wp2_with fail
                    go_roundw
                    case rel => exact ⟨k + 1, ta2, tb2, true, A3, c3, A4, c4, by omega, rfl, rfl, rfl, by go_num, h3, l3, h4, l4, hI2, b012⟩
                    case measure => simp [intOf]; omega
                  | false =>
                    have hI : InvT la cx ss rs ps (k + 1) ta2 tb2 (clB ta2 tb2) := hI2
                    go_wp2_with fail
                    by_cases heq : ta2 = tb2
                    · refine (equal_dec A3 A4 _ _ c3 c4 ta2 tb2 w12 h3 h4 hI.ba hI.bb true (decide_eq_true heq)).mono ?_
                      rintro e we ⟨rfl, be⟩
                      have hcb : clB ta2 tb2 = false := by unfold clB; rw [decide_eq_true heq]; rfl
                      have HCl := hide hcb
                      clear hcb heq
                      go_wp2_with fail
                      go_roundw
                      case rel => exact ⟨k + 1, ta2, tb2, false, A3, c3, A4, c4, by omega, rfl, rfl, rfl, by go_num, h3.later be, l3, h4.later be, l4, by rw [HCl.out] at hI; exact hI, b012.trans (be.mono b012.size)⟩
                      case measure => simp [intOf]; omega
                    · refine (equal_dec A3 A4 _ _ c3 c4 ta2 tb2 w12 h3 h4 hI.ba hI.bb false (decide_eq_false heq)).mono ?_
                      rintro e we ⟨rfl, be⟩
                      go_wp2_with fail
                      refine (rsum_any ta2 A3 _ c3 we (h3.later be) hI.ba l3 (by have := hI.la_; omega)).mono ?_
                      rintro e wf ⟨rfl, bf⟩
                      go_wp2_with fail
                      refine (rsum_any tb2 A4 _ c4 wf ((h4.later be).later bf) hI.bb l4 (by have := hI.lb_; omega)).mono ?_
                      rintro e wg ⟨rfl, bg⟩
                      have hE := eq32 (sumS ta2) (sumS tb2) (sumS_len _) (sumS_len _)
                      have hcb : clB ta2 tb2 = decide (sumS ta2 = sumS tb2) := by unfold clB; rw [decide_eq_false heq]; rfl
                      have HCl := hide hcb
                      clear hcb heq
                      go_wp2_with (first | rw [hE])
                      go_roundw
                      case rel => exact ⟨k + 1, ta2, tb2, decide (sumS ta2 = sumS tb2), A3, c3, A4, c4, by omega, rfl, rfl, rfl, by go_num, ((h3.later be).later bf).later bg, l3, ((h4.later be).later bf).later bg, l4, by rw [HCl.out] at hI; exact hI, b012.trans (((be.trans (bf.mono be.size)).trans (bg.mono (Nat.le_trans be.size bf.size))).mono b012.size)⟩
                      case measure => simp [intOf]; omega
            · have hd9 : decide ((k : Int) < (ss.length : Int)) = false := by simp; omega
              have hLc := fun w1 (hb : Below wr.heap.size wr w1) => hLc0 w1 (Bk.trans (hb.mono Bk.size))
              have H5 := fun w1 (hb : Below wr.heap.size wr w1) => tawake_any w1 (hT.later (Bk.trans (hb.mono Bk.size)))
              by_cases hcxla : cx = la
              · have HE := fun w1 (hb : Below wr.heap.size wr w1) => equal_dec CA LA m lm cc lc cx la w1 (hcx.later (Bk.trans (hb.mono Bk.size))) (hbl.later (Bk.trans (hb.mono Bk.size))) hcby hlaby true (decide_eq_true hcxla)
                clear h1 h2 hI hcx hbl hT hLc0
                go_wp2_with fail
                rename_i K9 hK9
                refine wp_region_valsS [7, 12] (STn19 b o nn c g3 i m cc np pc lm lc LA CA PA N cl) (JR wr) (by kernel_rfl) (by kernel_rfl) (by kernel_rfl) (by kernel_rfl) (Below.refl _ _).drew ?obsE7 ?heE7
                case obsE7 =>
                  refine ⟨?_, ?_, ?_, ?_, ?_, ?_, ?_, ?_, ?_, ?_, ?_, ?_, ?_, ?_, ?_, trivial⟩
                  · refine .inl ⟨.inl rfl, ?_⟩
                    refine .inl ⟨by kernel_rfl, fun L a1 w1 n h => ⟨.pointer (some ⟨g3, 2, none⟩), rfl, ?_⟩⟩
                    have e0 : a1.eval (.tmp 3) = _ := h.var n 3 (by kernel_rfl)
                    unfold execOp
                    simp only [e0]
                    go_simp
                  · refine .inl ⟨.inl rfl, ?_⟩
                    exact .inl ⟨by kernel_rfl, fun L a1 w1 n h => ⟨_, rfl, run_loadA 22 (.tmp 148) ⟨g3, 2, none⟩ rfl Tryd.isAgg22 (h.dep n 0 148 (by kernel_rfl) rfl) ((Row.later r3 h.inv).cell (j := 2) (v := .slice CA m cc) rfl)⟩⟩
                  · refine .inl ⟨.inl rfl, ?_⟩
                    exact .inl ⟨by kernel_rfl, fun L a1 w1 n h => ⟨_, rfl, run_move (.tmp 0) rfl (h.var n 0 (by kernel_rfl))⟩⟩
                  · refine .inl ⟨.inl rfl, ?_⟩
                    refine .inl ⟨by kernel_rfl, fun L a1 w1 n h => ⟨.pointer (some ⟨g3, 1, none⟩), rfl, ?_⟩⟩
                    have e0 : a1.eval (.tmp 3) = _ := h.var n 3 (by kernel_rfl)
                    unfold execOp
                    simp only [e0]
                    go_simp
                  · refine .inl ⟨.inl rfl, ?_⟩
                    exact .inl ⟨by kernel_rfl, fun L a1 w1 n h => ⟨_, rfl, run_loadA 3 (.tmp 151) ⟨g3, 1, none⟩ rfl Tryd.isAgg3 (h.dep n 3 151 (by kernel_rfl) rfl) ((Row.later r3 h.inv).cell (j := 1) (v := .int .i64 (i : Int)) rfl)⟩⟩
                  · refine .inl ⟨.inl rfl, ?_⟩
                    exact .inl ⟨by kernel_rfl, fun L a1 w1 n h => ⟨_, rfl, run_indexSl 28 (.tmp 150) (.tmp 152) 22 b o nn c i rfl Tryd.underlying28 Tryd.sizeOf22 (h.dep n 2 150 (by kernel_rfl) rfl) (h.dep n 4 152 (by kernel_rfl) rfl) hin⟩⟩
                  · refine .inl ⟨.inl rfl, ?_⟩
                    exact .inl ⟨by kernel_rfl, fun L a1 w1 n h => ⟨_, rfl, run_loadA 22 (.tmp 153) ⟨b, o + i, none⟩ rfl Tryd.isAgg22 (h.dep n 5 153 (by kernel_rfl) rfl) (hLc w1 h.inv)⟩⟩
                  · refine .inl ⟨.inl rfl, ?_⟩
                    refine .inr fun L a1 w1 n h K hK => ?_
                    have e0 : a1.eval (.tmp 149) = .slice CA m cc := h.dep n 1 149 (by kernel_rfl) rfl
                    have e1 : a1.eval (.tmp 154) = .slice LA lm lc := h.dep n 6 154 (by kernel_rfl) rfl
                    refine st_call 28 _ _ #[.slice CA m cc, .slice LA lm lc] rfl Tryd.call28 ?_ (HE w1 h.inv) ?_
                    · simp only [List.map_toArray, List.map_cons, List.map_nil, e0, e1]
                    · rintro e w3 ⟨rfl, b9⟩
                      exact ⟨_, rfl, hK _ w3 rfl (h.inv.trans (b9.mono h.inv.size))⟩
                  · refine .inl ⟨.inl rfl, ?_⟩
                    exact .inl ⟨by kernel_rfl, fun L a1 w1 n h => ⟨_, rfl, run_move (.tmp 155) rfl (h.dep n 7 155 (by kernel_rfl) rfl)⟩⟩
                  · exact .inr ⟨⟨8, false, 156, rfl, by kernel_rfl, rfl, by simp, fun v h => by rw [show v = .bool true from h]; first | exact ne_tf | exact ne_ft | exact ne_undef _⟩, by kernel_rfl, rfl⟩
                  · refine .inl ⟨.inl rfl, ?_⟩
                    exact .inl ⟨by kernel_rfl, fun L a1 w1 n h => ⟨_, rfl, run_pickT (.tmp 156) _ _ rfl (h.dep n 8 156 (by kernel_rfl) rfl) rfl⟩⟩
                  · refine .inl ⟨.inl rfl, ?_⟩
                    exact .inl ⟨by kernel_rfl, fun L a1 w1 n h => ⟨_, rfl, run_move (.tmp 158) rfl (h.dep n 10 158 (by kernel_rfl) rfl)⟩⟩
                  · refine .inl ⟨.inr ⟨11, true, 159, rfl, by kernel_rfl, rfl, by simp, fun v h => h⟩, ?_⟩
                    refine .inr fun L a1 w1 n h K hK => ?_
                    refine st_call 10 _ _ #[] rfl Tryd.call10 ?_ (H5 w1 h.inv) ?_
                    · simp
                    · rintro e w3 ⟨rfl, b9⟩
                      exact ⟨_, rfl, hK _ w3 rfl (h.inv.trans (b9.mono h.inv.size))⟩
                  · refine .inl ⟨.inl rfl, ?_⟩
                    exact .inl ⟨by kernel_rfl, fun L a1 w1 n h => ⟨_, rfl, run_pickT (.tmp 159) _ _ rfl (h.dep n 11 159 (by kernel_rfl) rfl) (h.dep n 12 160 (by kernel_rfl) rfl)⟩⟩
                  · refine .inl ⟨.inl rfl, ?_⟩
                    exact .inl ⟨by kernel_rfl, fun L a1 w1 n h => ⟨_, rfl, run_assign (.tmp 161) rfl (h.dep n 13 161 (by kernel_rfl) rfl)⟩⟩
                case heE7 =>
                  intro V wz hV hJ
                  have bz : Below wr.heap.size wr wz := hJ
                  have hv : V 14 = .bool true := hV 14 4 rfl
                  clear hV hJ
                  simp only [putOps, List.setIfInBounds_toArray, List.set_cons_succ, List.set_cons_zero, Nat.reduceAdd]
                  rw [hv]
                  refine hK9 _ _ ?_
                  go_wp2_with fail
                  go_ret
                  exact ⟨rfl, Bk.trans (bz.mono Bk.size)⟩
              · have hcl : cl = true := by
                  cases cl with
                  | true => rfl
                  | false => exact absurd (hfin.out k ta tb false hI (by omega) rfl).symm hcxla
                subst hcl
                have HE := fun w1 (hb : Below wr.heap.size wr w1) => equal_dec CA LA m lm cc lc cx la w1 (hcx.later (Bk.trans (hb.mono Bk.size))) (hbl.later (Bk.trans (hb.mono Bk.size))) hcby hlaby false (decide_eq_false hcxla)
                clear h1 h2 hI hcx hbl hT hLc0
                go_wp2_with fail
                rename_i K9 hK9
                refine wp_region_valsS [7, 12] (STn20 b o nn c g3 i m cc np pc lm lc LA CA PA N) (JR wr) (by kernel_rfl) (by kernel_rfl) (by kernel_rfl) (by kernel_rfl) (Below.refl _ _).drew ?obsE8 ?heE8
                case obsE8 =>
                  refine ⟨?_, ?_, ?_, ?_, ?_, ?_, ?_, ?_, ?_, ?_, ?_, ?_, ?_, ?_, ?_, trivial⟩
                  · refine .inl ⟨.inl rfl, ?_⟩
                    refine .inl ⟨by kernel_rfl, fun L a1 w1 n h => ⟨.pointer (some ⟨g3, 2, none⟩), rfl, ?_⟩⟩
                    have e0 : a1.eval (.tmp 3) = _ := h.var n 3 (by kernel_rfl)
                    unfold execOp
                    simp only [e0]
                    go_simp
                  · refine .inl ⟨.inl rfl, ?_⟩
                    exact .inl ⟨by kernel_rfl, fun L a1 w1 n h => ⟨_, rfl, run_loadA 22 (.tmp 148) ⟨g3, 2, none⟩ rfl Tryd.isAgg22 (h.dep n 0 148 (by kernel_rfl) rfl) ((Row.later r3 h.inv).cell (j := 2) (v := .slice CA m cc) rfl)⟩⟩
                  · refine .inl ⟨.inl rfl, ?_⟩
                    exact .inl ⟨by kernel_rfl, fun L a1 w1 n h => ⟨_, rfl, run_move (.tmp 0) rfl (h.var n 0 (by kernel_rfl))⟩⟩
                  · refine .inl ⟨.inl rfl, ?_⟩
                    refine .inl ⟨by kernel_rfl, fun L a1 w1 n h => ⟨.pointer (some ⟨g3, 1, none⟩), rfl, ?_⟩⟩
                    have e0 : a1.eval (.tmp 3) = _ := h.var n 3 (by kernel_rfl)
                    unfold execOp
                    simp only [e0]
                    go_simp
                  · refine .inl ⟨.inl rfl, ?_⟩
                    exact .inl ⟨by kernel_rfl, fun L a1 w1 n h => ⟨_, rfl, run_loadA 3 (.tmp 151) ⟨g3, 1, none⟩ rfl Tryd.isAgg3 (h.dep n 3 151 (by kernel_rfl) rfl) ((Row.later r3 h.inv).cell (j := 1) (v := .int .i64 (i : Int)) rfl)⟩⟩
                  · refine .inl ⟨.inl rfl, ?_⟩
                    exact .inl ⟨by kernel_rfl, fun L a1 w1 n h => ⟨_, rfl, run_indexSl 28 (.tmp 150) (.tmp 152) 22 b o nn c i rfl Tryd.underlying28 Tryd.sizeOf22 (h.dep n 2 150 (by kernel_rfl) rfl) (h.dep n 4 152 (by kernel_rfl) rfl) hin⟩⟩
                  · refine .inl ⟨.inl rfl, ?_⟩
                    exact .inl ⟨by kernel_rfl, fun L a1 w1 n h => ⟨_, rfl, run_loadA 22 (.tmp 153) ⟨b, o + i, none⟩ rfl Tryd.isAgg22 (h.dep n 5 153 (by kernel_rfl) rfl) (hLc w1 h.inv)⟩⟩
                  · refine .inl ⟨.inl rfl, ?_⟩
                    refine .inr fun L a1 w1 n h K hK => ?_
                    have e0 : a1.eval (.tmp 149) = .slice CA m cc := h.dep n 1 149 (by kernel_rfl) rfl
                    have e1 : a1.eval (.tmp 154) = .slice LA lm lc := h.dep n 6 154 (by kernel_rfl) rfl
                    refine st_call 28 _ _ #[.slice CA m cc, .slice LA lm lc] rfl Tryd.call28 ?_ (HE w1 h.inv) ?_
                    · simp only [List.map_toArray, List.map_cons, List.map_nil, e0, e1]
                    · rintro e w3 ⟨rfl, b9⟩
                      exact ⟨_, rfl, hK _ w3 rfl (h.inv.trans (b9.mono h.inv.size))⟩
                  · refine .inl ⟨.inl rfl, ?_⟩
                    exact .inl ⟨by kernel_rfl, fun L a1 w1 n h => ⟨_, rfl, run_move (.tmp 155) rfl (h.dep n 7 155 (by kernel_rfl) rfl)⟩⟩
                  · refine .inl ⟨.inr ⟨8, false, 156, rfl, by kernel_rfl, rfl, by simp, fun v h => h⟩, ?_⟩
                    exact .inl ⟨by kernel_rfl, fun L a1 w1 n h => ⟨_, rfl, run_move (.tmp 10) rfl (h.var n 10 (by kernel_rfl))⟩⟩
                  · refine .inl ⟨.inl rfl, ?_⟩
                    exact .inl ⟨by kernel_rfl, fun L a1 w1 n h => ⟨_, rfl, run_pickF (.tmp 156) _ _ rfl (h.dep n 8 156 (by kernel_rfl) rfl) (h.dep n 9 157 (by kernel_rfl) rfl)⟩⟩
                  · refine .inl ⟨.inl rfl, ?_⟩
                    exact .inl ⟨by kernel_rfl, fun L a1 w1 n h => ⟨_, rfl, run_move (.tmp 158) rfl (h.dep n 10 158 (by kernel_rfl) rfl)⟩⟩
                  · refine .inl ⟨.inr ⟨11, true, 159, rfl, by kernel_rfl, rfl, by simp, fun v h => h⟩, ?_⟩
                    refine .inr fun L a1 w1 n h K hK => ?_
                    refine st_call 10 _ _ #[] rfl Tryd.call10 ?_ (H5 w1 h.inv) ?_
                    · simp
                    · rintro e w3 ⟨rfl, b9⟩
                      exact ⟨_, rfl, hK _ w3 rfl (h.inv.trans (b9.mono h.inv.size))⟩
                  · refine .inl ⟨.inl rfl, ?_⟩
                    exact .inl ⟨by kernel_rfl, fun L a1 w1 n h => ⟨_, rfl, run_pickT (.tmp 159) _ _ rfl (h.dep n 11 159 (by kernel_rfl) rfl) (h.dep n 12 160 (by kernel_rfl) rfl)⟩⟩
                  · refine .inl ⟨.inl rfl, ?_⟩
                    exact .inl ⟨by kernel_rfl, fun L a1 w1 n h => ⟨_, rfl, run_assign (.tmp 161) rfl (h.dep n 13 161 (by kernel_rfl) rfl)⟩⟩
                case heE8 =>
                  intro V wz hV hJ
                  have bz : Below wr.heap.size wr wz := hJ
                  have hv : V 14 = .bool true := hV 14 4 rfl
                  clear hV hJ
                  simp only [putOps, List.setIfInBounds_toArray, List.set_cons_succ, List.set_cons_zero, Nat.reduceAdd]
                  rw [hv]
                  refine hK9 _ _ ?_
                  go_wp2_with fail
                  go_ret
                  exact ⟨rfl, Bk.trans (bz.mono Bk.size)⟩
end Go.Proofs.YtbolfkigiachlaaDoor

/- Proved: the law TreeBinds (P12.5) answers true and leaves its arguments as they read before. For every list of lists of bytes and every claim; no condition but the tie of the tables of sha and math/bits to the program's text. -/
namespace Go.Proofs.YtbolfkigiachlaaDoor.treeBinds
open Go.ChangeShapes Go.WideShapes Go.ChangeAt Go.WideMaps Go.WideElems Go.RowKit

theorem own : ownKnob Tryd.prog.godebug = none := by kernel_rfl
theorem laidOut : laidOutB Tryd.prog = true := by kernel_rfl
theorem door_met (os : Os) (args : Array Value) : laidMetH Tryd.prog laid4 ((World.doorLaid Tryd.prog 400 os).forCall (fun _ _ => 0) ⟨#[], args, []⟩).memory :=
  laidMetH_of_parts3 (fuel := 8) (laidMet_of_run' 8 (by kernel_rfl) (by kernel_rfl)) (by kernel_rfl) (by kernel_rfl)

set_option maxRecDepth 100000 in
theorem lifted (os : Os) (started : os.Started) (H : Type) (enc : TypeId × Value → H) :
    ReturnsInHanded {} Tryd.checked os 9 .any (fun w args => (Rows.treeBindsSpec.pre enc Tryd.prog Tryd.f9 [] false w args ∧ laidMetH Tryd.prog laid4 w) ∧ sizedMet enc Tryd.prog Tryd.f9 (OpenSpec.ofChange Rows.treeBindsSpec) false w args)
      (Rows.treeBindsSpec.post enc Tryd.prog Tryd.f9 false true false false) := by
  refine returnsInHanded_of_change_and (C := Tryd.checked) (X := fun w _ => laidMetH Tryd.prog laid4 w) (fun _ _ _ hh h => h.of_heap hh) own started (by kernel_rfl) Tryd.func9
    (ChangeSpec.witness_shaped (enc := enc) (C := Tryd.checked) (os := os) (X := fun w _ => laidMetH Tryd.prog laid4 w) false (World.doorLaid Tryd.prog 400 os) #[.slice none 0 0, .agg [Value.int .i64 0, .int .i64 0, .slice none 0 0, .slice none 0 0].toArray] 8 rfl (World.shaped_of_RefB (by kernel_rfl) (by kernel_rfl)) (by kernel_rfl) (by kernel_rfl) (by kernel_rfl) (door_met os _)) ?_
  intro W base args ds gs before hval0 hW _ _ hL _
  have hval : ∀ (j : Nat) t v, Tryd.f9.params[j]? = some t → args[j]? = some v → Value.okWide Tryd.prog W .any base t v := hval0
  have hW' := hW
  obtain ⟨p, q, hA0, hV, rfl, hfz, hnd⟩ := hW
  have hA : DataW.TrodAll enc Tryd.prog W 0 (fun _ => true) true Tryd.f9.params.toList args.toList ds p := hA0
  rw [Tryd.params9] at hA hval
  obtain ⟨v0, vs0, d0, ds0, p0, q0, hargs, rfl, rfl, h0, r0⟩ := trodAll_cons hA
  obtain ⟨v1, vs1, d1, ds1, p1, q1, rfl, rfl, rfl, h1, r1⟩ := trodAll_cons r0
  obtain ⟨rfl, rfl, rfl⟩ := trodAll_nil r1
  obtain rfl : args = #[v0, v1] := by cases args; simp_all
  obtain ⟨rfl, rfl⟩ := trodVars_none hV
  obtain ⟨a0, len0, cap0, rfl⟩ := okWide_slice Tryd.underlying28 (hval 0 28 v0 rfl rfl)
  have k0 := h0
  have lt0 : ∀ x ∈ p0, x.block < W.heap.size := by obtain ⟨m, hm⟩ := k0; exact DataW.trod_lt m _ _ _ hm
  have k1 := h1
  have lt1 : ∀ x ∈ p1, x.block < W.heap.size := by obtain ⟨m, hm⟩ := k1; exact DataW.trod_lt m _ _ _ hm
  clear hA0 hval0
  have hT : Tb4 W := tb4_of_laid hL
  obtain ⟨xss, b1, by1, hc1⟩ := trod_bssK Tryd.underlying28 (by kernel_rfl) Tryd.underlying22 Tryd.underlying5 (by kernel_rfl) k0
  obtain ⟨cs1, rfl⟩ : ∃ cs : List Value, v1 = .agg cs.toArray := by
    have := hval 1 36 v1 rfl rfl
    obtain ⟨cs, rfl, _⟩ : ∃ cs, v1 = .agg cs ∧ cs.size = Tryd.prog.cellsOf 36 ∧ Row.okWide Tryd.prog W .any base 36 cs := by
      simpa [Value.okWide, Tryd.underlying36] using this
    exact ⟨cs.toList, by simp⟩
  obtain ⟨N, I, CA, PA, m, c, pc, cx, ps, hcs, hN, hbx, hby, hmc, hSm, hpc⟩ : ∃ (N I : Int) (A PA : Option Addr) (m c pc : Nat) (xs : List Int) (ps : List (List Int)), cs1 = [.int .i64 N, .int .i64 I, .slice A m c, .slice PA ps.length pc] ∧ N < 9223372036854775808 ∧ Bs W W.heap.size A m xs ∧ IsBy xs ∧ m ≤ c ∧ Sms W W.heap.size PA ps ∧ ps.length ≤ pc := by
    obtain ⟨fuel, hf⟩ := k1
    exact open_claim hf
  subst hcs
  refine (treeBinds_any xss a0 len0 cap0 N I cx ps CA PA m c pc W hT b1 by1 hc1 hbx hby hmc hSm).mono fun e W' ⟨he, bel⟩ => ?_
  subst he
  exact ⟨_, rfl, _, _, _, [], _, [], hW', trodAll_mk1 (shut_bool Tryd.underlying4 _), (trodAll_cons_mk (Below.trod laidOut (by kernel_rfl) (of_decide_eq_true (by kernel_rfl)) k0 bel lt0) (trodAll_cons_mk (Below.trod laidOut (by kernel_rfl) (of_decide_eq_true (by kernel_rfl)) k1 bel lt1) trodAll_mk0)), rfl, bel.frame _, fun h => by cases h⟩

theorem over : Rows.TreeBindsSaid :=
  OpenClaim.holds_of_wide 9 Tryd.f9 rfl rfl rfl rfl rfl rfl rfl ⟨rfl, rfl, rfl, rfl, rfl⟩ rfl rfl rfl rfl rfl (by kernel_rfl) Tryd.func9 (by kernel_rfl)
    (of_decide_eq_true (by kernel_rfl)) (by unfold Func.isWrapper; first | (rw [if_pos (by decide +kernel)]; kernel_rfl) | (rw [if_neg (by decide +kernel)]; exact ⟨rfl, rfl⟩))
    (fun os started H enc _ => lifted os started H enc)

/-- The given statement. -/
theorem proved : Rows.TreeBindsCardSaid :=
  Claim7.holds_tied_plain_at .later [] [.data, .data, .data, .data] true (true, "b0648fd518c4990ce08bac7685aa8f2f5a1b9293710d0082bfd0a6ad335a5abc") false
    over (fun _ h => by cases h) (by kernel_rfl) (fun _ h => by cases h) treeBinds_row_tie rfl ⟨rfl, rfl⟩ (by kernel_rfl) rfl
    (fun f fn hf hfn => by
      obtain rfl : f = 9 := Option.some.inj ((show Tryd.prog.funcNamed "intaglio/intagliolaw12.TreeBinds" = some 9 by kernel_rfl).symm.trans hf) |>.symm
      obtain rfl : fn = Tryd.f9 := (Option.some.inj (Tryd.func9.symm.trans hfn)).symm
      exact ⟨by kernel_rfl, fun j t ht => by
        rw [Tryd.params9] at ht
        have hm : t ∈ [28, 36] := by simpa using Array.mem_of_getElem? ht
        have hall : ([28, 36].all fun u => !Tryd.prog.wantsStandIn u) = true := by kernel_rfl
        exact (show Tryd.prog.wantsStandIn t = false by simpa using List.all_eq_true.1 hall t hm)⟩)
    (by kernel_rfl)
#print axioms proved
end Go.Proofs.YtbolfkigiachlaaDoor.treeBinds
