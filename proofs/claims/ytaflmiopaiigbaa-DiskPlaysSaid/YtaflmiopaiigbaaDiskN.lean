/-
  The disk: what a crash leaves of a file. Own work.
-/
import Derived.Test.YtaflmiopaiigbaaDiskM
namespace Go.Proofs.Ytaflmiopaiigbaa
open Go.RowKit Go.Maps Go.ChangeMaps
set_option linter.unusedVariables false
set_option linter.unusedSimpArgs false
theorem w64i (m : Int) (h : -9223372036854775808 ≤ m ∧ m ≤ 9223372036854775807) : IntKind.i64.wrap m = m := by rw [IntKind.wrap_i64]; omega
theorem w64u (m : Int) (h : 0 ≤ m ∧ m ≤ 18446744073709551615) : IntKind.u64.wrap m = m := by
  rw [IntKind.wrap_u64]
  omega
theorem szF (A : Option Addr) (m c : Nat) (k : Int) : (Try.prog.info? 86).map (·.size) = some [Value.slice A m c, Value.int .i64 k].length := by kernel_rfl
theorem oneF (A : Option Addr) (m c : Nat) (k : Int) : ∀ u ∈ [Value.slice A m c, Value.int .i64 k], u.oneCell' = true := by intro u hu; simp at hu; rcases hu with rfl | rfl <;> rfl
/-- How many of a file's loose bytes stay. -/
def tornR (cut : Int) (d : Nat) : Nat := ((IntKind.u64.wrap cut).tmod ((d : Int) + 1)).toNat
theorem tornR_eq (cut : Int) (d : Nat) : (IntKind.u64.wrap cut).tmod ((d : Int) + 1) = (tornR cut d : Nat) ∧ tornR cut d ≤ d := by
  have h0 := wrap_u64_nonneg cut
  have h1 := Int.tmod_eq_emod_of_nonneg (b := ((d : Int) + 1)) h0
  have h2 := Int.emod_nonneg (IntKind.u64.wrap cut) (show ((d : Int) + 1) ≠ 0 by omega)
  have h3 := Int.emod_lt_of_pos (IntKind.u64.wrap cut) (show (0 : Int) < (d : Int) + 1 by omega)
  unfold tornR
  rw [h1]
  omega
def STo (g2 g4 : Nat) (A : Option Addr) (M C kk dd rr : Nat) (cut : Int) (opn : Nat) (v : Value) : Prop :=
  match opn with
  | 0 => v = .pointer (some ⟨g2, 0, none⟩)
  | 1 => v = .slice A M C
  | 2 => v = .pointer (some ⟨g2, 1, none⟩)
  | 3 => v = .int .i64 (kk : Int)
  | 4 => v = .int .i64 cut
  | 5 => v = .int .u64 (IntKind.u64.wrap cut)
  | 6 => v = .int .i64 ((M : Int) - (kk : Int))
  | 7 => v = .int .i64 ((dd : Int) + 1)
  | 8 => v = .int .u64 ((dd : Int) + 1)
  | 9 => v = .int .u64 (rr : Int)
  | 10 => v = .int .i64 (rr : Int)
  | 11 => v = .int .i64 ((kk + rr : Nat) : Int)
  | 12 => v = .slice A (kk + rr) C
  | 13 => v = .agg #[.slice A (kk + rr) C, .int .i64 ((kk + rr : Nat) : Int)]
  | _ => True

set_option maxRecDepth 100000 in
theorem torn_any (w : World) (A : Option Addr) (M C kk : Nat) (cut : Int) (hk : kk ≤ M) (hM : M ≤ 1048576) (hC : M ≤ C) :
    Calls Try.prog 62 #[.agg #[.slice A M C, .int .i64 (kk : Int)], .int .i64 cut] w fun e w' => e = .returned (.agg #[.slice A (kk + tornR cut (M - kk)) C, .int .i64 ((kk + tornR cut (M - kk) : Nat) : Int)]) ∧ Below w.heap.size w w' := by
  obtain ⟨hr, hle⟩ := tornR_eq cut (M - kk)
  have hwc := wrap_u64_nonneg cut
  obtain ⟨dd, hdd⟩ : ∃ dd, dd = M - kk := ⟨_, rfl⟩
  rw [← hdd] at hr hle ⊢
  generalize tornR cut dd = rr at hr hle ⊢
  have hS1 := fun w => run_sliceTo (P := Try.prog) w 35 5 1 Try.underlying35 Try.sizeOf5 A M C .i64 ((kk + rr : Nat) : Int) (kk + rr) rfl (by omega)
  have hsub : wrap64 ((M : Int) - (kk : Int)) = (dd : Int) := by unfold wrap64; omega
  have hq1 : dd ≤ 1048576 := by omega
  have hq2 : kk + rr ≤ 1048576 := by omega
  have hA7 : IntKind.i64.wrap ((M : Int) - (kk : Int) + 1) = (dd : Int) + 1 := by rw [w64i _ ⟨by omega, by omega⟩]; omega
  have hA8 : IntKind.u64.wrap ((dd : Int) + 1) = (dd : Int) + 1 := w64u _ ⟨by omega, by omega⟩
  have hA9 : ¬ (dd : Int) + 1 = 0 := by omega
  have hA10 : IntKind.i64.wrap (rr : Int) = (rr : Int) := w64i _ ⟨by omega, by omega⟩
  have hA11 : IntKind.i64.wrap ((kk : Int) + (rr : Int)) = (kk : Int) + (rr : Int) := w64i _ ⟨by omega, by omega⟩
  clear hdd hsub
  go_enter Try.func62, Try.ntmps62
  go_wp2_with (first
    | ((with_reducible refine wl_box rfl 86 _ _ [.slice A M C, .int .i64 (kk : Int)] rfl rfl rfl ?_); intro g2 w2 r2 p2 l2 b2)
    | ((with_reducible refine wl_alloc rfl 86 _ [.slice none 0 0, .int .i64 0] rfl zFile rfl ?_); intro g4 w4 r4 p4 l4 b4; have r2 := Row.later r2 b4; have c20 := r2.cell (j := 0) rfl; have c21 := r2.cell (j := 1) rfl))
  have b24 := b2.trans (b4.mono b2.size)
  rename_i K0 hK0
  refine wp_region_vals [13, 14] (STo g2 g4 A M C kk dd rr cut) (JM w4 (fun w' => Row w' 86 g4 [.slice A (kk + rr) C, .int .i64 ((kk + rr : Nat) : Int)] ∧ Buts [g4] w4 w') 1) (by kernel_rfl) (by kernel_rfl) (by kernel_rfl) (by kernel_rfl) (by kernel_rfl) (JM.start _ _ _ _ _ rfl) ?obsE ?heE
  case obsE =>
    refine ⟨?_, ?_, ?_, ?_, ?_, ?_, ?_, ?_, ?_, ?_, ?_, ?_, ?_, ?_, ?_, trivial⟩
    · refine .inl ⟨by kernel_rfl, fun L a1 w1 n' h => ⟨.pointer (some ⟨g2, 0, none⟩), rfl, ?_⟩⟩
      have e0 : a1.eval (.tmp 2) = _ := h.var n' 2 (by kernel_rfl)
      unfold execOp
      simp only [e0]
      go_simp
    · exact .inl ⟨by kernel_rfl, fun L a1 w1 n' h => ⟨_, rfl, run_loadA 35 (.tmp 12) ⟨g2, 0, none⟩ rfl Try.isAgg35 (h.dep n' 0 12 (by kernel_rfl) rfl) ((Row.later r2 (h.inv.1 ((bits_at rfl).trans (n'.later (by kernel_rfl))))).cell (j := 0) (v := .slice A M C) rfl)⟩⟩
    · refine .inl ⟨by kernel_rfl, fun L a1 w1 n' h => ⟨.pointer (some ⟨g2, 1, none⟩), rfl, ?_⟩⟩
      have e0 : a1.eval (.tmp 2) = _ := h.var n' 2 (by kernel_rfl)
      unfold execOp
      simp only [e0]
      go_simp
    · exact .inl ⟨by kernel_rfl, fun L a1 w1 n' h => ⟨_, rfl, run_loadA 3 (.tmp 14) ⟨g2, 1, none⟩ rfl Try.isAgg3 (h.dep n' 2 14 (by kernel_rfl) rfl) ((Row.later r2 (h.inv.1 ((bits_at rfl).trans (n'.later (by kernel_rfl))))).cell (j := 1) (v := .int .i64 (kk : Int)) rfl)⟩⟩
    · exact .inl ⟨by kernel_rfl, fun L a1 w1 n' h => ⟨_, rfl, run_move (.tmp 1) rfl (h.var n' 1 (by kernel_rfl))⟩⟩
    · refine .inl ⟨by kernel_rfl, fun L a1 w1 n' h => ⟨.int .u64 (IntKind.u64.wrap cut), rfl, ?_⟩⟩
      have e0 : a1.eval (.tmp 16) = _ := h.dep n' 4 16 (by kernel_rfl) rfl
      unfold execOp
      simp only [e0]
      go_simp
    · exact .inl ⟨by kernel_rfl, fun L a1 w1 n' h => ⟨_, rfl, run_move (.tmp 5) rfl (h.var n' 5 (by kernel_rfl))⟩⟩
    · refine .inl ⟨by kernel_rfl, fun L a1 w1 n' h => ⟨.int .i64 ((dd : Int) + 1), rfl, ?_⟩⟩
      have e0 : a1.eval (.tmp 18) = _ := h.dep n' 6 18 (by kernel_rfl) rfl
      unfold execOp
      simp only [e0]
      go_simp
    · refine .inl ⟨by kernel_rfl, fun L a1 w1 n' h => ⟨.int .u64 ((dd : Int) + 1), rfl, ?_⟩⟩
      have e0 : a1.eval (.tmp 19) = _ := h.dep n' 7 19 (by kernel_rfl) rfl
      unfold execOp
      simp only [e0]
      go_simp
    · refine .inl ⟨by kernel_rfl, fun L a1 w1 n' h => ⟨.int .u64 (rr : Int), rfl, ?_⟩⟩
      have e0 : a1.eval (.tmp 17) = _ := h.dep n' 5 17 (by kernel_rfl) rfl
      have e1 : a1.eval (.tmp 20) = _ := h.dep n' 8 20 (by kernel_rfl) rfl
      unfold execOp
      simp only [e0, e1]
      go_simp
    · refine .inl ⟨by kernel_rfl, fun L a1 w1 n' h => ⟨.int .i64 (rr : Int), rfl, ?_⟩⟩
      have e0 : a1.eval (.tmp 21) = _ := h.dep n' 9 21 (by kernel_rfl) rfl
      unfold execOp
      simp only [e0]
      go_simp
    · refine .inl ⟨by kernel_rfl, fun L a1 w1 n' h => ⟨.int .i64 ((kk + rr : Nat) : Int), rfl, ?_⟩⟩
      have e0 : a1.eval (.tmp 15) = _ := h.dep n' 3 15 (by kernel_rfl) rfl
      have e1 : a1.eval (.tmp 22) = _ := h.dep n' 10 22 (by kernel_rfl) rfl
      unfold execOp
      simp only [e0, e1]
      go_simp
    · refine .inl ⟨by kernel_rfl, fun L a1 w1 n' h => ⟨.slice A (kk + rr) C, rfl, ?_⟩⟩
      have e0 : a1.eval (.tmp 13) = _ := h.dep n' 1 13 (by kernel_rfl) rfl
      have e1 : a1.eval (.tmp 23) = _ := h.dep n' 11 23 (by kernel_rfl) rfl
      unfold execOp
      simp only [e0, e1, Option.map_some, Option.map_none, Sem.run_bind, hS1, Result.andThen_ok, Sem.run_pure]
    · refine .inr fun L a1 w1 n' h K hK => ?_
      have no8 : L.getD 14 false = false := n'.later (by kernel_rfl)
      have b9 := h.inv.1 ((bits_at rfl).trans no8)
      have y0 : a1.eval (.tmp 24) = .slice A (kk + rr) C := h.dep n' 12 24 (by kernel_rfl) rfl
      refine st_call 61 _ _ #[.slice A (kk + rr) C] rfl Try.call61 ?_ (whole_any w1 A (kk + rr) C) ?_
      · simp only [List.map_toArray, List.map_cons, List.map_nil, y0]
      · rintro e w3 ⟨rfl, b8⟩
        exact ⟨_, rfl, hK _ w3 rfl ⟨fun _ => b9.trans (b8.mono b9.size), fun h0 => absurd (no8.symm.trans h0) (by decide)⟩⟩
    · refine .inr fun L a1 w1 n' h K hK => ?_
      have no : L.getD 14 false = false := n'.not_yet
      have b9 := h.inv.1 ((bits_at rfl).trans no)
      refine st_store_row 86 (.tmp 4) (.tmp 25) g4 86 _ [.slice A (kk + rr) C, .int .i64 ((kk + rr : Nat) : Int)] rfl (h.var n' 4 (by kernel_rfl)) (h.dep n' 13 25 (by kernel_rfl) rfl) (Row.later r4 b9) (szF _ _ _ _) rfl (oneF _ _ _ _) ?_
      intro w3 r3 o3
      exact hK undef w3 trivial ⟨fun h0 => absurd (show true = false from h0) (by decide), fun _ => ⟨r3, (Buts.of b9 _).trans (Buts.only o3 (List.mem_singleton.2 rfl))⟩⟩
  case heE =>
    intro V w9 hV hJ
    obtain ⟨h1, h2⟩ := hJ.2 rfl
    simp only [putOps, List.setIfInBounds_toArray, List.set_cons_succ, List.set_cons_zero, Nat.reduceAdd]
    refine hK0 _ _ ?_
    go_wp2_with fail
    refine bodyPost_ret (v := .agg [Value.slice A (kk + rr) C, Value.int .i64 ((kk + rr : Nat) : Int)].toArray) ?_ rfl ⟨rfl, b24.trans (h2.below (fun k hk => by simp at hk; subst hk; exact Nat.le_trans b2.size p4) b24.size)⟩
    exact results_cell_row Try.results62 _ _ g4 86 _ (0, 0) _ rfl h1 Try.underlying86 rfl (szF _ _ _ _)
end Go.Proofs.Ytaflmiopaiigbaa
