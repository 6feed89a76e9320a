/-
  The disk: an act of its plug; change; whole; Create. Own work.
-/
import Derived.Test.YtaflmiopaiigbaaDiskE
namespace Go.Proofs.Ytaflmiopaiigbaa
open Go.RowKit Go.Maps Go.ChangeMaps
set_option linter.unusedVariables false
set_option linter.unusedSimpArgs false
/-- The blocks of a plug. -/
def plB : Value → List Nat
  | .pointer (some a) => [a.block]
  | _ => []
theorem actE_cases (on : Bool) (fuse : Int) : actE on fuse = 0 ∨ actE on fuse = 8 := by
  unfold actE
  by_cases h : on = false
  · simp [h]
  · by_cases h2 : fuse = 0 <;> simp [h, h2]
theorem plAct_any (w : World) (pl : Value) (on : Bool) (fuse : Int) (h : PlAt w pl on fuse) (hf : isI fuse) : Calls Try.prog 50 #[pl] w fun e w' => e = .returned (.int .i64 (actE on fuse)) ∧ PlAt w' pl (on && actOn on fuse) (actF on fuse) ∧ Buts (plB pl) w w' := by
  rcases h with ⟨gp, rfl, h⟩ | ⟨rfl, rfl⟩
  · refine (act_any w gp on fuse h hf).mono ?_
    rintro e w' ⟨rfl, h1, h2⟩
    exact ⟨rfl, .inl ⟨gp, rfl, h1⟩, Buts.only h2 (List.mem_singleton.2 rfl)⟩
  · refine (act_nil w).mono ?_
    rintro e w' ⟨rfl, rfl⟩
    exact ⟨rfl, .inr ⟨rfl, by simp⟩, Buts.refl _ _⟩
theorem pl_not {w : World} {pl : Value} {on : Bool} {fuse : Int} {B gd mb : Nat} {pl' : Value} {fs : Fs} (h : PlAt w pl on fuse) (hd : DiskAt w B gd pl' mb fs) : ∀ k ∈ dblocks gd mb fs, k ∉ plB pl := by
  intro k hk hk2
  rcases h with ⟨gp, rfl, h⟩ | ⟨rfl, _⟩
  · simp [plB] at hk2
    subst hk2
    rcases mem_dblocks.1 hk with e | e | ⟨p, hp, hk⟩
    · subst e
      have := h.symm.trans hd.row
      simp at this
    · exact hd.map.ne_row h e.symm
    · exact owf_not_row (hd.files.own p hp) h (by decide) hk
  · simp [plB] at hk2
set_option maxRecDepth 100000 in
theorem change_err (w : World) (gd : Nat) (e : Int) (fv : Value) (he : e ≠ 0) : Calls Try.prog 56 #[ptr gd, .int .i64 e, fv] w fun en w' => en = .returned (.int .i64 e) ∧ w = w' := by
  have hd : decide (e = 0) = false := by simp [he]
  go_enter Try.func56, Try.ntmps56
  go_wp2_with fail
  go_ret
  exact ⟨rfl, rfl⟩
set_option maxRecDepth 100000 in
theorem change_off (w : World) (gd : Nat) (pl mv fv : Value) (on : Bool) (fuse : Int) (h : DRow w gd pl mv) (hp : PlAt w pl on fuse) (hf : isI fuse) (ha : actE on fuse = 8) : Calls Try.prog 56 #[ptr gd, .int .i64 0, fv] w fun en w' => en = .returned (.int .i64 8) ∧ PlAt w' pl (on && actOn on fuse) (actF on fuse) ∧ Buts (plB pl) w w' := by
  have c0 := h.cell (j := 0) rfl
  have HP := plAct_any w pl on fuse hp hf
  rw [ha] at HP
  have HP := hide HP
  go_enter Try.func56, Try.ntmps56
  go_wp2_with fail
  refine HP.out.mono ?_
  rintro en w1 ⟨rfl, h1, h2⟩
  go_wp2_with fail
  go_ret
  exact ⟨rfl, h1, h2⟩
set_option maxRecDepth 100000 in
theorem change_do (w : World) (gd : Nat) (pl mv : Value) (F : FuncId) (caps : Array Value) (on : Bool) (fuse : Int) (h : DRow w gd pl mv) (hp : PlAt w pl on fuse) (hf : isI fuse) (ha : actE on fuse = 0) (hF : ∀ (xs : Array Value) (w : World), (callFunc F xs).run Try.prog w = .ok (.enter F xs) w) (R : World → World → Prop)
    (hc : ∀ w1, PlAt w1 pl (on && actOn on fuse) (actF on fuse) → Buts (plB pl) w w1 → Calls Try.prog F caps w1 fun en w2 => en = .returned (.tuple #[]) ∧ R w1 w2) :
    Calls Try.prog 56 #[ptr gd, .int .i64 0, .func (.func F) #[] caps] w fun en w' => en = .returned (.int .i64 0) ∧ ∃ w1, PlAt w1 pl (on && actOn on fuse) (actF on fuse) ∧ Buts (plB pl) w w1 ∧ R w1 w' := by
  have c0 := h.cell (j := 0) rfl
  have HP := plAct_any w pl on fuse hp hf
  rw [ha] at HP
  have HP := hide HP
  have HC := hide hc
  clear hc hp h
  go_enter Try.func56, Try.ntmps56
  go_wp2_with fail
  refine HP.out.mono ?_
  rintro en w1 ⟨rfl, h1, h2⟩
  have HC1 := HC.out w1 h1 h2
  clear HC HP
  have HC1 := hide HC1
  go_wp2_with fail
  refine HC1.out.mono ?_
  rintro en w2 ⟨rfl, hR⟩
  go_wp2_with fail
  go_ret
  exact ⟨rfl, w1, h1, h2, hR⟩
set_option maxRecDepth 100000 in
theorem whole_any (w : World) (A : Option Addr) (n c : Nat) : Calls Try.prog 61 #[.slice A n c] w fun e w' => e = .returned (.agg #[.slice A n c, .int .i64 n]) ∧ Below w.heap.size w w' := by
  have hb : Try.prog.built 86 [(0, .slice A n c), (1, .int .i64 n)] = some [Value.slice A n c, Value.int .i64 n].toArray := by kernel_rfl
  go_enter Try.func61, Try.ntmps61
  go_wp2_with (first
    | ((with_reducible refine wl_alloc rfl 86 _ [.slice none 0 0, .int .i64 0] rfl zFile rfl ?_); intro g9 w2 r9 p9 l9 b9)
    | ((with_reducible refine wl_build rfl 86 _ rfl _ ?hv _ hb ?hk); case hv => rfl)
    | ((with_reducible refine wl_store_row rfl 86 (.tmp 2) (.tmp 6) g9 86 _ [.slice A n c, .int .i64 n] rfl rfl rfl r9 (szFile ⟨A, n, c, [], n⟩) rfl (one_file ⟨A, n, c, [], n⟩) ?_); intro w3 r10 o10; have bS := b9.trans (o10.below p9)))
  refine bodyPost_ret (v := .agg [Value.slice A n c, .int .i64 n].toArray) ?_ rfl ⟨rfl, bS⟩
  exact results_cell_row Try.results61 _ _ g9 86 _ (0, 0) _ rfl r10 Try.underlying86 rfl (szFile ⟨A, n, c, [], n⟩)
end Go.Proofs.Ytaflmiopaiigbaa
