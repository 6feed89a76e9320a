/-
  Power: a fuse burns, acts go on or not; the document's power. Contracts. Own work.
-/
import Derived.Test.YtaflmiopaiigbaaRows
import Derived.Test.YtaflmiopaiigbaaChecked
import Derived.Test.YtaflmiopaiigbaaOpen
import Derived.Test.YtaflmiopaiigbaaFacts2
import Derived.Laws.StructEq
namespace Go.Proofs.Ytaflmiopaiigbaa
open Go.RowKit
set_option linter.unusedVariables false
set_option linter.unusedSimpArgs false
/-- From w to w' nothing that was there has turned but the blocks S. -/
structure Buts (S : List Nat) (w w' : World) : Prop where
  os : w'.os = w.os
  tape : w'.tape = w.tape
  output : w'.output = w.output
  size : w.heap.size ≤ w'.heap.size
  block : ∀ k, k < w.heap.size → k ∉ S → w'.heap[k]? = w.heap[k]?
section
variable {S S' : List Nat} {g B t : Nat} {w w' a b c : World} {vs : List Value}
theorem Buts.refl (S : List Nat) (w : World) : Buts S w w := ⟨rfl, rfl, rfl, Nat.le_refl _, fun _ _ _ => rfl⟩
theorem Buts.trans (h : Buts S a b) (k : Buts S b c) : Buts S a c :=
  ⟨k.os.trans h.os, k.tape.trans h.tape, k.output.trans h.output, Nat.le_trans h.size k.size, fun i hi hg => (k.block i (Nat.lt_of_lt_of_le hi h.size) hg).trans (h.block i hi hg)⟩
theorem Buts.of (h : Below w.heap.size w w') (S : List Nat) : Buts S w w' := ⟨h.os, h.tape, h.output, h.size, fun k hk _ => h.block k hk⟩
theorem Buts.only (h : Only g w w') (hg : g ∈ S) : Buts S w w' := ⟨h.os, h.tape, h.output, Nat.le_of_eq h.size.symm, fun k _ hk => h.block k (fun e => hk (e ▸ hg))⟩
theorem Buts.but (h : But g w w') (hg : g ∈ S) : Buts S w w' := ⟨h.os, h.tape, h.output, h.size, fun k hk hs => h.block k hk (fun e => hs (e ▸ hg))⟩
theorem Buts.sub (h : Buts S w w') (hs : ∀ k ∈ S, k ∈ S') : Buts S' w w' := ⟨h.os, h.tape, h.output, h.size, fun k hk hn => h.block k hk (fun e => hn (hs k e))⟩
theorem Buts.below (h : Buts S w w') (hS : ∀ k ∈ S, B ≤ k) (hw : B ≤ w.heap.size) : Below B w w' := ⟨h.os, h.tape, h.output, h.size, fun k hk => h.block k (by omega) (fun e => by have := hS k e; omega)⟩
theorem Row.buts (h : Row w t g vs) (hb : Buts S w w') (hne : g ∉ S) : Row w' t g vs := (hb.block g h.lt hne).trans h
theorem Only.refl (g : Nat) (w : World) : Only g w w := ⟨rfl, rfl, rfl, rfl, fun _ _ => rfl⟩
end
theorem szInt : (Try.prog.info? 3).map (·.size) = some 1 := by kernel_rfl
theorem szBool : (Try.prog.info? 4).map (·.size) = some 1 := by kernel_rfl
theorem szPlug (b : Bool) (n : Int) : (Try.prog.info? 77).map (·.size) = some [Value.bool b, Value.int .i64 n].length := by kernel_rfl
theorem builtPlug : Try.prog.built 77 [(0, .bool true), (1, .int .i64 (-1))] = some [Value.bool true, Value.int .i64 (-1)].toArray := by kernel_rfl
theorem builtPlug0 : Try.prog.built 77 [] = some [Value.bool false, Value.int .i64 0].toArray := by kernel_rfl
theorem builtPower (p : Value) (hp : p.oneCell' = true) : Try.prog.built 57 [(0, .pointer none)] = some [Value.pointer none].toArray := by kernel_rfl
theorem one_plug (b : Bool) (n : Int) : ∀ u ∈ [Value.bool b, Value.int .i64 n], u.oneCell' = true := by intro u hu; simp at hu; rcases hu with rfl | rfl <;> rfl
theorem lt2 (x y : Value) {j : Nat} (h : j < 2) : j < [x, y].length := h
/-- A pointer to the head of a block. -/
abbrev ptr (g : Nat) : Value := .pointer (some ⟨g, 0, none⟩)
/-- A plug. -/
abbrev Plg (w : World) (g : Nat) (on : Bool) (fuse : Int) : Prop := Row w 77 g [.bool on, .int .i64 fuse]
/-- The document's power. -/
abbrev RPw (w : World) (g : Nat) (off : Bool) (left : Int) : Prop := Row w 42 g [.bool off, .int .i64 left]

theorem live_any (w : World) (g : Nat) (on : Bool) (fuse : Int) (h : Plg w g on fuse) : Calls Try.prog 46 #[ptr g] w fun e w' => e = .returned (.bool on) ∧ w = w' := by
  have c0 := h.cell (j := 0) (v := .bool on) rfl
  go_enter Try.func46, Try.ntmps46
  go_wp2
  go_ret
  exact ⟨rfl, rfl⟩
theorem live_nil (w : World) : Calls Try.prog 46 #[.pointer none] w fun e w' => e = .returned (.bool false) ∧ w = w' := by
  go_enter Try.func46, Try.ntmps46
  go_wp2
  go_ret
  exact ⟨rfl, rfl⟩
theorem shared_any (w : World) (g : Nat) (v : Value) (h : Row w 57 g [v]) : Calls Try.prog 37 #[ptr g] w fun e w' => e = .returned v ∧ w = w' := by
  have c0 := h.cell (j := 0) (v := v) rfl
  go_enter Try.func37, Try.ntmps37
  go_wp2
  go_ret
  exact ⟨rfl, rfl⟩
theorem shared_nil (w : World) : Calls Try.prog 37 #[.pointer none] w fun e w' => e = .returned (.pointer none) ∧ w = w' := by
  go_enter Try.func37, Try.ntmps37
  go_wp2
  go_ret
  exact ⟨rfl, rfl⟩
/-- What an act tells, and leaves. -/
def actE (on : Bool) (fuse : Int) : Int := if on = false then 8 else if fuse = 0 then 8 else 0
def actOn (on : Bool) (fuse : Int) : Bool := if fuse = 0 then false else on
def actF (on : Bool) (fuse : Int) : Int := if on = true ∧ 0 < fuse then fuse - 1 else fuse
theorem act_any (w : World) (g : Nat) (on : Bool) (fuse : Int) (h : Plg w g on fuse) (hf : -9223372036854775808 ≤ fuse ∧ fuse ≤ 9223372036854775807) : Calls Try.prog 50 #[ptr g] w fun e w' => e = .returned (.int .i64 (actE on fuse)) ∧ Plg w' g (on && actOn on fuse) (actF on fuse) ∧ Only g w w' := by
  obtain ⟨f0, f1⟩ := hf
  have hL := fun w h => live_any w g on fuse h
  cases on with
  | false =>
    have e1 : actE false fuse = 8 := rfl
    have e2 : actF false fuse = fuse := by simp [actF]
    rw [e1, e2]
    go_enter Try.func50, Try.ntmps50
    go_wp2_with fail
    refine (hL w h).mono ?_
    rintro en w1 ⟨rfl, rfl⟩
    go_wp2_with fail
    go_ret
    exact ⟨rfl, h, Only.refl _ _⟩
  | true =>
    have c1 := h.cell (j := 1) (v := .int .i64 fuse) rfl
    rcases Int.lt_trichotomy fuse 0 with h0 | h0 | h0
    · have e1 : actE true fuse = 0 := by simp [actE]; omega
      have e2 : actF true fuse = fuse := by simp [actF]; omega
      have e3 : actOn true fuse = true := by simp [actOn]; omega
      have d1 : decide (fuse = 0) = false := by simp; omega
      have d2 : decide (0 < fuse) = false := by simp; omega
      rw [e1, e2, e3]
      go_enter Try.func50, Try.ntmps50
      go_wp2_with fail
      refine (hL w h).mono ?_
      rintro en w1 ⟨rfl, rfl⟩
      go_wp2_with fail
      go_ret
      exact ⟨rfl, h, Only.refl _ _⟩
    · subst h0
      go_enter Try.func50, Try.ntmps50
      go_wp2_with fail
      refine (hL w h).mono ?_
      rintro en w1 ⟨rfl, rfl⟩
      go_wp2_with (first
        | (with_reducible refine wl_store rfl 4 (.tmp 13) (.const (.bool false)) g 0 77 [.bool true, .int .i64 0] (.bool false) rfl szBool rfl rfl h (lt2 _ _ (by decide)) rfl ?_; intro w2 r2 o2))
      go_ret
      exact ⟨rfl, r2, o2⟩
    · have e1 : actE true fuse = 0 := by simp [actE]; omega
      have e2 : actF true fuse = fuse - 1 := by simp [actF]; omega
      have e3 : actOn true fuse = true := by simp [actOn]; omega
      have d1 : decide (fuse = 0) = false := by simp; omega
      have d2 : decide (0 < fuse) = true := by simp; omega
      rw [e1, e2, e3]
      go_enter Try.func50, Try.ntmps50
      go_wp2_with fail
      refine (hL w h).mono ?_
      rintro en w1 ⟨rfl, rfl⟩
      go_wp2_with (first
        | (with_reducible refine wl_store rfl 3 (.tmp 25) (.tmp 23) g 1 77 [.bool true, .int .i64 fuse] (.int .i64 (fuse - 1)) rfl szInt rfl rfl h (lt2 _ _ (by decide)) rfl ?_; intro w2 r2 o2))
      go_ret
      exact ⟨rfl, r2, o2⟩
theorem act_nil (w : World) : Calls Try.prog 50 #[.pointer none] w fun e w' => e = .returned (.int .i64 8) ∧ w = w' := by
  go_enter Try.func50, Try.ntmps50
  go_wp2_with fail
  refine (live_nil w).mono ?_
  rintro en w1 ⟨rfl, rfl⟩
  go_wp2_with fail
  go_ret
  exact ⟨rfl, rfl⟩
theorem burn_any (w : World) (g : Nat) (on : Bool) (fuse n : Int) (h : Plg w g on fuse) : Calls Try.prog 49 #[ptr g, .int .i64 n] w fun e w' => e = .returned (.tuple #[]) ∧ Plg w' g on n ∧ Only g w w' := by
  go_enter Try.func49, Try.ntmps49
  go_wp2_with (first
    | (with_reducible refine wl_store rfl 3 (.tmp 9) (.tmp 7) g 1 77 [.bool on, .int .i64 fuse] (.int .i64 n) rfl szInt rfl rfl h (lt2 _ _ (by decide)) rfl ?_; intro w2 r2 o2))
  go_end0
  exact ⟨rfl, r2, o2⟩
theorem mend_any (w : World) (g : Nat) (on : Bool) (fuse : Int) (h : Plg w g on fuse) : Calls Try.prog 36 #[ptr g] w fun e w' => e = .returned (.tuple #[]) ∧ Plg w' g true (-1) ∧ Only g w w' := by
  have bp := builtPlug
  go_enter Try.func36, Try.ntmps36
  go_wp2_with (first
    | ((with_reducible refine wl_build rfl 77 _ rfl _ ?hv _ bp ?hk); case hv => rfl)
    | (with_reducible refine wl_store_row rfl 77 (.tmp 6) (.tmp 5) g 77 [.bool on, .int .i64 fuse] [.bool true, .int .i64 (-1)] rfl rfl rfl h (szPlug _ _) rfl (one_plug _ _) ?_; intro w2 r2 o2))
  go_end0
  exact ⟨rfl, r2, o2⟩
end Go.Proofs.Ytaflmiopaiigbaa
