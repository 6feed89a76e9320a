/-
  A decoder in memory; what gives up, and what is taken of it. Own work.
-/
import Derived.Test.YthjcmgjmdjihnaaDoorRows
import Derived.Test.YthjcmgjmdjihnaaDoorChecked
import Derived.Test.YthjcmgjmdjihnaaDoorRun
import Derived.Test.YthjcmgjmdjihnaaDoorStrB
import Derived.Test.YthjcmgjmdjihnaaDoorRespM
import Derived.Test.YthjcmgjmdjihnaaDoorIdxB
import Derived.Test.YthjcmgjmdjihnaaDoorVerbG
import Derived.WalkLawsBesides
import Derived.Lib.ConvBytes
import Derived.Lib.LazyBuf
namespace Go.Proofs.YthjcmgjmdjihnaaDoor
open Go.RowKit Go.Shelf
set_option linter.unusedVariables false
set_option linter.unusedSimpArgs false
abbrev Wd := List UInt8
/-- A text's bytes. -/
def nb (t : Wd) : List Int := t.map fun b => (b.toNat : Int)
theorem nb_len (t : Wd) : (nb t).length = t.length := by simp [nb]
theorem nb_at {l : Wd} {j : Nat} {c : UInt8} (h : l[j]? = some c) : (nb l).getD j 0 = (c.toNat : Int) := by simp [nb, List.getD, h]
theorem nb_take (l : Wd) (n : Nat) : (nb l).take n = nb (l.take n) := by simp [nb]
theorem nb_drop (l : Wd) (n : Nat) : (nb l).drop n = nb (l.drop n) := by simp [nb]
theorem nb_app (l r : Wd) : nb (l ++ r) = nb l ++ nb r := by simp [nb]
theorem nb_str (t : Wd) : Value.string (strOfNums (nb t)) = encStr t := by rw [nb, Go.Lib.Lz.strOfNums_map]
theorem nb_of (t : Wd) : Lib.bytesOf (nb t) = t := by
  unfold Lib.bytesOf nb
  rw [List.map_map]
  conv => rhs; rw [← List.map_id t]
  refine List.map_congr_left fun c _ => ?_
  simp
/-- Bytes that a value stands for. -/
def BsV (w : World) (B : Nat) (v : Value) (s : Wd) : Prop := ∃ A c, v = .slice A s.length c ∧ Bs w B A s.length (nb s) ∧ s.length ≤ c
theorem BsV.below {w w' : World} {B : Nat} {v : Value} {s : Wd} (h : BsV w B v s) (hb : Below B w w') : BsV w' B v s := by
  obtain ⟨A, c, e, h1, h2⟩ := h
  exact ⟨A, c, e, h1.below hb, h2⟩
theorem BsV.len {w : World} {B n c : Nat} {A : Option Addr} {s : Wd} (h : BsV w B (.slice A n c) s) : n = s.length ∧ Bs w B A s.length (nb s) ∧ s.length ≤ c := by
  obtain ⟨A', c', e, h1, h2⟩ := h
  injection e with q1 q2 q3
  subst q1
  subst q3
  exact ⟨q2, h1, h2⟩
/-- A decoder: its block, and the bytes left. -/
def DecAt (w : World) (g B : Nat) (s : Wd) : Prop := ∃ A c, Row w 58 g [.slice A s.length c] ∧ Bs w B A s.length (nb s) ∧ s.length ≤ c ∧ B ≤ g
/-- What is given up. -/
def Pn (e : Int) : List PanicEntry := [{ v := .iface 65 (.int .i64 e), recovered := false }]
theorem But.below2 {g : Nat} {w w' : World} (h : But g w w') {B : Nat} (hB : B ≤ g) (hw : B ≤ w.heap.size) : Below B w w' := h.below hB hw
set_option maxRecDepth 100000 in
theorem giveUp_any (n : Int) (w : World) : Calls Tryd.prog 39 #[.int .i64 n] w fun e w' => e = .panicked (Pn n) ∧ w = w' := by
  go_enter Tryd.func39, Tryd.ntmps39
  go_wp2
  exact ⟨rfl, rfl, rfl⟩
set_option maxRecDepth 100000 in
theorem need_yes (w : World) : Calls Tryd.prog 38 #[.bool true] w fun e w' => e = .returned (.tuple #[]) ∧ w = w' := by
  go_enter Tryd.func38, Tryd.ntmps38
  go_wp2_with fail
  go_end0
  exact ⟨rfl, rfl⟩
set_option maxRecDepth 100000 in
theorem need_no (w : World) : Calls Tryd.prog 38 #[.bool false] w fun e w' => e = .panicked (Pn 3) ∧ w = w' := by
  go_enter Tryd.func38, Tryd.ntmps38
  go_wp2_with fail
  refine (giveUp_any 3 _).mono ?_
  rintro e w' ⟨rfl, rfl⟩
  go_wp2_with fail
  exact ⟨rfl, rfl, rfl⟩
theorem need_any (b : Bool) (w : World) : Calls Tryd.prog 38 #[.bool b] w fun e w' => ((b = true ∧ e = .returned (.tuple #[])) ∨ (b = false ∧ e = .panicked (Pn 3))) ∧ w = w' := by
  cases b
  · exact (need_no w).mono fun _ _ h => ⟨.inr ⟨rfl, h.1⟩, h.2⟩
  · exact (need_yes w).mono fun _ _ h => ⟨.inl ⟨rfl, h.1⟩, h.2⟩
theorem dec_one (A : Option Addr) (n c : Nat) : (Value.slice A n c).oneCell' = true := rfl
theorem sl_size1 : (Tryd.prog.info? 26).map (·.size) = some 1 := by kernel_rfl
def TakeRes (w : World) (g B n : Nat) (s : Wd) (e : Ending) (w' : World) : Prop := (s.length < n ∧ e = .panicked (Pn 4) ∧ w = w') ∨ (n ≤ s.length ∧ (∃ v, e = .returned v ∧ BsV w' B v (s.take n)) ∧ DecAt w' g B (s.drop n) ∧ Only g w w')
set_option maxRecDepth 100000 in
set_option maxHeartbeats 1000000 in
theorem take_any (g B n : Nat) (s : Wd) (w : World) (h : DecAt w g B s) (hs : s.length ≤ 150000000000000) (hn : n ≤ 200000) : Calls Tryd.prog 41 #[.pointer (some ⟨g, 0, none⟩), .int .i64 (n : Int)] w (TakeRes w g B n s) := by
  obtain ⟨A, c, r, hb, hc, hg⟩ := h
  have c0 := r.cell (j := 0) rfl
  by_cases hlt : s.length < n
  · have hI : (s.length : Int) < (n : Int) := by omega
    have hlt2 := hide hlt
    clear hlt hb hc r
    go_enter Tryd.func41, Tryd.ntmps41
    go_wp2_with fail
    refine (giveUp_any 4 _).mono ?_
    rintro e w' ⟨rfl, rfl⟩
    go_wp2_with fail
    exact ⟨rfl, .inl ⟨hlt2.out, rfl, rfl⟩⟩
  · have hI : ¬ (s.length : Int) < (n : Int) := by omega
    have hle : n ≤ s.length := by omega
    have hS1 := fun w => run_sliceTo (P := Tryd.prog) w 26 5 1 Tryd.underlying26 Tryd.sizeOf5 A s.length c .i64 (n : Int) n rfl (by omega)
    have hS2 := fun w => run_sliceFrom (P := Tryd.prog) w 26 5 Tryd.underlying26 Tryd.sizeOf5 A s.length c .i64 n hle
    have hle2 := hide hle
    have hb2 := hide hb
    have hc2 := hide hc
    clear hlt hle hb hc
    go_enter Tryd.func41, Tryd.ntmps41
    go_wp2_with (first
      | (with_reducible refine wl_store rfl 26 (.tmp 28) (.tmp 26) g 0 58 _ (.slice (subA A c n) (s.length - n) (c - n)) rfl sl_size1 rfl rfl r (Nat.succ_pos _) (dec_one _ _ _) ?_; intro w2 r2 o2))
    go_ret
    refine .inr ⟨hle2.out, ⟨.slice A n c, rfl, A, c, ?_, ?_, ?_⟩, ⟨subA A c n, c - n, ?_, ?_, ?_, hg⟩, o2⟩
    · rw [List.length_take, Nat.min_eq_left hle2.out]
    · have := (hb2.out.only o2 hg).sub (cap := c) (Nat.zero_le n) hle2.out hc2.out
      have e : subA A c 0 = A := by unfold subA; split; rfl; cases A with | none => rfl | some a => simp [addr_add0]
      rw [e] at this
      rw [List.length_take, Nat.min_eq_left hle2.out, ← nb_take]
      simpa using this
    · rw [List.length_take]; have := hc2.out; omega
    · rw [List.length_drop]; exact r2
    · have := (hb2.out.only o2 hg).sub (cap := c) hle2.out (Nat.le_refl _) hc2.out
      rw [List.length_drop, ← nb_drop]
      rw [List.take_of_length_le (by rw [List.length_drop, nb_len]; exact Nat.le_refl _)] at this
      exact this
    · rw [List.length_drop]; have := hc2.out; omega
end Go.Proofs.YthjcmgjmdjihnaaDoor
