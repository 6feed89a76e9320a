/-
  The laws' acts: how they are read; few. Own work.
-/
import Derived.Test.YtfklfgaomcbchaaZsetW
import Derived.Test.YtfklfgaomcbchaaFrame2
import Derived.ChangeArms
import Derived.OpenShut
namespace Go.Proofs.Ytfklfgaomcbchaa
open Go.RowKit Go.Shelf Go.ChangeShapes Go.WideShapes
set_option linter.unusedVariables false
set_option linter.unusedSimpArgs false
/-- An act. -/
structure ZA where
  d : Bool
  m : Nm
  s : Int
instance : Inhabited ZA := ⟨⟨false, [], 0⟩⟩
abbrev ZA.cells (a : ZA) : List Value := [.bool a.d, encStr a.m, .int .i64 a.s]
def ZActs (w : World) (B : Nat) (A : Option Addr) (n : Nat) (f : Nat → ZA) : Prop :=
  0 < n → ∃ b o, A = some ⟨b, o, none⟩ ∧ b < B ∧ ∀ j, j < n → ∀ i v, (f j).cells[i]? = some v → w.cell? ⟨b, o + j * 3 + i, none⟩ = some v
theorem ZActs.below {w w' : World} {B : Nat} {A : Option Addr} {n : Nat} {f : Nat → ZA} (h : ZActs w B A n f) (hb : Below B w w') : ZActs w' B A n f := by
  intro h0
  obtain ⟨b, o, e, hB, hc⟩ := h h0
  exact ⟨b, o, e, hB, fun j hj i v hv => by rw [← hc j hj i v hv]; exact World.cell?_of_block (hb.block b hB)⟩
theorem ZActs.at {w : World} {B n : Nat} {A : Option Addr} {f : Nat → ZA} (h : ZActs w B A n f) {j : Nat} (hj : j < n) : ∃ b o, A = some ⟨b, o, none⟩ ∧ b < B ∧ w.cell? ⟨b, o + j * 3, none⟩ = some (.bool (f j).d) ∧ w.cell? ⟨b, o + j * 3 + 1, none⟩ = some (encStr (f j).m) ∧ w.cell? ⟨b, o + j * 3 + 2, none⟩ = some (.int .i64 (f j).s) ∧ ∀ i v, (f j).cells[i]? = some v → w.cell? ⟨b, o + j * 3 + i, none⟩ = some v := by
  obtain ⟨b, o, e, hB, hc⟩ := h (by omega)
  exact ⟨b, o, e, hB, hc j hj 0 _ rfl, hc j hj 1 _ rfl, hc j hj 2 _ rfl, hc j hj⟩
/-- Few, and small. -/
def Few (n : Nat) (f : Nat → ZA) : Prop := n ≤ 120 ∧ ∀ j, j < n → (f j).m.length ≤ 100
set_option maxRecDepth 100000 in
set_option maxHeartbeats 1000000 in
theorem few_any (w : World) (A : Option Addr) (n c : Nat) (f : Nat → ZA) (B : Nat) (h : ZActs w B A n f) : Calls Try.prog 9 #[.slice A n c] w fun e w' => (∃ b : Bool, e = .returned (.bool b) ∧ (b = true → Few n f)) ∧ w = w' := by
  by_cases hbig : n ≤ 120
  · have hbI : ¬ (120 : Int) < (n : Int) := by omega
    go_enter Try.func9, Try.ntmps9
    go_wp2_with fail
    go_loopw [3] (fun iv wr => ∃ i : Nat, i ≤ n ∧ iv = .int .i64 (i : Int) ∧ (∀ j, j < i → (f j).m.length ≤ 100) ∧ w = wr) (fun iv _ => n - (intOf iv).toNat)
    case atStart => exact ⟨0, by omega, rfl, fun j hj => by omega, rfl⟩
    case round =>
      obtain ⟨i, hi, rfl, hok, rfl⟩ := hrel
      by_cases hlt : i < n
      · have hltI : (i : Int) < (n : Int) := by omega
        obtain ⟨b, o, rfl, hB, c0, c1, c2, hc⟩ := h.at hlt
        clear c0 c2 hc
        have hsz : (⟨(f i).m.toArray⟩ : ByteArray).size = (f i).m.length := by show (f i).m.toArray.size = _; simp
        replace hok := hide hok
        by_cases hl : (f i).m.length ≤ 100
        · have hlI : ¬ (100 : Int) < ((f i).m.length : Int) := by omega
          replace hl := hide hl
          go_wp2_with (first
            | (with_reducible refine wl_run (o := ⟨some 15, _, _, _, _, _⟩) rfl (.pointer (some ⟨b, o + i * 3, none⟩)) (run_indexSlN 22 (.tmp 13) (.tmp 14) 43 3 b o n c i rfl Try.underlying22 Try.sizeOf43 rfl rfl hlt) ?_))
          go_roundw
          case rel =>
            refine ⟨i + 1, by omega, by go_num, fun j hj => ?_, trivial⟩
            by_cases h1 : j = i
            · subst h1; exact hl.out
            · exact hok.out j (by omega)
          case measure => simp [intOf]; omega
        · have hlI : (100 : Int) < ((f i).m.length : Int) := by omega
          go_wp2_with (first
            | (with_reducible refine wl_run (o := ⟨some 15, _, _, _, _, _⟩) rfl (.pointer (some ⟨b, o + i * 3, none⟩)) (run_indexSlN 22 (.tmp 13) (.tmp 14) 43 3 b o n c i rfl Try.underlying22 Try.sizeOf43 rfl rfl hlt) ?_))
          go_ret
          exact ⟨⟨false, rfl, fun h => by cases h⟩, rfl⟩
      · obtain rfl : i = n := by omega
        go_wp2_with fail
        go_ret
        exact ⟨⟨true, rfl, fun _ => ⟨hbig, fun j hj => hok j hj⟩⟩, rfl⟩
  · have hbI : (120 : Int) < (n : Int) := by omega
    go_enter Try.func9, Try.ntmps9
    go_wp2_with fail
    go_ret
    exact ⟨⟨false, rfl, fun h => by cases h⟩, rfl⟩
section
variable {H : Type} {enc : TypeId × Value → H} {w : World} {spare : Nat → Bool} {held : Bool}
/-- A field of a struct that was read. -/
theorem field_one {n off : Nat} {t : TypeId} {fs : Array Field} {cs : List Value} {xs : List (DataW H × List MemPlace)} (hlen : xs.length = fs.size)
    (hf : ∀ (i : Nat) (f : Field), fs[i]? = some f → DataW.trod enc Try.prog w 0 spare held n f.type ((cs.drop f.offset).take (Try.prog.cellsOf f.type)) = xs[i]?)
    (i : Nat) (hi : fs[i]?.map (fun f => (f.offset, f.type)) = some (off, t)) (h1 : Try.prog.cellsOf t = 1) (ho : off < cs.length) : ∃ v x, cs[off]? = some v ∧ DataW.trod enc Try.prog w 0 spare held n t [v] = some x := by
  obtain ⟨f, hfi, hft⟩ := Option.map_eq_some_iff.1 hi
  injection hft with h2 h3
  have hlt : i < xs.length := by rw [hlen]; exact (Array.getElem?_eq_some_iff.1 hfi).1
  have h := hf i f hfi
  rw [h2, h3, h1, List.getElem?_eq_getElem hlt] at h
  have e : (cs.drop off).take 1 = [cs[off]] := by
    rw [List.drop_eq_getElem_cons ho]; rfl
  rw [e] at h
  exact ⟨_, _, List.getElem?_eq_getElem ho, h⟩
set_option maxRecDepth 100000 in
theorem open_zact {fuel : Nat} {cs : List Value} {x : DataW H × List MemPlace} (h : DataW.trod enc Try.prog w 0 spare held fuel 43 cs = some x) : ∃ q : ZA, cs = q.cells ∧ isI q.s := by
  obtain ⟨xs, n, _, rfl, hl, hlen, hf⟩ := DataW.trod_struct (fs := Try.prog.fieldsOf 43) Try.underlying43 h
  rw [show Try.prog.cellsOf 43 = 3 by kernel_rfl] at hl
  obtain ⟨v0, x0, g0, h0⟩ := field_one hlen hf 0 (show (Try.prog.fieldsOf 43)[0]?.map (fun f => (f.offset, f.type)) = some (0, 4) by kernel_rfl) (by kernel_rfl) (by omega)
  obtain ⟨v1, x1, g1, h1⟩ := field_one hlen hf 1 (show (Try.prog.fieldsOf 43)[1]?.map (fun f => (f.offset, f.type)) = some (1, 9) by kernel_rfl) (by kernel_rfl) (by omega)
  obtain ⟨v2, x2, g2, h2⟩ := field_one hlen hf 2 (show (Try.prog.fieldsOf 43)[2]?.map (fun f => (f.offset, f.type)) = some (2, 3) by kernel_rfl) (by kernel_rfl) (by omega)
  obtain ⟨b, e0, _⟩ := DataW.trod_bool Try.underlying4 h0
  obtain ⟨s1, e1, _, _⟩ := DataW.trod_string Try.underlying9 h1
  obtain ⟨z, e2, _, hz⟩ := DataW.trod_int Try.underlying3 h2
  refine ⟨⟨b, s1.data.toList, z⟩, ?_, wf_i64 hz⟩
  simp only [List.cons.injEq, and_true] at e0 e1 e2
  subst e0 e1 e2
  match cs, hl with
  | [u0, u1, u2], _ =>
    simp at g0 g1 g2
    rw [g0, g1, g2]
set_option maxRecDepth 100000 in
theorem open_score {fuel : Nat} {cs : List Value} {x : DataW H × List MemPlace} (h : DataW.trod enc Try.prog w 0 spare held fuel 35 cs = some x) : ∃ q : Sc, cs = q.cells ∧ isI q.s := by
  obtain ⟨xs, n, _, rfl, hl, hlen, hf⟩ := DataW.trod_struct (fs := Try.prog.fieldsOf 35) Try.underlying35 h
  rw [show Try.prog.cellsOf 35 = 2 by kernel_rfl] at hl
  obtain ⟨v1, x1, g1, h1⟩ := field_one hlen hf 0 (show (Try.prog.fieldsOf 35)[0]?.map (fun f => (f.offset, f.type)) = some (0, 9) by kernel_rfl) (by kernel_rfl) (by omega)
  obtain ⟨v2, x2, g2, h2⟩ := field_one hlen hf 1 (show (Try.prog.fieldsOf 35)[1]?.map (fun f => (f.offset, f.type)) = some (1, 3) by kernel_rfl) (by kernel_rfl) (by omega)
  obtain ⟨s1, e1, _, _⟩ := DataW.trod_string Try.underlying9 h1
  obtain ⟨z, e2, _, hz⟩ := DataW.trod_int Try.underlying3 h2
  refine ⟨⟨s1.data.toList, z⟩, ?_, wf_i64 hz⟩
  simp only [List.cons.injEq, and_true] at e1 e2
  subst e1 e2
  match cs, hl with
  | [u1, u2], _ =>
    simp at g1 g2
    rw [g1, g2]
set_option maxRecDepth 100000 in
/-- Acts that came in. -/
theorem trod_zacts {A : Option Addr} {n c : Nat} {d : DataW H} {p : List MemPlace} (h : DataW.Trod enc Try.prog w 0 spare held 22 (.slice A n c) d p) :
    ∃ f : Nat → ZA, ZActs w w.heap.size A n f := by
  obtain ⟨fuel, hf⟩ := h
  rcases Go.Deep.open_slice Try.underlying22 hf with ⟨hcs, _⟩ | ⟨a, len, cap, m, k, D, Pl, hcs, hcap, hl, hm, hmm, _, hx⟩
  · simp [Value.cells] at hcs
    obtain ⟨rfl, rfl, rfl⟩ := hcs
    exact ⟨fun _ => default, fun h => absurd h (by omega)⟩
  · simp [Value.cells] at hcs
    obtain ⟨rfl, rfl, rfl⟩ := hcs
    have hnm : n ≤ m := by rw [hmm]; split <;> omega
    have key : ∀ i, i < n → ∃ q : ZA, (∀ j v, q.cells[j]? = some v → w.cell? ((a.add (i * 3)).add j) = some v) := by
      intro i hi
      obtain ⟨cs', h1, h2⟩ := hx i (by omega)
      rw [show Try.prog.cellsOf 43 = 3 by kernel_rfl] at h1
      obtain ⟨_, hlen, hat⟩ := World.cells?_some h1
      obtain ⟨q, rfl, _⟩ := open_zact h2
      refine ⟨q, fun j v hj => ?_⟩
      have hj6 := (List.getElem?_eq_some_iff.1 hj).1
      have := hat j hj6
      rw [this]
      exact hj
    obtain ⟨q, hq⟩ := Go.Deep.choose_lt (α := ZA) key
    refine ⟨q, fun h0 => ?_⟩
    obtain ⟨b, off, spot⟩ := a
    have hc0 := (hq 0 h0) 0 _ rfl
    have hspot : spot = none := by simpa [Addr.add] using World.cell?_spot hc0
    subst hspot
    refine ⟨b, off, rfl, ?_, fun j hj i v hv => ?_⟩
    · have := block_lt_of_cell hc0
      simpa [Addr.add] using this
    · have := hq j hj i v hv
      rw [addr_plain, addr_plain] at this
      exact this
end
end Go.Proofs.Ytfklfgaomcbchaa
