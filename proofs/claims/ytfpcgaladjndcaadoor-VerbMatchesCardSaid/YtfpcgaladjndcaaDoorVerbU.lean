/-
  Patterns: the document's table: in memory; its regions. Own work.
-/
import Derived.Test.YtfpcgaladjndcaaDoorVerbT
namespace Go.Proofs.YtfpcgaladjndcaaDoor
open Go.RowKit
set_option linter.unusedVariables false
set_option linter.unusedSimpArgs false
theorem but_cell {g b o : Nat} {w w' : World} (h : But g w w') (hne : b ≠ g) (hl : b < w.heap.size) : w'.cell? ⟨b, o, none⟩ = w.cell? ⟨b, o, none⟩ := by
  simp only [World.cell?, h.block b hl hne]
theorem run_idxSl1 {P : Program} {w : World} {a : Act} {o : Oper} (t : TypeId) (x y : Operand) (e : TypeId) (b len cap i : Nat)
    (ho : o.op = .indexAddr t x y) (hu : P.underlying t = some (.slice e)) (hs : ∀ w, (sizeOf e).run P w = .ok 1 w) (hx : a.eval x = .slice (some ⟨b, 0, none⟩) len cap) (hy : a.eval y = .int .i64 i) (hi : i < len) :
    (execOp a.eval o).run P w = .ok (.value (.pointer (some ⟨b, i, none⟩))) w := by
  have := run_idxSl0 (w := w) t x y e 1 b len cap i ho hu hs hx hy hi
  rwa [Nat.mul_one] at this
theorem run_extract {P : Program} {w : World} {a : Act} {o : Oper} (x : Operand) (i : Nat) (vs : Array Value) (v : Value) (ho : o.op = .extract x i) (hx : a.eval x = .tuple vs) (hv : vs[i]? = some v) : (execOp a.eval o).run P w = .ok (.value v) w := by
  unfold execOp
  simp only [ho, hx]
  go_simp
def rowB (S : Nat) (f : Nat → Bool) : List Value := (List.range (S + 1)).map fun k => .bool (f k)
theorem rowB_len (S : Nat) (f : Nat → Bool) : (rowB S f).length = S + 1 := by simp [rowB]
theorem rowB_at {S k : Nat} {f : Nat → Bool} (h : k ≤ S) : (rowB S f)[k]? = some (.bool (f k)) := by
  unfold rowB
  rw [List.getElem?_map, List.getElem?_range (by omega)]
  rfl
theorem rowB_set {S k : Nat} {f : Nat → Bool} {v : Bool} (h : k ≤ S) : (rowB S f).set k (.bool v) = rowB S (fun j => if j = k then v else f j) := by
  apply List.ext_getElem?
  intro j
  rw [List.getElem?_set]
  by_cases hj : j ≤ S
  · by_cases e : k = j
    · subst e
      rw [if_pos rfl, if_pos (by rw [rowB_len]; omega), rowB_at h]
      simp
    · rw [if_neg e, rowB_at hj, rowB_at hj, if_neg (Ne.symm e)]
  · have h1 : (rowB S f)[j]? = none := List.getElem?_eq_none (by rw [rowB_len]; omega)
    have h2 : (rowB S fun j => if j = k then v else f j)[j]? = none := List.getElem?_eq_none (by rw [rowB_len]; omega)
    rw [if_neg (by omega), h1, h2]
/-- The table in memory: block ob holds the rows' slices, blocks gs the rows. -/
structure Tab (B : Nat) (ob : Nat) (gs : List Nat) (S : Nat) (f : Nat → Nat → Bool) (w : World) : Prop where
  outer : ∀ (i g : Nat), gs[i]? = some g → w.cell? ⟨ob, i, none⟩ = some (.slice (some ⟨g, 0, none⟩) (S + 1) (S + 1))
  rows : ∀ (i g : Nat), gs[i]? = some g → Row w 4 g (rowB S (f i))
  inj : ∀ (i j g : Nat), gs[i]? = some g → gs[j]? = some g → i = j
  out : ∀ (i g : Nat), gs[i]? = some g → ob ≠ g ∧ B ≤ g
  lo : B ≤ ob
  hi : ob < w.heap.size
def upd (f : Nat → Nat → Bool) (i k : Nat) (v : Bool) : Nat → Nat → Bool := fun a b => if a = i ∧ b = k then v else f a b
theorem Tab.set {B ob S i k g : Nat} {gs : List Nat} {f : Nat → Nat → Bool} {v : Bool} {w w' : World} (h : Tab B ob gs S f w) (hg : gs[i]? = some g) (hk : k ≤ S) (hb : But g w w') (hr : Row w' 4 g ((rowB S (f i)).set k (.bool v))) : Tab B ob gs S (upd f i k v) w' := by
  refine ⟨fun j g' hj => ?_, fun j g' hj => ?_, h.inj, h.out, h.lo, Nat.lt_of_lt_of_le h.hi hb.size⟩
  · rw [but_cell hb (h.out i g hg).1 h.hi]; exact h.outer j g' hj
  · by_cases e : j = i
    · subst e
      obtain rfl : g' = g := by rw [hg] at hj; exact (Option.some.inj hj).symm
      rw [rowB_set hk] at hr
      have : (fun b => if b = k then v else f j b) = upd f j k v j := by funext b; simp [upd]
      rw [← this]; exact hr
    · have e2 : upd f i k v j = f j := by funext b; simp [upd, e]
      rw [e2]
      exact (h.rows j g' hj).but hb fun e3 => e (by subst e3; exact h.inj j i g' hj hg)
theorem Tab.later {B ob S : Nat} {gs : List Nat} {f : Nat → Nat → Bool} {w w' : World} (h : Tab B ob gs S f w) (hb : Below w.heap.size w w') : Tab B ob gs S f w' :=
  ⟨fun j g hj => (hb.cell (p := ⟨ob, j, none⟩) h.hi).trans (h.outer j g hj), fun j g hj => (h.rows j g hj).later hb, h.inj, h.out, h.lo, Nat.lt_of_lt_of_le h.hi hb.size⟩
theorem Tab.congr {B ob S : Nat} {gs : List Nat} {f f' : Nat → Nat → Bool} {w : World} (h : Tab B ob gs S f w) (he : ∀ i k, f i k = f' i k) : Tab B ob gs S f' w := by
  have : f = f' := by funext i k; exact he i k
  subst this; exact h
/-- What the table tells. -/
def LL (p s : List UInt8) (i k : Nat) : Bool := lang (partsL (p.drop i)) (s.drop k)
theorem LL_end (p s : List UInt8) (k : Nat) (hk : k ≤ s.length) : LL p s p.length k = decide (k = s.length) := by
  unfold LL
  rw [List.drop_length, show partsL [] = [] by rw [partsL], lang, Bool.eq_iff_iff, decide_eq_true_eq, List.isEmpty_iff, List.drop_eq_nil_iff]
  omega
theorem LL_star {p s : List UInt8} {i k : Nat} {a : UInt8} (ha : p[i]? = some a) (h : a.toNat = 42) : LL p s i k = (LL p s (i + 1) k || (decide (k < s.length) && LL p s i (k + 1))) := by
  obtain rfl : a = 42 := UInt8.toNat_inj.1 h
  unfold LL
  have e : partsL (p.drop i) = ⟨3, []⟩ :: partsL (p.drop (i + 1)) := by rw [drop_cons ha, partsL_cons]; rfl
  by_cases hk : k < s.length
  · have hd := drop_cons (List.getElem?_eq_getElem hk)
    rw [decide_eq_true hk, Bool.true_and, e]
    conv => lhs; rw [hd, lang, if_pos rfl, ← hd]
  · have hd : s.drop k = [] := List.drop_eq_nil_of_le (by omega)
    rw [decide_eq_false hk, Bool.false_and, Bool.or_false, hd, e, lang, if_pos rfl]
theorem classAt_k {ng : Bool} : ∀ {t : List UInt8} {q : Pt × List UInt8}, classAt ng t = some q → q.1.k ≠ 3
  | [], q, h => by cases h
  | x :: t, q, h => by
    simp only [classAt] at h
    split at h
    · cases h
    · injection h with h
      subst h
      cases ng <;> simp
theorem cutPartL_k {a : UInt8} {r : List UInt8} (h : a.toNat ≠ 42) : (cutPartL a r).1.k ≠ 3 := by
  have a42 : a ≠ 42 := fun e => h (by rw [e]; rfl)
  unfold cutPartL
  rw [if_neg a42]
  split
  · simp
  · split
    · split
      · rename_i q hq
        unfold cutClassL at hq
        split at hq
        · exact classAt_k hq
        · exact classAt_k hq
      · simp
    · split
      · split <;> simp
      · simp
theorem LL_one {p s : List UInt8} {i k : Nat} {a c : UInt8} (ha : p[i]? = some a) (h : a.toNat ≠ 42) (hc : s[k]? = some c) : LL p s i k = ((cutPartL a (p.drop (i + 1))).1.takes c && lang (partsL (cutPartL a (p.drop (i + 1))).2) (s.drop (k + 1))) := by
  unfold LL
  rw [drop_cons ha, partsL_cons, drop_cons hc, lang, if_neg (cutPartL_k h)]
theorem LL_out {p s : List UInt8} {i : Nat} {a : UInt8} (ha : p[i]? = some a) (h : a.toNat ≠ 42) : LL p s i s.length = false := by
  unfold LL
  rw [List.drop_length, drop_cons ha, partsL_cons, lang, if_neg (cutPartL_k h)]
theorem first_val (w : World) (a : UInt8) (rest : List UInt8) (c : UInt8) (h42 : a.toNat ≠ 42) (hl : rest.length ≤ 1000) (n : Nat) (hn : n = (a :: rest).length - (cutPartL a rest).2.length) :
    Calls Tryd.prog 38 #[encStr (a :: rest), .int .u8 (c.toNat : Int)] w fun e w' => e = .returned (.tuple #[.bool ((cutPartL a rest).1.takes c), .int .i64 (n : Int)]) ∧ Below w.heap.size w w' := by
  refine (first_any w a rest c h42 hl).mono ?_
  rintro e w' ⟨m, rfl, hd, h1, h2, rfl⟩
  have e : m = n := by
    have := congrArg List.length hd
    rw [List.length_drop] at this
    omega
  exact ⟨by rw [e], Below.refl _ _⟩
theorem first_n (a : UInt8) (rest : List UInt8) (n : Nat) (hn : n = (a :: rest).length - (cutPartL a rest).2.length) (w : World) (c : UInt8) : 1 ≤ n ∧ n ≤ (a :: rest).length := by
  have := cutPartL_len a rest
  rw [List.length_cons] at hn ⊢
  omega
end Go.Proofs.YtfpcgaladjndcaaDoor
