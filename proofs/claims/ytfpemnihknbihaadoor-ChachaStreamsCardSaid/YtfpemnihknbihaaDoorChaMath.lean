/-
  The stream's block, as lists of numbers: plain mathematics. Own work.
-/
import Derived.Test.YtfpemnihknbihaaDoorChacha
namespace Go.Proofs.YtfpemnihknbihaaDoor
open Go.RowKit
set_option linter.unusedVariables false
set_option linter.unusedSimpArgs false
def IsW (xs : List Int) : Prop := ∀ x, x ∈ xs → w32 x
theorem IsW.getD {xs : List Int} (h : IsW xs) (i : Nat) : w32 (xs.getD i 0) := by
  by_cases hi : i < xs.length
  · simp only [List.getD, List.getElem?_eq_getElem hi, Option.getD_some]; exact h _ (List.getElem_mem hi)
  · simp only [List.getD, List.getElem?_eq_none (show xs.length ≤ i by omega), Option.getD_none]; exact ⟨by omega, by omega⟩
theorem IsW.set {xs : List Int} (h : IsW xs) {v : Int} (hv : w32 v) (i : Nat) : IsW (xs.set i v) := by
  intro x hx
  rcases List.mem_or_eq_of_mem_set hx with h1 | h1
  · exact h x h1
  · exact h1 ▸ hv
theorem IsW.append {xs ys : List Int} (h : IsW xs) (h' : IsW ys) : IsW (xs ++ ys) := fun x hx => (List.mem_append.1 hx).elim (h x) (h' x)
/-- A quarter round in its places. -/
def qat (xs : List Int) (i j k l : Nat) : List Int :=
  let q := qr (xs.getD i 0) (xs.getD j 0) (xs.getD k 0) (xs.getD l 0)
  (((xs.set i q.1).set j q.2.1).set k q.2.2.1).set l q.2.2.2
theorem qat_len (xs : List Int) (i j k l : Nat) : (qat xs i j k l).length = xs.length := by simp [qat]
theorem qr_w32 {a b c d : Int} (ha : w32 a) (hb : w32 b) (hc : w32 c) (hd : w32 d) : w32 (qr a b c d).1 ∧ w32 (qr a b c d).2.1 ∧ w32 (qr a b c d).2.2.1 ∧ w32 (qr a b c d).2.2.2 := by
  unfold qr
  have d1 := rot16_w32 (xor_w32 hd (mod_w32 (a + b)))
  have b1 := rot12_w32 (xor_w32 hb (mod_w32 (c + rot 65536 65536 (bits .xor .u32 d ((a + b) % 4294967296)))))
  have d2 := rot8_w32 (xor_w32 d1 (mod_w32 (a + b + rot 4096 1048576 (bits .xor .u32 b ((c + rot 65536 65536 (bits .xor .u32 d ((a + b) % 4294967296))) % 4294967296)))))
  exact ⟨mod_w32 _, rot7_w32 (xor_w32 b1 (mod_w32 _)), mod_w32 _, d2⟩
theorem qat_w {xs : List Int} (h : IsW xs) (i j k l : Nat) : IsW (qat xs i j k l) := by
  obtain ⟨h1, h2, h3, h4⟩ := qr_w32 (h.getD i) (h.getD j) (h.getD k) (h.getD l)
  exact (((h.set h1 i).set h2 j).set h3 k).set h4 l
/-- Where the k-th quarter round of a double round has its places. -/
def pl (k : Nat) : Nat × Nat × Nat × Nat :=
  match k with
  | 0 => (0, 4, 8, 12) | 1 => (1, 5, 9, 13) | 2 => (2, 6, 10, 14) | 3 => (3, 7, 11, 15)
  | 4 => (0, 5, 10, 15) | 5 => (1, 6, 11, 12) | 6 => (2, 7, 8, 13) | _ => (3, 4, 9, 14)
def step1 (xs : List Int) (k : Nat) : List Int := qat xs (pl k).1 (pl k).2.1 (pl k).2.2.1 (pl k).2.2.2
/-- The first k quarter rounds of a double round. -/
def quarts (xs : List Int) : Nat → List Int
  | 0 => xs
  | k + 1 => step1 (quarts xs k) k
def rounds (xs : List Int) : Nat → List Int
  | 0 => xs
  | k + 1 => quarts (rounds xs k) 8
theorem quarts_len (xs : List Int) (k : Nat) : (quarts xs k).length = xs.length := by
  induction k with
  | zero => rfl
  | succ k ih => rw [quarts, step1, qat_len, ih]
theorem quarts_w {xs : List Int} (h : IsW xs) (k : Nat) : IsW (quarts xs k) := by
  induction k with
  | zero => exact h
  | succ k ih => exact qat_w ih _ _ _ _
theorem rounds_len (xs : List Int) (k : Nat) : (rounds xs k).length = xs.length := by
  induction k with
  | zero => rfl
  | succ k ih => rw [rounds, quarts_len, ih]
theorem rounds_w {xs : List Int} (h : IsW xs) (k : Nat) : IsW (rounds xs k) := by
  induction k with
  | zero => exact h
  | succ k ih => exact quarts_w ih _
/-- The i-th number of a block. -/
def blockN (ks : List Int) (c : Int) (ns : List Int) (i : Nat) : Int := ((rounds (begL ks c ns) 10).getD i 0 + (begL ks c ns).getD i 0) % 4294967296
/-- The bytes of a block's first k numbers. -/
def blockP (ks : List Int) (c : Int) (ns : List Int) (k : Nat) : List Int := (List.range k).flatMap fun i => lowB (blockN ks c ns i) 4
def blockL (ks : List Int) (c : Int) (ns : List Int) : List Int := blockP ks c ns 16
theorem blockP_succ (ks : List Int) (c : Int) (ns : List Int) (k : Nat) : blockP ks c ns (k + 1) = blockP ks c ns k ++ lowB (blockN ks c ns k) 4 := by
  simp [blockP, List.range_succ, List.flatMap_append]
theorem blockP_len (ks : List Int) (c : Int) (ns : List Int) (k : Nat) : (blockP ks c ns k).length = 4 * k := by
  induction k with
  | zero => rfl
  | succ k ih => rw [blockP_succ, List.length_append, ih, lowB_length]; omega
theorem blockL_len (ks : List Int) (c : Int) (ns : List Int) : (blockL ks c ns).length = 64 := blockP_len ks c ns 16
theorem blockP_by (ks : List Int) (c : Int) (ns : List Int) (k : Nat) : IsBy (blockP ks c ns k) := by
  intro x hx
  simp only [blockP, List.mem_flatMap] at hx
  obtain ⟨i, _, hi⟩ := hx
  exact lowB_byte _ _ _ hi
theorem words_w {ks : List Int} (h : IsBy ks) (k : Nat) : IsW (words ks k) := by
  intro x hx
  simp only [words, List.mem_map] at hx
  obtain ⟨i, _, rfl⟩ := hx
  have := leV_bound h (4 * i) 4
  exact ⟨this.1, by have := this.2; simpa using this⟩
theorem begL_w {ks ns : List Int} {c : Int} (h : IsBy ks) (h' : IsBy ns) (hc : w32 c) : IsW (begL ks c ns) := by
  refine IsW.append ?_ ((words_w h 8).append ?_)
  · intro x hx
    simp only [headL, List.mem_cons, List.not_mem_nil, or_false] at hx
    rcases hx with rfl | rfl | rfl | rfl <;> exact ⟨by omega, by omega⟩
  · intro x hx
    rcases List.mem_cons.1 hx with rfl | hx
    · exact hc
    · exact words_w h' 3 x hx
theorem begL_len (ks : List Int) (c : Int) (ns : List Int) : (begL ks c ns).length = 16 := by simp [begL, headL, words_len]
theorem set_fill {L T : List Int} {v : List Int} (p n : Nat) (hL : L.length = p) (hT : T.length = n) (hv : v.length ≤ n) : (L ++ T).take p ++ v ++ (L ++ T).drop (p + v.length) = (L ++ v) ++ T.drop v.length := by
  subst hL
  simp [List.drop_append]
end Go.Proofs.YtfpemnihknbihaaDoor
