/-
  A block that is a row of numbers of one kind. Own work.
-/
import Derived.Test.YtaflmiopaiigbaaBytes
namespace Go.Proofs.Ytaflmiopaiigbaa
open Go.RowKit
set_option linter.unusedVariables false
set_option linter.unusedSimpArgs false
def vk (kd : IntKind) (xs : List Int) : List Value := xs.map (Value.int kd)
theorem vk_len (kd : IntKind) (xs : List Int) : (vk kd xs).length = xs.length := by simp [vk]
/-- Block g of w is the numbers cs of kind kd, of type t; none is frozen. -/
def OwnK (kd : IntKind) (w : World) (t g : Nat) (cs : List Int) : Prop := w.heap[g]? = some (.cells (vk kd cs).toArray t (0, 0))
section
variable {kd : IntKind} {w w' : World} {t g : Nat} {cs : List Int}
theorem OwnK.lt (h : OwnK kd w t g cs) : g < w.heap.size := by
  rcases Nat.lt_or_ge g w.heap.size with h1 | h1
  · exact h1
  · unfold OwnK at h; rw [Array.getElem?_eq_none h1] at h; cases h
theorem OwnK.cell (h : OwnK kd w t g cs) {j : Nat} (hj : j < cs.length) : w.cell? ⟨g, j, none⟩ = some (.int kd (cs.getD j 0)) := by
  rw [cell_of_row w g j _ t (0, 0) h]
  simp [vk, List.getElem?_eq_getElem hj, List.getD]
theorem OwnK.frozen (h : OwnK kd w t g cs) (j : Nat) : w.frozen? ⟨g, j, none⟩ = false := frozen_of_row w g j _ t h
theorem OwnK.set (h : OwnK kd w t g cs) (i : Nat) (x : Int) : OwnK kd (w.setCell ⟨g, i, none⟩ (.int kd x)) t g (cs.set i x) := by
  have := heap_setCell_same w g i _ t (.int kd x) h
  unfold OwnK
  rw [this]
  simp [vk, List.map_set]
theorem OwnK.below {B : Nat} (h : OwnK kd w t g cs) (hb : Below B w w') (hg : g < B) : OwnK kd w' t g cs := (hb.block g hg).trans h
theorem OwnK.later (h : OwnK kd w t g cs) (hb : Below w.heap.size w w') : OwnK kd w' t g cs := h.below hb h.lt
theorem OwnK.new (w : World) (C : Array Value) (t : TypeId) (cs : List Int) (hC : C = (vk kd cs).toArray) : OwnK kd (w.alloc (.cells C t)) t w.heap.size cs := by
  subst hC
  unfold OwnK World.alloc
  simp
theorem OwnK.other {g' : Nat} (h : OwnK kd w t g cs) (i : Nat) (x : Value) (hg : g ≠ g') : OwnK kd (w.setCell ⟨g', i, none⟩ x) t g cs := by
  unfold OwnK
  rw [Below.heap_setCell w _ x g hg]
  exact h
end
theorem vk_one (kd : IntKind) (xs : List Int) : (vk kd xs).toArray.all (·.oneCell') = true := by
  simp [vk, Value.oneCell']
theorem heap_setRow_same (w : World) (g : Nat) (t : TypeId) (old cells : Array Value) (fr : Nat × Nat) (h : w.heap[g]? = some (.cells old t fr)) : (w.setRow g cells).heap[g]? = some (.cells cells t fr) := by
  simp [World.setRow, Array.getElem?_modify, h]
theorem below_setRow {B : Nat} {a w : World} (h : Below B a w) {g : Nat} (hg : B ≤ g) (cells : Array Value) : Below B a (w.setRow g cells) := by
  refine h.trans ⟨rfl, rfl, rfl, by simp [World.setRow], fun k hk => ?_⟩
  simp only [World.setRow]
  rw [Array.getElem?_modify, if_neg (by omega)]
theorem bv_vk (xs : List Int) : bv xs = vk .u8 xs := rfl
theorem own_k {w : World} {t g : Nat} {cs : List Int} (h : OwnK .u8 w t g cs) : Own w t g cs := h
/-- A place of a row that is being filled. -/
theorem set_mid {n k : Nat} (h : k < n) (P L T : List Int) (hL : L.length = k) (v : Int) :
    (P ++ (L ++ (List.replicate (n - k) 0 ++ T))).set (P.length + k) v = P ++ ((L ++ [v]) ++ (List.replicate (n - (k + 1)) 0 ++ T)) := by
  rw [List.set_append_right _ _ (by omega), show P.length + k - P.length = k from by omega]
  congr 1
  rw [show n - k = (n - (k + 1)) + 1 from by omega, List.replicate_succ, List.set_append_right _ _ (by omega), hL, Nat.sub_self]
  simp
end Go.Proofs.Ytaflmiopaiigbaa
