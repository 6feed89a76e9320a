/-
  Lists of bytes in memory: plain words and lemmas for walks, over whatever program. Own work.
-/
import Derived.Test.YtaflmiopaiigbaaNums
import Derived.WalkKit
import Derived.Deep.Draws
import Derived.Lib.SliceRun
import Derived.Lib.Bytes
import Derived.Laws.CopyOwn
import Derived.Laws.OwnMore
import Derived.Lib.EndianBits
import Derived.Lib.SlBytesConst
namespace Go.Proofs.Ytaflmiopaiigbaa
set_option linter.unusedVariables false
set_option linter.unusedSimpArgs false
open Go.RowKit

theorem hide {p : Prop} (h : p) : Hid p := h

theorem addr_plain (b o j : Nat) : (⟨b, o, none⟩ : Addr).add j = ⟨b, o + j, none⟩ := by unfold Addr.add; split <;> simp_all

/-- 'x | b << 8k' where x lies below. -/
theorem or_next (kd : IntKind) (j : Nat) (hj : j ≤ kd.bits) (hk : ∀ n : Int, 0 ≤ n → n < 2 ^ j → kd.wrap n = n) (k : Nat) (h8 : 8 * (k + 1) ≤ j) {q b : Int} (q0 : 0 ≤ q) (q1 : q < 256 ^ k) (b0 : 0 ≤ b) (b1 : b < 256) :
    bits .or kd q (b * 2 ^ (8 * k)) = q + b * 256 ^ k ∧ 0 ≤ b * 2 ^ (8 * k) ∧ b * 2 ^ (8 * k) < 2 ^ j := by
  have hp : (0 : Int) < 2 ^ (8 * k) := Int.pow_pos (by omega)
  have e : (2 : Int) ^ (8 * (k + 1)) = 256 * 2 ^ (8 * k) := by rw [show 8 * (k + 1) = 8 * k + 8 from by omega, Int.pow_add, Int.mul_comm]; rfl
  have hle : (2 : Int) ^ (8 * (k + 1)) ≤ 2 ^ j := by exact_mod_cast Nat.pow_le_pow_right (show 0 < 2 by omega) h8
  have hle0 : (2 : Int) ^ (8 * k) ≤ 2 ^ j := by exact_mod_cast Nat.pow_le_pow_right (show 0 < 2 by omega) (show 8 * k ≤ j by omega)
  have h0 : 0 ≤ b * 2 ^ (8 * k) := Int.mul_nonneg b0 (by omega)
  have h1 : b * 2 ^ (8 * k) ≤ 255 * 2 ^ (8 * k) := Int.mul_le_mul_of_nonneg_right (by omega) (by omega)
  rw [pow256_two] at q1
  refine ⟨?_, h0, by omega⟩
  rw [bits_join_low kd j hj hk (8 * k) q (b * 2 ^ (8 * k)) q0 q1 (by omega) h0 (Int.mul_emod_left _ _) (by omega), pow256_two]
theorem or_next32 (k : Nat) (hk : k < 4) {q b : Int} (q0 : 0 ≤ q) (q1 : q < 256 ^ k) (b0 : 0 ≤ b) (b1 : b < 256) : bits .or .u32 q (b % 4294967296 * 2 ^ (8 * k) % 4294967296) = q + b * 256 ^ k := by
  obtain ⟨h1, h2, h3⟩ := or_next .u32 32 (by decide) wraps_u32 k (by omega) q0 q1 b0 b1
  rw [Int.emod_eq_of_lt b0 (by omega), Int.emod_eq_of_lt h2 (by omega), h1]
theorem or_next64 (k : Nat) (hk : k < 8) {q b : Int} (q0 : 0 ≤ q) (q1 : q < 256 ^ k) (b0 : 0 ≤ b) (b1 : b < 256) : bits .or .u64 q (IntKind.u64.wrap (IntKind.u64.wrap b * 2 ^ (8 * k))) = q + b * 256 ^ k := by
  obtain ⟨h1, h2, h3⟩ := or_next .u64 64 (by decide) wraps_u64 k (by omega) q0 q1 b0 b1
  rw [wraps_u64 b b0 (by omega), wraps_u64 _ h2 h3, h1]

/-- 'x << 8 | b'. -/
theorem or_high (kd : IntKind) (j : Nat) (hj : j ≤ kd.bits) (hk : ∀ n : Int, 0 ≤ n → n < 2 ^ j → kd.wrap n = n) (k : Nat) (h8 : 8 * (k + 1) ≤ j) {q b : Int} (q0 : 0 ≤ q) (q1 : q < 256 ^ k) (b0 : 0 ≤ b) (b1 : b < 256) :
    bits .or kd (q * 256) b = q * 256 + b ∧ 0 ≤ q * 256 ∧ q * 256 < 2 ^ j ∧ b < 2 ^ j := by
  have e : (256 : Int) ^ (k + 1) = 2 ^ (8 * (k + 1)) := pow256_two (k + 1)
  have hle : (2 : Int) ^ (8 * (k + 1)) ≤ 2 ^ j := by exact_mod_cast Nat.pow_le_pow_right (show 0 < 2 by omega) h8
  have hle8 : (2 : Int) ^ 8 ≤ 2 ^ j := by exact_mod_cast Nat.pow_le_pow_right (show 0 < 2 by omega) (show 8 ≤ j by omega)
  rw [Int.pow_succ] at e
  have h3 : q * 256 < 2 ^ j := by omega
  refine ⟨bits_join kd j hj hk 8 (q * 256) b (by omega) (Int.mul_emod_left _ _) h3 b0 (by omega) (by omega), by omega, h3, by omega⟩
theorem or_high32 (k : Nat) (hk : k < 4) {q b : Int} (q0 : 0 ≤ q) (q1 : q < 256 ^ k) (b0 : 0 ≤ b) (b1 : b < 256) : bits .or .u32 (q * 256 % 4294967296) (b % 4294967296) = q * 256 + b := by
  obtain ⟨h1, h2, h3, h4⟩ := or_high .u32 32 (by decide) wraps_u32 k (by omega) q0 q1 b0 b1
  rw [Int.emod_eq_of_lt h2 (by omega), Int.emod_eq_of_lt b0 (by omega), h1]
theorem or_high64 (k : Nat) (hk : k < 8) {q b : Int} (q0 : 0 ≤ q) (q1 : q < 256 ^ k) (b0 : 0 ≤ b) (b1 : b < 256) : bits .or .u64 (IntKind.u64.wrap (q * 256)) (IntKind.u64.wrap b) = q * 256 + b := by
  obtain ⟨h1, h2, h3, h4⟩ := or_high .u64 64 (by decide) wraps_u64 k (by omega) q0 q1 b0 b1
  rw [wraps_u64 _ h2 h3, wraps_u64 b b0 h4, h1]

/-- The slice '.slice A n c' reads as the bytes xs, and lies below block B. -/
def Bs (w : World) (B : Nat) (A : Option Addr) (n : Nat) (xs : List Int) : Prop :=
  xs.length = n ∧ (0 < n → ∃ b o, A = some ⟨b, o, none⟩ ∧ b < B ∧ ∀ j, j < n → w.cell? ⟨b, o + j, none⟩ = some (.int .u8 (xs.getD j 0)))

/-- Numbers that are bytes. -/
def IsBy (xs : List Int) : Prop := ∀ x, x ∈ xs → 0 ≤ x ∧ x < 256

section
variable {w w' : World} {B B' n : Nat} {A : Option Addr} {xs : List Int}
theorem Bs.nil_ : Bs w B A 0 [] := ⟨rfl, fun h => absurd h (by omega)⟩
theorem Bs.keep (h : Bs w B A n xs) (hk : ∀ p : Addr, p.block < B → w'.cell? p = w.cell? p) : Bs w' B A n xs :=
  ⟨h.1, fun hn => let ⟨b, o, e, hb, hc⟩ := h.2 hn; ⟨b, o, e, hb, fun j hj => (hk _ hb).trans (hc j hj)⟩⟩
theorem Bs.up (h : Bs w B A n xs) (hB : B ≤ B') : Bs w B' A n xs :=
  ⟨h.1, fun hn => let ⟨b, o, e, hb, hc⟩ := h.2 hn; ⟨b, o, e, Nat.lt_of_lt_of_le hb hB, hc⟩⟩
theorem Bs.below (h : Bs w B A n xs) (hb : Below B w w') : Bs w' B A n xs := h.keep fun _ hp => hb.cell hp
/-- Memory has grown; nothing that was there has turned. -/
theorem Bs.later (h : Bs w w.heap.size A n xs) (hb : Below w.heap.size w w') : Bs w' w'.heap.size A n xs := (h.below hb).up hb.size
theorem Bs.at_ (h : Bs w B A n xs) {k : Nat} (hk : k < n) : ∃ b o, A = some ⟨b, o, none⟩ ∧ b < B ∧ w.cell? ⟨b, o + k, none⟩ = some (.int .u8 (xs.getD k 0)) := by
  obtain ⟨b, o, e, hb, hc⟩ := h.2 (by omega); exact ⟨b, o, e, hb, hc k hk⟩
theorem Bs.cells (h : Bs w B A n xs) {ad : Addr} (hA : A = some ad) : ∀ j u, (xs.map (Value.int .u8))[j]? = some u → w.cell? (ad.add j) = some u := by
  intro j u hu
  have hj : j < xs.length := by
    have := (List.getElem?_eq_some_iff.1 hu).1
    simpa using this
  obtain ⟨b, o, e, _, hc⟩ := h.2 (by have := h.1; omega)
  rw [hA] at e
  injection e with e
  subst e
  rw [addr_plain, hc j (by have := h.1; omega)]
  simp [List.getElem?_eq_getElem hj] at hu
  subst hu
  simp [List.getD, List.getElem?_eq_getElem hj]
/-- 'string(b)'. -/
theorem Bs.convert {P : Program} (h : Bs w B A n xs) (c : Nat) (src e dst : TypeId) (hs : P.underlying src = some (.slice e)) (he : P.underlying e = some (.int .u8)) (hd : P.underlying dst = some .string) :
    (convert src dst (.slice A n c)).run P w = .ok (.string (strOfNums xs)) w := by
  rcases Nat.eq_zero_or_pos n with hn | hn
  · subst hn
    obtain rfl : xs = [] := List.eq_nil_of_length_eq_zero h.1
    rw [run_convert_bytes_string w src dst e _ 0 c hs he hd]
    cases A <;> simp [Conv.bytesToString, loadCells, strOfNums] <;> rfl
  · obtain ⟨b, o, rfl, _, hc⟩ := h.2 hn
    exact run_convert_bytes_arg (P := P) w src e hs he b o n c xs h.1 hc dst hd
end

/-- What a function that makes bytes answers. -/
def RetBs (out : List Int) (w : World) (e : Ending) (w' : World) : Prop :=
  ∃ A n c, e = .returned (.slice A n c) ∧ Bs w' w'.heap.size A n out ∧ n ≤ c ∧ c ≤ maxLen ∧ Below w.heap.size w w'

theorem RetBs.trans {out : List Int} {w w1 w2 : World} {e : Ending} (h : RetBs out w1 e w2) (hb : Below w.heap.size w w1) : RetBs out w e w2 := by
  obtain ⟨A, n, c, he, h1, h2, h3, h4⟩ := h
  exact ⟨A, n, c, he, h1, h2, h3, hb.trans (h4.mono hb.size)⟩

/-- The slice of slices '.slice A k c' reads as the lists xss, and all of it lies below block B. -/
def Bss (w : World) (B : Nat) (A : Option Addr) (k : Nat) (xss : List (List Int)) : Prop :=
  xss.length = k ∧ (0 < k → ∃ b o, A = some ⟨b, o, none⟩ ∧ b < B ∧ ∀ j, j < k → ∃ A' n' c', w.cell? ⟨b, o + j, none⟩ = some (.slice A' n' c') ∧ Bs w B A' n' (xss.getD j []))

theorem Bss.below {w w' : World} {B k : Nat} {A : Option Addr} {xss : List (List Int)} (h : Bss w B A k xss) (hb : Below B w w') : Bss w' B A k xss :=
  ⟨h.1, fun hk => let ⟨b, o, e, hlt, hc⟩ := h.2 hk; ⟨b, o, e, hlt, fun j hj => let ⟨A', n', c', h1, h2⟩ := hc j hj; ⟨A', n', c', (hb.cell hlt).trans h1, h2.below hb⟩⟩⟩
theorem Bss.up {w : World} {B B' k : Nat} {A : Option Addr} {xss : List (List Int)} (h : Bss w B A k xss) (hB : B ≤ B') : Bss w B' A k xss :=
  ⟨h.1, fun hk => let ⟨b, o, e, hlt, hc⟩ := h.2 hk; ⟨b, o, e, Nat.lt_of_lt_of_le hlt hB, fun j hj => let ⟨A', n', c', h1, h2⟩ := hc j hj; ⟨A', n', c', h1, h2.up hB⟩⟩⟩

/-- A list of slices in a new block. -/
theorem Bss.lit (w : World) (t : TypeId) (l : List (Option Addr × Nat × Nat × List Int)) (h : ∀ x ∈ l, Bs w w.heap.size x.1 x.2.1 x.2.2.2) :
    Bss (w.alloc (.cells (l.map fun x => Value.slice x.1 x.2.1 x.2.2.1).toArray t)) (w.heap.size + 1) (some ⟨w.heap.size, 0, none⟩) l.length (l.map fun x => x.2.2.2) := by
  refine ⟨by simp, fun _ => ⟨w.heap.size, 0, rfl, by omega, fun j hj => ⟨l[j].1, l[j].2.1, l[j].2.2.1, ?_, ?_⟩⟩⟩
  · rw [cell_of_row _ _ _ _ _ _ (heap_alloc_new w _)]
    simp [hj]
  · have := (h l[j] (by simp)).later ((Below.refl _ _).alloc (Nat.le_refl _) (.cells (l.map fun x => Value.slice x.1 x.2.1 x.2.2.1).toArray t))
    simpa [List.getD, List.getElem?_eq_getElem (show j < (l.map fun x => x.2.2.2).length by simpa using hj)] using this

/-- How many bytes the first k lists have. -/
def sumLen (xss : List (List Int)) (k : Nat) : Nat := (xss.take k).flatten.length
theorem take_flat (xss : List (List Int)) (k : Nat) (hk : k < xss.length) : (xss.take (k + 1)).flatten = (xss.take k).flatten ++ xss.getD k [] := by
  rw [List.take_succ_eq_append_getElem hk, List.flatten_append]
  simp [List.getD, List.getElem?_eq_getElem hk]
theorem sumLen_succ (xss : List (List Int)) (k : Nat) (hk : k < xss.length) : sumLen xss (k + 1) = sumLen xss k + (xss.getD k []).length := by
  unfold sumLen
  rw [take_flat _ _ hk, List.length_append]
theorem sumLen_le (xss : List (List Int)) (k : Nat) : sumLen xss k ≤ sumLen xss xss.length := by
  unfold sumLen
  rw [List.take_length]
  conv => rhs; rw [← List.take_append_drop k xss, List.flatten_append, List.length_append]
  omega

/-! ### A block that is just these bytes -/

def bv (xs : List Int) : List Value := xs.map (Value.int .u8)
theorem bv_one (xs : List Int) : ∀ u ∈ bv xs, u.oneCell' = true := by
  intro u hu; simp only [bv, List.mem_map] at hu; obtain ⟨x, _, rfl⟩ := hu; rfl
theorem bv_len (xs : List Int) : (bv xs).length = xs.length := by simp [bv]

/-- Block g of w is the bytes cs, of element type t; none is frozen. -/
def Own (w : World) (t g : Nat) (cs : List Int) : Prop := w.heap[g]? = some (.cells (bv cs).toArray t (0, 0))

section
variable {w w' : World} {t g : Nat} {cs : List Int}
theorem Own.lt (h : Own w t g cs) : g < w.heap.size := by
  rcases Nat.lt_or_ge g w.heap.size with h1 | h1
  · exact h1
  · unfold Own at h; rw [Array.getElem?_eq_none h1] at h; cases h
theorem Own.cell (h : Own w t g cs) {j : Nat} (hj : j < cs.length) : w.cell? ⟨g, j, none⟩ = some (.int .u8 (cs.getD j 0)) := by
  rw [cell_of_row w g j _ t (0, 0) h]
  simp [bv, List.getElem?_eq_getElem hj, List.getD]
theorem Own.frozen (h : Own w t g cs) (j : Nat) : w.frozen? ⟨g, j, none⟩ = false := frozen_of_row w g j _ t h
theorem Own.set (h : Own w t g cs) (i : Nat) (x : Int) : Own (w.setCell ⟨g, i, none⟩ (.int .u8 x)) t g (cs.set i x) := by
  have := heap_setCell_same w g i _ t (.int .u8 x) h
  unfold Own
  rw [this]
  simp [bv, List.map_set]
theorem Own.bs (h : Own w t g cs) {B : Nat} (hB : g < B) : Bs w B (some ⟨g, 0, none⟩) cs.length cs :=
  ⟨rfl, fun _ => ⟨g, 0, rfl, hB, fun j hj => by rw [Nat.zero_add]; exact h.cell hj⟩⟩
theorem Own.below {B : Nat} (h : Own w t g cs) (hb : Below B w w') (hg : g < B) : Own w' t g cs := (hb.block g hg).trans h
end

theorem ownsRow_bs {w : World} {base e n : Nat} {v : Value} {xs : List Int} (h : w.ownsRow base e 1 v n (bv xs)) :
    ∃ A c, v = .slice A n c ∧ Bs w w.heap.size A n xs ∧ n ≤ c ∧ c ≤ maxLen := by
  have hl : xs.length = n := by have := h.1; rw [bv_len] at this; omega
  rcases h.2 with ⟨rfl, rfl⟩ | ⟨g, cap, cur, rfl, _, hg, hnc, hcm, _, _⟩
  · exact ⟨none, 0, rfl, ⟨hl, fun h0 => absurd h0 (by omega)⟩, Nat.le_refl _, by simp⟩
  · refine ⟨some ⟨g, 0, none⟩, cap, rfl, ⟨hl, fun _ => ⟨g, 0, rfl, (Array.getElem?_eq_some_iff.1 hg).1, fun j hj => ?_⟩⟩, hnc, hcm⟩
    have hc := h.cells (g := g) rfl j (.int .u8 (xs.getD j 0)) (by simp [bv, List.getD, List.getElem?_eq_getElem (show j < xs.length by omega)])
    rw [addr_plain] at hc
    exact hc

/-- A byte in a new block of its own. -/
theorem Bs.new1 (w : World) (v : Int) (t : TypeId) : Bs (w.alloc (.cells #[.int .u8 v] t)) (w.heap.size + 1) (some ⟨w.heap.size, 0, none⟩) 1 [v] := by
  refine ⟨rfl, fun _ => ⟨w.heap.size, 0, rfl, by omega, fun j hj => ?_⟩⟩
  obtain rfl : j = 0 := by omega
  rw [cell_of_row _ _ _ _ _ _ (heap_alloc_new w _)]
  rfl

/-- What a call owns, handed back. -/
theorem ret_owns {w w1 : World} {base e n : Nat} {v : Value} {xs ys : List Int} (h : w1.ownsRow base e 1 v n (bv xs)) (hb : Below w.heap.size w w1) (he : ys = xs) : RetBs ys w (.returned v) w1 := by
  obtain ⟨A, c, rfl, h1, h2, h3⟩ := ownsRow_bs h
  subst he
  exact ⟨A, n, c, rfl, h1, h2, h3, hb⟩
theorem ret_own {w w1 : World} {t g n c : Nat} {xs ys : List Int} (h : Own w1 t g xs) (hb : Below w.heap.size w w1) (he : ys = xs) (hn : xs.length = n) (hc : n ≤ c) (hm : c ≤ maxLen) : RetBs ys w (.returned (.slice (some ⟨g, 0, none⟩) n c)) w1 := by
  subst he
  subst hn
  exact ⟨_, _, c, rfl, h.bs h.lt, hc, hm, hb⟩
theorem grown_below {w0 w w1 : World} {v : Value} {base e n : Nat} {xs : List Value} (hb : Below w0.heap.size w0 w) (hown : w.ownsRow base e 1 v n xs) (hbase : w0.heap.size ≤ base) (hg : w.grownBy w1 v.ownBlock) : Below w0.heap.size w0 w1 :=
  hb.grown hg hb.size fun k hk => Nat.le_trans hbase (hown.lt k hk).1

section
variable {P : Program}

/-- 'append(out, src...)' where the call owns out and src reads as bytes, nil too. -/
theorem run_append_bs (w : World) (base : Nat) (t ty e : TypeId) (i : TypeInfo) (ht : P.underlying t = some (.slice e)) (hi : P.info? e = some i) (hz : i.zero = some (.int .u8 0)) (hsz : i.size = 1) (hby : i.bytes = 1)
    (v : Value) (n : Nat) (xs : List Int) (hown : w.ownsRow base e 1 v n (bv xs)) (B : Nat) (A : Option Addr) (m c : Nat) (ys : List Int) (hr : Bs w B A m ys)
    (hlen : n + m ≤ 140737488355328) (hbase : base ≤ w.heap.size) :
    ∃ v' w', (Builtin.append_ #[t, t] ty #[v, .slice A m c]).run P w = .ok v' w' ∧ w'.ownsRow base e 1 v' (n + m) (bv (xs ++ ys)) ∧ w.grownBy w' v.ownBlock ∧ (v = .slice none 0 0 → 0 < m → v'.ownBlock ≠ none) := by
  have hmap : bv (xs ++ ys) = bv xs ++ bv ys := by simp [bv]
  rcases A with _ | ad
  · have hm : m = 0 := by
      rcases Nat.eq_zero_or_pos m with h0 | h0
      · exact h0
      · obtain ⟨_, _, h, _⟩ := hr.2 h0; cases h
    subst hm
    obtain rfl : ys = [] := List.eq_nil_of_length_eq_zero hr.1
    refine ⟨v, w, ?_, by rw [hmap]; simpa [bv] using hown, ⟨rfl, rfl, rfl, Nat.le_refl _, fun _ _ _ => rfl⟩, fun _ h => absurd h (by omega)⟩
    rcases hown.2 with ⟨rfl, rfl⟩ | ⟨g, cap, cur, rfl, _, _, hnc, _⟩
    · simp [Builtin.append_, run_underlying ht, sizeOf, typeInfo, hi, Builtin.lenOf, Builtin.firstCells]
    · simp [Builtin.append_, run_underlying ht, sizeOf, typeInfo, hi, Builtin.lenOf, Builtin.firstCells, hnc, storeCells]
  · obtain ⟨v', w', h1, h2, h3, h4⟩ := run_append_own (P := P) w base t ty e i (.int .u8 0) 1 1 ht hi hz hsz hby rfl (by decide) v n (bv xs) hown ad m c (bv ys) (by rw [bv_len, hr.1, Nat.mul_one]) (hr.cells rfl) (bv_one ys)
      (by simp only [maxLen]; omega) (by omega) hbase
    refine ⟨v', w', h1, by rw [hmap]; exact h2, h3, fun hv hm hn => ?_⟩
    rcases h2.2 with ⟨rfl, h0⟩ | ⟨g, cap, cur, rfl, _⟩
    · omega
    · simp [Value.ownBlock] at hn

theorem wpList_append_bs {w : World} {ops : Array Oper} {rest : List Oper} {o : Oper} {a : Act} {Q : Exit → Act → World → Prop} (hgd : o.guard = none) (s x : Operand) (t : TypeId)
    (ho : o.op = .call { callee := .builtin .append, args := #[s, x], argTypes := #[t, t] })
    (base : Nat) (e : TypeId) (i : TypeInfo) (ht : P.underlying t = some (.slice e)) (hi : P.info? e = some i) (hz : i.zero = some (.int .u8 0)) (hsz : i.size = 1) (hby : i.bytes = 1)
    (v : Value) (n : Nat) (xs : List Int) (hs : a.eval s = v) (hown : w.ownsRow base e 1 v n (bv xs)) (B : Nat) (A : Option Addr) (m c : Nat) (ys : List Int) (hx : a.eval x = .slice A m c) (hr : Bs w B A m ys)
    (hlen : n + m ≤ 140737488355328) (hbase : base ≤ w.heap.size)
    (h : ∀ v' w', w'.ownsRow base e 1 v' (n + m) (bv (xs ++ ys)) → w.grownBy w' v.ownBlock → wpList P ops Q rest (a.put o.dst v') w') : wpList P ops Q (o :: rest) a w := by
  refine wpList_plain hgd fun K hK => ?_
  obtain ⟨v', w', hrun, h2, h3, _⟩ := run_append_bs (P := P) w base t o.type e i ht hi hz hsz hby v n xs hown B A m c ys hr hlen hbase
  unfold Oper.wp execOp
  simp only [ho, resolve, invoke, builtin, Sem.run_bind, Sem.run_pure, Result.andThen_ok, List.map_toArray, List.map_cons, List.map_nil, hs, hx, hrun]
  exact hK _ _ (h v' w' h2 h3)

/-- 'make([]byte, n)': the world behind it is a new name. -/
theorem wpList_make_bs {w : World} {ops : Array Oper} {rest : List Oper} {o : Oper} {a : Act} {Q : Exit → Act → World → Prop} (hgd : o.guard = none) (t : TypeId) (x y : Operand) (ho : o.op = .makeSlice t x y)
    (e : TypeId) (i : TypeInfo) (ht : P.underlying t = some (.slice e)) (hi : P.info? e = some i) (hz : i.zero = some (.int .u8 0)) (hsz : i.size = 1) (hby : i.bytes = 1)
    (n : Nat) (hx : a.eval x = .int .i64 (n : Int)) (hy : a.eval y = .int .i64 (n : Int)) (hlen : n ≤ 140737488355328)
    (h : ∀ w', Own w' e w.heap.size (List.replicate n 0) → w'.heap.size = w.heap.size + 1 → Below w.heap.size w w' → wpList P ops Q rest (a.put o.dst (.slice (some ⟨w.heap.size, 0, none⟩) n n)) w') : wpList P ops Q (o :: rest) a w := by
  refine wpList_plain hgd fun K hK => ?_
  have hrun := run_make (P := P) w t e i (.int .u8 0) ht hi hz .i64 .i64 n n (by omega) (by omega) (by rw [hby]; omega) (by omega)
  unfold Oper.wp execOp
  simp only [ho, hx, hy, hrun, Sem.run_bind, Result.andThen_ok, Sem.run_pure, Int.toNat_natCast]
  refine hK _ _ (h _ ?_ (by simp) ((Below.refl _ _).alloc (Nat.le_refl _) _))
  unfold Own
  rw [heap_alloc_new]
  congr 2
  rw [hsz, Nat.mul_one]
  apply Array.toList_inj.1
  rw [show (Value.int IntKind.u8 0).cells = #[Value.int IntKind.u8 0] from rfl, toList_madeCells_one]
  simp [bv]

/-- 'make([]byte, 0, n)'. -/
theorem wpList_make0_bs {w : World} {ops : Array Oper} {rest : List Oper} {o : Oper} {a : Act} {Q : Exit → Act → World → Prop} (hgd : o.guard = none) (t : TypeId) (x y : Operand) (ho : o.op = .makeSlice t x y)
    (e : TypeId) (i : TypeInfo) (ht : P.underlying t = some (.slice e)) (hi : P.info? e = some i) (hz : i.zero = some (.int .u8 0)) (hsz : i.size = 1) (hby : i.bytes = 1)
    (n : Nat) (hx : a.eval x = .int .i64 0) (hy : a.eval y = .int .i64 (n : Int)) (hlen : n ≤ 140737488355328)
    (h : ∀ w', w'.ownsRow w.heap.size e 1 (.slice (some ⟨w.heap.size, 0, none⟩) 0 n) 0 (bv []) → Below w.heap.size w w' → wpList P ops Q rest (a.put o.dst (.slice (some ⟨w.heap.size, 0, none⟩) 0 n)) w') : wpList P ops Q (o :: rest) a w := by
  refine wpList_plain hgd fun K hK => ?_
  obtain ⟨w', hrun, hown, hg⟩ := run_make_own (P := P) w w.heap.size t e i (.int .u8 0) 1 ht hi hz hsz .i64 .i64 n (by rw [hby]; omega) (by simp only [maxLen]; omega) (Nat.le_refl _)
  unfold Oper.wp execOp
  simp only [ho, hx, hy, hrun, Sem.run_bind, Result.andThen_ok, Sem.run_pure]
  exact hK _ _ (h _ hown ((Below.refl _ _).grown hg (Nat.le_refl _) (by simp)))

/-- 'copy(dst, src)' from the head of a block of the call's own; src reads as bytes. -/
theorem wpList_copy_bs {w : World} {ops : Array Oper} {rest : List Oper} {o : Oper} {a : Act} {Q : Exit → Act → World → Prop} (hgd : o.guard = none) (d s : Operand) (dT sT : TypeId)
    (ho : o.op = .call { callee := .builtin .copy, args := #[d, s], argTypes := #[dT, sT] }) (elem : TypeId) (hu : P.underlying dT = some (.slice elem)) (hsz : (P.info? elem).map (·.size) = some 1)
    (g off dLen dCap n c : Nat) (A : Option Addr) (hd : a.eval d = .slice (some ⟨g, off, none⟩) dLen dCap) (hs : a.eval s = .slice A n c) (cur xs : List Int) (t B : Nat) (hg : Own w t g cur) (hx : Bs w B A n xs) (hn : n ≤ dLen) (hfit : off + n ≤ cur.length) (B0 : Nat) (w0 : World) (hb : Below B0 w0 w) (hBg : B0 ≤ g)
    (h : ∀ w', Own w' t g (cur.take off ++ xs ++ cur.drop (off + n)) → Below B0 w0 w' → wpList P ops Q rest (a.put o.dst (goInt n)) w') : wpList P ops Q (o :: rest) a w := by
  have hl : (bv xs).length = Nat.min n dLen := by rw [bv_len, hx.1]; exact (Nat.min_eq_left hn).symm
  refine wpList_copy_splice hgd d s dT sT ho elem hu hsz (some ⟨g, off, none⟩) A dLen dCap n c hd hs g off (bv cur) t hg (bv xs) hl ?_ (by rw [bv_len, bv_len, hx.1]; exact hfit) (bv_one xs) B0 w0 hb hBg ?_
  · intro hp
    rw [bv_len, hx.1] at hp
    obtain ⟨b, o', rfl, _, _⟩ := hx.2 hp
    exact ⟨rfl, _, rfl, hx.cells rfl⟩
  · intro w' hw hbw
    rw [bv_len, hx.1]
    refine h w' ?_ hbw
    unfold Own
    rw [hw.out]
    congr 2
    simp [splice, bv, hx.1]
end

/-- Bytes in a new block, whatever of it is frozen. -/
theorem Bs.lit (w : World) (t : TypeId) (fr : Nat × Nat) (xs : List Int) : Bs (w.alloc (.cells (bv xs).toArray t fr)) (w.heap.size + 1) (some ⟨w.heap.size, 0, none⟩) xs.length xs := by
  refine ⟨rfl, fun _ => ⟨w.heap.size, 0, rfl, by omega, fun j hj => ?_⟩⟩
  rw [cell_of_row _ _ _ _ _ _ (heap_alloc_new w _), Nat.zero_add]
  simp [bv, List.getD, List.getElem?_eq_getElem hj]
theorem Bs.lit' (w : World) (t : TypeId) (fr : Nat × Nat) (xs : List Int) (C : Array Value) (n g : Nat) (hg : g = w.heap.size) (hC : C = (bv xs).toArray) (hn : xs.length = n) :
    Bs (w.alloc (.cells C t fr)) (w.alloc (.cells C t fr)).heap.size (some ⟨g, 0, none⟩) n xs := by
  subst hg
  subst hC
  subst hn
  exact (Bs.lit w t fr xs).up (by simp)
theorem Bs.new {w : World} {A : Option Addr} {n : Nat} {xs : List Int} (h : Bs w w.heap.size A n xs) (o : Obj) : Bs (w.alloc o) (w.alloc o).heap.size A n xs := h.later ((Below.refl _ _).alloc (Nat.le_refl _) o)
theorem equal_self (xs : List Int) : (Lib.bytesOf xs == Lib.bytesOf xs) = true := by simp
theorem Bs.take {w : World} {B n : Nat} {A : Option Addr} {xs : List Int} (h : Bs w B A n xs) {k : Nat} (hk : k ≤ n) : Bs w B A k (xs.take k) := by
  have hl := h.1
  refine ⟨by rw [List.length_take]; omega, fun hp => ?_⟩
  obtain ⟨b, o, rfl, hb, hc⟩ := h.2 (by omega)
  exact ⟨b, o, rfl, hb, fun j hj => by rw [hc j (by omega)]; simp [List.getD, List.getElem?_take, hj]⟩
theorem IsBy.take {xs : List Int} (h : IsBy xs) (n : Nat) : IsBy (xs.take n) := fun x hx => h x (List.mem_of_mem_take hx)
theorem IsBy.drop {xs : List Int} (h : IsBy xs) (n : Nat) : IsBy (xs.drop n) := fun x hx => h x (List.mem_of_mem_drop hx)
end Go.Proofs.Ytaflmiopaiigbaa
