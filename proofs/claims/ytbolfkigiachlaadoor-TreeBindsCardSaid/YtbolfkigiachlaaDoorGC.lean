/-
  Several own texts in one: ShaH, ShaI, ShaJ, ShaK, ShaL, ShaM, ShaN, ShaO, ShaQ, ShaX, SumBy. Own work.
-/
import Derived.Test.YtbolfkigiachlaaDoorGB
import Derived.Test.YtbolfkigiachlaaDoorGA
set_option linter.unusedVariables false
set_option linter.unusedSimpArgs false
/-
  SHA-256, the document's answer: numbers of six digits: digits, products, which is above: contracts. Own work.
-/
namespace Go.Proofs.YtbolfkigiachlaaDoor
open Go.RowKit
/-- The base. -/
def bB : Nat := 4294967296
/-- What digits stand for. -/
def vD : List Nat → Nat
  | [] => 0
  | d :: ds => d + bB * vD ds
/-- Digits in cells. -/
def uD (ds : List Nat) : List Int := ds.map (fun (d : Nat) => (d : Int))
theorem uD_len (ds : List Nat) : (uD ds).length = ds.length := by simp [uD]
theorem uD_get (ds : List Nat) (j : Nat) : (uD ds).getD j 0 = (ds.getD j 0 : Nat) := by
  unfold uD
  simp only [List.getD, List.getElem?_map]
  cases ds[j]? <;> rfl
theorem uD_set (ds : List Nat) (j v : Nat) : (uD ds).set j (v : Int) = uD (ds.set j v) := by unfold uD; rw [List.map_set]
def dgN (X : Nat) : Nat → List Nat
  | 0 => []
  | n + 1 => X % bB :: dgN (X / bB) n
theorem dgN_len (X n : Nat) : (dgN X n).length = n := by
  induction n generalizing X with
  | zero => rfl
  | succ n ih => simp [dgN, ih]
def IsD (ds : List Nat) : Prop := ∀ d, d ∈ ds → d < bB
theorem dgN_d (X n : Nat) : IsD (dgN X n) := by
  induction n generalizing X with
  | zero => intro d hd; simp [dgN] at hd
  | succ n ih =>
    intro d hd
    rcases List.mem_cons.1 hd with rfl | hd
    · exact Nat.mod_lt _ (by decide)
    · exact ih _ d hd
theorem dgN_v (X n : Nat) (h : X < bB ^ n) : vD (dgN X n) = X := by
  induction n generalizing X with
  | zero => simp at h; subst h; rfl
  | succ n ih =>
    rw [Nat.pow_succ] at h
    have := ih (X / bB) (by rw [Nat.div_lt_iff_lt_mul (by decide)]; exact h)
    show X % bB + bB * vD (dgN (X / bB) n) = X
    rw [this]
    exact Nat.mod_add_div X bB
theorem vD_dgN {ds : List Nat} (h : IsD ds) : dgN (vD ds) ds.length = ds := by
  induction ds with
  | nil => rfl
  | cons d ds ih =>
    have hd := h d (by simp)
    have ih' := ih fun x hx => h x (List.mem_cons_of_mem _ hx)
    show (d + bB * vD ds) % bB :: dgN ((d + bB * vD ds) / bB) ds.length = d :: ds
    rw [Nat.add_mul_mod_self_left, Nat.mod_eq_of_lt hd, Nat.add_mul_div_left _ _ (by decide), Nat.div_eq_of_lt hd, Nat.zero_add, ih']
theorem dgN_get (X n j : Nat) (hj : j < n) : (dgN X n).getD j 0 = X / bB ^ j % bB := by
  induction n generalizing X j with
  | zero => omega
  | succ n ih =>
    cases j with
    | zero => simp [dgN]
    | succ j =>
      have := ih (X / bB) j (by omega)
      show (dgN (X / bB) n).getD j 0 = _
      rw [this, Nat.div_div_eq_div_mul, Nat.pow_succ, Nat.mul_comm bB]
theorem IsD.get {ds : List Nat} (h : IsD ds) (j : Nat) : ds.getD j 0 < bB := by
  by_cases hj : j < ds.length
  · exact h _ (by rw [List.getD, List.getElem?_eq_getElem hj]; simp)
  · rw [List.getD, List.getElem?_eq_none (by omega)]; decide
theorem IsD.set {ds : List Nat} (h : IsD ds) (j : Nat) {v : Nat} (hv : v < bB) : IsD (ds.set j v) := by
  intro d hd
  rcases List.mem_or_eq_of_mem_set hd with h1 | h1
  · exact h d h1
  · rw [h1]; exact hv
theorem vD_set {ds : List Nat} {j : Nat} (v : Nat) (hj : j < ds.length) : vD (ds.set j v) + ds.getD j 0 * bB ^ j = vD ds + v * bB ^ j := by
  induction ds generalizing j with
  | nil => simp at hj
  | cons d ds ih =>
    cases j with
    | zero => simp [vD]; omega
    | succ j =>
      have := ih (j := j) (by simpa using hj)
      have e : (d :: ds).getD (j + 1) 0 = ds.getD j 0 := rfl
      rw [e]
      show d + bB * vD (ds.set j v) + _ = d + bB * vD ds + _
      rw [Nat.pow_succ, show ds.getD j 0 * (bB ^ j * bB) = bB * (ds.getD j 0 * bB ^ j) by rw [Nat.mul_comm bB, Nat.mul_assoc], show v * (bB ^ j * bB) = bB * (v * bB ^ j) by rw [Nat.mul_comm bB, Nat.mul_assoc]]
      rw [Nat.add_assoc, Nat.add_assoc, ← Nat.mul_add, ← Nat.mul_add, this]
/-- One digit by one digit: what stays, what is carried. -/
theorem dig_step {out : List Nat} {j c a b : Nat} (hj : j < out.length) :
    vD (out.set j ((c + out.getD j 0 + a * b) % bB)) + (c + out.getD j 0 + a * b) / bB * bB ^ (j + 1) = vD out + c * bB ^ j + a * b * bB ^ j := by
  have h := vD_set ((c + out.getD j 0 + a * b) % bB) hj
  have hm := Nat.mod_add_div (c + out.getD j 0 + a * b) bB
  have e2 : (c + out.getD j 0 + a * b) * bB ^ j = c * bB ^ j + out.getD j 0 * bB ^ j + a * b * bB ^ j := by rw [Nat.add_mul, Nat.add_mul]
  generalize c + out.getD j 0 + a * b = S at *
  have e : S * bB ^ j = S % bB * bB ^ j + S / bB * bB ^ (j + 1) := by
    rw [Nat.pow_succ, Nat.mul_comm (bB ^ j) bB, ← Nat.mul_assoc, ← Nat.add_mul, Nat.mul_comm (S / bB) bB, hm]
  generalize S % bB * bB ^ j = x1 at *
  generalize S / bB * bB ^ (j + 1) = x2 at *
  generalize out.getD j 0 * bB ^ j = x3 at *
  generalize a * b * bB ^ j = x4 at *
  generalize c * bB ^ j = x5 at *
  generalize S * bB ^ j = x6 at *
  omega
theorem carry_lt {c o a b : Nat} (hc : c < bB) (ho : o < bB) (ha : a < bB) (hb : b < bB) : c + o + a * b < 18446744073709551616 ∧ (c + o + a * b) / bB < bB := by
  have h1 : a * b ≤ (bB - 1) * (bB - 1) := Nat.mul_le_mul (by omega) (by omega)
  have h2 : (bB - 1) * (bB - 1) = 18446744065119617025 := by decide
  rw [h2] at h1
  generalize a * b = p at *
  clear h2
  unfold bB at *
  constructor
  · omega
  · rw [Nat.div_lt_iff_lt_mul (by decide)]
    omega
theorem zero6 : (Tryd.prog.info? 77).map (fun i => i.zero) = some (some (.agg (vk .u64 (uD (List.replicate 6 0))).toArray)) := by kernel_rfl
theorem size6 {ds : List Nat} (h : ds.length = 6) : (Tryd.prog.info? 77).map (·.size) = some (vk .u64 (uD ds)).length := by rw [vk_len, uD_len, h]; kernel_rfl
theorem len6 {ds : List Nat} (h : ds.length = 6) : (vk .u64 (uD (List.replicate 6 0))).length = (vk .u64 (uD ds)).length := by rw [vk_len, vk_len, uD_len, uD_len, h]; rfl
theorem built2 (x y : Int) : Tryd.prog.built 77 [(0, .int .u64 x), (1, .int .u64 y)] = some (vk .u64 [x, y, 0, 0, 0, 0]).toArray := by kernel_rfl
set_option maxRecDepth 100000 in
set_option maxHeartbeats 1000000 in
theorem of_any (X : Nat) (w : World) (hX : X < 18446744073709551616) : Calls Tryd.prog 50 #[.int .u64 (X : Int)] w fun e w' => e = .returned (.agg (vk .u64 (uD (dgN X 6))).toArray) ∧ Below w.heap.size w w' := by
  have hd : dgN X 6 = [X % 4294967296, X / 4294967296, 0, 0, 0, 0] := by
    have hB : bB = 4294967296 := rfl
    simp only [dgN, hB]
    have h1 : X / 4294967296 / 4294967296 = 0 := by omega
    have h2 : X / 4294967296 % 4294967296 = X / 4294967296 := by omega
    rw [h1, h2]
  have hu : vk .u64 (uD (dgN X 6)) = vk .u64 [(X : Int) % 4294967296, (X : Int) / 4294967296, 0, 0, 0, 0] := by rw [hd]; simp [uD]
  have HU := hide hu
  have z6 := hide (size6 (dgN_len X 6))
  have l6 := hide (len6 (dgN_len X 6))
  have bl := built2 ((X : Int) % 4294967296) ((X : Int) / 4294967296)
  rw [← hu] at bl
  clear hd hu
  generalize vk .u64 (uD (dgN X 6)) = D at *
  have hone : ∀ u ∈ D, u.oneCell' = true := by rw [HU.out]; exact vk_one' _ _
  go_enter Tryd.func50, Tryd.ntmps50
  go_wp2_with (first
    | (with_reducible refine wl_alloc rfl 77 _ (vk .u64 (uD (List.replicate 6 0))) rfl zero6 rfl ?_; intro g2 w2 r2 p2 l2 b2)
    | ((with_reducible refine wl_build rfl 77 [(0, .tmp 4), (1, .tmp 6)] rfl _ ?hv _ bl ?hk); case hv => rfl)
    | (with_reducible refine wl_store_row rfl 77 (.tmp 2) (.tmp 7) g2 77 _ D rfl rfl rfl r2 z6.out l6.out hone ?_; intro w8 r8 o8))
  refine bodyPost_ret (v := .agg D.toArray) ?_ rfl ⟨rfl, ?_⟩
  · exact results_cell_row Tryd.results50 _ _ g2 77 _ (0, 0) _ rfl r8 Tryd.underlying77 rfl z6.out
  · exact b2.trans (o8.below p2)
end Go.Proofs.YtbolfkigiachlaaDoor

/-
  SHA-256, the document's answer: a product of digits: contract. Own work.
-/
namespace Go.Proofs.YtbolfkigiachlaaDoor
open Go.RowKit
theorem vD_take_succ {ds : List Nat} {i : Nat} (h : i < ds.length) : vD (ds.take (i + 1)) = vD (ds.take i) + ds.getD i 0 * bB ^ i := by
  induction ds generalizing i with
  | nil => simp at h
  | cons d ds ih =>
    cases i with
    | zero => simp [vD]
    | succ i =>
      have := ih (i := i) (by simpa using h)
      show d + bB * vD (ds.take (i + 1)) = d + bB * vD (ds.take i) + ds.getD i 0 * bB ^ (i + 1)
      rw [this, Nat.mul_add, Nat.pow_succ, ← Nat.add_assoc, show bB * (ds.getD i 0 * bB ^ i) = ds.getD i 0 * (bB ^ i * bB) by rw [Nat.mul_comm bB, Nat.mul_assoc]]
theorem getD_set {ds : List Nat} {j k v : Nat} (h : j ≠ k) : (ds.set j v).getD k 0 = ds.getD k 0 := by simp [List.getD, List.getElem?_set, h]
theorem uD_cell (ds : List Nat) {j : Nat} (h : j < ds.length) : (vk .u64 (uD ds))[j]? = some (.int .u64 (ds.getD j 0 : Nat)) := by
  rw [vk_get (by rw [uD_len]; exact h), uD_get]
theorem rep0 (n j : Nat) : (List.replicate n (0 : Nat)).getD j 0 = 0 := by
  simp only [List.getD, List.getElem?_replicate]
  split <;> rfl
def STm (g2 g3 g5 i k c o a b : Nat) (opn : Nat) (v : Value) : Prop :=
  match opn with
  | 0 => v = .int .u64 (c : Int)
  | 1 | 7 => v = .int .i64 (i : Int)
  | 2 | 10 => v = .int .i64 (k : Int)
  | 3 => v = .int .i64 ((i + k : Nat) : Int)
  | 4 => v = .pointer (some ⟨g5, i + k, none⟩)
  | 5 => v = .int .u64 (o : Int)
  | 6 => v = .int .u64 ((c + o : Nat) : Int)
  | 8 => v = .pointer (some ⟨g2, i, none⟩)
  | 9 => v = .int .u64 (a : Int)
  | 11 => v = .pointer (some ⟨g3, k, none⟩)
  | 12 => v = .int .u64 (b : Int)
  | 13 => v = .int .u64 ((a * b : Nat) : Int)
  | 14 | 15 => v = .int .u64 ((c + o + a * b : Nat) : Int)
  | _ => True

set_option maxRecDepth 100000 in
set_option maxHeartbeats 2000000 in
theorem times_any (xa xb : List Nat) (w : World) (la : xa.length = 6) (lb : xb.length = 6) (da : IsD xa) (db : IsD xb) :
    Calls Tryd.prog 49 #[.agg (vk .u64 (uD xa)).toArray, .agg (vk .u64 (uD xb)).toArray] w fun e w' => ∃ out, e = .returned (.agg (vk .u64 (uD out)).toArray) ∧ Hid (vD out = vD (xa.take 4) * vD (xb.take 2)) ∧ out.length = 6 ∧ IsD out ∧ Below w.heap.size w w' := by
  have za := hide (size6 la)
  have Hla := hide la
  have Hlb := hide lb
  clear la lb
  go_enter Tryd.func49, Tryd.ntmps49
  go_wp2_with (first
    | (with_reducible refine wl_box (o := ⟨some 2, _, _, _, _, _⟩) rfl 77 (.tmp 0) _ (vk .u64 (uD xa)) rfl rfl rfl ?_; intro g2 w1 r2 p2 l2 b2)
    | (with_reducible refine wl_box (o := ⟨some 3, _, _, _, _, _⟩) rfl 77 (.tmp 1) _ (vk .u64 (uD xb)) rfl rfl rfl ?_; intro g3 w2 r3 p3 l3 b3; have r2a := r2.later b3)
    | (with_reducible refine wl_alloc (o := ⟨some 4, _, _, _, _, _⟩) rfl 77 _ (vk .u64 (uD (List.replicate 6 0))) rfl zero6 rfl ?_; intro g4 w3 r4 p4 l4 b4; have r2b := r2a.later b4; have r3a := r3.later b4)
    | (with_reducible refine wl_alloc (o := ⟨some 5, _, _, _, _, _⟩) rfl 77 _ (vk .u64 (uD (List.replicate 6 0))) rfl zero6 rfl ?_; intro g5 w4 r5 p5 l5 b5; have r2c := r2b.later b5; have r3b := r3a.later b5; have r4a := r4.later b5))
  have s2 := b2.size; have s3 := b3.size; have s4 := b4.size; have s5 := b5.size
  have B5 := ((b2.trans (b3.mono s2)).trans (b4.mono (Nat.le_trans s2 s3))).trans (b5.mono (Nat.le_trans s2 (Nat.le_trans s3 s4)))
  have q4 : w.heap.size ≤ g4 := by omega
  have q5 : w.heap.size ≤ g5 := by omega
  have h25 : g2 ≠ g5 := by have := r2b.lt; omega
  have h35 : g3 ≠ g5 := by have := r3a.lt; omega
  have h45 : g4 ≠ g5 := by have := r4.lt; omega
  clear r2 r2a r2b r3 r3a r4 b2 b3 b4 b5
  go_loopw [6] (fun iv wr => ∃ (i : Nat) (out : List Nat), i ≤ 4 ∧ iv = .int .i64 i ∧ Row wr 77 g5 (vk .u64 (uD out)) ∧ Hid (out.length = 6) ∧ IsD out ∧ Hid (vD out = vD (xa.take i) * vD (xb.take 2)) ∧ Hid (∀ j, i + 2 ≤ j → out.getD j 0 = 0) ∧ Row wr 77 g2 (vk .u64 (uD xa)) ∧ Row wr 77 g3 (vk .u64 (uD xb)) ∧ Row wr 77 g4 (vk .u64 (uD (List.replicate 6 0))) ∧ Below w.heap.size w wr) (fun iv _ => 4 - (intOf iv).toNat)
  case atStart => exact ⟨0, List.replicate 6 0, Nat.zero_le _, rfl, r5, hide (by simp), by intro d hd; rw [List.eq_of_mem_replicate hd]; decide, hide (by simp [vD, List.replicate]), hide (fun j _ => rep0 6 j), r2c, r3b, r4a, B5⟩
  case round =>
    clear r5 r2c r3b r4a B5
    obtain ⟨i, out, hi, rfl, r5, hl, hd, hv, hz, r2, r3, r4, br⟩ := hrel
    by_cases hlt : i < 4
    · have hdt : decide ((i : Int) < 4) = true := by simp; omega
      go_wp2_with fail
      go_loopw [8, 7] (fun kv cv wq => ∃ (k c : Nat) (out2 : List Nat), k ≤ 2 ∧ c < bB ∧ kv = .int .i64 k ∧ cv = .int .u64 (c : Int) ∧ Row wq 77 g5 (vk .u64 (uD out2)) ∧ Hid (out2.length = 6) ∧ IsD out2 ∧ Hid (vD out2 + c * bB ^ (i + k) = vD out + xa.getD i 0 * vD (xb.take k) * bB ^ i) ∧ Hid (∀ j, i + 2 ≤ j → out2.getD j 0 = 0) ∧ Row wq 77 g2 (vk .u64 (uD xa)) ∧ Row wq 77 g3 (vk .u64 (uD xb)) ∧ Row wq 77 g4 (vk .u64 (uD (List.replicate 6 0))) ∧ Below w.heap.size w wq) (fun kv _ _ => 2 - (intOf kv).toNat)
      case atStart => exact ⟨0, 0, out, Nat.zero_le _, by decide, rfl, rfl, r5, hl, hd, hide (by simp [vD]), hz, r2, r3, r4, br⟩
      case round =>
        clear r5 r2 r3 r4 br hd hz
        obtain ⟨k, c, out2, hk, hc, rfl, rfl, r5, hl2, hd2, hv2, hz2, r2, r3, r4, bq⟩ := hrel
        have hcB : c < 4294967296 := hc
        by_cases hlk : k < 2
        · have c1 := r5.cell (uD_cell out2 (j := i + k) (by rw [hl2.out]; omega))
          have c2 := r2.cell (uD_cell xa (j := i) (by rw [Hla.out]; omega))
          have c3 := r3.cell (uD_cell xb (j := k) (by rw [Hlb.out]; omega))
          have c1l := r5.lt; have c2l := r2.lt; have c3l := r3.lt
          have ho : out2.getD (i + k) 0 < bB := hd2.get _
          have ha : xa.getD i 0 < bB := da.get _
          have hb : xb.getD k 0 < bB := db.get _
          obtain ⟨hs1, hs2⟩ := carry_lt hc ho ha hb
          have hstep := dig_step (out := out2) (j := i + k) (c := c) (a := xa.getD i 0) (b := xb.getD k 0) (by rw [hl2.out]; omega)
          have hsetI : (uD out2).set (i + k) (((c + out2.getD (i + k) 0 + xa.getD i 0 * xb.getD k 0) % bB : Nat) : Int) = uD (out2.set (i + k) ((c + out2.getD (i + k) 0 + xa.getD i 0 * xb.getD k 0) % bB)) := uD_set _ _ _
          have hdn := hd2.set (i + k) (v := (c + out2.getD (i + k) 0 + xa.getD i 0 * xb.getD k 0) % bB) (Nat.mod_lt _ (by decide))
          have hln : (out2.set (i + k) ((c + out2.getD (i + k) 0 + xa.getD i 0 * xb.getD k 0) % bB)).length = 6 := by rw [List.length_set]; exact hl2.out
          have hzn : ∀ j, i + 2 ≤ j → (out2.set (i + k) ((c + out2.getD (i + k) 0 + xa.getD i 0 * xb.getD k 0) % bB)).getD j 0 = 0 := fun j hj => by rw [getD_set (by omega)]; exact hz2.out j hj
          have htk := vD_take_succ (ds := xb) (i := k) (by rw [Hlb.out]; omega)
          have hvn : vD (out2.set (i + k) ((c + out2.getD (i + k) 0 + xa.getD i 0 * xb.getD k 0) % bB)) + (c + out2.getD (i + k) 0 + xa.getD i 0 * xb.getD k 0) / bB * bB ^ (i + (k + 1)) = vD out + xa.getD i 0 * vD (xb.take (k + 1)) * bB ^ i := by
            rw [← Nat.add_assoc i k 1, hstep, hv2.out, htk, Nat.mul_add, Nat.add_mul, Nat.add_assoc, Nat.pow_add, ← Nat.mul_assoc (xa.getD i 0), Nat.mul_assoc _ (bB ^ k) (bB ^ i), Nat.mul_comm (bB ^ k)]
          have hcell1 : i + k < (vk .u64 (uD out2)).length := by rw [vk_len, uD_len, hl2.out]; omega
          have hcm : ((c + out2.getD (i + k) 0 + xa.getD i 0 * xb.getD k 0 : Nat) : Int) % 4294967296 = (((c + out2.getD (i + k) 0 + xa.getD i 0 * xb.getD k 0) % bB : Nat) : Int) := by unfold bB; omega
          have hcd : ((c + out2.getD (i + k) 0 + xa.getD i 0 * xb.getD k 0 : Nat) : Int) / 4294967296 = (((c + out2.getD (i + k) 0 + xa.getD i 0 * xb.getD k 0) / bB : Nat) : Int) := by unfold bB; omega
          have HSI := hide hsetI; have HVN := hide hvn; have HLN := hide hln; have HZN := hide hzn; have HCM := hide hcm; have HCD := hide hcd
          have hs0 : c + out2.getD (i + k) 0 < 18446744073709551616 := by omega
          clear hsetI hvn hln hzn hcm hcd hstep htk hv2 hz2 hl2
          generalize out2.set (i + k) ((c + out2.getD (i + k) 0 + xa.getD i 0 * xb.getD k 0) % bB) = new at *
          generalize xa.getD i 0 = a at *
          generalize xb.getD k 0 = b at *
          generalize out2.getD (i + k) 0 = o at *
          have hab : a * b < 18446744073709551616 := by omega
          go_wp2_with fail
          rename_i Q1 K1 hK1
          refine wp_region_vals [] (STm g2 g3 g5 i k c o a b) (fun _ _ w1 => Below wr.heap.size wr w1) (by kernel_rfl) (by kernel_rfl) (by kernel_rfl) (by kernel_rfl) (by kernel_rfl) (Below.refl _ _).drew ?obs ?he
          case obs =>
            refine ⟨?_, ?_, ?_, ?_, ?_, ?_, ?_, ?_, ?_, ?_, ?_, ?_, ?_, ?_, ?_, ?_, trivial⟩
            · exact .inl ⟨by kernel_rfl, fun L a1 w1 n h => ⟨_, rfl, run_move (.tmp 7) rfl (h.var n 7 (by kernel_rfl))⟩⟩
            · exact .inl ⟨by kernel_rfl, fun L a1 w1 n h => ⟨_, rfl, run_move (.tmp 6) rfl (h.var n 6 (by kernel_rfl))⟩⟩
            · exact .inl ⟨by kernel_rfl, fun L a1 w1 n h => ⟨_, rfl, run_move (.tmp 8) rfl (h.var n 8 (by kernel_rfl))⟩⟩
            · refine .inl ⟨by kernel_rfl, fun L a1 w1 n h => ⟨.int .i64 ((i + k : Nat) : Int), rfl, ?_⟩⟩
              have e0 : a1.eval (.tmp 18) = _ := h.dep n 1 18 (by kernel_rfl) rfl
              have e1 : a1.eval (.tmp 19) = _ := h.dep n 2 19 (by kernel_rfl) rfl
              unfold execOp
              simp only [e0, e1]
              go_simp
              rw [IntWalk.i64_in _ (by omega)]
            · exact .inl ⟨by kernel_rfl, fun L a1 w1 n h => ⟨_, rfl, run_index0 77 (.tmp 5) (.tmp 20) 6 70 g5 (i + k) rfl Tryd.underlying77 Tryd.sizeOf70 (h.var n 5 (by kernel_rfl)) (h.dep n 3 20 (by kernel_rfl) rfl) (by omega)⟩⟩
            · exact .inl ⟨by kernel_rfl, fun L a1 w1 n h => ⟨_, rfl, run_loadA 70 (.tmp 21) ⟨g5, i + k, none⟩ rfl Tryd.isAgg70 (h.dep n 4 21 (by kernel_rfl) rfl) ((h.inv.cell (show (⟨g5, i + k, none⟩ : Addr).block < wr.heap.size from c1l)).trans c1)⟩⟩
            · refine .inl ⟨by kernel_rfl, fun L a1 w1 n h => ⟨.int .u64 ((c + o : Nat) : Int), rfl, ?_⟩⟩
              have e0 : a1.eval (.tmp 17) = _ := h.dep n 0 17 (by kernel_rfl) rfl
              have e1 : a1.eval (.tmp 22) = _ := h.dep n 5 22 (by kernel_rfl) rfl
              unfold execOp
              simp only [e0, e1]
              go_simp
              rw [wraps_u64 _ (by omega) (by omega)]
            · exact .inl ⟨by kernel_rfl, fun L a1 w1 n h => ⟨_, rfl, run_move (.tmp 6) rfl (h.var n 6 (by kernel_rfl))⟩⟩
            · exact .inl ⟨by kernel_rfl, fun L a1 w1 n h => ⟨_, rfl, run_index0 77 (.tmp 2) (.tmp 24) 6 70 g2 (i) rfl Tryd.underlying77 Tryd.sizeOf70 (h.var n 2 (by kernel_rfl)) (h.dep n 7 24 (by kernel_rfl) rfl) (by omega)⟩⟩
            · exact .inl ⟨by kernel_rfl, fun L a1 w1 n h => ⟨_, rfl, run_loadA 70 (.tmp 25) ⟨g2, i, none⟩ rfl Tryd.isAgg70 (h.dep n 8 25 (by kernel_rfl) rfl) ((h.inv.cell (show (⟨g2, i, none⟩ : Addr).block < wr.heap.size from c2l)).trans c2)⟩⟩
            · exact .inl ⟨by kernel_rfl, fun L a1 w1 n h => ⟨_, rfl, run_move (.tmp 8) rfl (h.var n 8 (by kernel_rfl))⟩⟩
            · exact .inl ⟨by kernel_rfl, fun L a1 w1 n h => ⟨_, rfl, run_index0 77 (.tmp 3) (.tmp 27) 6 70 g3 (k) rfl Tryd.underlying77 Tryd.sizeOf70 (h.var n 3 (by kernel_rfl)) (h.dep n 10 27 (by kernel_rfl) rfl) (by omega)⟩⟩
            · exact .inl ⟨by kernel_rfl, fun L a1 w1 n h => ⟨_, rfl, run_loadA 70 (.tmp 28) ⟨g3, k, none⟩ rfl Tryd.isAgg70 (h.dep n 11 28 (by kernel_rfl) rfl) ((h.inv.cell (show (⟨g3, k, none⟩ : Addr).block < wr.heap.size from c3l)).trans c3)⟩⟩
            · refine .inl ⟨by kernel_rfl, fun L a1 w1 n h => ⟨.int .u64 ((a * b : Nat) : Int), rfl, ?_⟩⟩
              have e0 : a1.eval (.tmp 26) = _ := h.dep n 9 26 (by kernel_rfl) rfl
              have e1 : a1.eval (.tmp 29) = _ := h.dep n 12 29 (by kernel_rfl) rfl
              unfold execOp
              simp only [e0, e1]
              go_simp
              rw [wraps_u64 _ (by rw [← Int.natCast_mul]; omega) (by rw [← Int.natCast_mul]; omega)]
            · refine .inl ⟨by kernel_rfl, fun L a1 w1 n h => ⟨.int .u64 ((c + o + a * b : Nat) : Int), rfl, ?_⟩⟩
              have e0 : a1.eval (.tmp 23) = _ := h.dep n 6 23 (by kernel_rfl) rfl
              have e1 : a1.eval (.tmp 30) = _ := h.dep n 13 30 (by kernel_rfl) rfl
              unfold execOp
              simp only [e0, e1]
              go_simp
              rw [wraps_u64 _ (by have := Int.natCast_mul a b; omega) (by have := Int.natCast_mul a b; omega)]
            · exact .inl ⟨by kernel_rfl, fun L a1 w1 n h => ⟨_, rfl, run_assign (.tmp 31) rfl (h.dep n 14 31 (by kernel_rfl) rfl)⟩⟩
          case he =>
            intro V w7 hV hJ
            have b7 : Below wr.heap.size wr w7 := hJ
            have h15 : V 15 = .int .u64 ((c + o + a * b : Nat) : Int) := hV 15 7 rfl
            clear hV hJ
            simp only [putOps, List.setIfInBounds_toArray, List.set_cons_succ, List.set_cons_zero]
            rw [h15]
            refine hK1 _ _ ?_
            clear hK1 h15
            have r5' := r5.later b7
            have hs1' : ((c + o + a * b : Nat) : Int) < 18446744073709551616 := by omega
            have hs0' : (0 : Int) ≤ ((c + o + a * b : Nat) : Int) := by omega
            generalize ((c + o + a * b : Nat) : Int) = SS at *
            go_wp2_with (first
              | (with_reducible refine wl_store rfl 70 (.tmp 37) (.tmp 36) g5 (i + k) 77 _ (.int .u64 (SS % 4294967296)) rfl (by kernel_rfl) rfl rfl r5' hcell1 rfl ?_; intro w8 r8 o8; rw [vk_set, HCM.out, HSI.out] at r8))
            go_roundw
            case rel => exact ⟨k + 1, _, new, by omega, hs2, by go_num, by rw [HCD.out], r8, HLN, hdn, HVN, HZN, (r2.later b7).only o8 h25, (r3.later b7).only o8 h35, (r4.later b7).only o8 h45, (bq.trans (b7.mono bq.size)).trans (o8.below q5)⟩
            case measure => simp [intOf]; omega
        · have hk2 : k = 2 := by omega
          subst hk2
          have hset := vD_set (ds := out2) (j := i + 2) c (by rw [hl2.out]; omega)
          rw [hz2.out (i + 2) (Nat.le_refl _), Nat.zero_mul, Nat.add_zero, hv2.out, hv.out] at hset
          have htk := vD_take_succ (ds := xa) (i := i) (by rw [Hla.out]; omega)
          have hvn : vD (out2.set (i + 2) c) = vD (xa.take (i + 1)) * vD (xb.take 2) := by
            rw [hset, htk, Nat.add_mul, Nat.mul_right_comm]
          have hzn : ∀ j, i + 1 + 2 ≤ j → (out2.set (i + 2) c).getD j 0 = 0 := fun j hj => by rw [getD_set (by omega)]; exact hz2.out j (by omega)
          have hsetI : (uD out2).set (i + 2) (c : Int) = uD (out2.set (i + 2) c) := uD_set _ _ _
          have hdn := hd2.set (i + 2) hc
          have hln : (out2.set (i + 2) c).length = 6 := by rw [List.length_set]; exact hl2.out
          have hcell1 : i + 2 < (vk .u64 (uD out2)).length := by rw [vk_len, uD_len, hl2.out]; omega
          have HSI := hide hsetI; have HVN := hide hvn; have HLN := hide hln; have HZN := hide hzn
          clear hset htk hvn hzn hsetI hln hv2 hz2 hv hl2 hl hk
          generalize out2.set (i + 2) c = new at *
          go_wp2_with (first
            | (with_reducible refine wl_store rfl 70 (.tmp 43) (.tmp 42) g5 (i + 2) 77 _ (.int .u64 (c : Int)) rfl (by kernel_rfl) rfl rfl r5 hcell1 rfl ?_; intro w8 r8 o8; rw [vk_set, HSI.out] at r8))
          refine ⟨⟨i + 1, new, by omega, by first | rfl | go_num, r8, HLN, hdn, HVN, HZN, r2.only o8 h25, r3.only o8 h35, r4.only o8 h45, bq.trans (o8.below q5)⟩, ?_⟩
          simp [intOf]; omega
    · have hi4 : i = 4 := by omega
      subst hi4
      have zo := size6 hl.out
      have lo := len6 hl.out
      go_wp2_with (first
        | (with_reducible refine wl_load_row rfl 77 (.tmp 5) g5 77 (vk .u64 (uD out)) _ rfl rfl r5 Tryd.underlying77 rfl zo ?_)
        | (with_reducible refine wl_store_row rfl 77 (.tmp 4) (.tmp 44) g4 77 _ (vk .u64 (uD out)) rfl rfl rfl r4 zo lo (vk_one' _ _) ?_; intro w8 r8 o8))
      refine bodyPost_ret (v := .agg (vk .u64 (uD out)).toArray) ?_ rfl ⟨out, rfl, hv, hl.out, hd, ?_⟩
      · exact results_cell_row Tryd.results49 _ _ g4 77 _ (0, 0) _ rfl r8 Tryd.underlying77 rfl zo
      · exact br.trans (o8.below q4)
end Go.Proofs.YtbolfkigiachlaaDoor

/-
  SHA-256, the document's answer: which number is above; roots: contracts. Own work.
-/
namespace Go.Proofs.YtbolfkigiachlaaDoor
open Go.RowKit
theorem div_step (X i : Nat) : X / bB ^ i = bB * (X / bB ^ (i + 1)) + X / bB ^ i % bB := by
  rw [Nat.pow_succ, ← Nat.div_div_eq_div_mul]
  exact (Nat.div_add_mod _ _).symm
theorem above_dec {X Y i : Nat} (h : X / bB ^ (i + 1) = Y / bB ^ (i + 1)) (hne : X / bB ^ i % bB ≠ Y / bB ^ i % bB) : (decide (Y / bB ^ i % bB < X / bB ^ i % bB)) = decide (Y < X) := by
  have hx := div_step X i
  have hy := div_step Y i
  rw [h] at hx
  have key : ∀ A B : Nat, A / bB ^ i < B / bB ^ i → A < B := fun A B hab => Nat.lt_of_not_le fun hle => absurd (Nat.div_le_div_right (c := bB ^ i) hle) (by omega)
  have k1 := key Y X
  have k2 := key X Y
  generalize bB * (Y / bB ^ (i + 1)) = q at *
  generalize X / bB ^ i % bB = x at *
  generalize Y / bB ^ i % bB = y at *
  generalize X / bB ^ i = X' at *
  generalize Y / bB ^ i = Y' at *
  rw [Bool.eq_iff_iff]
  simp only [decide_eq_true_eq]
  constructor
  · intro h1; exact k1 (by omega)
  · intro h1
    have : ¬ x < y := fun h2 => by have := k2 (by omega); omega
    omega
set_option maxRecDepth 100000 in
set_option maxHeartbeats 2000000 in
theorem above_any (X Y : Nat) (w : World) (hX : X < bB ^ 6) (hY : Y < bB ^ 6) :
    Calls Tryd.prog 51 #[.agg (vk .u64 (uD (dgN X 6))).toArray, .agg (vk .u64 (uD (dgN Y 6))).toArray] w fun e w' => e = .returned (.bool (decide (Y < X))) ∧ Below w.heap.size w w' := by
  have hX0 : X / bB ^ 6 = Y / bB ^ 6 := by rw [Nat.div_eq_of_lt hX, Nat.div_eq_of_lt hY]
  have lX := dgN_len X 6
  have lY := dgN_len Y 6
  have gX := fun j hj => dgN_get X 6 j hj
  have gY := fun j hj => dgN_get Y 6 j hj
  have dX := dgN_d X 6
  have dY := dgN_d Y 6
  have HX0 := hide hX0
  have HLX := hide lX
  have HLY := hide lY
  have HGX := hide gX
  have HGY := hide gY
  clear hX hY hX0 lX lY gX gY
  generalize dgN X 6 = xs at *
  generalize dgN Y 6 = ys at *
  go_enter Tryd.func51, Tryd.ntmps51
  go_wp2_with (first
    | (with_reducible refine wl_box (o := ⟨some 2, _, _, _, _, _⟩) rfl 77 (.tmp 0) _ (vk .u64 (uD xs)) rfl rfl rfl ?_; intro g2 w1 r2 p2 l2 b2)
    | (with_reducible refine wl_box (o := ⟨some 3, _, _, _, _, _⟩) rfl 77 (.tmp 1) _ (vk .u64 (uD ys)) rfl rfl rfl ?_; intro g3 w2 r3 p3 l3 b3; have r2a := r2.later b3))
  have B2 := b2.trans (b3.mono b2.size)
  clear b2 b3 r2
  go_loopw [5] (fun iv wr => ∃ j : Nat, j ≤ 6 ∧ iv = .int .i64 ((j : Int) - 1) ∧ Hid (X / bB ^ j = Y / bB ^ j) ∧ Below w2.heap.size w2 wr) (fun iv _ => (intOf iv + 1).toNat)
  case atStart => exact ⟨6, Nat.le_refl _, rfl, HX0, Below.refl _ _⟩
  case round =>
    obtain ⟨j, hj, rfl, heq, br⟩ := hrel
    cases j with
    | zero =>
      have hXY : X = Y := by have := heq.out; simpa using this
      have hdf : decide (Y < X) = false := by simp; omega
      have HDF := hide hdf
      clear hXY hdf heq
      go_wp2
      go_ret
      exact ⟨by rw [HDF.out]; rfl, B2.trans (br.mono B2.size)⟩
    | succ i =>
      have hi1 : ((i + 1 : Nat) : Int) - 1 = (i : Int) := by omega
      rw [hi1]
      have c2 := (r2a.later br).cell (uD_cell xs (j := i) (by rw [HLX.out]; omega))
      have c3 := (r3.later br).cell (uD_cell ys (j := i) (by rw [HLY.out]; omega))
      have e2 := HGX.out i (by omega)
      have e3 := HGY.out i (by omega)
      have t2 := dX.get i
      have t3 := dY.get i
      unfold bB at t2 t3
      have hi6 : i < 6 := by omega
      have hstepX := div_step X i
      have hstepY := div_step Y i
      by_cases hne : xs.getD i 0 = ys.getD i 0
      · have hnext : X / bB ^ i = Y / bB ^ i := by rw [hstepX, hstepY, heq.out, ← e2, ← e3, hne]
        have HN := hide hnext
        have hb : (((xs.getD i 0 : Nat) : Int) != ((ys.getD i 0 : Nat) : Int)) = false := by rw [hne]; simp
        rw [← hne] at c3
        clear hnext hstepX hstepY e2 e3 heq hi1 hne hb
        generalize xs.getD i 0 = x at *
        go_wp2_with fail
        go_quiet (fail)
        have bq := below_drewn br nq
        go_wp2
        go_roundw
        case rel => exact ⟨i, by omega, by first | rfl | go_num, HN, bq⟩
        case measure => first | (simp [intOf]; done) | (simp [intOf]; omega)
      · have hdec := above_dec heq.out (by rw [← e2, ← e3]; exact hne)
        rw [← e2, ← e3] at hdec
        have HD := hide hdec
        clear hdec hstepX hstepY e2 e3 heq hi1
        generalize xs.getD i 0 = x at *
        generalize ys.getD i 0 = y at *
        have hneI : ¬ ((x : Int) = (y : Int)) := by omega
        go_wp2_with fail
        go_quiet (fail)
        have bq := below_drewn br nq
        clear br
        have c2' : (wr.drewN nq).cell? ⟨g2, i, none⟩ = some (.int .u64 (x : Int)) := c2
        have c3' : (wr.drewN nq).cell? ⟨g3, i, none⟩ = some (.int .u64 (y : Int)) := c3
        clear c2 c3
        generalize wr.drewN nq = wn at *
        go_wp2_with fail
        go_quiet (fail)
        have bq2 := below_drewn bq nq
        go_wp2
        go_ret
        exact ⟨by rw [← HD.out]; rfl, B2.trans (bq2.mono B2.size)⟩
/-- The first bits of a root, one by one. -/
def rootN (p power : Nat) : Nat → Nat
  | 0 => 0
  | i + 1 => if (rootN p power i + 2 ^ (37 - i)) ^ power ≤ p * bB ^ power then rootN p power i + 2 ^ (37 - i) else rootN p power i
theorem rootN_lt (p power : Nat) (i : Nat) (hi : i ≤ 38) : rootN p power i + 2 ^ (38 - i) ≤ 274877906944 := by
  induction i with
  | zero => simp [rootN]
  | succ i ih =>
    have h := ih (by omega)
    have e : (2 : Nat) ^ (38 - i) = 2 ^ (37 - i) + 2 ^ (37 - i) := by rw [show 38 - i = (37 - i) + 1 by omega, Nat.pow_succ]; omega
    have e2 : 38 - (i + 1) = 37 - i := by omega
    have hs : rootN p power (i + 1) ≤ rootN p power i + 2 ^ (37 - i) := by
      rw [rootN]
      split
      · exact Nat.le_refl _
      · exact Nat.le_add_right _ _
    rw [e2]
    generalize (2 : Nat) ^ (37 - i) = z at *
    omega
theorem times_dg {X Y : Nat} (hX : X < bB ^ 4) (hY : Y < bB ^ 2) (w : World) :
    Calls Tryd.prog 49 #[.agg (vk .u64 (uD (dgN X 6))).toArray, .agg (vk .u64 (uD (dgN Y 6))).toArray] w fun e w' => e = .returned (.agg (vk .u64 (uD (dgN (X * Y) 6))).toArray) ∧ Below w.heap.size w w' := by
  refine (times_any (dgN X 6) (dgN Y 6) w (dgN_len _ _) (dgN_len _ _) (dgN_d _ _) (dgN_d _ _)).mono ?_
  rintro e w' ⟨out, rfl, hv, hl, hd, hb⟩
  have h4 : (dgN X 6).take 4 = dgN X 4 := rfl
  have h2 : (dgN Y 6).take 2 = dgN Y 2 := rfl
  have hv' := hv.out
  rw [h4, h2, dgN_v X 4 hX, dgN_v Y 2 hY] at hv'
  have := vD_dgN hd
  rw [hl, hv'] at this
  exact ⟨by rw [this], hb⟩
theorem full_dg (p power : Nat) (hp : p < bB) (hpw : power = 2 ∨ power = 3) : (List.replicate 6 0).set power p = dgN (p * bB ^ power) 6 := by
  rcases hpw with rfl | rfl
  · have := vD_dgN (ds := [0, 0, p, 0, 0, 0]) (by intro d hd; simp at hd; rcases hd with rfl | rfl | rfl <;> first | decide | exact hp)
    rw [show vD [0, 0, p, 0, 0, 0] = p * bB ^ 2 by simp [vD]; rw [Nat.pow_two, Nat.mul_comm p, Nat.mul_assoc]] at this
    exact this.symm
  · have := vD_dgN (ds := [0, 0, 0, p, 0, 0]) (by intro d hd; simp at hd; rcases hd with rfl | rfl | rfl <;> first | decide | exact hp)
    rw [show vD [0, 0, 0, p, 0, 0] = p * bB ^ 3 by simp [vD]; rw [show bB ^ 3 = bB * (bB * bB) by rw [Nat.pow_succ, Nat.pow_two, Nat.mul_comm]; , Nat.mul_comm p, Nat.mul_assoc, Nat.mul_assoc]] at this
    exact this.symm
theorem pow_lt38 (x : Nat) (hx : x < 2 ^ 39) : x < bB ^ 2 ∧ x * x < bB ^ 4 ∧ x * x * x < bB ^ 6 := by
  have h2 : (2 : Nat) ^ 39 = 549755813888 := by decide
  have e2 : bB ^ 2 = 18446744073709551616 := by decide
  have e4 : bB ^ 4 = 340282366920938463463374607431768211456 := by decide
  have e6 : bB ^ 6 = 6277101735386680763835789423207666416102355444464034512896 := by decide
  rw [h2] at hx
  have h1 : x * x ≤ 549755813888 * 549755813888 := Nat.mul_le_mul (by omega) (by omega)
  have h3 : x * x * x ≤ 549755813888 * 549755813888 * 549755813888 := Nat.mul_le_mul h1 (by omega)
  rw [e2, e4, e6]
  generalize x * x * x = c at *
  generalize x * x = d at *
  omega
theorem JB.callY {g T k : Nat} {w0 w w' : World} {cur new : List Value} {bs bs' : List Bool} {vs us : List Value} (h : JB g T w0 k cur new bs vs w) (hb : Below w.heap.size w w') (h1 : bs'.getD k false = bs.getD k false) : JB g T w0 k cur new bs' us w' :=
  ⟨fun h0 => (h.1 (h1.symm.trans h0)).later hb, fun h0 => (h.2.1 (h1.symm.trans h0)).later hb, h.2.2.trans (But.of hb g)⟩
def SRt (y g9 : Nat) (opn : Nat) (v : Value) : Prop :=
  match opn with
  | 0 => v = .agg (vk .u64 (uD (dgN (y * y) 6))).toArray
  | 1 => v = .int .u64 (y : Int)
  | 2 => v = .agg (vk .u64 (uD (dgN y 6))).toArray
  | 3 => v = .agg (vk .u64 (uD (dgN (y * y * y) 6))).toArray
  | _ => True

theorem wl_run {P : Program} {ops : Array Oper} {rest : List Oper} {o : Oper} {a : Act} {w : World} {Q : Exit → Act → World → Prop} (hgd : o.guard = none) (v : Value) (hr : (execOp a.eval o).run P w = .ok (.value v) w) (hk : wpList P ops Q rest (a.put o.dst v) w) : wpList P ops Q (o :: rest) a w :=
  wpList_plain hgd fun K hK => by
    unfold Oper.wp
    rw [hr]
    exact hK _ _ hk
/-- '1 << (37 - i)'. -/
theorem run_shl37 {P : Program} {o : Oper} {a : Act} {w : World} (x y : Operand) (T T' : TypeId) (i z : Nat) (ho : o.op = .binOp .shl T x y T') (hx : a.eval x = .int .u64 1) (hy : a.eval y = .int .i64 (37 - (i : Int))) (hi : i < 38) (hz : 2 ^ (37 - i) = z) (hb : z < 18446744073709551616) : (execOp a.eval o).run P w = .ok (.value (.int .u64 (z : Int))) w := by
  have e1 : (0 : Int) ≤ 37 - (i : Int) := by omega
  have e3 : (2 : Int) ^ (37 - i) = (z : Int) := by rw [← hz]; exact (Int.natCast_pow 2 (37 - i)).symm
  unfold execOp
  simp only [ho, hx, hy]
  go_simp
  rw [wraps_u64 _ (by omega) (by omega)]
set_option maxRecDepth 100000 in
set_option maxHeartbeats 2000000 in
theorem root_any (p power : Nat) (w : World) (hp : p < bB) (hpw : power = 2 ∨ power = 3) :
    Calls Tryd.prog 41 #[.int .u64 (p : Int), .int .i64 (power : Int)] w fun e w' => e = .returned (.int .u32 ((rootN p power 38 % 4294967296 : Nat) : Int)) ∧ Below w.heap.size w w' := by
  have hfull := full_dg p power hp hpw
  have hF6 : p * bB ^ power < bB ^ 6 := by
    rcases hpw with rfl | rfl
    · exact Nat.lt_of_lt_of_le (Nat.mul_lt_mul_of_pos_right hp (by decide)) (by decide)
    · exact Nat.lt_of_lt_of_le (Nat.mul_lt_mul_of_pos_right hp (by decide)) (by decide)
  have hR := fun i hi => rootN_lt p power i hi
  have hstep : ∀ i, rootN p power (i + 1) = if (rootN p power i + 2 ^ (37 - i)) ^ power ≤ p * bB ^ power then rootN p power i + 2 ^ (37 - i) else rootN p power i := fun i => rfl
  have h0 : rootN p power 0 = 0 := rfl
  have HFin := hide (show ∀ i, i = 38 → rootN p power i = rootN p power 38 from fun i h => by rw [h])
  generalize rootN p power 38 = RF at *
  have hp6 : power < 6 := by omega
  have HFu := hide hfull
  have HF6 := hide hF6
  have HR := hide hR
  have HSt := hide hstep
  have H0 := hide h0
  have hpI : (p : Int) < 18446744073709551616 := by unfold bB at hp; omega
  clear hfull hF6 hR hstep h0 hp
  generalize p * bB ^ power = FU at *
  have hlen6 : power < (vk .u64 (uD (List.replicate 6 0))).length := by rw [vk_len, uD_len, List.length_replicate]; exact hp6
  go_enter Tryd.func41, Tryd.ntmps41
  go_wp2_with (first
    | (with_reducible refine wl_alloc rfl 77 _ (vk .u64 (uD (List.replicate 6 0))) rfl zero6 rfl ?_; intro g5 w1 r1 p1 l1 b1)
    | (with_reducible refine wl_store rfl 70 (.tmp 12) (.tmp 11) g5 power 77 _ (.int .u64 (p : Int)) rfl (by kernel_rfl) rfl rfl r1 hlen6 rfl ?_; intro w2 r2 o2; rw [vk_set, uD_set, HFu.out] at r2))
  have B2 := b1.trans (o2.below p1)
  have q5 : w.heap.size ≤ g5 := p1
  clear r1 b1 o2
  go_loopw [6, 7] (fun xv iv wr => ∃ i : Nat, i ≤ 38 ∧ iv = .int .i64 i ∧ xv = .int .u64 (rootN p power i : Int) ∧ Row wr 77 g5 (vk .u64 (uD (dgN FU 6))) ∧ Below w.heap.size w wr) (fun _ iv _ => 38 - (intOf iv).toNat)
  case atStart => exact ⟨0, Nat.zero_le _, rfl, by rw [H0.out]; rfl, r2, B2⟩
  case round =>
    clear r2 B2
    obtain ⟨i, hi, rfl, rfl, r5, br⟩ := hrel
    by_cases hlt : i < 38
    · have hx := HR.out i (by omega)
      have hst := HSt.out i
      have hFin := HFin
      clear HFin
      have e38 : (2 : Nat) ^ (38 - i) = 2 ^ (37 - i) + 2 ^ (37 - i) := by rw [show 38 - i = (37 - i) + 1 by omega, Nat.pow_succ]; omega
      rw [e38] at hx
      have Hst := hide hst
      clear hst e38
      generalize rootN p power i = x at *
      generalize hz : (2 : Nat) ^ (37 - i) = z at *
      have Hz := hide hz
      clear hz
      have h37 : (37 : Int) - (i : Int) = ((37 - i : Nat) : Int) := by omega
      have H37 := hide h37
      have h37' : (0 : Int) ≤ 37 - (i : Int) := by omega
      clear h37
      have hz8 : z < 18446744073709551616 := by omega
      have HZ8 := hide hz8
      have HXN := hide hx
      have hxI : (x : Int) + (z : Int) ≤ 274877906944 := by omega
      clear H37 hz8 hx hpI
      go_wp2_with (first
        | (with_reducible refine wl_run (o := ⟨some 20, _, _, _, _, _⟩) rfl _ (run_shl37 (.const (.int .u64 1)) (.tmp 19) _ _ i z rfl rfl rfl hlt Hz.out HZ8.out) ?_))
      have hy39 : x + z < 2 ^ 39 := by have := HXN.out; omega
      have hP := pow_lt38 (x + z) hy39
      have hyb0 : x + z < 18446744073709551616 := by have := HXN.out; omega
      rw [show (x : Int) + (z : Int) = ((x + z : Nat) : Int) from by omega]
      have HP := hide hP
      have HYB := hide hyb0
      clear hy39 hP hyb0 Hz HZ8 HXN hxI
      generalize x + z = y at *
      refine (of_any y wr HYB.out).mono ?_
      rintro e w3 ⟨rfl, b3⟩
      go_wp2_with fail
      refine (of_any y w3 HYB.out).mono ?_
      rintro e w4 ⟨rfl, b4⟩
      go_wp2_with fail
      refine (times_dg (Nat.lt_of_lt_of_le HP.out.1 (by decide)) HP.out.1 w4).mono ?_
      rintro e w5 ⟨rfl, b5⟩
      have r5b := ((r5.later b3).later b4).later b5
      have B5 := ((br.trans (b3.mono br.size)).trans (b4.mono (br.trans (b3.mono br.size)).size)).trans (b5.mono ((br.trans (b3.mono br.size)).trans (b4.mono (br.trans (b3.mono br.size)).size)).size)
      clear r5 br b3 b4 b5
      have z6 := hide (size6 (dgN_len (y * y) 6))
      have l6 := hide (len6 (dgN_len (y * y) 6))
      rcases hpw with hp2 | hp3
      · have hd2 : ((power : Int) == 3) = false := by rw [hp2]; rfl
        have HPow : Hid (y ^ power = y * y) := by show _ = _; rw [hp2, Nat.pow_two]
        have HY6 : Hid (y * y < bB ^ 6) := Nat.lt_of_lt_of_le HP.out.2.1 (by decide)
        clear hp2
        go_wp2_with (first
          | (with_reducible refine wl_alloc rfl 77 _ (vk .u64 (uD (List.replicate 6 0))) rfl zero6 rfl ?_; intro g9 w6 r6 p6 l6' b6; have r5c := r5b.later b6)
          | (with_reducible refine wl_store_row rfl 77 (.tmp 9) (.tmp 26) g9 77 _ (vk .u64 (uD (dgN (y * y) 6))) rfl rfl rfl r6 z6.out l6.out (vk_one' _ _) ?_; intro w7 r9 o7; have r5e := r5c.only o7 (by have := r5b.lt; omega))
          | (with_reducible refine wl_load_row rfl 77 (.tmp 9) g9 77 (vk .u64 (uD (dgN (y * y) 6))) _ rfl rfl r9 Tryd.underlying77 rfl (size6 (dgN_len _ _)) ?_)
          | (with_reducible refine wl_load_row rfl 77 (.tmp 5) g5 77 (vk .u64 (uD (dgN FU 6))) _ rfl rfl r5e Tryd.underlying77 rfl (size6 (dgN_len _ _)) ?_))
        have BB : Below w.heap.size w w7 := B5.trans ((b6.trans (o7.below p6)).mono B5.size)
        refine (above_any (y * y) FU w7 HY6.out HF6.out).mono ?_
        rintro e wZ ⟨rfl, bZ⟩
        have r5z := r5e.later bZ
        have BZ := BB.trans (bZ.mono BB.size)
        by_cases hab : FU < y * y
        · have hd : decide (FU < y * y) = true := decide_eq_true hab
          have hroot : rootN p power (i + 1) = x := by rw [Hst.out, if_neg (by rw [HPow.out]; omega)]
          have HRt := hide hroot
          rw [hd]
          clear hroot hab hd
          go_wp2_with fail
          refine ⟨⟨i + 1, by omega, by first | rfl | go_num, by rw [HRt.out], r5z, BZ⟩, ?_⟩
          first | (simp [intOf]; done) | (simp [intOf]; omega)
        · have hd : decide (FU < y * y) = false := decide_eq_false hab
          have hroot : rootN p power (i + 1) = y := by rw [Hst.out, if_pos (by rw [HPow.out]; omega)]
          have HRt := hide hroot
          rw [hd]
          clear hroot hab hd
          go_wp2_with fail
          refine ⟨⟨i + 1, by omega, by first | rfl | go_num, by rw [HRt.out], r5z, BZ⟩, ?_⟩
          first | (simp [intOf]; done) | (simp [intOf]; omega)
      · have hd3 : ((power : Int) == 3) = true := by rw [hp3]; rfl
        have HPow : Hid (y ^ power = y * y * y) := by show _ = _; rw [hp3, Nat.pow_succ, Nat.pow_two]
        have HY6 : Hid (y * y * y < bB ^ 6) := HP.out.2.2
        clear hp3
        go_wp2_with (first
          | (with_reducible refine wl_alloc rfl 77 _ (vk .u64 (uD (List.replicate 6 0))) rfl zero6 rfl ?_; intro g9 w6 r6 p6 l6' b6; have r5c := r5b.later b6)
          | (with_reducible refine wl_store_row rfl 77 (.tmp 9) (.tmp 26) g9 77 _ (vk .u64 (uD (dgN (y * y) 6))) rfl rfl rfl r6 z6.out l6.out (vk_one' _ _) ?_; intro w7 r9 o7; have r5e := r5c.only o7 (by have := r5b.lt; omega)))
        have B7 : Below w.heap.size w w7 := B5.trans ((b6.trans (o7.below p6)).mono B5.size)
        have h59 : g5 ≠ g9 := by have := r5b.lt; omega
        have q9 : w.heap.size ≤ g9 := Nat.le_trans B5.size p6
        rename_i Q1 K1 hK1
        have hyb := HYB.out
        have hy4 := HP.out.2.1
        have hy2 := HP.out.1
        refine wp_region_vals [2, 3, 4] (SRt y g9) (JB g9 77 w7 2 (vk .u64 (uD (dgN (y * y) 6))) (vk .u64 (uD (dgN (y * y * y) 6)))) (by kernel_rfl) (by kernel_rfl) (by kernel_rfl) (by kernel_rfl) (by kernel_rfl) (JB.start r9 rfl) ?obs ?he
        case obs =>
          refine ⟨?_, ?_, ?_, ?_, ?_, trivial⟩
          · exact .inl ⟨by kernel_rfl, fun L a1 w1 n h => ⟨_, rfl, run_loadRow 77 (.tmp 9) g9 77 _ _ rfl (h.var n 9 (by kernel_rfl)) (h.inv.1 (n.later (by kernel_rfl))) Tryd.underlying77 rfl (size6 (dgN_len _ _))⟩⟩
          · exact .inl ⟨by kernel_rfl, fun L a1 w1 n h => ⟨_, rfl, run_move (.tmp 8) rfl (h.var n 8 (by kernel_rfl))⟩⟩
          · refine .inr fun L a1 w1 n h K hK => ?_
            have e0 : a1.eval (.tmp 30) = .int .u64 (y : Int) := h.dep n 1 30 (by kernel_rfl) rfl
            refine st_call 50 _ _ #[.int .u64 (y : Int)] rfl Tryd.call50 ?_ (of_any y w1 hyb) ?_
            · simp only [List.map_toArray, List.map_cons, List.map_nil, e0]
            · rintro e w3 ⟨rfl, b9⟩
              exact ⟨_, rfl, hK _ w3 rfl (JB.callY h.inv b9 rfl)⟩
          · refine .inr fun L a1 w1 n h K hK => ?_
            have e0 : a1.eval (.tmp 29) = .agg (vk .u64 (uD (dgN (y * y) 6))).toArray := h.dep n 0 29 (by kernel_rfl) rfl
            have e1 : a1.eval (.tmp 31) = .agg (vk .u64 (uD (dgN y 6))).toArray := h.dep n 2 31 (by kernel_rfl) rfl
            refine st_call 49 _ _ #[.agg (vk .u64 (uD (dgN (y * y) 6))).toArray, .agg (vk .u64 (uD (dgN y 6))).toArray] rfl Tryd.call49 ?_ (times_dg hy4 hy2 w1) ?_
            · simp only [List.map_toArray, List.map_cons, List.map_nil, e0, e1]
            · rintro e w3 ⟨rfl, b9⟩
              exact ⟨_, rfl, hK _ w3 rfl (JB.callY h.inv b9 rfl)⟩
          · refine .inr fun L a1 w1 n h K hK => ?_
            have no : L.getD 4 false = false := n.not_yet
            refine st_store_row 77 (.tmp 9) (.tmp 32) g9 77 (vk .u64 (uD (dgN (y * y) 6))) (vk .u64 (uD (dgN (y * y * y) 6))) rfl (h.var n 9 (by kernel_rfl)) (h.dep n 3 32 (by kernel_rfl) rfl) (h.inv.1 no) (size6 (dgN_len _ _)) (by rw [vk_len, vk_len, uD_len, uD_len, dgN_len, dgN_len]) (vk_one' _ _) ?_
            intro w3 r3 o3
            exact hK undef w3 trivial (JB.store h.inv o3 r3 rfl)
        case he =>
          intro V w8 hV hJ
          have r9b := hJ.2.1 rfl
          have bu := hJ.2.2
          clear hV hJ hyb hy4 hy2
          simp only [putOps, List.setIfInBounds_toArray, List.set_cons_succ, List.set_cons_zero]
          have r5f := r5e.but bu h59
          have BB : Below w.heap.size w w8 := B7.trans (bu.below q9 B7.size)
          clear r5e r5c
          have r5e := r5f
          first | (refine hK1 _ _ ?_) | skip
          go_wp2_with (first
          | (with_reducible refine wl_load_row rfl 77 (.tmp 9) g9 77 (vk .u64 (uD (dgN (y * y * y) 6))) _ rfl rfl r9b Tryd.underlying77 rfl (size6 (dgN_len _ _)) ?_)
          | (with_reducible refine wl_load_row rfl 77 (.tmp 5) g5 77 (vk .u64 (uD (dgN FU 6))) _ rfl rfl r5e Tryd.underlying77 rfl (size6 (dgN_len _ _)) ?_))
          refine (above_any (y * y * y) FU w8 HY6.out HF6.out).mono ?_
          rintro e wZ ⟨rfl, bZ⟩
          have r5z := r5e.later bZ
          have BZ := BB.trans (bZ.mono BB.size)
          by_cases hab : FU < y * y * y
          · have hd : decide (FU < y * y * y) = true := decide_eq_true hab
            have hroot : rootN p power (i + 1) = x := by rw [Hst.out, if_neg (by rw [HPow.out]; omega)]
            have HRt := hide hroot
            rw [hd]
            clear hroot hab hd
            go_wp2_with fail
            refine ⟨⟨i + 1, by omega, by first | rfl | go_num, by rw [HRt.out], r5z, BZ⟩, ?_⟩
            first | (simp [intOf]; done) | (simp [intOf]; omega)
          · have hd : decide (FU < y * y * y) = false := decide_eq_false hab
            have hroot : rootN p power (i + 1) = y := by rw [Hst.out, if_pos (by rw [HPow.out]; omega)]
            have HRt := hide hroot
            rw [hd]
            clear hroot hab hd
            go_wp2_with fail
            refine ⟨⟨i + 1, by omega, by first | rfl | go_num, by rw [HRt.out], r5z, BZ⟩, ?_⟩
            first | (simp [intOf]; done) | (simp [intOf]; omega)
    · have h38 : i = 38 := by omega
      have hnl : decide ((i : Int) < 38) = false := by simp; omega
      have hfin := HFin.out i h38
      rw [hfin]
      clear HFin hfin h38 HR HSt
      go_wp2_with fail
      go_ret
      refine ⟨congrArg Ending.returned (congrArg (Value.int .u32) ?_), br⟩
      show (RF : Int) % 4294967296 = ((RF % 4294967296 : Nat) : Int)
      omega
end Go.Proofs.YtbolfkigiachlaaDoor

/-
  SHA-256, the document's answer: the first primes: contract. Own work.
-/
namespace Go.Proofs.YtbolfkigiachlaaDoor
open Go.RowKit
/-- The primes below 2 + k. -/
def prL : Nat → List Nat
  | 0 => []
  | k + 1 => if (prL k).all (fun o => decide ((2 + k) % o ≠ 0)) = true then prL k ++ [2 + k] else prL k
theorem prL_mono {j k : Nat} (h : j ≤ k) : (prL j).length ≤ (prL k).length := by
  induction k with
  | zero => obtain rfl : j = 0 := by omega
            exact Nat.le_refl _
  | succ k ih =>
    rcases Nat.lt_or_ge k j with h1 | h1
    · obtain rfl : j = k + 1 := by omega
      exact Nat.le_refl _
    · refine Nat.le_trans (ih h1) ?_
      rw [prL]
      split
      · rw [List.length_append]; omega
      · exact Nat.le_refl _
theorem prL_ge (k : Nat) : ∀ o ∈ prL k, 2 ≤ o ∧ o < 2 + k := by
  induction k with
  | zero => intro o ho; simp [prL] at ho
  | succ k ih =>
    intro o ho
    rw [prL] at ho
    split at ho
    · rcases List.mem_append.1 ho with h | h
      · have := ih o h; omega
      · simp at h; omega
    · have := ih o ho; omega
set_option maxRecDepth 100000 in
theorem prL_309 : (prL 309).length = 63 := by decide +kernel
set_option maxRecDepth 100000 in
theorem prL_310 : (prL 310).length = 64 := by decide +kernel
theorem nat_bne (q : Nat) : (((q : Nat) : Int) != 0) = decide (q ≠ 0) := by
  rw [Bool.eq_iff_iff]
  simp
theorem ownsRow_u {w : World} {base e n : Nat} {v : Value} {ds : List Nat} (h : w.ownsRow base e 1 v n (vk .u64 (uD ds))) (hp : 0 < n) :
    ∃ g c, v = .slice (some ⟨g, 0, none⟩) n c ∧ ds.length = n ∧ g < w.heap.size ∧ ∀ j, j < n → w.cell? ⟨g, j, none⟩ = some (.int .u64 (ds.getD j 0 : Nat)) := by
  have hl : ds.length = n := by have := h.1; rw [vk_len, uD_len] at this; omega
  rcases h.2 with ⟨rfl, rfl⟩ | ⟨g, cap, cur, rfl, _, hg, hnc, hcm, _, _⟩
  · exact absurd hp (by omega)
  · refine ⟨g, cap, rfl, hl, (Array.getElem?_eq_some_iff.1 hg).1, fun j hj => ?_⟩
    have hc := h.cells (g := g) rfl j (.int .u64 (ds.getD j 0 : Nat)) (uD_cell ds (by omega))
    rwa [addr_plain, Nat.zero_add] at hc
theorem ownsRow_v {w : World} {base e n : Nat} {v : Value} {ds : List Nat} (h : w.ownsRow base e 1 v n (vk .u64 (uD ds))) : ∃ A c, v = .slice A n c := by
  rcases h.2 with ⟨rfl, rfl⟩ | ⟨g, cap, cur, rfl, _, hg, hnc, hcm, _, _⟩
  · exact ⟨none, 0, rfl⟩
  · exact ⟨_, cap, rfl⟩
theorem ownsRow_ext {w w' : World} {base e n : Nat} {v : Value} {xs : List Value} (h : w.ownsRow base e 1 v n xs) (hb : Below w.heap.size w w') : w'.ownsRow base e 1 v n xs := by
  refine ⟨h.1, ?_⟩
  rcases h.2 with ⟨rfl, rfl⟩ | ⟨g, cap, cur, rfl, h1, hg, hrest⟩
  · exact .inl ⟨rfl, rfl⟩
  · exact .inr ⟨g, cap, cur, rfl, h1, (hb.block g (Array.getElem?_eq_some_iff.1 hg).1).trans hg, hrest⟩
theorem u64_info_ : (Tryd.prog.info? 70).map (fun i => (i.zero, i.size, i.bytes)) = some (some (.int .u64 0), 1, 8) := by kernel_rfl
theorem u64_info : ∃ i, Tryd.prog.info? 70 = some i ∧ i.zero = some (.int .u64 0) ∧ i.size = 1 ∧ i.bytes = 8 := by
  obtain ⟨i, h0, h1, h2, h3⟩ := info_parts u64_info_
  exact ⟨i, h0, h1, h2, h3⟩
/-- What the primes are handed back in. -/
def RetP (w : World) (e : Ending) (w' : World) : Prop :=
  ∃ g c, e = .returned (.slice (some ⟨g, 0, none⟩) 64 c) ∧ w.heap.size ≤ g ∧ g < w'.heap.size ∧ (∀ j, j < 64 → w'.cell? ⟨g, j, none⟩ = some (.int .u64 ((prL 310).getD j 0 : Nat))) ∧ Below w.heap.size w w'
set_option maxRecDepth 100000 in
set_option maxHeartbeats 2000000 in
theorem primes_any (w : World) : Calls Tryd.prog 40 #[.int .i64 64] w (RetP w) := by
  obtain ⟨i0, hi, hz, hsz, hby⟩ := u64_info
  have HLast := hide (show ∀ k, k = 310 → prL k = prL 310 from fun k h => by rw [h])
  have hLen : ∀ k, k < 310 → (prL k).length < 64 := fun k hk => by have := prL_mono (show k ≤ 309 by omega); have := prL_309; omega
  have HLen := hide hLen
  have H310 := hide prL_310
  clear hLen
  have hfin : ∀ (g c : Nat) (w' : World), w.heap.size ≤ g → g < w'.heap.size → (∀ j, j < 64 → w'.cell? ⟨g, j, none⟩ = some (.int .u64 ((prL 310).getD j 0 : Nat))) → Below w.heap.size w w' → RetP w (.returned (.slice (some ⟨g, 0, none⟩) 64 c)) w' := fun g c w' h0 h1 h2 h3 => ⟨g, c, rfl, h0, h1, h2, h3⟩
  have HFin := hide hfin
  clear hfin
  generalize RetP w = RR at *
  generalize prL 310 = PR at *
  go_enter Tryd.func40, Tryd.ntmps40
  go_wp2_with fail
  go_loopw [3, 4] (fun ov xv wr => ∃ k : Nat, k ≤ 310 ∧ xv = .int .u64 (2 + (k : Int)) ∧ wr.ownsRow w.heap.size 70 1 ov (prL k).length (vk .u64 (uD (prL k))) ∧ Below w.heap.size w wr) (fun _ xv _ => 312 - (intOf xv).toNat)
  case atStart => exact ⟨0, Nat.zero_le _, rfl, World.ownsRow_nil _ _ _ _, Below.refl _ _⟩
  case round =>
    obtain ⟨k, hk, rfl, hown, br⟩ := hrel
    obtain ⟨A, c, rfl⟩ := ownsRow_v hown
    by_cases hlt : k < 310
    · have hln := HLen.out k hlt
      have hge := prL_ge k
      have hnext : prL (k + 1) = if (prL k).all (fun o => decide ((2 + k) % o ≠ 0)) = true then prL k ++ [2 + k] else prL k := rfl
      have HN := hide hnext
      have HGe := hide hge
      have hcell : 0 < (prL k).length → ∃ g c', (Value.slice A (prL k).length c) = .slice (some ⟨g, 0, none⟩) (prL k).length c' ∧ (prL k).length = (prL k).length ∧ g < wr.heap.size ∧ ∀ j, j < (prL k).length → wr.cell? ⟨g, j, none⟩ = some (.int .u64 ((prL k).getD j 0 : Nat)) := fun hp => ownsRow_u hown hp
      have HCell := hide hcell
      clear hnext hge hcell
      generalize hm : (prL k).length = m at *
      have Hm := hide hm
      clear hm
      generalize prL k = ps at *
      have hd1 : decide ((m : Int) < 64) = true := by simp; omega
      have hd2 : decide (2 + (k : Int) < 1000) = true := by simp; omega
      go_wp2_with fail
      go_loopw [5, 6] (fun bv iv wq => ∃ i : Nat, i ≤ m ∧ iv = .int .i64 i ∧ bv = .bool ((ps.take i).all (fun o => decide ((2 + k) % o ≠ 0))) ∧ wr = wq) (fun _ iv _ => m - (intOf iv).toNat)
      case atStart => exact ⟨0, Nat.zero_le _, rfl, rfl, rfl⟩
      case round =>
        obtain ⟨i, him, rfl, rfl, rfl⟩ := hrel
        by_cases hil : i < m
        · obtain ⟨g, c', hv, _, hgl, hcs⟩ := HCell.out (by omega)
          injection hv with hA _ hcc
          subst hA
          have c1 := hcs i hil
          have ho2 := HGe.out (ps.getD i 0) (by rw [List.getD, List.getElem?_eq_getElem (by rw [Hm.out]; exact hil)]; simp)
          have hsucc : (ps.take (i + 1)).all (fun o => decide ((2 + k) % o ≠ 0)) = ((ps.take i).all (fun o => decide ((2 + k) % o ≠ 0)) && decide ((2 + k) % ps.getD i 0 ≠ 0)) := by
            rw [List.take_succ_eq_append_getElem (by rw [Hm.out]; exact hil), List.all_append]
            simp [List.getD, List.getElem?_eq_getElem (show i < ps.length by rw [Hm.out]; exact hil)]
          have hmod : (2 + (k : Int)) % ((ps.getD i 0 : Nat) : Int) = (((2 + k) % ps.getD i 0 : Nat) : Int) := by
            rw [Int.natCast_emod]; rfl
          have HSu := hide hsucc
          have HMo := hide hmod
          clear hcs hsucc hmod hcc
          generalize hb : (ps.take i).all (fun o => decide ((2 + k) % o ≠ 0)) = b at *
          have Hb := hide hb
          clear hb
          generalize ps.getD i 0 = o at *
          have hoI : ((o : Nat) : Int) ≠ 0 := by omega
          have hoP : (0 : Int) < ((o : Nat) : Int) := by omega
          cases b
          · go_wp2
            go_roundw
            case rel => exact ⟨i + 1, by omega, by go_num, by rw [HSu.out]; rfl, trivial⟩
            case measure => simp [intOf]; omega
          · go_wp2
            go_roundw
            case rel => exact ⟨i + 1, by omega, by go_num, by rw [HSu.out, HMo.out, nat_bne, Bool.true_and], trivial⟩
            case measure => simp [intOf]; omega
        · have hm2 : i = m := by omega
          subst hm2
          have hall : ps.take i = ps := List.take_of_length_le (by rw [Hm.out]; exact Nat.le_refl _)
          rw [hall]
          have hn63 : i + 1 ≤ maxLen := by simp only [maxLen]; omega
          have hbs := br.size
          clear hall HCell HGe
          by_cases hp : ps.all (fun o => decide ((2 + k) % o ≠ 0)) = true
          · have hnx : prL (k + 1) = ps ++ [2 + k] := by rw [HN.out, if_pos hp]
            have HNx := hide hnx
            rw [hp]
            clear hnx hp HN
            go_wp2_with (first
              | (with_reducible refine wl_build1 rfl 67 (.tmp 35) rfl 70 i0 (.int .u64 0) (.int .u64 (2 + (k : Int))) Tryd.underlying67 hi hz hsz rfl rfl rfl ?_; intro g7 w7 r7 p7 l7 b7)
              | (at_builtin; refine wpList_append_own _ rfl (.tmp 34) (.tmp 36) 67 rfl w.heap.size 70 i0 (.int .u64 0) 1 8 Tryd.underlying67 hi hz hsz hby rfl (by decide) _ i (vk .u64 (uD ps)) rfl (ownsRow_ext hown b7) ⟨g7, 0, none⟩ 1 1 [.int .u64 (2 + (k : Int))] rfl rfl (src_one r7) (one_int _ _) hn63 (by omega) (Nat.le_trans hbs b7.size) ?_; intro v8 w8 o8 gr8 _))
            have b8 : Below w.heap.size w w8 := (br.trans (b7.mono hbs)).grown gr8 (Nat.le_trans hbs b7.size) (fun j hj => (hown.lt j hj).1)
            have o8' : w8.ownsRow w.heap.size 70 1 v8 (prL (k + 1)).length (vk .u64 (uD (prL (k + 1)))) := by
              rw [HNx.out, List.length_append, Hm.out, show vk .u64 (uD (ps ++ [2 + k])) = vk .u64 (uD ps) ++ [.int .u64 (2 + (k : Int))] by simp [vk, uD]]
              exact o8
            clear o8 gr8 hown r7 b7
            go_wp2
            refine ⟨⟨k + 1, by omega, by first | rfl | go_num, o8', b8⟩, ?_⟩
            first | (simp [intOf]; done) | (simp [intOf]; omega)
          · have hnx : prL (k + 1) = ps := by rw [HN.out, if_neg hp]
            have HNx := hide hnx
            have hpf : ps.all (fun o => decide ((2 + k) % o ≠ 0)) = false := by simpa using hp
            rw [hpf]
            have o8' : wr.ownsRow w.heap.size 70 1 (.slice A i c) (prL (k + 1)).length (vk .u64 (uD (prL (k + 1)))) := by
              rw [HNx.out, Hm.out]
              exact hown
            clear hnx hp HN hpf hown
            go_wp2
            refine ⟨⟨k + 1, by omega, by first | rfl | go_num, o8', br⟩, ?_⟩
            first | (simp [intOf]; done) | (simp [intOf]; omega)
    · have hk310 : k = 310 := by omega
      rw [HLast.out k hk310, H310.out] at hown
      have hd1 : decide ((((prL k).length : Nat) : Int) < 64) = false := by rw [HLast.out k hk310, H310.out]; rfl
      have hln : (prL k).length = 64 := by rw [HLast.out k hk310, H310.out]
      try rw [hln]
      obtain ⟨g, c', hv, _, hgl, hcs⟩ := ownsRow_u hown (by decide)
      have hlow : w.heap.size ≤ g := (hown.lt g (by rw [hv]; rfl)).1
      try rw [hln] at hv
      injection hv with hA _ hcc
      subst hA
      clear hk310 hown hln hd1 HLen HLast
      go_wp2_with fail

      try go_ret
      exact HFin.out g _ wr hlow hgl hcs br
end Go.Proofs.YtbolfkigiachlaaDoor

/-
  SHA-256, the document's answer: the state behind a block, its parts. Own work.
-/
namespace Go.Proofs.YtbolfkigiachlaaDoor
open Go.RowKit
theorem run_indexS {P : Program} {w : World} {a : Act} {o : Oper} (t : TypeId) (x y : Operand) (e : TypeId) (b off len cap i : Nat)
    (ho : o.op = .indexAddr t x y) (hu : P.underlying t = some (.slice e)) (hs : ∀ w, (sizeOf e).run P w = .ok 1 w) (hx : a.eval x = .slice (some ⟨b, off, none⟩) len cap) (hy : a.eval y = .int .i64 i) (hi : i < len) :
    (execOp a.eval o).run P w = .ok (.value (.pointer (some ⟨b, off + i, none⟩))) w := by
  unfold execOp
  simp only [ho, hx, hy]
  go_simp
/-- The words, as the first i bytes make them. -/
def wP (bs : List Int) (i : Nat) : List Int := (List.range 64).map fun q => beV (((bs.take i).drop (4 * q)).take 4)
theorem wP_len (bs : List Int) (i : Nat) : (wP bs i).length = 64 := by simp [wP]
theorem wP_get (bs : List Int) (i q : Nat) (hq : q < 64) : (wP bs i).getD q 0 = beV (((bs.take i).drop (4 * q)).take 4) := by
  unfold wP
  simp [List.getD, hq]
theorem wP_zero (bs : List Int) : wP bs 0 = List.replicate 64 0 := by
  unfold wP
  apply List.ext_getElem (by simp)
  intro q h1 h2
  rw [List.getElem_replicate]
  simp only [List.getElem_map, List.getElem_range, List.take_zero, List.drop_nil, List.take_nil]
  rfl
theorem piece_step {bs : List Int} {i : Nat} (hi : i < bs.length) : ((bs.take (i + 1)).drop (4 * (i / 4))).take 4 = ((bs.take i).drop (4 * (i / 4))).take 4 ++ [bs.getD i 0] := by
  have hle : 4 * (i / 4) ≤ i := by omega
  rw [List.take_succ_eq_append_getElem hi, List.drop_append_of_le_length (by rw [List.length_take]; omega), List.take_of_length_le (l := List.drop _ _ ++ _) (by simp only [List.length_append, List.length_drop, List.length_take, List.length_singleton]; omega), List.take_of_length_le (l := List.drop _ _) (by rw [List.length_drop, List.length_take]; omega)]
  simp [List.getD, List.getElem?_eq_getElem hi]
theorem piece_other {bs : List Int} {i q : Nat} (hi : i < bs.length) (hq : q ≠ i / 4) : ((bs.take (i + 1)).drop (4 * q)).take 4 = ((bs.take i).drop (4 * q)).take 4 := by
  rw [List.take_succ_eq_append_getElem hi]
  rcases Nat.lt_or_ge i (4 * q) with h | h
  · rw [List.drop_of_length_le (by simp only [List.length_append, List.length_take, List.length_singleton]; omega), List.drop_of_length_le (by rw [List.length_take]; omega)]
  · rw [List.drop_append_of_le_length (by rw [List.length_take]; omega), List.take_append_of_le_length (by rw [List.length_drop, List.length_take]; omega)]
theorem wP_set {bs : List Int} {i : Nat} (hl : bs.length = 64) (hi : i < 64) : (wP bs i).set (i / 4) ((wP bs i).getD (i / 4) 0 * 256 + bs.getD i 0) = wP bs (i + 1) := by
  apply List.ext_getElem (by rw [List.length_set, wP_len, wP_len])
  intro q h1 h2
  rw [wP_len] at h2
  rw [List.getElem_set]
  split
  · rename_i e
    subst e
    rw [wP_get _ _ _ h2]
    simp only [wP, List.getElem_map, List.getElem_range]
    rw [piece_step (by omega), beV_snoc]
  · rename_i e
    simp only [wP, List.getElem_map, List.getElem_range]
    rw [piece_other (by omega) (fun h => e h.symm)]
theorem wP_all {bs : List Int} (hl : bs.length = 64) : wP bs 64 = w16 bs 16 ++ List.replicate 48 0 := by
  apply List.ext_getElem (by rw [wP_len, List.length_append, w16_len, List.length_replicate])
  intro q h1 h2
  rw [wP_len] at h1
  simp only [wP, List.getElem_map, List.getElem_range]
  rw [show bs.take 64 = bs from List.take_of_length_le (by omega)]
  rcases Nat.lt_or_ge q 16 with h | h
  · rw [List.getElem_append_left (by rw [w16_len]; exact h)]
    simp [w16]
  · rw [List.getElem_append_right (by rw [w16_len]; exact h), List.drop_of_length_le (by omega), List.getElem_replicate]
    rfl
theorem wP_bound {bs : List Int} (hb : IsBy bs) (i : Nat) (hl : bs.length = 64) (hi : i < 64) : 0 ≤ (wP bs i).getD (i / 4) 0 ∧ (wP bs i).getD (i / 4) 0 * 256 + bs.getD i 0 < 4294967296 ∧ 0 ≤ bs.getD i 0 ∧ bs.getD i 0 < 256 := by
  obtain ⟨y0, y1⟩ := getD_byte hb i
  rw [wP_get _ _ _ (by omega)]
  have hby : IsBy (((bs.take i).drop (4 * (i / 4))).take 4) := ((hb.take _).drop _).take _
  obtain ⟨h0, h1⟩ := beV_bound hby
  have hle : (((bs.take i).drop (4 * (i / 4))).take 4).length ≤ 3 := by rw [List.length_take, List.length_drop, List.length_take]; omega
  have h2 := Int.lt_of_lt_of_le h1 (pow256_mono hle)
  have h3 : (256 : Int) ^ 3 = 16777216 := by decide
  rw [h3] at h2
  exact ⟨h0, by omega, y0, y1⟩
/-- The words, from the sixteenth on, in their row. -/
def wR (bs : List Int) (m : Nat) : List Int := wX bs m ++ List.replicate (64 - (16 + m)) 0
theorem turnb2 (x : Int) (w : World) (h : w32 x) : Calls Tryd.prog 53 #[.int .u32 x, .int .i64 2] w fun e w' => e = .returned (.int .u32 (ror2 x)) ∧ Below w.heap.size w w' := by
  refine (turn2_any x w h).mono ?_
  rintro e w' ⟨rfl, n, rfl⟩
  refine ⟨?_, below_drewn (Below.refl _ _) n⟩
  unfold ror2 rot
  rw [or_comm32 (div_w32 h (by decide)) (mod_w32 _)]
theorem turnb6 (x : Int) (w : World) (h : w32 x) : Calls Tryd.prog 53 #[.int .u32 x, .int .i64 6] w fun e w' => e = .returned (.int .u32 (ror6 x)) ∧ Below w.heap.size w w' := by
  refine (turn6_any x w h).mono ?_
  rintro e w' ⟨rfl, n, rfl⟩
  refine ⟨?_, below_drewn (Below.refl _ _) n⟩
  unfold ror6 rot
  rw [or_comm32 (div_w32 h (by decide)) (mod_w32 _)]
theorem turnb7 (x : Int) (w : World) (h : w32 x) : Calls Tryd.prog 53 #[.int .u32 x, .int .i64 7] w fun e w' => e = .returned (.int .u32 (ror7 x)) ∧ Below w.heap.size w w' := by
  refine (turn7_any x w h).mono ?_
  rintro e w' ⟨rfl, n, rfl⟩
  refine ⟨?_, below_drewn (Below.refl _ _) n⟩
  unfold ror7 rot
  rw [or_comm32 (div_w32 h (by decide)) (mod_w32 _)]
theorem turnb11 (x : Int) (w : World) (h : w32 x) : Calls Tryd.prog 53 #[.int .u32 x, .int .i64 11] w fun e w' => e = .returned (.int .u32 (ror11 x)) ∧ Below w.heap.size w w' := by
  refine (turn11_any x w h).mono ?_
  rintro e w' ⟨rfl, n, rfl⟩
  refine ⟨?_, below_drewn (Below.refl _ _) n⟩
  unfold ror11 rot
  rw [or_comm32 (div_w32 h (by decide)) (mod_w32 _)]
theorem turnb13 (x : Int) (w : World) (h : w32 x) : Calls Tryd.prog 53 #[.int .u32 x, .int .i64 13] w fun e w' => e = .returned (.int .u32 (ror13 x)) ∧ Below w.heap.size w w' := by
  refine (turn13_any x w h).mono ?_
  rintro e w' ⟨rfl, n, rfl⟩
  refine ⟨?_, below_drewn (Below.refl _ _) n⟩
  unfold ror13 rot
  rw [or_comm32 (div_w32 h (by decide)) (mod_w32 _)]
theorem turnb17 (x : Int) (w : World) (h : w32 x) : Calls Tryd.prog 53 #[.int .u32 x, .int .i64 17] w fun e w' => e = .returned (.int .u32 (ror17 x)) ∧ Below w.heap.size w w' := by
  refine (turn17_any x w h).mono ?_
  rintro e w' ⟨rfl, n, rfl⟩
  refine ⟨?_, below_drewn (Below.refl _ _) n⟩
  unfold ror17 rot
  rw [or_comm32 (div_w32 h (by decide)) (mod_w32 _)]
theorem turnb18 (x : Int) (w : World) (h : w32 x) : Calls Tryd.prog 53 #[.int .u32 x, .int .i64 18] w fun e w' => e = .returned (.int .u32 (ror18 x)) ∧ Below w.heap.size w w' := by
  refine (turn18_any x w h).mono ?_
  rintro e w' ⟨rfl, n, rfl⟩
  refine ⟨?_, below_drewn (Below.refl _ _) n⟩
  unfold ror18 rot
  rw [or_comm32 (div_w32 h (by decide)) (mod_w32 _)]
theorem turnb19 (x : Int) (w : World) (h : w32 x) : Calls Tryd.prog 53 #[.int .u32 x, .int .i64 19] w fun e w' => e = .returned (.int .u32 (ror19 x)) ∧ Below w.heap.size w w' := by
  refine (turn19_any x w h).mono ?_
  rintro e w' ⟨rfl, n, rfl⟩
  refine ⟨?_, below_drewn (Below.refl _ _) n⟩
  unfold ror19 rot
  rw [or_comm32 (div_w32 h (by decide)) (mod_w32 _)]
theorem turnb22 (x : Int) (w : World) (h : w32 x) : Calls Tryd.prog 53 #[.int .u32 x, .int .i64 22] w fun e w' => e = .returned (.int .u32 (ror22 x)) ∧ Below w.heap.size w w' := by
  refine (turn22_any x w h).mono ?_
  rintro e w' ⟨rfl, n, rfl⟩
  refine ⟨?_, below_drewn (Below.refl _ _) n⟩
  unfold ror22 rot
  rw [or_comm32 (div_w32 h (by decide)) (mod_w32 _)]
theorem turnb25 (x : Int) (w : World) (h : w32 x) : Calls Tryd.prog 53 #[.int .u32 x, .int .i64 25] w fun e w' => e = .returned (.int .u32 (ror25 x)) ∧ Below w.heap.size w w' := by
  refine (turn25_any x w h).mono ?_
  rintro e w' ⟨rfl, n, rfl⟩
  refine ⟨?_, below_drewn (Below.refl _ _) n⟩
  unfold ror25 rot
  rw [or_comm32 (div_w32 h (by decide)) (mod_w32 _)]
/-- The places moved on by one, from place 7 down to j. -/
def shL (s : List Int) (j : Nat) : List Int := s.take (j + 1) ++ (s.drop j).take (7 - j)
theorem shL_len {s : List Int} (h : s.length = 8) {j : Nat} (hj : j ≤ 7) : (shL s j).length = 8 := by unfold shL; simp only [List.length_append, List.length_take, List.length_drop]; omega
theorem shL_set {s : List Int} (h : s.length = 8) {j : Nat} (hj : j < 7) : (shL s (j + 1)).set (j + 1) (s.getD j 0) = shL s j := by
  match s, h with
  | [a, b, c, d, e, f, g, i], _ =>
    have : j = 0 ∨ j = 1 ∨ j = 2 ∨ j = 3 ∨ j = 4 ∨ j = 5 ∨ j = 6 := by omega
    rcases this with rfl | rfl | rfl | rfl | rfl | rfl | rfl <;> rfl
theorem shL_get {s : List Int} (h : s.length = 8) {j : Nat} (hj : j < 7) : (shL s (j + 1)).getD j 0 = s.getD j 0 := by
  match s, h with
  | [a, b, c, d, e, f, g, i], _ =>
    have : j = 0 ∨ j = 1 ∨ j = 2 ∨ j = 3 ∨ j = 4 ∨ j = 5 ∨ j = 6 := by omega
    rcases this with rfl | rfl | rfl | rfl | rfl | rfl | rfl <;> rfl
theorem shL_7 {s : List Int} (h : s.length = 8) : shL s 7 = s := by
  match s, h with
  | [a, b, c, d, e, f, g, i], _ => rfl
/-- A round, done in place. -/
theorem rnd_place {s : List Int} (h : s.length = 8) (k x : Int) (t : Int) (ht : t = tS (s.getD 4 0) (s.getD 5 0) (s.getD 6 0) (s.getD 7 0) ((k + x) % 4294967296) % 4294967296) :
    (((shL s 0).set 4 (((shL s 0).getD 4 0 + t) % 4294967296)).set 0 ((t + sg_bigS0 (s.getD 0 0) + mjF (s.getD 0 0) (s.getD 1 0) (s.getD 2 0)) % 4294967296)) = rndS s ((k + x) % 4294967296) := by
  match s, h with
  | [a, b, c, d, e, f, g, i], _ =>
    subst ht
    show [(tS e f g i ((k + x) % 4294967296) % 4294967296 + sg_bigS0 a + mjF a b c) % 4294967296, a, b, c, (d + tS e f g i ((k + x) % 4294967296) % 4294967296) % 4294967296, e, f, g] = rndL a b c d e f g i ((k + x) % 4294967296)
    unfold rndL uS
    congr 1
    · rw [Int.add_assoc, Int.emod_add_emod]
    · rw [Int.add_emod_emod]
theorem tS_flat (e f g h k x : Int) : (h + sg_bigS1 e + chF e f g + k + x) % 4294967296 = tS e f g h ((k + x) % 4294967296) % 4294967296 := by
  unfold tS
  rw [Int.add_emod_emod, ← Int.add_assoc]
end Go.Proofs.YtbolfkigiachlaaDoor

/-
  SHA-256, the document's answer: the state behind a block: contract. Own work.
-/
namespace Go.Proofs.YtbolfkigiachlaaDoor
open Go.RowKit
theorem zero8a : (Tryd.prog.info? 66).map (fun i => i.zero) = some (some (.agg (vk .u32 (List.replicate 8 0)).toArray)) := by kernel_rfl
theorem size8a {xs : List Int} (h : xs.length = 8) : (Tryd.prog.info? 66).map (·.size) = some (vk .u32 xs).length := by rw [vk_len, h]; kernel_rfl
theorem xor_comm32 {x y : Int} (hx : w32 x) (hy : w32 y) : bits .xor .u32 x y = bits .xor .u32 y x := by
  rw [u32_xor x y hx.1 hx.2 hy.1 hy.2, u32_xor y x hy.1 hy.2 hx.1 hx.2, Nat.xor_comm]
/-- The state behind some rounds, by whatever numbers. -/
def stG (ks s W : List Int) : Nat → List Int
  | 0 => s
  | k + 1 => rndS (stG ks s W k) ((ks.getD k 0 + W.getD k 0) % 4294967296)
theorem stG_len {s : List Int} (h : s.length = 8) (ks W : List Int) (k : Nat) : (stG ks s W k).length = 8 := by cases k <;> first | exact h | rfl
theorem stG_w {s : List Int} (h : IsW s) (ks W : List Int) (k : Nat) : IsW (stG ks s W k) := by
  induction k with
  | zero => exact h
  | succ k ih => exact rndS_w ih _
theorem stG_N (s W : List Int) (k : Nat) : stG rootsL s W k = stN s W k := by
  induction k with
  | zero => rfl
  | succ k ih => unfold stG stN; rw [ih]
def blkG (ks s bs : List Int) : List Int := adZ s (stG ks s (wAll bs) 64)
theorem JR.below {w0 w : World} {bs : List Bool} {vs : List Value} (h : JR w0 bs vs w) : Below w0.heap.size w0 w := h
def SB5 (g7 bb oo i c : Nat) (o y : Int) (opn : Nat) (v : Value) : Prop :=
  match opn with
  | 0 | 2 | 8 => v = .int .i64 (i : Int)
  | 1 | 3 => v = .int .i64 ((i / 4 : Nat) : Int)
  | 4 | 13 => v = .pointer (some ⟨g7, i / 4, none⟩)
  | 5 => v = .int .u32 o
  | 6 => v = .int .u32 (o * 256)
  | 7 => v = .slice (some ⟨bb, oo, none⟩) 64 c
  | 9 => v = .pointer (some ⟨bb, oo + i, none⟩)
  | 10 => v = .int .u8 y
  | 11 => v = .int .u32 y
  | 12 => v = .int .u32 (o * 256 + y)
  | _ => True

def SB9 (g7 i : Nat) (xa : Int) (opn : Nat) (v : Value) : Prop :=
  match opn with
  | 0 | 5 | 11 => v = .int .i64 (i : Int)
  | 1 | 6 | 12 => v = .int .i64 ((i - 15 : Nat) : Int)
  | 2 | 7 | 13 => v = .pointer (some ⟨g7, i - 15, none⟩)
  | 3 | 8 | 14 => v = .int .u32 xa
  | 4 => v = .int .u32 (ror7 (xa))
  | 9 => v = .int .u32 (ror18 (xa))
  | 10 => v = .int .u32 (bits .xor .u32 (ror7 xa) (ror18 xa))
  | 15 => v = .int .u32 (xa / 8)
  | 16 | 17 => v = .int .u32 (sg_s0 xa)
  | _ => True

def SB10 (g7 i : Nat) (xb : Int) (opn : Nat) (v : Value) : Prop :=
  match opn with
  | 0 | 5 | 11 => v = .int .i64 (i : Int)
  | 1 | 6 | 12 => v = .int .i64 ((i - 2 : Nat) : Int)
  | 2 | 7 | 13 => v = .pointer (some ⟨g7, i - 2, none⟩)
  | 3 | 8 | 14 => v = .int .u32 xb
  | 4 => v = .int .u32 (ror17 (xb))
  | 9 => v = .int .u32 (ror19 (xb))
  | 10 => v = .int .u32 (bits .xor .u32 (ror17 xb) (ror19 xb))
  | 15 => v = .int .u32 (xb / 1024)
  | 16 | 17 => v = .int .u32 (sg_s1 xb)
  | _ => True

def SB11 (g7 i : Nat) (u1 v1 xc xd : Int) (opn : Nat) (v : Value) : Prop :=
  match opn with
  | 0 | 2 | 9 => v = .int .i64 (i : Int)
  | 1 => v = .int .u32 v1
  | 3 => v = .int .i64 ((i - 7 : Nat) : Int)
  | 4 => v = .pointer (some ⟨g7, i - 7, none⟩)
  | 5 => v = .int .u32 xc
  | 6 => v = .int .u32 ((v1 + xc) % 4294967296)
  | 7 => v = .int .u32 u1
  | 8 => v = .int .u32 ((v1 + xc + u1) % 4294967296)
  | 10 => v = .int .i64 ((i - 16 : Nat) : Int)
  | 11 => v = .pointer (some ⟨g7, i - 16, none⟩)
  | 12 => v = .int .u32 xd
  | 13 => v = .int .u32 ((v1 + xc + u1 + xd) % 4294967296)
  | 14 => v = .pointer (some ⟨g7, i, none⟩)
  | _ => True

def SB16 (g12 : Nat) (s4 : Int) (opn : Nat) (v : Value) : Prop :=
  match opn with
  | 0 | 3 | 7 => v = .pointer (some ⟨g12, 4, none⟩)
  | 1 | 4 | 8 => v = .int .u32 s4
  | 2 => v = .int .u32 (ror6 (s4))
  | 5 => v = .int .u32 (ror11 (s4))
  | 6 => v = .int .u32 (bits .xor .u32 (ror6 s4) (ror11 s4))
  | 9 => v = .int .u32 (ror25 (s4))
  | 10 | 11 => v = .int .u32 (sg_bigS1 s4)
  | _ => True

def SB18 (g12 g5 g7 i : Nat) (s7 e1 e2 kk ww : Int) (opn : Nat) (v : Value) : Prop :=
  match opn with
  | 0 => v = .pointer (some ⟨g12, 7, none⟩)
  | 1 => v = .int .u32 s7
  | 2 => v = .int .u32 e1
  | 3 => v = .int .u32 ((s7 + e1) % 4294967296)
  | 4 => v = .int .u32 e2
  | 5 => v = .int .u32 ((s7 + e1 + e2) % 4294967296)
  | 6 | 10 => v = .int .i64 (i : Int)
  | 7 => v = .pointer (some ⟨g5, i, none⟩)
  | 8 => v = .int .u32 kk
  | 9 => v = .int .u32 ((s7 + e1 + e2 + kk) % 4294967296)
  | 11 => v = .pointer (some ⟨g7, i, none⟩)
  | 12 => v = .int .u32 ww
  | 13 | 14 => v = .int .u32 ((s7 + e1 + e2 + kk + ww) % 4294967296)
  | _ => True

def SB19 (g12 : Nat) (s0 : Int) (opn : Nat) (v : Value) : Prop :=
  match opn with
  | 0 | 3 | 7 => v = .pointer (some ⟨g12, 0, none⟩)
  | 1 | 4 | 8 => v = .int .u32 s0
  | 2 => v = .int .u32 (ror2 (s0))
  | 5 => v = .int .u32 (ror13 (s0))
  | 6 => v = .int .u32 (bits .xor .u32 (ror2 s0) (ror13 s0))
  | 9 => v = .int .u32 (ror22 (s0))
  | 10 | 11 => v = .int .u32 (sg_bigS0 s0)
  | _ => True

def SB30 (cur fin : List Int) (g3 g12 i : Nat) (opn : Nat) (v : Value) : Prop :=
  match opn with
  | 0 | 1 | 4 => v = .int .i64 (i : Int)
  | 2 | 8 => v = .pointer (some ⟨g3, i, none⟩)
  | 3 => v = .int .u32 (cur.getD i 0)
  | 5 => v = .pointer (some ⟨g12, i, none⟩)
  | 6 => v = .int .u32 (fin.getD i 0)
  | 7 => v = .int .u32 ((cur.getD i 0 + fin.getD i 0) % 4294967296)
  | _ => True

set_option maxRecDepth 100000 in
set_option maxHeartbeats 4000000 in
theorem block_any (hs ks bs : List Int) (A : Option Addr) (c : Nat) (w : World) (lh : hs.length = 8) (wh : IsW hs) (lk : ks.length = 64) (wk : IsW ks) (lb : bs.length = 64) (bb' : IsBy bs) (hb : Bs w w.heap.size A 64 bs) :
    Calls Tryd.prog 43 #[.agg (vk .u32 hs).toArray, .slice A 64 c, .agg (vk .u32 ks).toArray] w fun e w' => e = .returned (.agg (vk .u32 (blkG ks hs bs)).toArray) ∧ Below w.heap.size w w' := by
  obtain ⟨bb, oo, rfl, hbl0, hcs⟩ := hb.2 (by decide)
  have Hlh := hide lh; have Hlk := hide lk; have Hlb := hide lb
  have z8 := hide (size8a lh)
  have HFin := hide (show ∀ m k, m = 48 → k = 64 → adZ hs (stG ks hs (wX bs m) k) = blkG ks hs bs from fun m k h1 h2 => by rw [h1, h2]; rfl)
  have hfl : (blkG ks hs bs).length = 8 := adZ_len lh (stG_len lh _ _ _)
  have zf := hide (size8a hfl)
  have lf := hide (show (vk .u32 (List.replicate 8 0)).length = (vk .u32 (blkG ks hs bs)).length by rw [vk_len, vk_len, hfl, List.length_replicate])
  clear lh lk lb hb hfl
  generalize blkG ks hs bs = FS at *
  go_enter Tryd.func43, Tryd.ntmps43
  go_wp2_with (first
    | (with_reducible refine wl_box (o := ⟨some 3, _, _, _, _, _⟩) rfl 66 (.tmp 0) _ (vk .u32 hs) rfl rfl rfl ?_; intro g3 w1 r3 p3 l3 b3)
    | (with_reducible refine wl_box (o := ⟨some 5, _, _, _, _, _⟩) rfl 65 (.tmp 2) _ (vk .u32 ks) rfl rfl rfl ?_; intro g5 w2 r5 p5 l5 b5; have r3a := r3.later b5)
    | (with_reducible refine wl_alloc (o := ⟨some 6, _, _, _, _, _⟩) rfl 66 _ (vk .u32 (List.replicate 8 0)) rfl zero8a rfl ?_; intro g6 w3 r6 p6 l6 b6; have r3b := r3a.later b6; have r5a := r5.later b6)
    | (with_reducible refine wl_alloc (o := ⟨some 7, _, _, _, _, _⟩) rfl 65 _ (vk .u32 (List.replicate 64 0)) rfl zero64u rfl ?_; intro g7 w4 r7 p7 l7 b7; have r3c := r3b.later b7; have r5b := r5a.later b7; have r6a := r6.later b7))
  have s3 := b3.size; have s5 := b5.size; have s6 := b6.size; have s7 := b7.size
  have B7 := ((b3.trans (b5.mono s3)).trans (b6.mono (Nat.le_trans s3 s5))).trans (b7.mono (Nat.le_trans s3 (Nat.le_trans s5 s6)))
  have q3 : w.heap.size ≤ g3 := p3
  have q6 : w.heap.size ≤ g6 := by omega
  have q7 : w.heap.size ≤ g7 := by omega
  have h37 : g3 ≠ g7 := by have := r3b.lt; omega
  have h57 : g5 ≠ g7 := by have := r5a.lt; omega
  have h67 : g6 ≠ g7 := by have := r6.lt; omega
  have h36 : g3 ≠ g6 := by have := r3a.lt; omega
  have h35 : g3 ≠ g5 := by have := r3.lt; omega
  rw [← wP_zero bs] at r7
  clear r3 r3a r3b r5 r5a r6 b3 b5 b6 b7
  go_loopw [8] (fun iv wr => ∃ i : Nat, i ≤ 64 ∧ iv = .int .i64 i ∧ Row wr 65 g7 (vk .u32 (wP bs i)) ∧ Row wr 66 g3 (vk .u32 hs) ∧ Row wr 65 g5 (vk .u32 ks) ∧ Row wr 66 g6 (vk .u32 (List.replicate 8 0)) ∧ Below w.heap.size w wr) (fun iv _ => 64 - (intOf iv).toNat)
  case atStart => exact ⟨0, Nat.zero_le _, rfl, r7, r3c, r5b, r6a, B7⟩
  case round =>
    clear r7 r3c r5b r6a B7
    obtain ⟨i, hi, rfl, r7, r3, r5, r6, br⟩ := hrel
    by_cases hlt : i < 64
    · have hcy := (br.cell (p := ⟨bb, oo + i, none⟩) hbl0).trans (hcs i hlt)
      have hbnd := wP_bound bb' i Hlb.out hlt
      have hset := wP_set Hlb.out hlt
      have hcl := wP_len bs i
      have hoc : (vk .u32 (wP bs i))[i / 4]? = some (.int .u32 ((wP bs i).getD (i / 4) 0)) := vk_get (by rw [wP_len]; omega)
      have HSet := hide hset; have HCl := hide hcl; have HOc := hide hoc
      obtain ⟨hbd1, hbd2, hbd3, hbd4⟩ := hbnd
      clear hset hcl hoc hcs
      generalize (wP bs i).getD (i / 4) 0 = o at *
      generalize bs.getD i 0 = y at *
      generalize hnw : wP bs (i + 1) = new at *
      have HNw := hide hnw
      clear hnw
      generalize wP bs i = cur at *
      go_wp2_with fail
      rename_i Q1 K1 hK1
      have hset := HSet.out; have hcl := HCl.out; have hoc := HOc.out
      have hg7 := q7
      have hwr := br.size
      have hbl := hbl0
      refine wp_region_vals [14] (SB5 g7 bb oo i c o y) (JB g7 65 wr 0 (vk .u32 cur) (vk .u32 new)) (by kernel_rfl) (by kernel_rfl) (by kernel_rfl) (by kernel_rfl) (by kernel_rfl) (JB.start r7 rfl) ?obs ?he
      case obs =>
        refine ⟨?_, ?_, ?_, ?_, ?_, ?_, ?_, ?_, ?_, ?_, ?_, ?_, ?_, ?_, ?_, trivial⟩
        · exact .inl ⟨by kernel_rfl, fun L a1 w1 n h => ⟨_, rfl, run_move (.tmp 8) rfl (h.var n 8 (by kernel_rfl))⟩⟩
        · refine .inl ⟨by kernel_rfl, fun L a1 w1 n h => ⟨.int .i64 ((i / 4 : Nat) : Int), rfl, ?_⟩⟩
          have e0 : a1.eval (.tmp 25) = _ := h.dep n 0 25 (by kernel_rfl) rfl
          unfold execOp
          simp only [e0]
          go_simp
          rw [IntWalk.i64_in _ (by omega)]
        · exact .inl ⟨by kernel_rfl, fun L a1 w1 n h => ⟨_, rfl, run_move (.tmp 8) rfl (h.var n 8 (by kernel_rfl))⟩⟩
        · refine .inl ⟨by kernel_rfl, fun L a1 w1 n h => ⟨.int .i64 ((i / 4 : Nat) : Int), rfl, ?_⟩⟩
          have e0 : a1.eval (.tmp 27) = _ := h.dep n 2 27 (by kernel_rfl) rfl
          unfold execOp
          simp only [e0]
          go_simp
          rw [IntWalk.i64_in _ (by omega)]
        · exact .inl ⟨by kernel_rfl, fun L a1 w1 n h => ⟨_, rfl, run_index0 65 (.tmp 7) (.tmp 28) 64 64 g7 (i / 4) rfl Tryd.underlying65 Tryd.sizeOf64 (h.var n 7 (by kernel_rfl)) (h.dep n 3 28 (by kernel_rfl) rfl) (by omega)⟩⟩
        · exact .inl ⟨by kernel_rfl, fun L a1 w1 n h => ⟨_, rfl, run_loadA 64 (.tmp 29) ⟨g7, i / 4, none⟩ rfl Tryd.isAgg64 (h.dep n 4 29 (by kernel_rfl) rfl) ((h.inv.1 (n.later (by kernel_rfl))).cell hoc)⟩⟩
        · refine .inl ⟨by kernel_rfl, fun L a1 w1 n h => ⟨.int .u32 (o * 256), rfl, ?_⟩⟩
          have e0 : a1.eval (.tmp 30) = _ := h.dep n 5 30 (by kernel_rfl) rfl
          unfold execOp
          simp only [e0]
          go_simp
          rw [IntKind.wrap_u32, Int.emod_eq_of_lt (by omega) (by omega)]
        · exact .inl ⟨by kernel_rfl, fun L a1 w1 n h => ⟨_, rfl, run_move (.tmp 1) rfl (h.var n 1 (by kernel_rfl))⟩⟩
        · exact .inl ⟨by kernel_rfl, fun L a1 w1 n h => ⟨_, rfl, run_move (.tmp 8) rfl (h.var n 8 (by kernel_rfl))⟩⟩
        · exact .inl ⟨by kernel_rfl, fun L a1 w1 n h => ⟨_, rfl, run_indexS 22 (.tmp 32) (.tmp 33) 5 bb oo 64 c i rfl Tryd.underlying22 Tryd.sizeOf5 (h.dep n 7 32 (by kernel_rfl) rfl) (h.dep n 8 33 (by kernel_rfl) rfl) hlt⟩⟩
        · exact .inl ⟨by kernel_rfl, fun L a1 w1 n h => ⟨_, rfl, run_loadA 5 (.tmp 34) ⟨bb, oo + i, none⟩ rfl Tryd.isAgg5 (h.dep n 9 34 (by kernel_rfl) rfl) (((h.inv.2.2.below hg7 hwr).cell hbl).trans hcy)⟩⟩
        · refine .inl ⟨by kernel_rfl, fun L a1 w1 n h => ⟨.int .u32 y, rfl, ?_⟩⟩
          have e0 : a1.eval (.tmp 35) = _ := h.dep n 10 35 (by kernel_rfl) rfl
          unfold execOp
          simp only [e0]
          go_simp
          rw [IntKind.wrap_u32, Int.emod_eq_of_lt (by omega) (by omega)]
        · refine .inl ⟨by kernel_rfl, fun L a1 w1 n h => ⟨.int .u32 (o * 256 + y), rfl, ?_⟩⟩
          have e0 : a1.eval (.tmp 31) = _ := h.dep n 6 31 (by kernel_rfl) rfl
          have e1 : a1.eval (.tmp 36) = _ := h.dep n 11 36 (by kernel_rfl) rfl
          unfold execOp
          simp only [e0, e1]
          go_simp
          rw [IntKind.wrap_u32, Int.emod_eq_of_lt (by omega) (by omega)]
        · exact .inl ⟨by kernel_rfl, fun L a1 w1 n h => ⟨_, rfl, run_index0 65 (.tmp 7) (.tmp 26) 64 64 g7 (i / 4) rfl Tryd.underlying65 Tryd.sizeOf64 (h.var n 7 (by kernel_rfl)) (h.dep n 1 26 (by kernel_rfl) rfl) (by omega)⟩⟩
        · refine .inr fun L a1 w1 n h K hK => ?_
          have no : L.getD 14 false = false := n.not_yet
          have e1 : a1.eval (.tmp 38) = _ := h.dep n 13 38 (by kernel_rfl) rfl
          have e2 : a1.eval (.tmp 37) = _ := h.dep n 12 37 (by kernel_rfl) rfl
          refine st_store 64 (.tmp 38) (.tmp 37) g7 (i / 4) 65 (vk .u32 cur) _ rfl (by kernel_rfl) e1 e2 (h.inv.1 no) (by rw [vk_len]; omega) rfl ?_
          intro w3 r3 o3
          rw [vk_set, hset] at r3
          exact hK undef w3 trivial (JB.store h.inv o3 r3 rfl)
      case he =>
        intro V w7 hV hJ
        have r7' := hJ.2.1 rfl
        have bu := hJ.2.2
        clear hV hJ hset hcl hoc
        simp only [putOps, List.setIfInBounds_toArray, List.set_cons_succ, List.set_cons_zero]
        refine hK1 _ _ ?_
        go_wp2
        go_roundw
        case rel => exact ⟨i + 1, by omega, by go_num, by rw [HNw.out]; exact r7', r3.but bu h37, r5.but bu h57, r6.but bu h67, br.trans (bu.below q7 br.size)⟩
        case measure => simp [intOf]; omega
    · have h64 : i = 64 := by omega
      rw [h64, wP_all Hlb.out] at r7
      have hd64 : decide ((i : Int) < 64) = false := by simp; omega
      clear hcs h64 hlt hi
      go_wp2_with fail
      have r7x : Row wr 65 g7 (vk .u32 (wX bs 0 ++ List.replicate (64 - (16 + 0)) 0)) := r7
      clear r7
      go_loopw [9] (fun iv wq => ∃ m : Nat, m ≤ 48 ∧ iv = .int .i64 ((16 + m : Nat) : Int) ∧ Row wq 65 g7 (vk .u32 (wX bs m ++ List.replicate (64 - (16 + m)) 0)) ∧ Row wq 66 g3 (vk .u32 hs) ∧ Row wq 65 g5 (vk .u32 ks) ∧ Row wq 66 g6 (vk .u32 (List.replicate 8 0)) ∧ Below w.heap.size w wq) (fun iv _ => 64 - (intOf iv).toNat)
      case atStart => exact ⟨0, Nat.zero_le _, rfl, r7x, r3, r5, r6, br⟩
      case round =>
        clear r7x r3 r5 r6 br
        obtain ⟨m, hm, rfl, r7, r3, r5, r6, br⟩ := hrel
        obtain ⟨i, hi⟩ : ∃ i, i = 16 + m := ⟨_, rfl⟩
        rw [← hi] at r7 ⊢
        by_cases hlt : i < 64
        · have hlx := wX_len bs m
          have hset := fill_set (wX bs m) i 64 (by omega) hlt (wNext (wX bs m))
          rw [show wX bs m ++ [wNext (wX bs m)] = wX bs (m + 1) from rfl] at hset
          have hcw : IsW (wX bs m ++ List.replicate (64 - i) 0) := (wX_w bb' m).app (IsW.rep _)
          have hcl : (wX bs m ++ List.replicate (64 - i) 0).length = 64 := by rw [List.length_append, List.length_replicate]; omega
          have hN : wNext (wX bs m) = (sg_s1 ((wX bs m ++ List.replicate (64 - i) 0).getD (i - 2) 0) + (wX bs m ++ List.replicate (64 - i) 0).getD (i - 7) 0 + sg_s0 ((wX bs m ++ List.replicate (64 - i) 0).getD (i - 15) 0) + (wX bs m ++ List.replicate (64 - i) 0).getD (i - 16) 0) % 4294967296 := by
            rw [getD_left (by omega), getD_left (by omega), getD_left (by omega), getD_left (by omega)]
            unfold wNext
            rw [hlx, ← hi]
          rw [hN] at hset
          have him : 16 + (m + 1) = i + 1 := by omega
          have hi16 : 16 ≤ i := by omega
          have HI := hide hi
          have HM := hide him
          clear hlx hN hi him
          generalize wX bs m ++ List.replicate (64 - i) 0 = cur at *
          generalize hnw : wX bs (m + 1) ++ List.replicate (64 - (i + 1)) 0 = new at *
          have HNw := hide hnw
          have HS := hide hset
          have HC := hide hcl
          have wx15 := hcw.getD (i - 15)
          have wx2 := hcw.getD (i - 2)
          have x15 := r7.cell (vk_get (kd := .u32) (xs := cur) (j := i - 15) (by omega))
          have x2 := r7.cell (vk_get (kd := .u32) (xs := cur) (j := i - 2) (by omega))
          have hx7 : (vk .u32 cur)[i - 7]? = some (.int .u32 (cur.getD (i - 7) 0)) := vk_get (by omega)
          have hx16 : (vk .u32 cur)[i - 16]? = some (.int .u32 (cur.getD (i - 16) 0)) := vk_get (by omega)
          have HX7 := hide hx7; have HX16 := hide hx16
          have k0 := sg_s0_w32 wx15
          have k1 := sg_s1_w32 wx2
          clear hset hcl hnw hx7 hx16 hcw
          have e0 : ∀ x, sg_s0 x = bits .xor .u32 (bits .xor .u32 (ror7 x) (ror18 x)) (x / 8) := fun _ => rfl
          have e1 : ∀ x, sg_s1 x = bits .xor .u32 (bits .xor .u32 (ror17 x) (ror19 x)) (x / 1024) := fun _ => rfl
          generalize cur.getD (i - 15) 0 = xa at *
          generalize cur.getD (i - 2) 0 = xb at *
          generalize cur.getD (i - 7) 0 = xc at *
          generalize cur.getD (i - 16) 0 = xd at *
          go_wp2_with fail
          rename_i Q1 K1 hK1
          have l7 := r7.lt
          refine wp_region_vals [4, 9] (SB9 g7 i xa) (JR wr) (by kernel_rfl) (by kernel_rfl) (by kernel_rfl) (by kernel_rfl) (by kernel_rfl) (Below.refl _ _).drew ?obs1 ?he1
          case obs1 =>
            have c1 := x15
            have c1l := l7
            have hx := wx15
            refine ⟨?_, ?_, ?_, ?_, ?_, ?_, ?_, ?_, ?_, ?_, ?_, ?_, ?_, ?_, ?_, ?_, ?_, ?_, trivial⟩
            · exact .inl ⟨by kernel_rfl, fun L a1 w1 n h => ⟨_, rfl, run_move (.tmp 9) rfl (h.var n 9 (by kernel_rfl))⟩⟩
            · refine .inl ⟨by kernel_rfl, fun L a1 w1 n h => ⟨.int .i64 ((i - 15 : Nat) : Int), rfl, ?_⟩⟩
              have e0 : a1.eval (.tmp 43) = _ := h.dep n 0 43 (by kernel_rfl) rfl
              unfold execOp
              simp only [e0]
              go_simp
              first | omega | (rw [IntWalk.i64_in _ (by omega)]; congr 3; omega)
            · exact .inl ⟨by kernel_rfl, fun L a1 w1 n h => ⟨_, rfl, run_index0 65 (.tmp 7) (.tmp 44) 64 64 g7 (i - 15) rfl Tryd.underlying65 Tryd.sizeOf64 (h.var n 7 (by kernel_rfl)) (h.dep n 1 44 (by kernel_rfl) rfl) (by omega)⟩⟩
            · exact .inl ⟨by kernel_rfl, fun L a1 w1 n h => ⟨_, rfl, run_loadA 64 (.tmp 45) ⟨g7, i - 15, none⟩ rfl Tryd.isAgg64 (h.dep n 2 45 (by kernel_rfl) rfl) (((JR.below h.inv).cell (show (⟨g7, i - 15, none⟩ : Addr).block < wr.heap.size from c1l)).trans c1)⟩⟩
            · refine .inr fun L a1 w1 n h K hK => ?_
              have e0 : a1.eval (.tmp 46) = .int .u32 (xa) := h.dep n 3 46 (by kernel_rfl) rfl
              refine st_call 53 _ _ #[.int .u32 (xa), .int .i64 7] rfl Tryd.call53 ?_ (turnb7 (xa) w1 hx) ?_
              · simp only [List.map_toArray, List.map_cons, List.map_nil, e0]; rfl
              · rintro e w3 ⟨rfl, b9⟩
                exact ⟨_, rfl, hK _ w3 rfl (JR.call h.inv b9)⟩
            · exact .inl ⟨by kernel_rfl, fun L a1 w1 n h => ⟨_, rfl, run_move (.tmp 9) rfl (h.var n 9 (by kernel_rfl))⟩⟩
            · refine .inl ⟨by kernel_rfl, fun L a1 w1 n h => ⟨.int .i64 ((i - 15 : Nat) : Int), rfl, ?_⟩⟩
              have e0 : a1.eval (.tmp 48) = _ := h.dep n 5 48 (by kernel_rfl) rfl
              unfold execOp
              simp only [e0]
              go_simp
              first | omega | (rw [IntWalk.i64_in _ (by omega)]; congr 3; omega)
            · exact .inl ⟨by kernel_rfl, fun L a1 w1 n h => ⟨_, rfl, run_index0 65 (.tmp 7) (.tmp 49) 64 64 g7 (i - 15) rfl Tryd.underlying65 Tryd.sizeOf64 (h.var n 7 (by kernel_rfl)) (h.dep n 6 49 (by kernel_rfl) rfl) (by omega)⟩⟩
            · exact .inl ⟨by kernel_rfl, fun L a1 w1 n h => ⟨_, rfl, run_loadA 64 (.tmp 50) ⟨g7, i - 15, none⟩ rfl Tryd.isAgg64 (h.dep n 7 50 (by kernel_rfl) rfl) (((JR.below h.inv).cell (show (⟨g7, i - 15, none⟩ : Addr).block < wr.heap.size from c1l)).trans c1)⟩⟩
            · refine .inr fun L a1 w1 n h K hK => ?_
              have e0 : a1.eval (.tmp 51) = .int .u32 (xa) := h.dep n 8 51 (by kernel_rfl) rfl
              refine st_call 53 _ _ #[.int .u32 (xa), .int .i64 18] rfl Tryd.call53 ?_ (turnb18 (xa) w1 hx) ?_
              · simp only [List.map_toArray, List.map_cons, List.map_nil, e0]; rfl
              · rintro e w3 ⟨rfl, b9⟩
                exact ⟨_, rfl, hK _ w3 rfl (JR.call h.inv b9)⟩
            · refine .inl ⟨by kernel_rfl, fun L a1 w1 n h => ⟨.int .u32 (bits .xor .u32 (ror7 xa) (ror18 xa)), rfl, ?_⟩⟩
              have e0 : a1.eval (.tmp 47) = _ := h.dep n 4 47 (by kernel_rfl) rfl
              have e1 : a1.eval (.tmp 52) = _ := h.dep n 9 52 (by kernel_rfl) rfl
              unfold execOp
              simp only [e0, e1]
              go_simp
            · exact .inl ⟨by kernel_rfl, fun L a1 w1 n h => ⟨_, rfl, run_move (.tmp 9) rfl (h.var n 9 (by kernel_rfl))⟩⟩
            · refine .inl ⟨by kernel_rfl, fun L a1 w1 n h => ⟨.int .i64 ((i - 15 : Nat) : Int), rfl, ?_⟩⟩
              have e0 : a1.eval (.tmp 54) = _ := h.dep n 11 54 (by kernel_rfl) rfl
              unfold execOp
              simp only [e0]
              go_simp
              first | omega | (rw [IntWalk.i64_in _ (by omega)]; congr 3; omega)
            · exact .inl ⟨by kernel_rfl, fun L a1 w1 n h => ⟨_, rfl, run_index0 65 (.tmp 7) (.tmp 55) 64 64 g7 (i - 15) rfl Tryd.underlying65 Tryd.sizeOf64 (h.var n 7 (by kernel_rfl)) (h.dep n 12 55 (by kernel_rfl) rfl) (by omega)⟩⟩
            · exact .inl ⟨by kernel_rfl, fun L a1 w1 n h => ⟨_, rfl, run_loadA 64 (.tmp 56) ⟨g7, i - 15, none⟩ rfl Tryd.isAgg64 (h.dep n 13 56 (by kernel_rfl) rfl) (((JR.below h.inv).cell (show (⟨g7, i - 15, none⟩ : Addr).block < wr.heap.size from c1l)).trans c1)⟩⟩
            · refine .inl ⟨by kernel_rfl, fun L a1 w1 n h => ⟨.int .u32 (xa / 8), rfl, ?_⟩⟩
              have e0 : a1.eval (.tmp 57) = _ := h.dep n 14 57 (by kernel_rfl) rfl
              unfold execOp
              simp only [e0]
              go_simp
            · refine .inl ⟨by kernel_rfl, fun L a1 w1 n h => ⟨.int .u32 (sg_s0 xa), rfl, ?_⟩⟩
              have e0 : a1.eval (.tmp 53) = _ := h.dep n 10 53 (by kernel_rfl) rfl
              have e1 : a1.eval (.tmp 58) = _ := h.dep n 15 58 (by kernel_rfl) rfl
              unfold execOp
              simp only [e0, e1]
              go_simp
            · exact .inl ⟨by kernel_rfl, fun L a1 w1 n h => ⟨_, rfl, run_assign (.tmp 59) rfl (h.dep n 16 59 (by kernel_rfl) rfl)⟩⟩
          case he1 =>
            intro V1 w5 hV hJ
            have b5 : Below wr.heap.size wr w5 := hJ
            have h17 : V1 17 = .int .u32 (sg_s0 xa) := hV 17 10 rfl
            clear hV hJ x15
            simp only [putOps, List.setIfInBounds_toArray, List.set_cons_succ, List.set_cons_zero, Nat.reduceAdd]
            rw [h17]
            refine hK1 _ _ ?_
            clear hK1 h17
            have r7a := r7.later b5
            have x2a := (b5.cell (p := ⟨g7, i - 2, none⟩) l7).trans x2
            have B5 := br.trans (b5.mono br.size)
            have r3a := r3.later b5; have r5a := r5.later b5; have r6a := r6.later b5
            have l7a := r7a.lt
            clear r7 r3 r5 r6 br x2 l7 b5
            have r7 := r7a; have r3 := r3a; have r5 := r5a; have r6 := r6a
            clear r7a r3a r5a r6a
            generalize w5 = wr at *
            go_wp2_with fail
            rename_i Q2 K2 hK2
            refine wp_region_vals [4, 9] (SB10 g7 i xb) (JR wr) (by kernel_rfl) (by kernel_rfl) (by kernel_rfl) (by kernel_rfl) (by kernel_rfl) (Below.refl _ _).drew ?obs2 ?he2
            case obs2 =>
              have c1 := x2a
              have c1l := l7a
              have hx := wx2
              refine ⟨?_, ?_, ?_, ?_, ?_, ?_, ?_, ?_, ?_, ?_, ?_, ?_, ?_, ?_, ?_, ?_, ?_, ?_, trivial⟩
              · exact .inl ⟨by kernel_rfl, fun L a1 w1 n h => ⟨_, rfl, run_move (.tmp 9) rfl (h.var n 9 (by kernel_rfl))⟩⟩
              · refine .inl ⟨by kernel_rfl, fun L a1 w1 n h => ⟨.int .i64 ((i - 2 : Nat) : Int), rfl, ?_⟩⟩
                have e0 : a1.eval (.tmp 60) = _ := h.dep n 0 60 (by kernel_rfl) rfl
                unfold execOp
                simp only [e0]
                go_simp
                first | omega | (rw [IntWalk.i64_in _ (by omega)]; congr 3; omega)
              · exact .inl ⟨by kernel_rfl, fun L a1 w1 n h => ⟨_, rfl, run_index0 65 (.tmp 7) (.tmp 61) 64 64 g7 (i - 2) rfl Tryd.underlying65 Tryd.sizeOf64 (h.var n 7 (by kernel_rfl)) (h.dep n 1 61 (by kernel_rfl) rfl) (by omega)⟩⟩
              · exact .inl ⟨by kernel_rfl, fun L a1 w1 n h => ⟨_, rfl, run_loadA 64 (.tmp 62) ⟨g7, i - 2, none⟩ rfl Tryd.isAgg64 (h.dep n 2 62 (by kernel_rfl) rfl) (((JR.below h.inv).cell (show (⟨g7, i - 2, none⟩ : Addr).block < wr.heap.size from c1l)).trans c1)⟩⟩
              · refine .inr fun L a1 w1 n h K hK => ?_
                have e0 : a1.eval (.tmp 63) = .int .u32 (xb) := h.dep n 3 63 (by kernel_rfl) rfl
                refine st_call 53 _ _ #[.int .u32 (xb), .int .i64 17] rfl Tryd.call53 ?_ (turnb17 (xb) w1 hx) ?_
                · simp only [List.map_toArray, List.map_cons, List.map_nil, e0]; rfl
                · rintro e w3 ⟨rfl, b9⟩
                  exact ⟨_, rfl, hK _ w3 rfl (JR.call h.inv b9)⟩
              · exact .inl ⟨by kernel_rfl, fun L a1 w1 n h => ⟨_, rfl, run_move (.tmp 9) rfl (h.var n 9 (by kernel_rfl))⟩⟩
              · refine .inl ⟨by kernel_rfl, fun L a1 w1 n h => ⟨.int .i64 ((i - 2 : Nat) : Int), rfl, ?_⟩⟩
                have e0 : a1.eval (.tmp 65) = _ := h.dep n 5 65 (by kernel_rfl) rfl
                unfold execOp
                simp only [e0]
                go_simp
                first | omega | (rw [IntWalk.i64_in _ (by omega)]; congr 3; omega)
              · exact .inl ⟨by kernel_rfl, fun L a1 w1 n h => ⟨_, rfl, run_index0 65 (.tmp 7) (.tmp 66) 64 64 g7 (i - 2) rfl Tryd.underlying65 Tryd.sizeOf64 (h.var n 7 (by kernel_rfl)) (h.dep n 6 66 (by kernel_rfl) rfl) (by omega)⟩⟩
              · exact .inl ⟨by kernel_rfl, fun L a1 w1 n h => ⟨_, rfl, run_loadA 64 (.tmp 67) ⟨g7, i - 2, none⟩ rfl Tryd.isAgg64 (h.dep n 7 67 (by kernel_rfl) rfl) (((JR.below h.inv).cell (show (⟨g7, i - 2, none⟩ : Addr).block < wr.heap.size from c1l)).trans c1)⟩⟩
              · refine .inr fun L a1 w1 n h K hK => ?_
                have e0 : a1.eval (.tmp 68) = .int .u32 (xb) := h.dep n 8 68 (by kernel_rfl) rfl
                refine st_call 53 _ _ #[.int .u32 (xb), .int .i64 19] rfl Tryd.call53 ?_ (turnb19 (xb) w1 hx) ?_
                · simp only [List.map_toArray, List.map_cons, List.map_nil, e0]; rfl
                · rintro e w3 ⟨rfl, b9⟩
                  exact ⟨_, rfl, hK _ w3 rfl (JR.call h.inv b9)⟩
              · refine .inl ⟨by kernel_rfl, fun L a1 w1 n h => ⟨.int .u32 (bits .xor .u32 (ror17 xb) (ror19 xb)), rfl, ?_⟩⟩
                have e0 : a1.eval (.tmp 64) = _ := h.dep n 4 64 (by kernel_rfl) rfl
                have e1 : a1.eval (.tmp 69) = _ := h.dep n 9 69 (by kernel_rfl) rfl
                unfold execOp
                simp only [e0, e1]
                go_simp
              · exact .inl ⟨by kernel_rfl, fun L a1 w1 n h => ⟨_, rfl, run_move (.tmp 9) rfl (h.var n 9 (by kernel_rfl))⟩⟩
              · refine .inl ⟨by kernel_rfl, fun L a1 w1 n h => ⟨.int .i64 ((i - 2 : Nat) : Int), rfl, ?_⟩⟩
                have e0 : a1.eval (.tmp 71) = _ := h.dep n 11 71 (by kernel_rfl) rfl
                unfold execOp
                simp only [e0]
                go_simp
                first | omega | (rw [IntWalk.i64_in _ (by omega)]; congr 3; omega)
              · exact .inl ⟨by kernel_rfl, fun L a1 w1 n h => ⟨_, rfl, run_index0 65 (.tmp 7) (.tmp 72) 64 64 g7 (i - 2) rfl Tryd.underlying65 Tryd.sizeOf64 (h.var n 7 (by kernel_rfl)) (h.dep n 12 72 (by kernel_rfl) rfl) (by omega)⟩⟩
              · exact .inl ⟨by kernel_rfl, fun L a1 w1 n h => ⟨_, rfl, run_loadA 64 (.tmp 73) ⟨g7, i - 2, none⟩ rfl Tryd.isAgg64 (h.dep n 13 73 (by kernel_rfl) rfl) (((JR.below h.inv).cell (show (⟨g7, i - 2, none⟩ : Addr).block < wr.heap.size from c1l)).trans c1)⟩⟩
              · refine .inl ⟨by kernel_rfl, fun L a1 w1 n h => ⟨.int .u32 (xb / 1024), rfl, ?_⟩⟩
                have e0 : a1.eval (.tmp 74) = _ := h.dep n 14 74 (by kernel_rfl) rfl
                unfold execOp
                simp only [e0]
                go_simp
              · refine .inl ⟨by kernel_rfl, fun L a1 w1 n h => ⟨.int .u32 (sg_s1 xb), rfl, ?_⟩⟩
                have e0 : a1.eval (.tmp 70) = _ := h.dep n 10 70 (by kernel_rfl) rfl
                have e1 : a1.eval (.tmp 75) = _ := h.dep n 15 75 (by kernel_rfl) rfl
                unfold execOp
                simp only [e0, e1]
                go_simp
              · exact .inl ⟨by kernel_rfl, fun L a1 w1 n h => ⟨_, rfl, run_assign (.tmp 76) rfl (h.dep n 16 76 (by kernel_rfl) rfl)⟩⟩
            case he2 =>
              intro V2 w6 hV hJ
              have b6 : Below wr.heap.size wr w6 := hJ
              have h17 : V2 17 = .int .u32 (sg_s1 xb) := hV 17 11 rfl
              clear hV hJ x2a
              simp only [putOps, List.setIfInBounds_toArray, List.set_cons_succ, List.set_cons_zero, Nat.reduceAdd]
              rw [h17]
              refine hK2 _ _ ?_
              clear hK2 h17
              have r7a := r7.later b6
              have B6 := B5.trans (b6.mono B5.size)
              have r3a := r3.later b6; have r5a := r5.later b6; have r6a := r6.later b6
              clear r7 r3 r5 r6 b6 l7a
              have r7 := r7a; have r3 := r3a; have r5 := r5a; have r6 := r6a
              clear r7a r3a r5a r6a
              clear e0 e1
              generalize sg_s0 xa = u1 at *
              generalize sg_s1 xb = v1 at *
              go_wp2_with fail
              rename_i Q3 K3 hK3
              have hset := HS.out; have hcl := HC.out; have hx7 := HX7.out; have hx16 := HX16.out
              refine wp_region_vals [15] (SB11 g7 i u1 v1 xc xd) (JB g7 65 w6 0 (vk .u32 cur) (vk .u32 new)) (by kernel_rfl) (by kernel_rfl) (by kernel_rfl) (by kernel_rfl) (by kernel_rfl) (JB.start r7 rfl) ?obs3 ?he3
              case obs3 =>
                refine ⟨?_, ?_, ?_, ?_, ?_, ?_, ?_, ?_, ?_, ?_, ?_, ?_, ?_, ?_, ?_, ?_, trivial⟩
                · exact .inl ⟨by kernel_rfl, fun L a1 w1 n h => ⟨_, rfl, run_move (.tmp 9) rfl (h.var n 9 (by kernel_rfl))⟩⟩
                · exact .inl ⟨by kernel_rfl, fun L a1 w1 n h => ⟨_, rfl, run_move (.tmp 11) rfl (h.var n 11 (by kernel_rfl))⟩⟩
                · exact .inl ⟨by kernel_rfl, fun L a1 w1 n h => ⟨_, rfl, run_move (.tmp 9) rfl (h.var n 9 (by kernel_rfl))⟩⟩
                · refine .inl ⟨by kernel_rfl, fun L a1 w1 n h => ⟨.int .i64 ((i - 7 : Nat) : Int), rfl, ?_⟩⟩
                  have e0 : a1.eval (.tmp 79) = _ := h.dep n 2 79 (by kernel_rfl) rfl
                  unfold execOp
                  simp only [e0]
                  go_simp
                  first | omega | (rw [IntWalk.i64_in _ (by omega)]; congr 3; omega)
                · exact .inl ⟨by kernel_rfl, fun L a1 w1 n h => ⟨_, rfl, run_index0 65 (.tmp 7) (.tmp 80) 64 64 g7 (i - 7) rfl Tryd.underlying65 Tryd.sizeOf64 (h.var n 7 (by kernel_rfl)) (h.dep n 3 80 (by kernel_rfl) rfl) (by omega)⟩⟩
                · exact .inl ⟨by kernel_rfl, fun L a1 w1 n h => ⟨_, rfl, run_loadA 64 (.tmp 81) ⟨g7, i - 7, none⟩ rfl Tryd.isAgg64 (h.dep n 4 81 (by kernel_rfl) rfl) ((h.inv.1 (n.later (by kernel_rfl))).cell hx7)⟩⟩
                · refine .inl ⟨by kernel_rfl, fun L a1 w1 n h => ⟨.int .u32 ((v1 + xc) % 4294967296), rfl, ?_⟩⟩
                  have e0 : a1.eval (.tmp 78) = _ := h.dep n 1 78 (by kernel_rfl) rfl
                  have e1 : a1.eval (.tmp 82) = _ := h.dep n 5 82 (by kernel_rfl) rfl
                  unfold execOp
                  simp only [e0, e1]
                  go_simp
                  simp only [IntKind.wrap_u32, Int.emod_add_emod]
                · exact .inl ⟨by kernel_rfl, fun L a1 w1 n h => ⟨_, rfl, run_move (.tmp 10) rfl (h.var n 10 (by kernel_rfl))⟩⟩
                · refine .inl ⟨by kernel_rfl, fun L a1 w1 n h => ⟨.int .u32 ((v1 + xc + u1) % 4294967296), rfl, ?_⟩⟩
                  have e0 : a1.eval (.tmp 83) = _ := h.dep n 6 83 (by kernel_rfl) rfl
                  have e1 : a1.eval (.tmp 84) = _ := h.dep n 7 84 (by kernel_rfl) rfl
                  unfold execOp
                  simp only [e0, e1]
                  go_simp
                  simp only [IntKind.wrap_u32, Int.emod_add_emod]
                · exact .inl ⟨by kernel_rfl, fun L a1 w1 n h => ⟨_, rfl, run_move (.tmp 9) rfl (h.var n 9 (by kernel_rfl))⟩⟩
                · refine .inl ⟨by kernel_rfl, fun L a1 w1 n h => ⟨.int .i64 ((i - 16 : Nat) : Int), rfl, ?_⟩⟩
                  have e0 : a1.eval (.tmp 86) = _ := h.dep n 9 86 (by kernel_rfl) rfl
                  unfold execOp
                  simp only [e0]
                  go_simp
                  first | omega | (rw [IntWalk.i64_in _ (by omega)]; congr 3; omega)
                · exact .inl ⟨by kernel_rfl, fun L a1 w1 n h => ⟨_, rfl, run_index0 65 (.tmp 7) (.tmp 87) 64 64 g7 (i - 16) rfl Tryd.underlying65 Tryd.sizeOf64 (h.var n 7 (by kernel_rfl)) (h.dep n 10 87 (by kernel_rfl) rfl) (by omega)⟩⟩
                · exact .inl ⟨by kernel_rfl, fun L a1 w1 n h => ⟨_, rfl, run_loadA 64 (.tmp 88) ⟨g7, i - 16, none⟩ rfl Tryd.isAgg64 (h.dep n 11 88 (by kernel_rfl) rfl) ((h.inv.1 (n.later (by kernel_rfl))).cell hx16)⟩⟩
                · refine .inl ⟨by kernel_rfl, fun L a1 w1 n h => ⟨.int .u32 ((v1 + xc + u1 + xd) % 4294967296), rfl, ?_⟩⟩
                  have e0 : a1.eval (.tmp 85) = _ := h.dep n 8 85 (by kernel_rfl) rfl
                  have e1 : a1.eval (.tmp 89) = _ := h.dep n 12 89 (by kernel_rfl) rfl
                  unfold execOp
                  simp only [e0, e1]
                  go_simp
                  simp only [IntKind.wrap_u32, Int.emod_add_emod]
                · exact .inl ⟨by kernel_rfl, fun L a1 w1 n h => ⟨_, rfl, run_index0 65 (.tmp 7) (.tmp 77) 64 64 g7 (i) rfl Tryd.underlying65 Tryd.sizeOf64 (h.var n 7 (by kernel_rfl)) (h.dep n 0 77 (by kernel_rfl) rfl) (by omega)⟩⟩
                · refine .inr fun L a1 w1 n h K hK => ?_
                  have no : L.getD 15 false = false := n.not_yet
                  have e1 : a1.eval (.tmp 91) = _ := h.dep n 14 91 (by kernel_rfl) rfl
                  have e2 : a1.eval (.tmp 90) = _ := h.dep n 13 90 (by kernel_rfl) rfl
                  refine st_store 64 (.tmp 91) (.tmp 90) g7 (i) 65 (vk .u32 cur) _ rfl (by kernel_rfl) e1 e2 (h.inv.1 no) (by rw [vk_len]; omega) rfl ?_
                  intro w3 r3 o3
                  rw [vk_set, hset] at r3
                  exact hK undef w3 trivial (JB.store h.inv o3 r3 rfl)
              case he3 =>
                intro V3 w7 hV hJ
                have r7' := hJ.2.1 rfl
                have bu := hJ.2.2
                clear hV hJ hset hcl hx7 hx16
                simp only [putOps, List.setIfInBounds_toArray, List.set_cons_succ, List.set_cons_zero, Nat.reduceAdd]
                go_wp2
                go_roundw
                case rel => exact ⟨m + 1, by have := HI.out; omega, by rw [HM.out]; go_num, by rw [HM.out, HNw.out]; exact r7', r3.but bu h37, r5.but bu h57, r6.but bu h67, B6.trans (bu.below q7 B6.size)⟩
                case measure => simp [intOf]; omega
        · have h48 : m = 48 := by omega
          have hd64b : decide ((i : Int) < 64) = false := by simp; omega
          have HFin2 := hide (fun k hk => HFin.out m k h48 hk)
          rw [show 64 - i = 0 by omega, List.replicate_zero, List.append_nil] at r7
          have lW := wX_len bs m
          have wW := wX_w bb' m
          have HlW := hide (show (wX bs m).length = 64 by rw [lW, h48])
          clear HFin hlt hi hm h48 lW
          generalize wX bs m = W at *
          go_wp2_with (first
            | (with_reducible refine wl_load_row rfl 66 (.tmp 3) g3 66 (vk .u32 hs) _ rfl rfl r3 Tryd.underlying66 rfl z8.out ?_)
            | (with_reducible refine wl_alloc rfl 66 _ (vk .u32 (List.replicate 8 0)) rfl zero8a rfl ?_; intro g12 w8 r12 p12 l12 b12; have r3d := r3.later b12; have r5d := r5.later b12; have r6d := r6.later b12; have r7d := r7.later b12)
            | (with_reducible refine wl_store_row rfl 66 (.tmp 12) (.tmp 92) g12 66 _ (vk .u32 hs) rfl rfl rfl r12 z8.out (by rw [vk_len, vk_len, List.length_replicate, Hlh.out]) (vk_one' _ _) ?_; intro w9 r12b o12))
          have q12 : w.heap.size ≤ g12 := Nat.le_trans br.size p12
          have h312 : g3 ≠ g12 := by have := r3.lt; omega
          have h512 : g5 ≠ g12 := by have := r5.lt; omega
          have h612 : g6 ≠ g12 := by have := r6.lt; omega
          have h712 : g7 ≠ g12 := by have := r7.lt; omega
          have B9 : Below w.heap.size w w9 := br.trans ((b12.trans (o12.below p12)).mono br.size)
          have R3 := r3d.only o12 h312; have R5 := r5d.only o12 h512; have R6 := r6d.only o12 h612; have R7 := r7d.only o12 h712
          clear r3 r3d r5 r5d r6 r6d r7 r7d r12 b12 o12 br
          go_loopw [13] (fun iv wq => ∃ i : Nat, i ≤ 64 ∧ iv = .int .i64 i ∧ Row wq 66 g12 (vk .u32 (stG ks hs W i)) ∧ Row wq 65 g7 (vk .u32 W) ∧ Row wq 66 g3 (vk .u32 hs) ∧ Row wq 65 g5 (vk .u32 ks) ∧ Row wq 66 g6 (vk .u32 (List.replicate 8 0)) ∧ Below w.heap.size w wq) (fun iv _ => 64 - (intOf iv).toNat)
          case atStart => exact ⟨0, Nat.zero_le _, rfl, r12b, R7, R3, R5, R6, B9⟩
          case round =>
            clear r12b R7 R3 R5 R6 B9
            obtain ⟨i, hi, rfl, r12, r7, r3, r5, r6, br⟩ := hrel
            by_cases hlt : i < 64
            · have hcl := stG_len Hlh.out ks W i
              have hcw := stG_w wh ks W i
              have hnew : stG ks hs W (i + 1) = rndS (stG ks hs W i) ((ks.getD i 0 + W.getD i 0) % 4294967296) := rfl
              have HNew := hide hnew
              have HCl := hide hcl
              have ck := r5.cell (vk_get (kd := .u32) (xs := ks) (j := i) (by rw [Hlk.out]; exact hlt))
              have cw := r7.cell (vk_get (kd := .u32) (xs := W) (j := i) (by rw [HlW.out]; exact hlt))
              have c0 := r12.cell (vk_get (kd := .u32) (xs := stG ks hs W i) (j := 0) (by omega))
              have c1' := r12.cell (vk_get (kd := .u32) (xs := stG ks hs W i) (j := 1) (by omega))
              have c2 := r12.cell (vk_get (kd := .u32) (xs := stG ks hs W i) (j := 2) (by omega))
              have c4 := r12.cell (vk_get (kd := .u32) (xs := stG ks hs W i) (j := 4) (by omega))
              have c5 := r12.cell (vk_get (kd := .u32) (xs := stG ks hs W i) (j := 5) (by omega))
              have c6 := r12.cell (vk_get (kd := .u32) (xs := stG ks hs W i) (j := 6) (by omega))
              have c7 := r12.cell (vk_get (kd := .u32) (xs := stG ks hs W i) (j := 7) (by omega))
              have t4 := hcw.getD 4; have t0 := hcw.getD 0; have t5 := hcw.getD 5; have t6 := hcw.getD 6
              have hdt : decide ((i : Int) < 64) = true := by simp; omega
              have l12 := r12.lt
              have hT := tS_flat ((stG ks hs W i).getD 4 0) ((stG ks hs W i).getD 5 0) ((stG ks hs W i).getD 6 0) ((stG ks hs W i).getD 7 0) (ks.getD i 0) (W.getD i 0)
              have hRP := rnd_place hcl (ks.getD i 0) (W.getD i 0) _ hT
              have hchE : chF ((stG ks hs W i).getD 4 0) ((stG ks hs W i).getD 5 0) ((stG ks hs W i).getD 6 0) = bits .xor .u32 (bits .and .u32 ((stG ks hs W i).getD 4 0) ((stG ks hs W i).getD 5 0)) (bits .and .u32 (bits .xor .u32 ((stG ks hs W i).getD 4 0) 4294967295) ((stG ks hs W i).getD 6 0)) := by
                unfold chF
                rw [xor_comm32 ⟨by decide, by decide⟩ t4]
              have hmjE : mjF ((stG ks hs W i).getD 0 0) ((stG ks hs W i).getD 1 0) ((stG ks hs W i).getD 2 0) = bits .xor .u32 (bits .xor .u32 (bits .and .u32 ((stG ks hs W i).getD 0 0) ((stG ks hs W i).getD 1 0)) (bits .and .u32 ((stG ks hs W i).getD 0 0) ((stG ks hs W i).getD 2 0))) (bits .and .u32 ((stG ks hs W i).getD 1 0) ((stG ks hs W i).getD 2 0)) := rfl
              have HRP := hide hRP; have HCh := hide hchE; have HMj := hide hmjE
              clear hcl hnew hT hRP hchE hmjE hcw
              have f4 : ∀ x, sg_bigS1 x = bits .xor .u32 (bits .xor .u32 (ror6 x) (ror11 x)) (ror25 x) := fun _ => rfl
              have f0 : ∀ x, sg_bigS0 x = bits .xor .u32 (bits .xor .u32 (ror2 x) (ror13 x)) (ror22 x) := fun _ => rfl
              generalize hst : stG ks hs W i = st at *
              generalize ks.getD i 0 = kk at *
              generalize W.getD i 0 = ww at *
              generalize st.getD 0 0 = s0 at *
              generalize st.getD 1 0 = s1 at *
              generalize st.getD 2 0 = s2 at *
              generalize st.getD 4 0 = s4 at *
              generalize st.getD 5 0 = s5 at *
              generalize st.getD 6 0 = s6 at *
              generalize st.getD 7 0 = s7 at *
              clear hst
              go_wp2_with fail
              rename_i Q1 K1 hK1
              refine wp_region_vals [2, 5, 9] (SB16 g12 s4) (JR wr) (by kernel_rfl) (by kernel_rfl) (by kernel_rfl) (by kernel_rfl) (by kernel_rfl) (Below.refl _ _).drew ?obs1 ?he1
              case obs1 =>
                have c1 := c4
                have c1l := l12
                have hx := t4
                refine ⟨?_, ?_, ?_, ?_, ?_, ?_, ?_, ?_, ?_, ?_, ?_, ?_, trivial⟩
                · exact .inl ⟨by kernel_rfl, fun L a1 w1 n h => ⟨_, rfl, run_index0 66 (.tmp 12) (.const (.int .i64 4)) 8 64 g12 (4) rfl Tryd.underlying66 Tryd.sizeOf64 (h.var n 12 (by kernel_rfl)) rfl (by omega)⟩⟩
                · exact .inl ⟨by kernel_rfl, fun L a1 w1 n h => ⟨_, rfl, run_loadA 64 (.tmp 97) ⟨g12, 4, none⟩ rfl Tryd.isAgg64 (h.dep n 0 97 (by kernel_rfl) rfl) (((JR.below h.inv).cell (show (⟨g12, 4, none⟩ : Addr).block < wr.heap.size from c1l)).trans c1)⟩⟩
                · refine .inr fun L a1 w1 n h K hK => ?_
                  have e0 : a1.eval (.tmp 98) = .int .u32 (s4) := h.dep n 1 98 (by kernel_rfl) rfl
                  refine st_call 53 _ _ #[.int .u32 (s4), .int .i64 6] rfl Tryd.call53 ?_ (turnb6 (s4) w1 hx) ?_
                  · simp only [List.map_toArray, List.map_cons, List.map_nil, e0]; rfl
                  · rintro e w3 ⟨rfl, b9⟩
                    exact ⟨_, rfl, hK _ w3 rfl (JR.call h.inv b9)⟩
                · exact .inl ⟨by kernel_rfl, fun L a1 w1 n h => ⟨_, rfl, run_index0 66 (.tmp 12) (.const (.int .i64 4)) 8 64 g12 (4) rfl Tryd.underlying66 Tryd.sizeOf64 (h.var n 12 (by kernel_rfl)) rfl (by omega)⟩⟩
                · exact .inl ⟨by kernel_rfl, fun L a1 w1 n h => ⟨_, rfl, run_loadA 64 (.tmp 100) ⟨g12, 4, none⟩ rfl Tryd.isAgg64 (h.dep n 3 100 (by kernel_rfl) rfl) (((JR.below h.inv).cell (show (⟨g12, 4, none⟩ : Addr).block < wr.heap.size from c1l)).trans c1)⟩⟩
                · refine .inr fun L a1 w1 n h K hK => ?_
                  have e0 : a1.eval (.tmp 101) = .int .u32 (s4) := h.dep n 4 101 (by kernel_rfl) rfl
                  refine st_call 53 _ _ #[.int .u32 (s4), .int .i64 11] rfl Tryd.call53 ?_ (turnb11 (s4) w1 hx) ?_
                  · simp only [List.map_toArray, List.map_cons, List.map_nil, e0]; rfl
                  · rintro e w3 ⟨rfl, b9⟩
                    exact ⟨_, rfl, hK _ w3 rfl (JR.call h.inv b9)⟩
                · refine .inl ⟨by kernel_rfl, fun L a1 w1 n h => ⟨.int .u32 (bits .xor .u32 (ror6 s4) (ror11 s4)), rfl, ?_⟩⟩
                  have e0 : a1.eval (.tmp 99) = _ := h.dep n 2 99 (by kernel_rfl) rfl
                  have e1 : a1.eval (.tmp 102) = _ := h.dep n 5 102 (by kernel_rfl) rfl
                  unfold execOp
                  simp only [e0, e1]
                  go_simp
                · exact .inl ⟨by kernel_rfl, fun L a1 w1 n h => ⟨_, rfl, run_index0 66 (.tmp 12) (.const (.int .i64 4)) 8 64 g12 (4) rfl Tryd.underlying66 Tryd.sizeOf64 (h.var n 12 (by kernel_rfl)) rfl (by omega)⟩⟩
                · exact .inl ⟨by kernel_rfl, fun L a1 w1 n h => ⟨_, rfl, run_loadA 64 (.tmp 104) ⟨g12, 4, none⟩ rfl Tryd.isAgg64 (h.dep n 7 104 (by kernel_rfl) rfl) (((JR.below h.inv).cell (show (⟨g12, 4, none⟩ : Addr).block < wr.heap.size from c1l)).trans c1)⟩⟩
                · refine .inr fun L a1 w1 n h K hK => ?_
                  have e0 : a1.eval (.tmp 105) = .int .u32 (s4) := h.dep n 8 105 (by kernel_rfl) rfl
                  refine st_call 53 _ _ #[.int .u32 (s4), .int .i64 25] rfl Tryd.call53 ?_ (turnb25 (s4) w1 hx) ?_
                  · simp only [List.map_toArray, List.map_cons, List.map_nil, e0]; rfl
                  · rintro e w3 ⟨rfl, b9⟩
                    exact ⟨_, rfl, hK _ w3 rfl (JR.call h.inv b9)⟩
                · refine .inl ⟨by kernel_rfl, fun L a1 w1 n h => ⟨.int .u32 (sg_bigS1 s4), rfl, ?_⟩⟩
                  have e0 : a1.eval (.tmp 103) = _ := h.dep n 6 103 (by kernel_rfl) rfl
                  have e1 : a1.eval (.tmp 106) = _ := h.dep n 9 106 (by kernel_rfl) rfl
                  unfold execOp
                  simp only [e0, e1]
                  go_simp
                · exact .inl ⟨by kernel_rfl, fun L a1 w1 n h => ⟨_, rfl, run_assign (.tmp 107) rfl (h.dep n 10 107 (by kernel_rfl) rfl)⟩⟩
              case he1 =>
                intro V1 w5 hV hJ
                have b5 : Below wr.heap.size wr w5 := hJ
                have h11 : V1 11 = .int .u32 (sg_bigS1 s4) := hV 11 14 rfl
                clear hV hJ
                simp only [putOps, List.setIfInBounds_toArray, List.set_cons_succ, List.set_cons_zero, Nat.reduceAdd]
                rw [h11]
                refine hK1 _ _ ?_
                clear hK1 h11
                have l5 := r5.lt; have l7 := r7.lt
                replace c0 := (b5.cell (p := ⟨g12, 0, none⟩) l12).trans c0
                replace c1' := (b5.cell (p := ⟨g12, 1, none⟩) l12).trans c1'
                replace c2 := (b5.cell (p := ⟨g12, 2, none⟩) l12).trans c2
                replace c4 := (b5.cell (p := ⟨g12, 4, none⟩) l12).trans c4
                replace c5 := (b5.cell (p := ⟨g12, 5, none⟩) l12).trans c5
                replace c6 := (b5.cell (p := ⟨g12, 6, none⟩) l12).trans c6
                replace c7 := (b5.cell (p := ⟨g12, 7, none⟩) l12).trans c7
                replace ck := (b5.cell (p := ⟨g5, i, none⟩) l5).trans ck
                replace cw := (b5.cell (p := ⟨g7, i, none⟩) l7).trans cw
                have B5 := br.trans (b5.mono br.size)
                replace r12 := r12.later b5; replace r7 := r7.later b5; replace r3 := r3.later b5; replace r5 := r5.later b5; replace r6 := r6.later b5
                clear l12 l5 l7 br b5 f4
                generalize w5 = wr at *
                generalize hE1 : sg_bigS1 s4 = e1 at *
                go_wp2_with fail
                rw [← HCh.out]
                generalize hE2 : chF s4 s5 s6 = e2 at *
                have c7l := r12.lt; have ckl := r5.lt; have cwl := r7.lt
                rename_i Q2 K2 hK2
                refine wp_region_vals [] (SB18 g12 g5 g7 i s7 e1 e2 kk ww) (JR wr) (by kernel_rfl) (by kernel_rfl) (by kernel_rfl) (by kernel_rfl) (by kernel_rfl) (Below.refl _ _).drew ?obs2 ?he2
                case obs2 =>
                  refine ⟨?_, ?_, ?_, ?_, ?_, ?_, ?_, ?_, ?_, ?_, ?_, ?_, ?_, ?_, ?_, trivial⟩
                  · exact .inl ⟨by kernel_rfl, fun L a1 w1 n h => ⟨_, rfl, run_index0 66 (.tmp 12) (.const (.int .i64 7)) 8 64 g12 (7) rfl Tryd.underlying66 Tryd.sizeOf64 (h.var n 12 (by kernel_rfl)) rfl (by omega)⟩⟩
                  · exact .inl ⟨by kernel_rfl, fun L a1 w1 n h => ⟨_, rfl, run_loadA 64 (.tmp 120) ⟨g12, 7, none⟩ rfl Tryd.isAgg64 (h.dep n 0 120 (by kernel_rfl) rfl) (((JR.below h.inv).cell (show (⟨g12, 7, none⟩ : Addr).block < wr.heap.size from c7l)).trans c7)⟩⟩
                  · exact .inl ⟨by kernel_rfl, fun L a1 w1 n h => ⟨_, rfl, run_move (.tmp 14) rfl (h.var n 14 (by kernel_rfl))⟩⟩
                  · refine .inl ⟨by kernel_rfl, fun L a1 w1 n h => ⟨.int .u32 ((s7 + e1) % 4294967296), rfl, ?_⟩⟩
                    have e0 : a1.eval (.tmp 121) = _ := h.dep n 1 121 (by kernel_rfl) rfl
                    have e1 : a1.eval (.tmp 122) = _ := h.dep n 2 122 (by kernel_rfl) rfl
                    unfold execOp
                    simp only [e0, e1]
                    go_simp
                    simp only [IntKind.wrap_u32, Int.emod_add_emod]
                  · exact .inl ⟨by kernel_rfl, fun L a1 w1 n h => ⟨_, rfl, run_move (.tmp 15) rfl (h.var n 15 (by kernel_rfl))⟩⟩
                  · refine .inl ⟨by kernel_rfl, fun L a1 w1 n h => ⟨.int .u32 ((s7 + e1 + e2) % 4294967296), rfl, ?_⟩⟩
                    have e0 : a1.eval (.tmp 123) = _ := h.dep n 3 123 (by kernel_rfl) rfl
                    have e1 : a1.eval (.tmp 124) = _ := h.dep n 4 124 (by kernel_rfl) rfl
                    unfold execOp
                    simp only [e0, e1]
                    go_simp
                    simp only [IntKind.wrap_u32, Int.emod_add_emod]
                  · exact .inl ⟨by kernel_rfl, fun L a1 w1 n h => ⟨_, rfl, run_move (.tmp 13) rfl (h.var n 13 (by kernel_rfl))⟩⟩
                  · exact .inl ⟨by kernel_rfl, fun L a1 w1 n h => ⟨_, rfl, run_index0 65 (.tmp 5) (.tmp 126) 64 64 g5 (i) rfl Tryd.underlying65 Tryd.sizeOf64 (h.var n 5 (by kernel_rfl)) (h.dep n 6 126 (by kernel_rfl) rfl) (by omega)⟩⟩
                  · exact .inl ⟨by kernel_rfl, fun L a1 w1 n h => ⟨_, rfl, run_loadA 64 (.tmp 127) ⟨g5, i, none⟩ rfl Tryd.isAgg64 (h.dep n 7 127 (by kernel_rfl) rfl) (((JR.below h.inv).cell (show (⟨g5, i, none⟩ : Addr).block < wr.heap.size from ckl)).trans ck)⟩⟩
                  · refine .inl ⟨by kernel_rfl, fun L a1 w1 n h => ⟨.int .u32 ((s7 + e1 + e2 + kk) % 4294967296), rfl, ?_⟩⟩
                    have e0 : a1.eval (.tmp 125) = _ := h.dep n 5 125 (by kernel_rfl) rfl
                    have e1 : a1.eval (.tmp 128) = _ := h.dep n 8 128 (by kernel_rfl) rfl
                    unfold execOp
                    simp only [e0, e1]
                    go_simp
                    simp only [IntKind.wrap_u32, Int.emod_add_emod]
                  · exact .inl ⟨by kernel_rfl, fun L a1 w1 n h => ⟨_, rfl, run_move (.tmp 13) rfl (h.var n 13 (by kernel_rfl))⟩⟩
                  · exact .inl ⟨by kernel_rfl, fun L a1 w1 n h => ⟨_, rfl, run_index0 65 (.tmp 7) (.tmp 130) 64 64 g7 (i) rfl Tryd.underlying65 Tryd.sizeOf64 (h.var n 7 (by kernel_rfl)) (h.dep n 10 130 (by kernel_rfl) rfl) (by omega)⟩⟩
                  · exact .inl ⟨by kernel_rfl, fun L a1 w1 n h => ⟨_, rfl, run_loadA 64 (.tmp 131) ⟨g7, i, none⟩ rfl Tryd.isAgg64 (h.dep n 11 131 (by kernel_rfl) rfl) (((JR.below h.inv).cell (show (⟨g7, i, none⟩ : Addr).block < wr.heap.size from cwl)).trans cw)⟩⟩
                  · refine .inl ⟨by kernel_rfl, fun L a1 w1 n h => ⟨.int .u32 ((s7 + e1 + e2 + kk + ww) % 4294967296), rfl, ?_⟩⟩
                    have e0 : a1.eval (.tmp 129) = _ := h.dep n 9 129 (by kernel_rfl) rfl
                    have e1 : a1.eval (.tmp 132) = _ := h.dep n 12 132 (by kernel_rfl) rfl
                    unfold execOp
                    simp only [e0, e1]
                    go_simp
                    simp only [IntKind.wrap_u32, Int.emod_add_emod]
                  · exact .inl ⟨by kernel_rfl, fun L a1 w1 n h => ⟨_, rfl, run_assign (.tmp 133) rfl (h.dep n 13 133 (by kernel_rfl) rfl)⟩⟩
                case he2 =>
                  intro V2 w6 hV hJ
                  have b6 : Below wr.heap.size wr w6 := hJ
                  have h14 : V2 14 = .int .u32 ((s7 + e1 + e2 + kk + ww) % 4294967296) := hV 14 16 rfl
                  clear hV hJ
                  simp only [putOps, List.setIfInBounds_toArray, List.set_cons_succ, List.set_cons_zero, Nat.reduceAdd]
                  rw [h14]
                  refine hK2 _ _ ?_
                  clear hK2 h14
                  replace c0 := (b6.cell (p := ⟨g12, 0, none⟩) c7l).trans c0
                  replace c1' := (b6.cell (p := ⟨g12, 1, none⟩) c7l).trans c1'
                  replace c2 := (b6.cell (p := ⟨g12, 2, none⟩) c7l).trans c2
                  have B6 := B5.trans (b6.mono B5.size)
                  replace r12 := r12.later b6; replace r7 := r7.later b6; replace r3 := r3.later b6; replace r5 := r5.later b6; replace r6 := r6.later b6
                  clear c7l ckl cwl B5 b6 c4 c5 c6 c7 ck cw HCh hE2
                  generalize w6 = wr at *
                  generalize hTT : (s7 + e1 + e2 + kk + ww) % 4294967296 = tt at *
                  have HTT := hide hTT
                  clear hTT
                  have l12 := r12.lt
                  go_wp2_with fail
                  rename_i Q3 K3 hK3
                  refine wp_region_vals [2, 5, 9] (SB19 g12 s0) (JR wr) (by kernel_rfl) (by kernel_rfl) (by kernel_rfl) (by kernel_rfl) (by kernel_rfl) (Below.refl _ _).drew ?obs3 ?he3
                  case obs3 =>
                    have c1 := c0
                    have c1l := l12
                    have hx := t0
                    refine ⟨?_, ?_, ?_, ?_, ?_, ?_, ?_, ?_, ?_, ?_, ?_, ?_, trivial⟩
                    · exact .inl ⟨by kernel_rfl, fun L a1 w1 n h => ⟨_, rfl, run_index0 66 (.tmp 12) (.const (.int .i64 0)) 8 64 g12 (0) rfl Tryd.underlying66 Tryd.sizeOf64 (h.var n 12 (by kernel_rfl)) rfl (by omega)⟩⟩
                    · exact .inl ⟨by kernel_rfl, fun L a1 w1 n h => ⟨_, rfl, run_loadA 64 (.tmp 134) ⟨g12, 0, none⟩ rfl Tryd.isAgg64 (h.dep n 0 134 (by kernel_rfl) rfl) (((JR.below h.inv).cell (show (⟨g12, 0, none⟩ : Addr).block < wr.heap.size from c1l)).trans c1)⟩⟩
                    · refine .inr fun L a1 w1 n h K hK => ?_
                      have e0 : a1.eval (.tmp 135) = .int .u32 (s0) := h.dep n 1 135 (by kernel_rfl) rfl
                      refine st_call 53 _ _ #[.int .u32 (s0), .int .i64 2] rfl Tryd.call53 ?_ (turnb2 (s0) w1 hx) ?_
                      · simp only [List.map_toArray, List.map_cons, List.map_nil, e0]; rfl
                      · rintro e w3 ⟨rfl, b9⟩
                        exact ⟨_, rfl, hK _ w3 rfl (JR.call h.inv b9)⟩
                    · exact .inl ⟨by kernel_rfl, fun L a1 w1 n h => ⟨_, rfl, run_index0 66 (.tmp 12) (.const (.int .i64 0)) 8 64 g12 (0) rfl Tryd.underlying66 Tryd.sizeOf64 (h.var n 12 (by kernel_rfl)) rfl (by omega)⟩⟩
                    · exact .inl ⟨by kernel_rfl, fun L a1 w1 n h => ⟨_, rfl, run_loadA 64 (.tmp 137) ⟨g12, 0, none⟩ rfl Tryd.isAgg64 (h.dep n 3 137 (by kernel_rfl) rfl) (((JR.below h.inv).cell (show (⟨g12, 0, none⟩ : Addr).block < wr.heap.size from c1l)).trans c1)⟩⟩
                    · refine .inr fun L a1 w1 n h K hK => ?_
                      have e0 : a1.eval (.tmp 138) = .int .u32 (s0) := h.dep n 4 138 (by kernel_rfl) rfl
                      refine st_call 53 _ _ #[.int .u32 (s0), .int .i64 13] rfl Tryd.call53 ?_ (turnb13 (s0) w1 hx) ?_
                      · simp only [List.map_toArray, List.map_cons, List.map_nil, e0]; rfl
                      · rintro e w3 ⟨rfl, b9⟩
                        exact ⟨_, rfl, hK _ w3 rfl (JR.call h.inv b9)⟩
                    · refine .inl ⟨by kernel_rfl, fun L a1 w1 n h => ⟨.int .u32 (bits .xor .u32 (ror2 s0) (ror13 s0)), rfl, ?_⟩⟩
                      have e0 : a1.eval (.tmp 136) = _ := h.dep n 2 136 (by kernel_rfl) rfl
                      have e1 : a1.eval (.tmp 139) = _ := h.dep n 5 139 (by kernel_rfl) rfl
                      unfold execOp
                      simp only [e0, e1]
                      go_simp
                    · exact .inl ⟨by kernel_rfl, fun L a1 w1 n h => ⟨_, rfl, run_index0 66 (.tmp 12) (.const (.int .i64 0)) 8 64 g12 (0) rfl Tryd.underlying66 Tryd.sizeOf64 (h.var n 12 (by kernel_rfl)) rfl (by omega)⟩⟩
                    · exact .inl ⟨by kernel_rfl, fun L a1 w1 n h => ⟨_, rfl, run_loadA 64 (.tmp 141) ⟨g12, 0, none⟩ rfl Tryd.isAgg64 (h.dep n 7 141 (by kernel_rfl) rfl) (((JR.below h.inv).cell (show (⟨g12, 0, none⟩ : Addr).block < wr.heap.size from c1l)).trans c1)⟩⟩
                    · refine .inr fun L a1 w1 n h K hK => ?_
                      have e0 : a1.eval (.tmp 142) = .int .u32 (s0) := h.dep n 8 142 (by kernel_rfl) rfl
                      refine st_call 53 _ _ #[.int .u32 (s0), .int .i64 22] rfl Tryd.call53 ?_ (turnb22 (s0) w1 hx) ?_
                      · simp only [List.map_toArray, List.map_cons, List.map_nil, e0]; rfl
                      · rintro e w3 ⟨rfl, b9⟩
                        exact ⟨_, rfl, hK _ w3 rfl (JR.call h.inv b9)⟩
                    · refine .inl ⟨by kernel_rfl, fun L a1 w1 n h => ⟨.int .u32 (sg_bigS0 s0), rfl, ?_⟩⟩
                      have e0 : a1.eval (.tmp 140) = _ := h.dep n 6 140 (by kernel_rfl) rfl
                      have e1 : a1.eval (.tmp 143) = _ := h.dep n 9 143 (by kernel_rfl) rfl
                      unfold execOp
                      simp only [e0, e1]
                      go_simp
                    · exact .inl ⟨by kernel_rfl, fun L a1 w1 n h => ⟨_, rfl, run_assign (.tmp 144) rfl (h.dep n 10 144 (by kernel_rfl) rfl)⟩⟩
                  case he3 =>
                    intro V3 w7 hV hJ
                    have b7 : Below wr.heap.size wr w7 := hJ
                    have h11 : V3 11 = .int .u32 (sg_bigS0 s0) := hV 11 17 rfl
                    clear hV hJ
                    simp only [putOps, List.setIfInBounds_toArray, List.set_cons_succ, List.set_cons_zero, Nat.reduceAdd]
                    rw [h11]
                    refine hK3 _ _ ?_
                    clear hK3 h11
                    replace c0 := (b7.cell (p := ⟨g12, 0, none⟩) l12).trans c0
                    replace c1' := (b7.cell (p := ⟨g12, 1, none⟩) l12).trans c1'
                    replace c2 := (b7.cell (p := ⟨g12, 2, none⟩) l12).trans c2
                    have B7 := B6.trans (b7.mono B6.size)
                    replace r12 := r12.later b7; replace r7 := r7.later b7; replace r3 := r3.later b7; replace r5 := r5.later b7; replace r6 := r6.later b7
                    clear l12 B6 b7 f0
                    generalize w7 = wr at *
                    generalize hS0 : sg_bigS0 s0 = u0 at *
                    go_wp2_with fail
                    rw [← HMj.out]
                    generalize hMJ : mjF s0 s1 s2 = mj at *
                    clear c0 c1' c2 HMj hMJ hS0 t0 t4 t5 t6 hE1
                    have r12s : Row wr 66 g12 (vk .u32 (shL st 7)) := by rw [shL_7 HCl.out]; exact r12
                    clear r12
                    go_loopw [19] (fun jv wq => ∃ j : Nat, j ≤ 7 ∧ jv = .int .i64 j ∧ Row wq 66 g12 (vk .u32 (shL st j)) ∧ Row wq 65 g7 (vk .u32 W) ∧ Row wq 66 g3 (vk .u32 hs) ∧ Row wq 65 g5 (vk .u32 ks) ∧ Row wq 66 g6 (vk .u32 (List.replicate 8 0)) ∧ Below w.heap.size w wq) (fun jv _ => (intOf jv).toNat)
                    case atStart => exact ⟨7, by omega, rfl, r12s, r7, r3, r5, r6, B7⟩
                    case round =>
                      clear r12s r7 r3 r5 r6 B7
                      obtain ⟨j, hj, rfl, r12, r7, r3, r5, r6, bq⟩ := hrel
                      cases j with
                      | zero =>
                        have hcl8 := shL_len HCl.out (j := 0) (by omega)
                        have c4 := r12.cell (vk_get (kd := .u32) (xs := shL st 0) (j := 4) (by omega))
                        have hln4 : 4 < (vk .u32 (shL st 0)).length := by rw [vk_len, hcl8]; omega
                        have hln0 : ∀ v, 0 < (vk .u32 ((shL st 0).set 4 v)).length := fun v => by rw [vk_len, List.length_set, hcl8]; omega
                        have hd0 : decide ((0 : Int) < ((0 : Nat) : Int)) = false := by simp
                        have hfin := HRP.out.trans HNew.out.symm
                        have HFn := hide hfin
                        have HMm := hide (show ((tt + u0) % 4294967296 + mj) % 4294967296 = (tt + u0 + mj) % 4294967296 from Int.emod_add_emod _ _ _)
                        clear HRP HNew hfin hcl8
                        generalize (shL st 0).getD 4 0 = d4 at *
                        generalize shL st 0 = sh at *
                        go_wp2_with (first
                          | (with_reducible refine wl_store rfl 64 (.tmp 176) (.tmp 175) g12 4 66 _ (.int .u32 ((d4 + tt) % 4294967296)) rfl (by kernel_rfl) rfl rfl r12 hln4 rfl ?_; intro wn rn on; rw [vk_set] at rn)
                          | (with_reducible refine wl_store rfl 64 (.tmp 182) (.tmp 181) g12 0 66 _ (.int .u32 (((tt + u0) % 4294967296 + mj) % 4294967296)) rfl (by kernel_rfl) rfl rfl rn (hln0 _) rfl ?_; intro wm rm om; rw [vk_set, HMm.out, HFn.out] at rm))
                        refine ⟨⟨i + 1, by omega, by first | rfl | go_num, rm, (r7.only on h712).only om h712, (r3.only on h312).only om h312, (r5.only on h512).only om h512, (r6.only on h612).only om h612, (bq.trans (on.below q12)).trans (om.below q12)⟩, ?_⟩
                        first | (simp [intOf]; done) | (simp [intOf]; omega)
                      | succ j =>
                        have hj7 : j < 7 := by omega
                        have hset := shL_set HCl.out hj7
                        have hget := shL_get HCl.out hj7
                        have hcl8 := shL_len HCl.out hj
                        have cj := r12.cell (vk_get (kd := .u32) (xs := shL st (j + 1)) (j := j) (by omega))
                        rw [hget] at cj
                        have hln : j + 1 < (vk .u32 (shL st (j + 1))).length := by rw [vk_len, hcl8]; omega
                        have HSet := hide hset
                        have hcast : ((j + 1 : Nat) : Int) - 1 = (j : Int) := by omega
                        clear hset hget hcl8
                        generalize st.getD j 0 = v at *
                        have hjc : ((j + 1 : Nat) : Int) = (j : Int) + 1 := by omega
                        rw [hjc]
                        clear hcast hjc
                        go_wp2_with (first
                          | (with_reducible refine wl_store rfl 64 (.tmp 171) (.tmp 170) g12 (j + 1) 66 _ (.int .u32 v) rfl (by kernel_rfl) rfl rfl r12 hln rfl ?_; intro wn rn on; rw [vk_set, HSet.out] at rn))
                        go_roundw
                        case rel => exact ⟨j, by omega, rfl, rn, r7.only on h712, r3.only on h312, r5.only on h512, r6.only on h612, bq.trans (on.below q12)⟩
                        case measure => first | (simp [intOf]; done) | (simp [intOf]; omega)
            · have h64 : i = 64 := by omega
              have hdf : decide ((i : Int) < 64) = false := by simp; omega
              have hFF := HFin2.out i h64
              have lS := stG_len Hlh.out ks W i
              have HFF := hide hFF
              have HlS := hide lS
              clear h64 hFF lS HFin2 hlt hi
              generalize stG ks hs W i = fin at *
              have hzl := adZ_len Hlh.out HlS.out
              have HZ := hide hzl
              clear hzl
              go_wp2_with fail
              have r3m : Row wr 66 g3 (vk .u32 (mixL (adZ hs fin) hs 0)) := r3
              clear r3 r5 r7
              go_loopw [20] (fun iv wq => ∃ k : Nat, k ≤ 8 ∧ iv = .int .i64 k ∧ Row wq 66 g3 (vk .u32 (mixL (adZ hs fin) hs k)) ∧ Row wq 66 g12 (vk .u32 fin) ∧ Row wq 66 g6 (vk .u32 (List.replicate 8 0)) ∧ Below w.heap.size w wq) (fun iv _ => 8 - (intOf iv).toNat)
              case atStart => exact ⟨0, Nat.zero_le _, rfl, r3m, r12, r6, br⟩
              case round =>
                clear r3m r12 r6 br
                obtain ⟨i, hk, rfl, r3, r12, r6, br⟩ := hrel
                by_cases hi : i < 8
                · have hcl := mixL_len HZ.out Hlh.out (k := i) (by omega)
                  have hset := mixL_set HZ.out Hlh.out hi
                  have hget := mixL_get HZ.out Hlh.out hi
                  rw [adZ_get Hlh.out HlS.out hi, ← hget] at hset
                  have Hcl := hide hcl
                  have Hset := hide hset
                  clear hcl hset hget
                  generalize hn : mixL (adZ hs fin) hs (i + 1) = new at *
                  generalize mixL (adZ hs fin) hs i = cur at *
                  have Hn := hide hn
                  clear hn
                  go_wp2_with fail
                  rename_i Q1 K1 hK1
                  have hcl := Hcl.out
                  have hset := Hset.out
                  have hfl := HlS.out
                  have h123 := h312.symm
                  refine wp_region_vals [9] (SB30 cur fin g3 g12 i) (JB g3 66 wr 0 (vk .u32 cur) (vk .u32 new)) (by kernel_rfl) (by kernel_rfl) (by kernel_rfl) (by kernel_rfl) (by kernel_rfl) (JB.start r3 rfl) ?obs ?he
                  case obs =>
                    refine ⟨?_, ?_, ?_, ?_, ?_, ?_, ?_, ?_, ?_, ?_, trivial⟩
                    · exact .inl ⟨by kernel_rfl, fun L a1 w1 n h => ⟨_, rfl, run_move (.tmp 20) rfl (h.var n 20 (by kernel_rfl))⟩⟩
                    · exact .inl ⟨by kernel_rfl, fun L a1 w1 n h => ⟨_, rfl, run_move (.tmp 20) rfl (h.var n 20 (by kernel_rfl))⟩⟩
                    · exact .inl ⟨by kernel_rfl, fun L a1 w1 n h => ⟨_, rfl, run_index0 66 (.tmp 3) (.tmp 188) 8 64 g3 (i) rfl Tryd.underlying66 Tryd.sizeOf64 (h.var n 3 (by kernel_rfl)) (h.dep n 1 188 (by kernel_rfl) rfl) (by omega)⟩⟩
                    · exact .inl ⟨by kernel_rfl, fun L a1 w1 n h => ⟨_, rfl, run_loadA 64 (.tmp 189) ⟨g3, i, none⟩ rfl Tryd.isAgg64 (h.dep n 2 189 (by kernel_rfl) rfl) ((h.inv.1 (n.later (by kernel_rfl))).cell (vk_get (kd := .u32) (xs := cur) (j := i) (by omega)))⟩⟩
                    · exact .inl ⟨by kernel_rfl, fun L a1 w1 n h => ⟨_, rfl, run_move (.tmp 20) rfl (h.var n 20 (by kernel_rfl))⟩⟩
                    · exact .inl ⟨by kernel_rfl, fun L a1 w1 n h => ⟨_, rfl, run_index0 66 (.tmp 12) (.tmp 191) 8 64 g12 (i) rfl Tryd.underlying66 Tryd.sizeOf64 (h.var n 12 (by kernel_rfl)) (h.dep n 4 191 (by kernel_rfl) rfl) (by omega)⟩⟩
                    · exact .inl ⟨by kernel_rfl, fun L a1 w1 n h => ⟨_, rfl, run_loadA 64 (.tmp 192) ⟨g12, i, none⟩ rfl Tryd.isAgg64 (h.dep n 5 192 (by kernel_rfl) rfl) ((r12.but h.inv.2.2 h123).cell (vk_get (kd := .u32) (xs := fin) (j := i) (by omega)))⟩⟩
                    · refine .inl ⟨by kernel_rfl, fun L a1 w1 n h => ⟨.int .u32 ((cur.getD i 0 + fin.getD i 0) % 4294967296), rfl, ?_⟩⟩
                      have e0 : a1.eval (.tmp 190) = _ := h.dep n 3 190 (by kernel_rfl) rfl
                      have e1 : a1.eval (.tmp 193) = _ := h.dep n 6 193 (by kernel_rfl) rfl
                      unfold execOp
                      simp only [e0, e1]
                      go_simp
                      simp only [IntKind.wrap_u32, Int.emod_add_emod]
                    · exact .inl ⟨by kernel_rfl, fun L a1 w1 n h => ⟨_, rfl, run_index0 66 (.tmp 3) (.tmp 187) 8 64 g3 (i) rfl Tryd.underlying66 Tryd.sizeOf64 (h.var n 3 (by kernel_rfl)) (h.dep n 0 187 (by kernel_rfl) rfl) (by omega)⟩⟩
                    · refine .inr fun L a1 w1 n h K hK => ?_
                      have no : L.getD 9 false = false := n.not_yet
                      have e1 : a1.eval (.tmp 195) = _ := h.dep n 8 195 (by kernel_rfl) rfl
                      have e2 : a1.eval (.tmp 194) = _ := h.dep n 7 194 (by kernel_rfl) rfl
                      refine st_store 64 (.tmp 195) (.tmp 194) g3 (i) 66 (vk .u32 cur) _ rfl (by kernel_rfl) e1 e2 (h.inv.1 no) (by rw [vk_len]; omega) rfl ?_
                      intro w3 r3 o3
                      rw [vk_set, hset] at r3
                      exact hK undef w3 trivial (JB.store h.inv o3 r3 rfl)
                  case he =>
                    intro V w7 hV hJ
                    have r7 := hJ.2.1 rfl
                    have bu := hJ.2.2
                    clear hV hJ hcl hset hfl
                    simp only [putOps, List.setIfInBounds_toArray, List.set_cons_succ, List.set_cons_zero]
                    first | (refine hK1 _ _ ?_) | skip
                    go_wp2
                    go_roundw
                    case rel => exact ⟨i + 1, by omega, by go_num, by rw [Hn.out]; exact r7, r12.but bu h123, r6.but bu h36.symm, br.trans (bu.below q3 br.size)⟩
                    case measure => simp [intOf]; omega
                · have h8 : i = 8 := by omega
                  subst h8
                  have hm : mixL (adZ hs fin) hs 8 = FS := by
                    unfold mixL
                    rw [List.take_of_length_le (by rw [HZ.out]; exact Nat.le_refl _), List.drop_of_length_le (by rw [Hlh.out]; exact Nat.le_refl _), List.append_nil, HFF.out]
                  rw [hm] at r3
                  clear hm
                  go_wp2_with (first
                    | (with_reducible refine wl_load_row rfl 66 (.tmp 3) g3 66 (vk .u32 FS) _ rfl rfl r3 Tryd.underlying66 rfl zf.out ?_)
                    | (with_reducible refine wl_store_row rfl 66 (.tmp 6) (.tmp 196) g6 66 _ (vk .u32 FS) rfl rfl rfl r6 zf.out lf.out (vk_one' _ _) ?_; intro w8 r8 o8))
                  refine bodyPost_ret (v := .agg (vk .u32 FS).toArray) ?_ rfl ⟨rfl, ?_⟩
                  · exact results_cell_row Tryd.results43 _ _ g6 66 _ (0, 0) _ rfl r8 Tryd.underlying66 rfl zf.out
                  · exact br.trans (o8.below q6)
end Go.Proofs.YtbolfkigiachlaaDoor

/-
  SHA-256, the document's answer: what comes behind a text: contract. Own work.
-/
namespace Go.Proofs.YtbolfkigiachlaaDoor
open Go.RowKit
theorem own_lit (w : World) (e : TypeId) (x : Int) : (w.alloc (.cells #[.int .u8 x] e)).ownsRow w.heap.size e 1 (.slice (some ⟨w.heap.size, 0, none⟩) 1 1) 1 (bv [x]) :=
  ⟨by simp [bv], .inr ⟨w.heap.size, 1, #[.int .u8 x], rfl, Nat.le_refl _, (by show (w.heap.push _)[w.heap.size]? = _; simp), Nat.le_refl _, by simp only [maxLen]; omega, by simp, by simp [bv]⟩⟩
theorem own_later {w w' : World} {base e n : Nat} {v : Value} {xs : List Value} (h : w.ownsRow base e 1 v n xs) (hb : Below w.heap.size w w') : w'.ownsRow base e 1 v n xs := by
  refine ⟨h.1, ?_⟩
  rcases h.2 with h2 | ⟨g, cap, cur, hv, hg, hh, r⟩
  · exact .inl h2
  · exact .inr ⟨g, cap, cur, hv, hg, (hb.block g (Array.getElem?_eq_some_iff.1 hh).1).trans hh, r⟩
set_option maxRecDepth 100000 in
set_option maxHeartbeats 1000000 in
theorem refPad_nat (m : Nat) (w : World) (hm : m ≤ 9223372036854775807) : Calls Tryd.prog 42 #[.int .i64 (m : Int)] w (RetBs (padS m) w) := by
  obtain ⟨i0, hi, hz, hsz, hby⟩ := u8_info
  have hzl : zN m ≤ 63 := by unfold zN; omega
  have hpre : ∀ k, k < zN m → ¬ (((m : Int) % 64 + ((1 + k : Nat) : Int) + 8) % 64 = 0) := by unfold zN; intro k hk; omega
  have hend : (((m : Int) % 64 + ((1 + zN m : Nat) : Int) + 8) % 64 = 0) := by unfold zN; omega
  have hf8 : (8 * (m : Int)) % 18446744073709551616 = ((8 * m % 18446744073709551616 : Nat) : Int) := by omega
  have hdef : padS m = (128 :: List.replicate (zN m) 0) ++ highB (((8 * m % 18446744073709551616 : Nat) : Int)) 8 := rfl
  have hlt8 : 8 * m % 18446744073709551616 < 18446744073709551616 := Nat.mod_lt _ (by decide)
  have HX8 := hide (show (0 : Int) ≤ ((8 * m % 18446744073709551616 : Nat) : Int) ∧ ((8 * m % 18446744073709551616 : Nat) : Int) < 18446744073709551616 from ⟨by omega, by omega⟩)
  have HD := hide hdef
  have H8 := hide hf8
  have HQ := hide hpre
  have HE := hide hend
  clear hdef hf8 hpre hend hlt8
  generalize zN m = z at *
  generalize padS m = P at *
  generalize ((8 * m % 18446744073709551616 : Nat) : Int) = X at *
  go_enter Tryd.func42, Tryd.ntmps42
  go_wp2
  have hb0 : Below w.heap.size w (w.alloc (.cells #[.int .u8 128] 5)) := Below.alloc (Below.refl _ _) (Nat.le_refl _) _
  go_loopw [3, 4] (fun v i wr => ∃ k : Nat, k ≤ z ∧ i = .int .i64 k ∧ wr.ownsRow w.heap.size 5 1 v (1 + k) (bv (128 :: List.replicate k 0)) ∧ Below w.heap.size w wr) (fun _ i _ => z - (intOf i).toNat)
  case atStart => exact ⟨0, Nat.zero_le _, rfl, by simpa using own_lit w 5 128, hb0⟩
  case round =>
    clear hb0
    obtain ⟨k, hk, rfl, hown, hb⟩ := hrel
    obtain ⟨A', c', rfl, hb', hc1, hc2⟩ := ownsRow_bs hown
    have hk16 : (k : Int) < 64 := by omega
    by_cases hlt : k < z
    · have h1 := HQ.out k hlt
      go_wp2_with (at_builtin; refine wpList_append_bs rfl (.tmp 22) (.tmp 23) _ rfl w.heap.size 5 i0 Tryd.underlying22 hi hz hsz hby _ (1 + k) (128 :: List.replicate k 0) rfl (hown.alloc _) _ _ 1 1 [0] rfl (Bs.new1 wr _ _) (by omega) (by have := hb.size; simp; omega) ?_; intro v1 w1 hown1 hg1)
      have hb1 := (hb.alloc hb.size _).grown hg1 (by have := hb.size; simp; omega) (fun j hj => (hown.lt j hj).1)
      have hrep : (128 :: List.replicate k (0 : Int)) ++ [0] = 128 :: List.replicate (k + 1) 0 := by rw [List.cons_append, List.replicate_succ']
      rw [hrep] at hown1
      clear hown hg1 hrep
      go_wp2
      go_roundw
      case rel => exact ⟨k + 1, by omega, by go_num, hown1, hb1⟩
      case measure => simp [intOf]; omega
    · obtain rfl : k = z := by omega
      have h1 := HE.out
      go_wp2_with fail
      rw [IntKind.wrap_u64, H8.out]
      refine (high_any X 8 wr HX8.out.1 HX8.out.2 (by omega)).mono ?_
      rintro e w6 ⟨A6, n6, c6, rfl, h6, hn6, hc6, b6⟩
      have own6 := own_later hown b6
      have B6 := hb.trans (b6.mono hb.size)
      have hn8 : n6 ≤ 8 := by have := h6.1; rw [highB_length] at this; omega
      clear hown hb hb'
      go_wp2_with (at_builtin; refine wpList_append_bs rfl (.tmp 25) (.tmp 29) _ rfl w.heap.size 5 i0 Tryd.underlying22 hi hz hsz hby _ (1 + k) (128 :: List.replicate k 0) rfl own6 _ A6 n6 c6 (highB X 8) rfl h6 (by omega) B6.size ?_; intro v7 w7 hown7 hg7)
      have B7 := grown_below B6 own6 (Nat.le_refl _) hg7
      rw [← HD.out] at hown7
      go_wp2
      go_ret
      exact ret_owns hown7 B7 rfl
set_option maxRecDepth 100000 in
set_option maxHeartbeats 1000000 in
theorem refPad_neg (x : Int) (w : World) (hx : x < 0) : Calls Tryd.prog 42 #[.int .i64 x] w (RetBs (padS 0) w) := by
  obtain ⟨i0, hi, hz, hsz, hby⟩ := u8_info
  have hzl : zN 0 ≤ 63 := by unfold zN; omega
  have hpre : ∀ k, k < zN 0 → ¬ (((0 : Int) % 64 + ((1 + k : Nat) : Int) + 8) % 64 = 0) := by unfold zN; intro k hk; omega
  have hend : (((0 : Int) % 64 + ((1 + zN 0 : Nat) : Int) + 8) % 64 = 0) := by unfold zN; omega
  have hf8 : (8 * (0 : Int)) % 18446744073709551616 = ((8 * 0 % 18446744073709551616 : Nat) : Int) := by omega
  have hdef : padS 0 = (128 :: List.replicate (zN 0) 0) ++ highB ((0 : Int)) 8 := rfl
  have hlt8 : 8 * 0 % 18446744073709551616 < 18446744073709551616 := Nat.mod_lt _ (by decide)
  have HX8 := hide (show (0 : Int) ≤ (0 : Int) ∧ (0 : Int) < 18446744073709551616 from ⟨by omega, by omega⟩)
  have HD := hide hdef
  have H8 := hide hf8
  have HQ := hide hpre
  have HE := hide hend
  clear hdef hf8 hpre hend hlt8
  generalize zN 0 = z at *
  generalize padS 0 = P at *
  skip
  go_enter Tryd.func42, Tryd.ntmps42
  go_wp2
  have hb0 : Below w.heap.size w (w.alloc (.cells #[.int .u8 128] 5)) := Below.alloc (Below.refl _ _) (Nat.le_refl _) _
  go_loopw [3, 4] (fun v i wr => ∃ k : Nat, k ≤ z ∧ i = .int .i64 k ∧ wr.ownsRow w.heap.size 5 1 v (1 + k) (bv (128 :: List.replicate k 0)) ∧ Below w.heap.size w wr) (fun _ i _ => z - (intOf i).toNat)
  case atStart => exact ⟨0, Nat.zero_le _, rfl, by simpa using own_lit w 5 128, hb0⟩
  case round =>
    clear hb0
    obtain ⟨k, hk, rfl, hown, hb⟩ := hrel
    obtain ⟨A', c', rfl, hb', hc1, hc2⟩ := ownsRow_bs hown
    have hk16 : (k : Int) < 64 := by omega
    by_cases hlt : k < z
    · have h1 := HQ.out k hlt
      go_wp2_with (at_builtin; refine wpList_append_bs rfl (.tmp 22) (.tmp 23) _ rfl w.heap.size 5 i0 Tryd.underlying22 hi hz hsz hby _ (1 + k) (128 :: List.replicate k 0) rfl (hown.alloc _) _ _ 1 1 [0] rfl (Bs.new1 wr _ _) (by omega) (by have := hb.size; simp; omega) ?_; intro v1 w1 hown1 hg1)
      have hb1 := (hb.alloc hb.size _).grown hg1 (by have := hb.size; simp; omega) (fun j hj => (hown.lt j hj).1)
      have hrep : (128 :: List.replicate k (0 : Int)) ++ [0] = 128 :: List.replicate (k + 1) 0 := by rw [List.cons_append, List.replicate_succ']
      rw [hrep] at hown1
      clear hown hg1 hrep
      go_wp2
      go_roundw
      case rel => exact ⟨k + 1, by omega, by go_num, hown1, hb1⟩
      case measure => simp [intOf]; omega
    · obtain rfl : k = z := by omega
      have h1 := HE.out
      go_wp2_with fail
      skip
      refine (high_any 0 8 wr HX8.out.1 HX8.out.2 (by omega)).mono ?_
      rintro e w6 ⟨A6, n6, c6, rfl, h6, hn6, hc6, b6⟩
      have own6 := own_later hown b6
      have B6 := hb.trans (b6.mono hb.size)
      have hn8 : n6 ≤ 8 := by have := h6.1; rw [highB_length] at this; omega
      clear hown hb hb'
      go_wp2_with (at_builtin; refine wpList_append_bs rfl (.tmp 25) (.tmp 29) _ rfl w.heap.size 5 i0 Tryd.underlying22 hi hz hsz hby _ (1 + k) (128 :: List.replicate k 0) rfl own6 _ A6 n6 c6 (highB 0 8) rfl h6 (by omega) B6.size ?_; intro v7 w7 hown7 hg7)
      have B7 := grown_below B6 own6 (Nat.le_refl _) hg7
      rw [← HD.out] at hown7
      go_wp2
      go_ret
      exact ret_owns hown7 B7 rfl

end Go.Proofs.YtbolfkigiachlaaDoor

/-
  SHA-256, the document's numbers: the roots of the first primes are the program's tables. Own work.
-/
namespace Go.Proofs.YtbolfkigiachlaaDoor
open Go.RowKit
theorem rootN_between (p power : Nat) (hpw : 0 < power) (hF : p * bB ^ power < 274877906944 ^ power) (i : Nat) (hi : i ≤ 38) : rootN p power i ^ power ≤ p * bB ^ power ∧ p * bB ^ power < (rootN p power i + 2 ^ (38 - i)) ^ power := by
  induction i with
  | zero => exact ⟨by rw [show rootN p power 0 = 0 from rfl, Nat.zero_pow hpw]; exact Nat.zero_le _, by rw [show rootN p power 0 = 0 from rfl, Nat.zero_add, show 2 ^ (38 - 0) = 274877906944 from by decide]; exact hF⟩
  | succ i ih =>
    have h := ih (by omega)
    have e : (2 : Nat) ^ (38 - i) = 2 ^ (37 - i) + 2 ^ (37 - i) := by rw [show 38 - i = (37 - i) + 1 by omega, Nat.pow_succ]; omega
    rw [e] at h
    rw [show 38 - (i + 1) = 37 - i by omega]
    unfold rootN
    split
    · rename_i h1
      exact ⟨h1, by rw [Nat.add_assoc]; exact h.2⟩
    · rename_i h1
      exact ⟨h.1, Nat.lt_of_not_le h1⟩
theorem rootN_eq (p power v : Nat) (hpw : 0 < power) (hF : p * bB ^ power < 274877906944 ^ power) (h1 : v ^ power ≤ p * bB ^ power) (h2 : p * bB ^ power < (v + 1) ^ power) : rootN p power 38 = v := by
  have h := rootN_between p power hpw hF 38 (Nat.le_refl _)
  rw [show 38 - 38 = 0 from rfl, Nat.pow_zero] at h
  generalize rootN p power 38 = r at *
  rcases Nat.lt_trichotomy r v with hl | he | hl
  · exact absurd (Nat.lt_of_lt_of_le h.2 (Nat.pow_le_pow_left (show r + 1 ≤ v from hl) power)) (Nat.not_lt.2 h1)
  · exact he
  · exact absurd (Nat.lt_of_lt_of_le h2 (Nat.pow_le_pow_left (show v + 1 ≤ r from hl) power)) (Nat.not_lt.2 h.1)
def prK : List Nat := [2, 3, 5, 7, 11, 13, 17, 19, 23, 29, 31, 37, 41, 43, 47, 53, 59, 61, 67, 71, 73, 79, 83, 89, 97, 101, 103, 107, 109, 113, 127, 131, 137, 139, 149, 151, 157, 163, 167, 173, 179, 181, 191, 193, 197, 199, 211, 223, 227, 229, 233, 239, 241, 251, 257, 263, 269, 271, 277, 281, 283, 293, 307, 311]
def cubK : List Nat := [5411319704, 6194414737, 7344290767, 8215976869, 9551921755, 10098905585, 11043570340, 11460697813, 12214315672, 13195500289, 13492127166, 14311783875, 14809980276, 15046980094, 15499789991, 16133124468, 16720292289, 16907126662, 17444216262, 17784676812, 17950125167, 18429019306, 18734950876, 19175934170, 19734090066, 20001703533, 20132865992, 20390182855, 20516441075, 20764397895, 21588763473, 21813078375, 22141143685, 22248366392, 22769593852, 22871018771, 23170020180, 23461497531, 23651862830, 23931792517, 24205322401, 24295138891, 24734567280, 24820601251, 24990902297, 25075189284, 25569408389, 26045227120, 26200031510, 26276752392, 26428864332, 26653801653, 26727943347, 27092625994, 27306805839, 27517677555, 27725365998, 27793908591, 27997534228, 28131656200, 28198240250, 28526537963, 28973835255, 29099129074]
def sqK : List Nat := [6074000999, 7439101573, 9603838834, 11363415354, 14244795007, 15485724812, 17708603819, 18721328409]
theorem prL_is : prL 310 = prK := by decide +kernel
theorem cub_all : ∀ j, j < 64 → prK.getD j 0 * bB ^ 3 < 274877906944 ^ 3 ∧ cubK.getD j 0 ^ 3 ≤ prK.getD j 0 * bB ^ 3 ∧ prK.getD j 0 * bB ^ 3 < (cubK.getD j 0 + 1) ^ 3 ∧ ((cubK.getD j 0 % 4294967296 : Nat) : Int) = rootsL.getD j 0 := by decide +kernel
theorem sq_all : ∀ j, j < 8 → prK.getD j 0 * bB ^ 2 < 274877906944 ^ 2 ∧ sqK.getD j 0 ^ 2 ≤ prK.getD j 0 * bB ^ 2 ∧ prK.getD j 0 * bB ^ 2 < (sqK.getD j 0 + 1) ^ 2 ∧ ((sqK.getD j 0 % 4294967296 : Nat) : Int) = startL.getD j 0 := by decide +kernel
theorem pr_lt : ∀ j, j < 64 → prK.getD j 0 < bB := by decide +kernel
theorem roots_are {j : Nat} (h : j < 64) : ((rootN ((prL 310).getD j 0) 3 38 % 4294967296 : Nat) : Int) = rootsL.getD j 0 := by
  obtain ⟨a, b, c, d⟩ := cub_all j h
  rw [prL_is, rootN_eq _ 3 _ (by decide) a b c, d]
theorem start_are {j : Nat} (h : j < 8) : ((rootN ((prL 310).getD j 0) 2 38 % 4294967296 : Nat) : Int) = startL.getD j 0 := by
  obtain ⟨a, b, c, d⟩ := sq_all j h
  rw [prL_is, rootN_eq _ 2 _ (by decide) a b c, d]
theorem prime_lt {j : Nat} (h : j < 64) : (prL 310).getD j 0 < bB := by rw [prL_is]; exact pr_lt j h
theorem blkG_S (s bs : List Int) : blkG rootsL s bs = blkS s bs := by unfold blkG blkS; rw [stG_N]
end Go.Proofs.YtbolfkigiachlaaDoor

/-
  SHA-256, the document's answer: the sum of a text: contract. Own work.
-/
namespace Go.Proofs.YtbolfkigiachlaaDoor
open Go.RowKit
/-- The cells of the first primes. -/
def PrC (w : World) (g : Nat) : Prop := g < w.heap.size ∧ ∀ j, j < 64 → w.cell? ⟨g, j, none⟩ = some (.int .u64 ((prL 310).getD j 0 : Nat))
theorem PrC.later {w w' : World} {g : Nat} (h : PrC w g) (hb : Below w.heap.size w w') : PrC w' g := ⟨Nat.lt_of_lt_of_le h.1 hb.size, fun j hj => (hb.cell (p := ⟨g, j, none⟩) h.1).trans (h.2 j hj)⟩
theorem PrC.only {w w' : World} {g g' : Nat} (h : PrC w g) (ho : Only g' w w') (hne : g ≠ g') : PrC w' g := ⟨by rw [ho.size]; exact h.1, fun j hj => by rw [World.cell?_of_block (w := w) (a := ⟨g, j, none⟩) (ho.block g hne)]; exact h.2 j hj⟩
theorem take_next {xs : List Int} {i : Nat} (h : i < xs.length) : xs.take i ++ [xs.getD i 0] = xs.take (i + 1) := by rw [List.take_succ_eq_append_getElem h]; simp [List.getD, List.getElem?_eq_getElem h]
theorem rootsL_len : rootsL.length = 64 := rfl
theorem startL_len : startL.length = 8 := rfl
theorem fill_next {xs : List Int} {i n : Nat} (h : i < xs.length) (hn : i < n) : (xs.take i ++ List.replicate (n - i) 0).set i (xs.getD i 0) = xs.take (i + 1) ++ List.replicate (n - (i + 1)) 0 := by
  rw [fill_set _ i n (by rw [List.length_take]; omega) hn, take_next h]
theorem high4 (x : Int) : highB x 4 = [x / 16777216 % 256, x / 65536 % 256, x / 256 % 256, x % 256] := by
  simp [highB_cons, show highB x 0 = [] from rfl]
theorem byK_at (s : List Int) (k q r : Nat) (hq : q < k) (hr : r < 4) : (byK s k).getD (4 * q + r) 0 = (highB (s.getD q 0) 4).getD r 0 := by
  induction k with
  | zero => omega
  | succ k ih =>
    unfold byK
    by_cases h : q < k
    · rw [getD_left (by rw [byK_len]; omega)]; exact ih h
    · obtain rfl : q = k := by omega
      have hl := byK_len s q
      simp only [List.getD]
      rw [List.getElem?_append_right (by omega), hl, show 4 * q + r - 4 * q = r by omega]
theorem byS_at (s : List Int) (i : Nat) (hi : i < 32) : (byS s).getD i 0 = (highB (s.getD (i / 4) 0) 4).getD (i % 4) 0 := by
  have := byK_at s 8 (i / 4) (i % 4) (by omega) (by omega)
  rw [show 4 * (i / 4) + i % 4 = i by omega] at this
  exact this
/-- The bytes that a call made, and where they lie. -/
theorem both_off (A B : Option Addr) (n m c d : Nat) (xs ys : List Int) (w : World) (h1 : Bs w w.heap.size A n xs) (h2 : Bs w w.heap.size B m ys) (hn : n + m ≤ 140737488355328) :
    Calls Tryd.prog 39 #[.slice A n c, .slice B m d] w (RetFr (xs ++ ys) w) := by
  refine (both_own A B n m c d xs ys w h1 h2 hn).mono ?_
  rintro e w' ⟨v, rfl, ho, hb⟩
  obtain ⟨C, c', rfl, q1, q2, q3⟩ := ownsRow_bs ho
  refine ⟨C, n + m, c', rfl, q1, q2, q3, hb, fun x hx => ?_⟩
  subst hx
  exact (ho.lt x.block rfl).1
def SRs16 (cur blk : List Int) (A8 : Option Addr) (g3 g4 N c8 i : Nat) (opn : Nat) (v : Value) : Prop :=
  match opn with
  | 0 => v = .agg (vk .u32 cur).toArray
  | 1 => v = .slice A8 N c8
  | 2 | 3 => v = .int .i64 (i : Int)
  | 4 => v = .int .i64 ((i + 64 : Nat) : Int)
  | 5 => v = .slice (subA A8 c8 i) 64 (c8 - i)
  | 6 => v = .agg (vk .u32 rootsL).toArray
  | 7 => v = .agg (vk .u32 (blkG rootsL cur blk)).toArray
  | _ => True

set_option maxRecDepth 100000 in
set_option maxHeartbeats 4000000 in
theorem rsum_any (xs : List Int) (A : Option Addr) (m c : Nat) (w : World) (hx : Bs w w.heap.size A m xs) (hxb : IsBy xs) (hc : m ≤ c) (hM : m ≤ 100000000) :
    Calls Tryd.prog 29 #[.slice A m c] w fun e w' => e = .returned (.agg (bv (sumS xs)).toArray) ∧ Below w.heap.size w w' := by
  have hsl := sumS_len xs
  have zf := hide (size32b hsl)
  have lf := hide (show (bv (List.replicate 32 0)).length = (bv (sumS xs)).length by rw [bv_len, bv_len, hsl, List.length_replicate])
  have hlen := hx.1
  have hfin : sumS xs = byS (stK (xs ++ padS m) ((xs ++ padS m).length / 64)) := by rw [← hlen]; rfl
  have HF := hide hfin
  have hPl := padS_len m
  have hPw := padS_whole m
  have hPb := padS_by m
  have hzN : zN m ≤ 63 := by unfold zN; omega
  have HN : Hid (∃ K, (xs ++ padS m).length = 64 * K ∧ 64 * K = m + (padS m).length ∧ 64 * K ≤ m + 72) := hide ⟨(xs ++ padS m).length / 64, by rw [List.length_append] at *; omega, by rw [List.length_append]; omega, by rw [List.length_append]; omega⟩
  have hab : IsBy (xs ++ padS m) := hxb.app hPb
  clear hsl hlen hfin hPl hPw hzN
  generalize sumS xs = FS at *
  go_enter Tryd.func29, Tryd.ntmps29
  go_wp2_with (first
    | (with_reducible refine wl_alloc (o := ⟨some 2, _, _, _, _, _⟩) rfl 23 _ (bv (List.replicate 32 0)) rfl zero32b rfl ?_; intro g2 w2 r2 p2 l2 b2)
    | (with_reducible refine wl_alloc (o := ⟨some 3, _, _, _, _, _⟩) rfl 65 _ (vk .u32 (List.replicate 64 0)) rfl zero64u rfl ?_; intro g3 w3 r3 p3 l3 b3; have r2a := r2.later b3)
    | (with_reducible refine wl_alloc (o := ⟨some 4, _, _, _, _, _⟩) rfl 66 _ (vk .u32 (List.replicate 8 0)) rfl zero8a rfl ?_; intro g4 w4 r4 p4 l4 b4; have r2b := r2a.later b4; have r3a := r3.later b4))
  have s2 := b2.size; have s3 := b3.size; have s4 := b4.size
  have B4 := (b2.trans (b3.mono s2)).trans (b4.mono (Nat.le_trans s2 s3))
  have q2 : w.heap.size ≤ g2 := p2
  have q3 : w.heap.size ≤ g3 := by omega
  have q4 : w.heap.size ≤ g4 := by omega
  have h23 : g2 ≠ g3 := by have := r2.lt; omega
  have h24 : g2 ≠ g4 := by have := r2a.lt; omega
  have h34 : g3 ≠ g4 := by have := r3.lt; omega
  clear r2 r2a r3 b2 b3 b4
  refine (primes_any w4).mono ?_
  rintro e w5 ⟨gl, cl, rfl, hg0, hgl, hcl, b5⟩
  have hpr : PrC w5 gl := ⟨hgl, hcl⟩
  have hl3 : gl ≠ g3 := by omega
  have hl4 : gl ≠ g4 := by omega
  have B5 := B4.trans (b5.mono B4.size)
  have R2 := r2b.later b5; have R3 := r3a.later b5; have R4 := r4.later b5
  clear hg0 hgl hcl r2b r3a r4 b5 B4
  have R3' : Row w5 65 g3 (vk .u32 (rootsL.take 0 ++ List.replicate (64 - 0) 0)) := R3
  clear R3
  go_wp2_with fail
  go_loopw [6] (fun iv wr => ∃ i : Nat, i ≤ 64 ∧ iv = .int .i64 i ∧ Row wr 65 g3 (vk .u32 (rootsL.take i ++ List.replicate (64 - i) 0)) ∧ Row wr 66 g4 (vk .u32 (List.replicate 8 0)) ∧ Row wr 23 g2 (bv (List.replicate 32 0)) ∧ PrC wr gl ∧ Below w.heap.size w wr) (fun iv _ => 64 - (intOf iv).toNat)
  case atStart => exact ⟨0, Nat.zero_le _, rfl, R3', R4, R2, hpr, B5⟩
  case round =>
    clear R3' R4 R2 hpr B5
    obtain ⟨i, hi, rfl, r3, r4, r2, hpr, br⟩ := hrel
    by_cases hlt : i < 64
    · have c1 := hpr.2 i hlt
      have hpl := prime_lt hlt
      have hval := roots_are hlt
      have hset := fill_next (xs := rootsL) (n := 64) (by rw [rootsL_len]; exact hlt) hlt
      have hlr : i < (vk .u32 (rootsL.take i ++ List.replicate (64 - i) 0)).length := by rw [vk_len, List.length_append, List.length_take, rootsL_len, List.length_replicate]; omega
      have HV := hide hval; have HS := hide hset; have HPL := hide hpl; have HLR := hide hlr
      have hd : decide ((i : Int) < 64) = true := by simp; omega
      clear hval hset hpl hlr
      generalize (prL 310).getD i 0 = p at *
      generalize rootsL.getD i 0 = rv at *
      generalize rootsL.take i ++ List.replicate (64 - i) 0 = cur at *
      go_wp2_with fail
      refine (root_any p 3 wr HPL.out (.inr rfl)).mono ?_
      rintro e w6 ⟨rfl, b6⟩
      rw [HV.out]
      have r3a := r3.later b6; have r4a := r4.later b6; have r2a := r2.later b6; have hpa := hpr.later b6
      have B6 := br.trans (b6.mono br.size)
      clear r3 r4 r2 hpr b6 br c1
      go_wp2_with (first
        | (with_reducible refine wl_store rfl 64 (.tmp 29) (.tmp 28) g3 i 65 _ (.int .u32 rv) rfl (by kernel_rfl) rfl rfl r3a HLR.out rfl ?_; intro w7 r7 o7; rw [vk_set, HS.out] at r7))
      go_roundw
      case rel => exact ⟨i + 1, by omega, by go_num, r7, r4a.only o7 (Ne.symm h34), r2a.only o7 h23, hpa.only o7 hl3, B6.trans (o7.below q3)⟩
      case measure => simp [intOf]; omega
    · have h64 : i = 64 := by omega
      have hd : decide ((i : Int) < 64) = false := by simp; omega
      have r3' : Row wr 65 g3 (vk .u32 rootsL) := by
        rw [h64, List.take_of_length_le (by rw [rootsL_len]; exact Nat.le_refl _), Nat.sub_self, List.replicate_zero, List.append_nil] at r3
        exact r3
      have r4' : Row wr 66 g4 (vk .u32 (startL.take 0 ++ List.replicate (8 - 0) 0)) := r4
      clear r3 r4 h64 hlt hi
      go_wp2_with fail
      go_loopw [7] (fun iv wq => ∃ i : Nat, i ≤ 8 ∧ iv = .int .i64 i ∧ Row wq 65 g3 (vk .u32 rootsL) ∧ Row wq 66 g4 (vk .u32 (startL.take i ++ List.replicate (8 - i) 0)) ∧ Row wq 23 g2 (bv (List.replicate 32 0)) ∧ PrC wq gl ∧ Below w.heap.size w wq) (fun iv _ => 8 - (intOf iv).toNat)
      case atStart => exact ⟨0, Nat.zero_le _, rfl, r3', r4', r2, hpr, br⟩
      case round =>
        clear r3' r4' r2 hpr br
        obtain ⟨i, hi, rfl, r3, r4, r2, hpr, br⟩ := hrel
        by_cases hlt : i < 8
        · have c1 := hpr.2 i (by omega)
          have hpl := prime_lt (j := i) (by omega)
          have hval := start_are hlt
          have hset := fill_next (xs := startL) (n := 8) (by rw [startL_len]; exact hlt) hlt
          have hlr : i < (vk .u32 (startL.take i ++ List.replicate (8 - i) 0)).length := by rw [vk_len, List.length_append, List.length_take, startL_len, List.length_replicate]; omega
          have HV := hide hval; have HS := hide hset; have HPL := hide hpl; have HLR := hide hlr
          have h64 : i < 64 := by omega
          clear hval hset hpl hlr
          generalize (prL 310).getD i 0 = p at *
          generalize startL.getD i 0 = rv at *
          generalize startL.take i ++ List.replicate (8 - i) 0 = cur at *
          go_wp2_with fail
          refine (root_any p 2 wr HPL.out (.inl rfl)).mono ?_
          rintro e w6 ⟨rfl, b6⟩
          rw [HV.out]
          have r3a := r3.later b6; have r4a := r4.later b6; have r2a := r2.later b6; have hpa := hpr.later b6
          have B6 := br.trans (b6.mono br.size)
          clear r3 r4 r2 hpr b6 br c1
          go_wp2_with (first
            | (with_reducible refine wl_store rfl 64 (.tmp 40) (.tmp 39) g4 i 66 _ (.int .u32 rv) rfl (by kernel_rfl) rfl rfl r4a HLR.out rfl ?_; intro w7 r7 o7; rw [vk_set, HS.out] at r7))
          go_roundw
          case rel => exact ⟨i + 1, by omega, by go_num, r3a.only o7 h34, r7, r2a.only o7 h24, hpa.only o7 hl4, B6.trans (o7.below q4)⟩
          case measure => simp [intOf]; omega
        · have h8 : i = 8 := by omega
          have r4' : Row wr 66 g4 (vk .u32 startL) := by
            rw [h8, List.take_of_length_le (by rw [startL_len]; exact Nat.le_refl _), Nat.sub_self, List.replicate_zero, List.append_nil] at r4
            exact r4
          have hd8 : decide ((i : Int) < 8) = false := by simp; omega
          have hx1 := hx.later br
          clear r4 h8 hlt hi hpr
          go_wp2_with fail
          refine (refPad_nat m wr (by omega)).mono ?_
          rintro e w6 ⟨A6, n6, c6, rfl, hp6, hn6, hc6, b6⟩
          have hx2 := hx1.later b6
          have r3a := r3.later b6; have r4a := r4'.later b6; have r2a := r2.later b6
          have B6 := br.trans (b6.mono br.size)
          have hn72 : n6 ≤ 72 := by have := hp6.1; rw [padS_len] at this; have : zN m ≤ 63 := by unfold zN; omega
                                    omega
          clear r3 r4' r2 b6 br hx1
          go_wp2_with fail
          refine (both_off A A6 m n6 c c6 xs (padS m) w6 hx2 hp6 (by omega)).mono ?_
          rintro e w7 ⟨A8, N, c8, rfl, hb7, hNc, hM8, b7, hfr⟩
          have hoff : Off g4 N A8 := fun _ x hx => by have := hfr x hx; have := r4a.lt; omega
          have R3 := r3a.later b7; have R4 := r4a.later b7; have R2 := r2a.later b7
          have B7 := B6.trans (b7.mono B6.size)
          have hbN := hb7.1
          obtain ⟨K, hK1, hK2, hK3⟩ := HN.out
          have hN1 : N ≤ 64 * K := by omega
          have hN2 : 64 * K ≤ N := by omega
          have hK64 : 64 * K ≤ 100000072 := by omega
          have HK := hide hK1
          clear r3a r4a r2a b7 B6 hfr hp6 hn6 hc6 hn72 hx2 hbN hK1 hK2 hK3 HN
          generalize xs ++ padS m = all at *
          have R4' : Row w7 66 g4 (vk .u32 (stK all 0)) := R4
          clear R4
          go_wp2_with fail
          go_loopw [9] (fun iv wr => ∃ k : Nat, k ≤ K ∧ iv = .int .i64 ((64 * k : Nat) : Int) ∧ Row wr 65 g3 (vk .u32 rootsL) ∧ Row wr 66 g4 (vk .u32 (stK all k)) ∧ Row wr 23 g2 (bv (List.replicate 32 0)) ∧ Bs wr wr.heap.size A8 N all ∧ Below w.heap.size w wr) (fun iv _ => N - (intOf iv).toNat)
          case atStart => exact ⟨0, Nat.zero_le _, rfl, R3, R4', R2, hb7, B7⟩
          case round =>
            clear R3 R4' R2 hb7 B7
            obtain ⟨k, hk, rfl, r3, r4, r2, hbs, br⟩ := hrel
            by_cases hlt : k < K
            · have hcl := stK_len all k
              have hcw := stK_w all k
              have hal := hbs.1
              have hnew : stK all (k + 1) = blkG rootsL (stK all k) ((all.drop (64 * k)).take 64) := by rw [blkG_S]; rfl
              have hbl64 : ((all.drop (64 * k)).take 64).length = 64 := by rw [List.length_take, List.length_drop]; omega
              have hblb : IsBy ((all.drop (64 * k)).take 64) := (hab.drop _).take _
              have hnl : (blkG rootsL (stK all k) ((all.drop (64 * k)).take 64)).length = 8 := adZ_len hcl (stG_len hcl _ _ _)
              have zc := hide (size8a hcl)
              have zn := hide (size8a hnl)
              have zk := hide (size64u rootsL_len)
              obtain ⟨i, hi⟩ : ∃ i, i = 64 * k := ⟨_, rfl⟩
              have hsub : ∀ w' : World, Bs w' w'.heap.size A8 N all → Bs w' w'.heap.size (subA A8 c8 i) 64 ((all.drop (64 * k)).take 64) := by
                intro w' h
                have := h.sub (I := i) (K := i + 64) (by omega) (by omega) hNc
                rw [show i + 64 - i = 64 by omega] at this
                rw [← hi]
                exact this
              have hiN : i + 64 ≤ N := by omega
              have HSM := hide (show ∀ w, (Instr.sliceAt 22 (.slice A8 N c8) (some (.int .i64 (i : Int))) (some (.int .i64 ((i + 64 : Nat) : Int))) none).run Tryd.prog w = .ok (.slice (subA A8 c8 i) 64 (c8 - i)) w by
                intro w
                have := run_sliceMid (P := Tryd.prog) w 22 5 Tryd.underlying22 Tryd.sizeOf5 A8 N c8 .i64 .i64 i (i + 64) (by omega) (by omega)
                rw [show i + 64 - i = 64 by omega] at this
                exact this)
              have HNew := hide hnew; have HI := hide hi
              have hik : 64 * (k + 1) = i + 64 := by omega
              have HIK := hide hik
              have hdk : decide ((i : Int) + 64 ≤ (N : Int)) = true := by simp; omega
              rw [← hi]
              clear hal hnew
              generalize (all.drop (64 * k)).take 64 = blk at *
              clear hi hik
              generalize stK all k = cur at *
              go_wp2_with fail
              rename_i Q1 K1 hK1
              refine wp_region_vals [7, 8] (SRs16 cur blk A8 g3 g4 N c8 i) (JB g4 66 wr 1 (vk .u32 cur) (vk .u32 (blkG rootsL cur blk))) (by kernel_rfl) (by kernel_rfl) (by kernel_rfl) (by kernel_rfl) (by kernel_rfl) (JB.start r4 rfl) ?obs ?he
              case obs =>
                refine ⟨?_, ?_, ?_, ?_, ?_, ?_, ?_, ?_, ?_, trivial⟩
                · exact .inl ⟨by kernel_rfl, fun L a1 w1 n' h => ⟨_, rfl, run_loadRow 66 (.tmp 4) g4 66 _ _ rfl (h.var n' 4 (by kernel_rfl)) (h.inv.1 (n'.later (by kernel_rfl))) Tryd.underlying66 rfl (zc.out)⟩⟩
                · exact .inl ⟨by kernel_rfl, fun L a1 w1 n' h => ⟨_, rfl, run_move (.tmp 8) rfl (h.var n' 8 (by kernel_rfl))⟩⟩
                · exact .inl ⟨by kernel_rfl, fun L a1 w1 n' h => ⟨_, rfl, run_move (.tmp 9) rfl (h.var n' 9 (by kernel_rfl))⟩⟩
                · exact .inl ⟨by kernel_rfl, fun L a1 w1 n' h => ⟨_, rfl, run_move (.tmp 9) rfl (h.var n' 9 (by kernel_rfl))⟩⟩
                · refine .inl ⟨by kernel_rfl, fun L a1 w1 n' h => ⟨.int .i64 ((i + 64 : Nat) : Int), rfl, ?_⟩⟩
                  have e0 : a1.eval (.tmp 56) = _ := h.dep n' 3 56 (by kernel_rfl) rfl
                  unfold execOp
                  simp only [e0]
                  go_simp
                  rw [IntWalk.i64_in _ (by omega)]
                · refine .inl ⟨by kernel_rfl, fun L a1 w1 n' h => ⟨.slice (subA A8 c8 i) 64 (c8 - i), rfl, ?_⟩⟩
                  have e0 : a1.eval (.tmp 54) = _ := h.dep n' 1 54 (by kernel_rfl) rfl
                  have e1 : a1.eval (.tmp 55) = _ := h.dep n' 2 55 (by kernel_rfl) rfl
                  have e2 : a1.eval (.tmp 57) = _ := h.dep n' 4 57 (by kernel_rfl) rfl
                  unfold execOp
                  simp only [e0, e1, e2, Option.map_some, Option.map_none, Sem.run_bind, HSM.out w1, Result.andThen_ok, Sem.run_pure]
                · exact .inl ⟨by kernel_rfl, fun L a1 w1 n' h => ⟨_, rfl, run_loadRow 65 (.tmp 3) g3 65 _ _ rfl (h.var n' 3 (by kernel_rfl)) (r3.but h.inv.2.2 h34) Tryd.underlying65 rfl (zk.out)⟩⟩
                · refine .inr fun L a1 w1 n' h K hK => ?_
                  have e0 : a1.eval (.tmp 53) = .agg (vk .u32 cur).toArray := h.dep n' 0 53 (by kernel_rfl) rfl
                  have e1 : a1.eval (.tmp 58) = .slice (subA A8 c8 i) 64 (c8 - i) := h.dep n' 5 58 (by kernel_rfl) rfl
                  have e2 : a1.eval (.tmp 59) = .agg (vk .u32 rootsL).toArray := h.dep n' 6 59 (by kernel_rfl) rfl
                  refine st_call 43 _ _ #[.agg (vk .u32 cur).toArray, .slice (subA A8 c8 i) 64 (c8 - i), .agg (vk .u32 rootsL).toArray] rfl Tryd.call43 ?_ (block_any cur rootsL blk (subA A8 c8 i) (c8 - i) w1 hcl hcw rootsL_len rootsW hbl64 hblb (hsub w1 ((hbs.keepOff h.inv.2.2 hoff (Nat.le_refl _)).up h.inv.2.2.size))) ?_
                  · simp only [List.map_toArray, List.map_cons, List.map_nil, e0, e1, e2]
                  · rintro e w3 ⟨rfl, b9⟩
                    exact ⟨_, rfl, hK _ w3 rfl (JB.callX h.inv b9 rfl)⟩
                · refine .inr fun L a1 w1 n' h K hK => ?_
                  have no : L.getD 8 false = false := n'.not_yet
                  refine st_store_row 66 (.tmp 4) (.tmp 60) g4 66 (vk .u32 cur) (vk .u32 (blkG rootsL cur blk)) rfl (h.var n' 4 (by kernel_rfl)) (h.dep n' 7 60 (by kernel_rfl) rfl) (h.inv.1 no) (zn.out) (by rw [vk_len, vk_len, hcl, hnl]) (vk_one' _ _) ?_
                  intro w3 r3 o3
                  exact hK undef w3 trivial (JB.store h.inv o3 r3 rfl)
              case he =>
                intro V w7 hV hJ
                have r7 := hJ.2.1 rfl
                have bu := hJ.2.2
                clear hV hJ hsub
                simp only [putOps, List.setIfInBounds_toArray, List.set_cons_succ, List.set_cons_zero, Nat.reduceAdd]
                refine hK1 _ _ ?_
                go_wp2
                go_roundw
                case rel => exact ⟨k + 1, by omega, by rw [HIK.out]; go_num, r3.but bu h34, by rw [HNew.out]; exact r7, r2.but bu h24, (hbs.keepOff bu hoff (Nat.le_refl _)).up bu.size, br.trans (bu.below q4 br.size)⟩
                case measure => simp [intOf]; omega
            · have hkK : k = K := by omega
              have hst : byS (stK all k) = FS := by
                rw [HF.out, HK.out, hkK, show 64 * K / 64 = K by omega]
              have hsl := stK_len all k
              have hsw := stK_w all k
              have hFl : FS.length = 32 := by rw [← hst]; exact byS_len _
              have hdk : decide (((64 * k : Nat) : Int) + 64 ≤ (N : Int)) = false := by simp; omega
              have hNi : N < 64 * k + 64 := by omega
              obtain ⟨i, hi⟩ : ∃ i, i = 64 * k := ⟨_, rfl⟩
              rw [← hi] at hdk hNi ⊢
              have him : i ≤ 100000100 := by omega
              have HST := hide hst; have HFL := hide hFl; have HSL := hide hsl
              clear hst hFl hsl hi hkK hlt hk hoff hbs HF HK
              generalize stK all k = st at *
              go_wp2_with (first
                | (with_reducible refine wl_alloc rfl 23 _ (bv (List.replicate 32 0)) rfl zero32b rfl ?_; intro g10 w8 r10 p10 l10 b10; have r4b := r4.later b10; have r2b := r2.later b10))
              have s10 := b10.size
              have q10 : w.heap.size ≤ g10 := Nat.le_trans br.size p10
              have h410 : g4 ≠ g10 := by have := r4.lt; omega
              have h210 : g2 ≠ g10 := by have := r2.lt; omega
              have B8 := br.trans (b10.mono br.size)
              have r10' : Row w8 23 g10 (bv (FS.take 0 ++ List.replicate (32 - 0) 0)) := r10
              clear r3 r4 r2 r10 b10 br
              go_loopw [11] (fun iv wr => ∃ i : Nat, i ≤ 32 ∧ iv = .int .i64 i ∧ Row wr 66 g4 (vk .u32 st) ∧ Row wr 23 g10 (bv (FS.take i ++ List.replicate (32 - i) 0)) ∧ Row wr 23 g2 (bv (List.replicate 32 0)) ∧ Below w.heap.size w wr) (fun iv _ => 32 - (intOf iv).toNat)
              case atStart => exact ⟨0, Nat.zero_le _, rfl, r4b, r10', r2b, B8⟩
              case round =>
                clear r4b r10' r2b B8
                obtain ⟨i, hi, rfl, r4, r10, r2, br⟩ := hrel
                by_cases hlt : i < 32
                · have hset := fill_next (xs := FS) (n := 32) (by rw [HFL.out]; exact hlt) hlt
                  have hlr : i < (bv (FS.take i ++ List.replicate (32 - i) 0)).length := by rw [bv_len, List.length_append, List.length_take, HFL.out, List.length_replicate]; omega
                  have hat := byS_at st i hlt
                  rw [HST.out, high4] at hat
                  have hxw := hsw.getD (i / 4)
                  have c1 := r4.cell (vk_get (kd := .u32) (xs := st) (j := i / 4) (by rw [HSL.out]; omega))
                  have h4 : i % 4 = 0 ∨ i % 4 = 1 ∨ i % 4 = 2 ∨ i % 4 = 3 := by omega
                  have HLR := hide hlr
                  clear hlr
                  generalize st.getD (i / 4) 0 = x at *
                  obtain ⟨hx0, hx1⟩ := hxw
                  generalize hcur : FS.take i ++ List.replicate (32 - i) 0 = cur at *
                  clear hcur
                  have e4 : (i : Int) / 4 = ((i / 4 : Nat) : Int) := by omega
                  have q8 : ((i / 4 : Nat) : Int) < 8 := by omega
                  generalize i / 4 = q at *
                  rcases h4 with h4 | h4 | h4 | h4
                  · rw [h4] at hat
                    simp only [List.getD_cons_zero, List.getD_cons_succ] at hat
                    rw [Int.emod_eq_of_lt (show 0 ≤ x / 16777216 by omega) (show x / 16777216 < 256 by omega)] at hat
                    rw [hat] at hset
                    have HS := hide hset
                    have e5 : (i : Int) % 4 = 0 := by omega
                    clear hset hat h4
                    go_wp2_with (first
                      | (with_reducible refine wl_store rfl 5 (.tmp 76) (.tmp 75) g10 i 23 _ (.int .u8 (x / 16777216)) rfl (by kernel_rfl) rfl rfl r10 HLR.out rfl ?_; intro w7 r7 o7; rw [bv_set, HS.out] at r7))
                    go_roundw
                    case rel => exact ⟨i + 1, by omega, by go_num, r4.only o7 h410, r7, r2.only o7 h210, br.trans (o7.below q10)⟩
                    case measure => simp [intOf]; omega
                  · rw [h4] at hat
                    simp only [List.getD_cons_zero, List.getD_cons_succ] at hat
                    rw [hat] at hset
                    have HS := hide hset
                    have e5 : (i : Int) % 4 = ((i % 4 : Nat) : Int) := by omega
                    rw [h4] at e5
                    clear hset hat h4
                    go_wp2_with (first
                      | (with_reducible refine wl_store rfl 5 (.tmp 76) (.tmp 75) g10 i 23 _ (.int .u8 (x / 65536 % 256)) rfl (by kernel_rfl) rfl rfl r10 HLR.out rfl ?_; intro w7 r7 o7; rw [bv_set, HS.out] at r7))
                    go_roundw
                    case rel => exact ⟨i + 1, by omega, by go_num, r4.only o7 h410, r7, r2.only o7 h210, br.trans (o7.below q10)⟩
                    case measure => simp [intOf]; omega
                  · rw [h4] at hat
                    simp only [List.getD_cons_zero, List.getD_cons_succ] at hat
                    rw [hat] at hset
                    have HS := hide hset
                    have e5 : (i : Int) % 4 = ((i % 4 : Nat) : Int) := by omega
                    rw [h4] at e5
                    clear hset hat h4
                    go_wp2_with (first
                      | (with_reducible refine wl_store rfl 5 (.tmp 76) (.tmp 75) g10 i 23 _ (.int .u8 (x / 256 % 256)) rfl (by kernel_rfl) rfl rfl r10 HLR.out rfl ?_; intro w7 r7 o7; rw [bv_set, HS.out] at r7))
                    go_roundw
                    case rel => exact ⟨i + 1, by omega, by go_num, r4.only o7 h410, r7, r2.only o7 h210, br.trans (o7.below q10)⟩
                    case measure => simp [intOf]; omega
                  · rw [h4] at hat
                    simp only [List.getD_cons_zero, List.getD_cons_succ] at hat
                    rw [hat] at hset
                    have HS := hide hset
                    have e5 : (i : Int) % 4 = ((i % 4 : Nat) : Int) := by omega
                    rw [h4] at e5
                    clear hset hat h4
                    go_wp2_with (first
                      | (with_reducible refine wl_store rfl 5 (.tmp 76) (.tmp 75) g10 i 23 _ (.int .u8 (x % 256)) rfl (by kernel_rfl) rfl rfl r10 HLR.out rfl ?_; intro w7 r7 o7; rw [bv_set, HS.out] at r7))
                    go_roundw
                    case rel => exact ⟨i + 1, by omega, by go_num, r4.only o7 h410, r7, r2.only o7 h210, br.trans (o7.below q10)⟩
                    case measure => simp [intOf]; omega
                · have h32 : i = 32 := by omega
                  have r10' : Row wr 23 g10 (bv FS) := by
                    rw [h32, List.take_of_length_le (by rw [HFL.out]; exact Nat.le_refl _), Nat.sub_self, List.replicate_zero, List.append_nil] at r10
                    exact r10
                  clear r10 h32
                  go_wp2_with (first
                    | (with_reducible refine wl_load_row rfl 23 (.tmp 10) g10 23 (bv FS) _ rfl rfl r10' Tryd.underlying23 rfl zf.out ?_)
                    | (with_reducible refine wl_store_row rfl 23 (.tmp 2) (.tmp 77) g2 23 _ (bv FS) rfl rfl rfl r2 zf.out lf.out (bv_one _) ?_; intro w8 r8 o8))
                  refine bodyPost_ret (v := .agg (bv FS).toArray) ?_ rfl ⟨rfl, ?_⟩
                  · exact results_cell_row Tryd.results29 _ _ g2 23 _ (0, 0) _ rfl r8 Tryd.underlying23 rfl zf.out
                  · exact br.trans (o8.below q2)
end Go.Proofs.YtbolfkigiachlaaDoor

/-
  SHA-256: what the sums' users need beside. Own work.
-/
namespace Go.Proofs.YtbolfkigiachlaaDoor
open Go.RowKit
theorem by_of_all {xs : List Int} (h : (xs.all fun x => decide (0 ≤ x) && decide (x < 256)) = true) : IsBy xs := fun x hx => by
  have := List.all_eq_true.1 h x hx
  simp at this
  exact this
theorem eq32 (xs ys : List Int) (hx : xs.length = 32) (hy : ys.length = 32) (w : World) : (Op.equalIn 10000 23 (.agg (bv xs).toArray) (.agg (bv ys).toArray)).run Tryd.prog w = .ok (decide (xs = ys)) w := by
  obtain ⟨i0, hi, _⟩ := u8_info
  exact run_eqArr w Tryd.underlying23 hi (by kernel_rfl) Tryd.underlying5 Tryd.isAgg5 xs ys hx hy
theorem eq32S (xs : List Int) (hx : xs.length = 32) (w : World) : (Op.equalIn 10000 23 (.agg (bv xs).toArray) (.agg (bv xs).toArray)).run Tryd.prog w = .ok true w := (eq32 xs xs hx hx w).trans (by simp)
theorem st_build2 {P : Program} {o : Oper} {a : Act} {w : World} {K : Act → World → Prop} {Q : Exit → Act → World → Prop} (t : TypeId) (x y : Operand) (ho : o.op = .buildSlice t 2 #[(0, x), (1, y)]) (e : TypeId) (i : TypeInfo) (z u v : Value) (ht : P.underlying t = some (.slice e)) (hi : P.info? e = some i) (hz : i.zero = some z) (hsz : i.size = 1) (hzc : z.cells = #[z]) (hx : a.eval x = u) (hy : a.eval y = v) (hu : u.cells = #[u]) (hv : v.cells = #[v])
    (hk : K (a.put o.dst (.slice (some ⟨w.heap.size, 0, none⟩) 2 2)) (w.alloc (.cells #[u, v] e))) : o.wp P a w K Q := by
  have hr : (Array.range 2) = #[0, 1] := rfl
  have hzz : ∀ w, (zeroValue e).run P w = .ok z w := fun w => by simp [zeroValue, typeInfo, hi, hz]
  have hss : ∀ w, (sizeOf e).run P w = .ok 1 w := fun w => by simp [sizeOf, typeInfo, hi, hsz]
  have hrun : (Instr.buildSlice t 2 #[(0, u), (1, v)]).run P w = .ok (.slice (some ⟨w.heap.size, 0, none⟩) 2 2) (w.alloc (.cells #[u, v] e)) := by
    simp [Instr.buildSlice, run_underlying ht, hss, hzz, hr, hzc, Instr.fill, hu, hv, newRow]
  unfold Oper.wp execOp
  simp only [ho, List.map_toArray, List.map_cons, List.map_nil, hx, hy, hrun, Sem.run_bind, Result.andThen_ok, Sem.run_pure]
  exact hk
theorem wl_build2 {P : Program} {ops : Array Oper} {rest : List Oper} {o : Oper} {a : Act} {w : World} {Q : Exit → Act → World → Prop} (hgd : o.guard = none) (t : TypeId) (x y : Operand) (ho : o.op = .buildSlice t 2 #[(0, x), (1, y)]) (e : TypeId) (i : TypeInfo) (z u v : Value) (ht : P.underlying t = some (.slice e)) (hi : P.info? e = some i) (hz : i.zero = some z) (hsz : i.size = 1) (hzc : z.cells = #[z]) (hx : a.eval x = u) (hy : a.eval y = v) (hu : u.cells = #[u]) (hv : v.cells = #[v])
    (hk : ∀ g w', Row w' e g [u, v] → w.heap.size ≤ g → g < w'.heap.size → Below w.heap.size w w' → wpList P ops Q rest (a.put o.dst (.slice (some ⟨g, 0, none⟩) 2 2)) w') : wpList P ops Q (o :: rest) a w :=
  wpList_plain hgd fun K hK => st_build2 t x y ho e i z u v ht hi hz hsz hzc hx hy hu hv (hK _ _ (hk _ _ (by unfold Row; exact heap_alloc_new _ _) (Nat.le_refl _) (by simp) ((Below.refl _ _).alloc (Nat.le_refl _) _)))
def zs32 : List Int := List.replicate 32 0
theorem bZ32 : Tryd.prog.built 23 [] = some (bv zs32).toArray := by kernel_rfl
theorem zs32_len : zs32.length = 32 := by simp [zs32]
theorem zero32z : (Tryd.prog.info? 23).map (fun i => i.zero) = some (some (.agg (bv zs32).toArray)) := zero32b
end Go.Proofs.YtbolfkigiachlaaDoor

/-
  A sum is bytes; a slice's zero. Own work.
-/
namespace Go.Proofs.YtbolfkigiachlaaDoor
open Go.RowKit
theorem byK_by (s : List Int) (k : Nat) : IsBy (byK s k) := by
  induction k with
  | zero => exact fun _ h => by cases h
  | succ k ih => exact ih.app (highB_by _ _)
theorem sumS_by (xs : List Int) : IsBy (sumS xs) := byK_by _ 8
theorem sl_info_ : (Tryd.prog.info? 22).map (fun i => (i.zero, i.size, i.bytes)) = some (some (.slice none 0 0), 1, 24) := by kernel_rfl
theorem sl_info : ∃ i, Tryd.prog.info? 22 = some i ∧ i.zero = some (.slice none 0 0) ∧ i.size = 1 := by
  obtain ⟨i, h0, h1, h2, h3⟩ := info_parts sl_info_
  exact ⟨i, h0, h1, h2⟩
end Go.Proofs.YtbolfkigiachlaaDoor
