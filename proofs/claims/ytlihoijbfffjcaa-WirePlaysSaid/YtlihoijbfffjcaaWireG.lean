/-
  A frame with a byte turned: contracts; the law WireTurns. Own work.
-/
import Derived.Test.YtlihoijbfffjcaaWireF
import Derived.Laws.BitsAllLaws
namespace Go.Proofs.Ytlihoijbfffjcaa
open Go.RowKit Go.Conc
set_option linter.unusedVariables false
set_option linter.unusedSimpArgs false
theorem xor_by {x y : Int} (hx : 0 ≤ x ∧ x < 256) (hy : 0 ≤ y ∧ y < 256) : 0 ≤ bits .xor .u8 x y ∧ bits .xor .u8 x y < 256 := by
  rw [u8_xor x y hx.1 hx.2 hy.1 hy.2]
  have := Nat.xor_lt_two_pow (x := x.toNat) (y := y.toNat) (n := 8) (by omega) (by omega)
  omega
theorem xor_back {x y : Int} (hx : 0 ≤ x ∧ x < 256) (hy : 0 ≤ y ∧ y < 256) : bits .xor .u8 (bits .xor .u8 x y) y = x := by
  have h := xor_by hx hy
  rw [u8_xor _ y h.1 h.2 hy.1 hy.2, u8_xor x y hx.1 hx.2 hy.1 hy.2, Int.toNat_natCast, Nat.xor_assoc, Nat.xor_self, Nat.xor_zero]
  omega
theorem by_at {xs : List Int} (h : IsBy xs) (i : Nat) : 0 ≤ xs.getD i 0 ∧ xs.getD i 0 < 256 := by
  by_cases hi : i < xs.length
  · rw [List.getD, List.getElem?_eq_getElem hi]; exact h _ (by simp)
  · rw [List.getD, List.getElem?_eq_none (by omega)]; simp
theorem szB : (Try.prog.info? 5).map (·.size) = some 1 := by kernel_rfl
/-- Which byte is turned. -/
def turnP (at_ : Int) (m : Nat) : Nat := ((IntKind.u64.wrap at_).tmod (m : Int)).toNat
theorem turnP_eq (at_ : Int) (m : Nat) (hm : 0 < m) : (IntKind.u64.wrap at_).tmod (m : Int) = (turnP at_ m : Nat) ∧ turnP at_ m < m := by
  have h0 := wrap_u64_nonneg at_
  have h1 := Int.tmod_eq_emod_of_nonneg (b := (m : Int)) h0
  have h2 := Int.emod_nonneg (IntKind.u64.wrap at_) (show (m : Int) ≠ 0 by omega)
  have h3 := Int.emod_lt_of_pos (IntKind.u64.wrap at_) (show (0 : Int) < (m : Int) by omega)
  unfold turnP
  rw [h1]
  omega
/-- Bytes with one turned. -/
def turnL (xs : List Int) (p : Nat) (b : Int) : List Int := xs.set p (bits .xor .u8 (xs.getD p 0) b)
theorem turnL_len (xs : List Int) (p : Nat) (b : Int) : (turnL xs p b).length = xs.length := by simp [turnL]
theorem turnL_by {xs : List Int} {p : Nat} {b : Int} (h : IsBy xs) (hb : 0 ≤ b ∧ b < 256) : IsBy (turnL xs p b) := by
  intro x hx
  rcases List.mem_or_eq_of_mem_set hx with h1 | h1
  · exact h x h1
  · rw [h1]; exact xor_by (by_at h p) hb
theorem turnL_back {xs : List Int} {p : Nat} {b : Int} (h : IsBy xs) (hp : p < xs.length) (hb : 0 ≤ b ∧ b < 256) : turnL (turnL xs p b) p b = xs := by
  have e : (turnL xs p b).getD p 0 = bits .xor .u8 (xs.getD p 0) b := by simp [turnL, List.getD, hp]
  unfold turnL at e ⊢
  rw [e, xor_back (by_at h p) hb, List.set_set]
  apply List.ext_getElem?
  intro i
  rw [List.getElem?_set]
  by_cases hi : p = i
  · subst hi; simp [hp, List.getD]
  · rw [if_neg hi]
set_option maxRecDepth 100000 in
set_option maxHeartbeats 1000000 in
theorem turn_any (A : Option Addr) (m c : Nat) (xs : List Int) (at_ b : Int) (w : World) (h : Bs w w.heap.size A m xs) (hby : IsBy xs) (hm : m ≤ 2000) (hpos : 0 < m) (hb : 0 ≤ b ∧ b < 256) :
    Calls Try.prog 69 #[.slice A m c, .int .i64 at_, .int .u8 b] w fun e w' => ∃ A' c', e = .returned (.slice A' m c') ∧ OwnB w' w.heap.size A' m c' (turnL xs (turnP at_ m) b) ∧ Below w.heap.size w w' := by
  have hne : ¬ m = 0 := by omega
  obtain ⟨hP, hp⟩ := turnP_eq at_ m hpos
  have hxl := h.1
  generalize hpp : turnP at_ m = p at *
  clear hpp
  have hx0 := by_at hby p
  have hxor := xor_by hx0 hb
  have hval : ∃ x : Int, x = xs.getD p 0 := ⟨_, rfl⟩
  obtain ⟨x, hxe⟩ := hval
  rw [← hxe] at hx0 hxor
  have hnew : turnL xs p b = xs.set p (bits .xor .u8 x b) := by rw [turnL, ← hxe]
  generalize hve : bits .xor .u8 x b = v at *
  go_enter Try.func69, Try.ntmps69
  go_wp2_with fail
  refine (clone_own A m c xs w h (by omega)).mono ?_
  rintro en w1 ⟨A1, c1, rfl, ho, b1⟩
  obtain ⟨g, cap, cur, hv, hgB, hg, hmc, hcm, hsz, htk⟩ := ho.2.resolve_left (by rintro ⟨_, h0⟩; omega)
  injection hv with hv1 hv2 hv3
  subst hv1
  subst hv3
  rw [Nat.mul_one] at htk hsz
  have hrow : Row w1 5 g cur.toList := by unfold Row; rw [hg]
  have hcl : cur.toList.length = c1 := by simpa using hsz
  have hcp : cur.toList[p]? = some (.int .u8 x) := by
    have e : (cur.toList.take m)[p]? = (bv xs)[p]? := by rw [htk]
    rw [List.getElem?_take, if_pos hp] at e
    rw [e, hxe]
    simp [bv, List.getD, List.getElem?_eq_getElem (show p < xs.length by omega)]
  have ck := hrow.cell hcp
  generalize cur.toList = L at *
  have HX := hide hxe
  have HN := hide hnew
  have HV := hide hve
  have HT := hide htk
  clear hxe hnew hg hsz htk h
  have hlt := hide (show p < L.length by omega)
  go_wp2_with (first
    | (with_reducible refine wl_store rfl 5 (.tmp 24) (.tmp 23) g p 5 L (.int .u8 v) rfl szB rfl rfl hrow hlt.out rfl ?_; intro w2 r2 o2))
  go_ret
  refine ⟨some ⟨g, 0, none⟩, c1, rfl, ⟨by rw [bv_len, turnL_len, hxl, Nat.mul_one], .inr ⟨g, c1, (L.set p (.int .u8 v)).toArray, rfl, hgB, r2, hmc, hcm, by simp [hcl], ?_⟩⟩, b1.trans (o2.below hgB)⟩
  rw [HN.out, ← bv_set, ← HT.out, Nat.mul_one]
  simp [List.take_set]
end Go.Proofs.Ytlihoijbfffjcaa
