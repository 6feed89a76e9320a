/-
  A sorted set: members with their scores, how any two stand; how many levels; contracts. Own work.
-/
import Derived.Test.YtfklfgaomcbchaaRows
import Derived.Test.YtfklfgaomcbchaaChecked
import Derived.Test.YtfklfgaomcbchaaBuildA
import Derived.Test.YtfklfgaomcbchaaLenS
import Derived.Shelf.Strconv.Itoa0
import Derived.Sort.EncStr
import Derived.StringKeys
namespace Go.Proofs.Ytfklfgaomcbchaa
open Go.RowKit Go.Shelf
set_option linter.unusedVariables false
set_option linter.unusedSimpArgs false
abbrev Nm := List UInt8
def isI (x : Int) : Prop := -9223372036854775808 ≤ x ∧ x ≤ 9223372036854775807
abbrev ptr (g : Nat) : Value := .pointer (some ⟨g, 0, none⟩)
/-- A member with its score. -/
structure Sc where
  m : Nm
  s : Int
deriving DecidableEq
abbrev Sc.cells (a : Sc) : List Value := [encStr a.m, .int .i64 a.s]
abbrev Sc.val (a : Sc) : Value := .agg a.cells.toArray
/-- Stands one ahead of another? -/
def Sc.less (a b : Sc) : Bool := if a.s = b.s then bytesBefore a.m b.m else decide (a.s < b.s)
theorem szSc (a : Sc) : (Try.prog.info? 35).map (·.size) = some a.cells.length := by kernel_rfl
theorem less_before : ∀ a b : List UInt8, Op.bytesLess a b = bytesBefore a b
  | [], [] => rfl
  | [], _ :: _ => rfl
  | _ :: _, [] => rfl
  | x :: r, y :: s => by
    have ih := less_before r s
    simp [Op.bytesLess, bytesBefore, ih]
theorem toList_enc (a : Nm) : (⟨a.toArray⟩ : ByteArray).toList = a := by rw [Lib.toList_data]
theorem lt_nm (w : World) (a b : Nm) : (binOp .lss 9 (encStr a) (encStr b)).run Try.prog w = .ok (.bool (bytesBefore a b)) w := by
  simp [encStr, binOp, Op.stringOp, less_before, toList_enc]
set_option maxRecDepth 100000 in
theorem less_any (w : World) (a b : Sc) : Calls Try.prog 25 #[a.val, b.val] w fun e w' => e = .returned (.bool (a.less b)) ∧ Below w.heap.size w w' := by
  obtain ⟨am, sa⟩ := a
  obtain ⟨bm, sb⟩ := b
  have hl := lt_nm
  by_cases he : sa = sb
  · have e1 : Sc.less ⟨am, sa⟩ ⟨bm, sb⟩ = bytesBefore am bm := by unfold Sc.less; rw [if_pos he]
    have h1 : (sa == sb) = true := by simp [he]
    have h2 : decide (sa = sb) = true := by simp [he]
    rw [e1]
    clear e1 he
    go_enter Try.func25, Try.ntmps25
    go_wp2_with (first
      | (with_reducible refine wl_box (o := ⟨some 2, _, _, _, _, _⟩) rfl 35 (.tmp 0) _ [encStr am, .int .i64 sa] rfl rfl rfl ?_; intro g2 w2 r2 p2 l2 b2)
      | (with_reducible refine wl_box (o := ⟨some 3, _, _, _, _, _⟩) rfl 35 (.tmp 1) _ [encStr bm, .int .i64 sb] rfl rfl rfl ?_; intro g3 w3 r3 p3 l3 b3; have r2 := r2.later b3; have c1 := r2.cell (j := 0) rfl; have c2 := r2.cell (j := 1) rfl; have c3 := r3.cell (j := 0) rfl; have c4 := r3.cell (j := 1) rfl))
    go_ret
    exact ⟨by rw [← less_before]; rfl, b2.trans (b3.mono b2.size)⟩
  · have e1 : Sc.less ⟨am, sa⟩ ⟨bm, sb⟩ = decide (sa < sb) := by unfold Sc.less; rw [if_neg he]
    have h1 : (sa == sb) = false := by simp [he]
    have h2 : decide (sa = sb) = false := by simp [he]
    rw [e1]
    clear e1 he
    go_enter Try.func25, Try.ntmps25
    go_wp2_with (first
      | (with_reducible refine wl_box (o := ⟨some 2, _, _, _, _, _⟩) rfl 35 (.tmp 0) _ [encStr am, .int .i64 sa] rfl rfl rfl ?_; intro g2 w2 r2 p2 l2 b2)
      | (with_reducible refine wl_box (o := ⟨some 3, _, _, _, _, _⟩) rfl 35 (.tmp 1) _ [encStr bm, .int .i64 sb] rfl rfl rfl ?_; intro g3 w3 r3 p3 l3 b3; have r2 := r2.later b3; have c1 := r2.cell (j := 0) rfl; have c2 := r2.cell (j := 1) rfl; have c3 := r3.cell (j := 0) rfl; have c4 := r3.cell (j := 1) rfl))
    go_ret
    exact ⟨rfl, b2.trans (b3.mono b2.size)⟩
theorem len64_any (x : Int) (w : World) (h0 : 0 ≤ x) (h1 : x ≤ 18446744073709551615) : Calls Try.prog 44 #[.int .u64 x] w fun e w' => e = .returned (.int .i64 (Lib.bitLen x.toNat)) ∧ w' = w :=
  Any.bits_Len64 len64S x w h0 h1
theorem bitLenAux_le : ∀ (f x : Nat), Lib.bitLenAux f x ≤ f
  | 0, x => by simp [Lib.bitLenAux]
  | f + 1, x => by
    have := bitLenAux_le f (x / 2)
    unfold Lib.bitLenAux
    split <;> omega
theorem bitLen_le64 (x : Nat) : Lib.bitLen x ≤ 64 := bitLenAux_le 64 x
set_option maxRecDepth 100000 in
theorem lz64_any (x : Int) (w : World) (h0 : 0 ≤ x) (h1 : x ≤ 18446744073709551615) : Calls Try.prog 43 #[.int .u64 x] w fun e w' => (∃ z : Nat, z ≤ 64 ∧ e = .returned (.int .i64 (z : Int))) ∧ w = w' := by
  have hL := len64_any x w h0 h1
  have hb := bitLen_le64 x.toNat
  generalize Lib.bitLen x.toNat = b at *
  have hbI : (b : Int) ≤ 64 := by omega
  have hb0 : (0 : Int) ≤ (b : Int) := by omega
  clear h0 h1
  go_enter Try.func43, Try.ntmps43
  go_wp2_with fail
  refine hL.mono ?_
  rintro e w' ⟨rfl, rfl⟩
  go_wp2_with fail
  go_ret
  have e9 : ((64 - b : Nat) : Int) = 64 - (b : Int) := by omega
  exact ⟨⟨64 - b, by omega, by rw [e9]; rfl⟩, rfl⟩
theorem wrap_u64_le (n : Int) : IntKind.u64.wrap n ≤ 18446744073709551615 := by simp [IntKind.wrap, IntKind.bits, IntKind.signed]; omega
theorem mix_ok {z : Int} (h0 : 0 ≤ z) (h1 : z ≤ 18446744073709551615) {b : Int} (b0 : 0 ≤ b) (b1 : b < 256) : 0 ≤ bits .xor .u64 z b ∧ bits .xor .u64 z b ≤ 18446744073709551615 := by
  rw [u64_xor z b h0 (by omega) b0 (by omega)]
  have := Nat.xor_lt_two_pow (x := z.toNat) (y := b.toNat) (n := 64) (by omega) (by omega)
  omega
set_option maxRecDepth 100000 in
set_option maxHeartbeats 1000000 in
theorem height_any (m : Nm) (w : World) (hm : m.length ≤ 1000000) : Calls Try.prog 42 #[encStr m] w fun e w' => (∃ h : Nat, 1 ≤ h ∧ h ≤ 16 ∧ e = .returned (.int .i64 (h : Int))) ∧ w = w' := by
  have hsz : (⟨m.toArray⟩ : ByteArray).size = m.length := by show m.toArray.size = _; simp
  have hmI : (m.length : Int) ≤ 1000000 := by omega
  go_enter Try.func42, Try.ntmps42
  go_wp2_with fail
  go_loopw [3, 7] (fun mv iv wr => ∃ (z : Int) (i : Nat), i ≤ m.length ∧ mv = .int .u64 z ∧ iv = .int .i64 i ∧ 0 ≤ z ∧ z ≤ 18446744073709551615 ∧ wr = w) (fun _ iv _ => m.length - (intOf iv).toNat)
  case atStart => exact ⟨11160318154034397263, 0, by omega, rfl, rfl, by decide, by decide, rfl⟩
  case round =>
    obtain ⟨z, i, hi, rfl, rfl, hz0, hz1, rfl⟩ := hrel
    by_cases hii : i < m.length
    · have hi2 : (i : Int) < (m.length : Int) := by omega
      go_wp2_with fail
      exact ⟨⟨_, i + 1, by omega, rfl, by rw [show ((i + 1 : Nat) : Int) = (i : Int) + 1 by omega], wrap_u64_nonneg _, wrap_u64_le _, trivial⟩, by simp [intOf]; omega⟩
    · obtain rfl : i = m.length := by omega
      have hL := lz64_any z wr hz0 hz1
      go_wp2_with fail
      refine hL.mono ?_
      rintro e w' ⟨⟨q, hq, rfl⟩, rfl⟩
      have hq0 : (0 : Int) ≤ (q : Int) := by omega
      have hqI : (q : Int) ≤ 64 := by omega
      go_wp2_with fail
      go_ret
      have e9 : ((min (1 + q / 2) 16 : Nat) : Int) = min (1 + (q : Int) / 2) 16 := by omega
      exact ⟨⟨min (1 + q / 2) 16, by omega, by omega, by rw [e9]; rfl⟩, rfl⟩
end Go.Proofs.Ytfklfgaomcbchaa
