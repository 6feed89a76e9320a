/-
  A name in capital letters. Contract. Own work.
-/
import Derived.Test.YtolmomnocfkhoaaDoorStrB
import Derived.Test.YtolmomnocfkhoaaDoorRows
import Derived.Test.YtolmomnocfkhoaaDoorChecked
namespace Go.Proofs.YtolmomnocfkhoaaDoor
open Go.RowKit
set_option linter.unusedVariables false
set_option linter.unusedSimpArgs false
def upC (c : UInt8) : UInt8 := if 97 ≤ c.toNat ∧ c.toNat ≤ 122 then c - 32 else c
def upL (l : List UInt8) : List UInt8 := l.map upC
theorem upC_no {c : UInt8} (h : ¬ (97 ≤ c.toNat ∧ c.toNat ≤ 122)) : upC c = c := by unfold upC; rw [if_neg h]
theorem upC_yes {c : UInt8} (h : 97 ≤ c.toNat ∧ c.toNat ≤ 122) : ((upC c).toNat : Int) = (c.toNat : Int) - 97 + 65 := by
  unfold upC
  rw [if_pos h, UInt8.toNat_sub]
  have := c.toNat_lt
  have e : (32 : UInt8).toNat = 32 := rfl
  rw [e]
  omega
theorem numsL_set {l : List UInt8} {i : Nat} {c : UInt8} {v : Int} (h : (c.toNat : Int) = v) : (numsL l).set i v = numsL (l.set i c) := by
  subst h
  simp [numsL, List.map_set]
/-- The first ones are turned, the others not yet. -/
theorem up_step {l : List UInt8} {i : Nat} {c : UInt8} (h : l[i]? = some c) : (upL (l.take i) ++ l.drop i).set i (upC c) = upL (l.take (i + 1)) ++ l.drop (i + 1) := by
  have hi : i < l.length := (List.getElem?_eq_some_iff.1 h).1
  have hc : l[i] = c := (List.getElem?_eq_some_iff.1 h).2
  have hl : (upL (l.take i)).length = i := by simp [upL]; omega
  rw [List.set_append_right _ _ (by omega), hl, Nat.sub_self, List.drop_eq_getElem_cons hi, List.set_cons_zero, List.take_add_one, h]
  simp [upL]
theorem up_same {l : List UInt8} {i : Nat} {c : UInt8} (h : l[i]? = some c) (hu : upC c = c) : upL (l.take i) ++ l.drop i = upL (l.take (i + 1)) ++ l.drop (i + 1) := by
  have hi : i < l.length := (List.getElem?_eq_some_iff.1 h).1
  have hc : l[i] = c := (List.getElem?_eq_some_iff.1 h).2
  rw [List.drop_eq_getElem_cons hi, List.take_add_one, h, hc]
  simp [upL, hu]
theorem up_at {l : List UInt8} {i : Nat} {c : UInt8} (h : l[i]? = some c) : (upL (l.take i) ++ l.drop i)[i]? = some c := by
  have hi : i < l.length := (List.getElem?_eq_some_iff.1 h).1
  have hl : (upL (l.take i)).length = i := by simp [upL]; omega
  rw [List.getElem?_append_right (by omega), hl, Nat.sub_self, List.getElem?_drop, Nat.add_zero, h]
theorem up_len (l : List UInt8) (i : Nat) : (upL (l.take i) ++ l.drop i).length = l.length := by simp [upL]; omega
set_option maxRecDepth 100000 in
set_option maxHeartbeats 1000000 in
theorem upper_any (w : World) (l : List UInt8) (hl : l.length ≤ 1000000) :
    Calls Tryd.prog 13 #[encStr l] w fun e w' => e = .returned (encStr (upL l)) ∧ Below w.heap.size w w' := by
  have hlI : (l.length : Int) ≤ 1000000 := by omega
  go_enter Tryd.func13, Tryd.ntmps13
  go_wp2_with (first
    | ((with_reducible refine wl_convF (o := ⟨some 7, _, _, _, _, _⟩) rfl 9 54 5 (.tmp 6) l rfl rfl Tryd.underlying9 Tryd.underlying54 Tryd.underlying5 ?_); intro g cp w1 f1 p1 b1))
  have b1' := b1
  go_loopw [10] (fun iv wr => ∃ i : Nat, i ≤ l.length ∧ iv = .int .i64 (i : Int) ∧ BufB wr g 5 (numsL (upL (l.take i) ++ l.drop i)) ∧ Below w.heap.size w wr) (fun iv _ => l.length - (intOf iv).toNat)
  case atStart => exact ⟨0, Nat.zero_le _, rfl, by simpa [upL] using f1, b1⟩
  case round =>
    obtain ⟨i, hi, rfl, fb, bw⟩ := hrel
    clear f1 b1 b1'
    by_cases hi2 : i < l.length
    · have hiI : (i : Int) < (l.length : Int) := by omega
      obtain ⟨c, hc⟩ : ∃ c, l[i]? = some c := ⟨_, List.getElem?_eq_getElem hi2⟩
      have cc := fb.cell (numsL_at (up_at hc))
      have hc8 := c.toNat_lt
      have hcI : (c.toNat : Int) < 256 := by omega
      have hilt := hide (show i < (numsL (upL (l.take i) ++ l.drop i)).length by rw [numsL_len, up_len]; exact hi2)
      replace fb := hide fb
      by_cases hu : 97 ≤ c.toNat ∧ c.toNat ≤ 122
      · have h1 : (97 : Int) ≤ (c.toNat : Int) := by omega
        have h2 : (c.toNat : Int) ≤ 122 := by omega
        have hset := hide (show (numsL (upL (l.take i) ++ l.drop i)).set i ((c.toNat : Int) - 97 + 65) = numsL (upL (l.take (i + 1)) ++ l.drop (i + 1)) by rw [numsL_set (upC_yes hu), up_step hc])
        clear hu
        replace hc := hide hc
        go_wp2_with (first
          | ((with_reducible refine wl_storeB rfl 5 (.tmp 26) (.tmp 25) g i 5 _ ((c.toNat : Int) - 97 + 65) rfl (by kernel_rfl) rfl rfl fb.out hilt.out ?_); intro w2 f2 o2))
        go_roundw
        case rel => exact ⟨i + 1, hi2, by go_num, hset.out ▸ f2, bw.trans (o2.below p1)⟩
        case measure => simp [intOf]; omega
      · have hsm := hide (up_same hc (upC_no hu))
        replace hc := hide hc
        by_cases h1 : (97 : Int) ≤ (c.toNat : Int)
        · have h2 : ¬ (c.toNat : Int) ≤ 122 := by omega
          clear hu
          go_wp2_with fail
          go_roundw
          case rel => exact ⟨i + 1, hi2, by go_num, hsm.out ▸ fb.out, bw⟩
          case measure => simp [intOf]; omega
        · clear hu
          go_wp2_with fail
          go_roundw
          case rel => exact ⟨i + 1, hi2, by go_num, hsm.out ▸ fb.out, bw⟩
          case measure => simp [intOf]; omega
    · obtain rfl : i = l.length := by omega
      rw [List.take_length, List.drop_length, List.append_nil] at fb
      have hbs := fb.bs
      have hln : (numsL (upL l)).length = l.length := by rw [numsL_len]; simp [upL]
      rw [hln] at hbs
      replace fb := hide fb
      replace hln := hide hln
      go_wp2_with (first
        | (with_reducible refine wl_run (o := ⟨some 29, _, _, _, _, _⟩) rfl (.string (strOfNums (numsL (upL l)))) (run_toStr 54 9 5 (.tmp 28) rfl rfl hbs Tryd.underlying54 Tryd.underlying5 Tryd.underlying9) ?_))
      go_ret
      exact ⟨by rw [← strOf_numsL (upL l)]; rfl, bw⟩
end Go.Proofs.YtolmomnocfkhoaaDoor
