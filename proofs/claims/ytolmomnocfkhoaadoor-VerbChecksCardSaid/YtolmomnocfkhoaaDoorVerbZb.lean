/-
  A name in capital letters: the document's. Contract. Own work.
-/
import Derived.Test.YtolmomnocfkhoaaDoorVerbK
import Derived.Test.YtolmomnocfkhoaaDoorVerbH
namespace Go.Proofs.YtolmomnocfkhoaaDoor
open Go.RowKit
set_option linter.unusedVariables false
set_option linter.unusedSimpArgs false
theorem upL_snoc {l : List UInt8} {i : Nat} {c : UInt8} (h : l[i]? = some c) : upL (l.take (i + 1)) = upL (l.take i) ++ [upC c] := by
  rw [List.take_add_one, h]
  simp [upL]
theorem upC_32 {c : UInt8} (h : 97 ≤ c.toNat ∧ c.toNat ≤ 122) : ((upC c).toNat : Int) = (c.toNat : Int) - 32 := by
  have := upC_yes h
  omega
set_option maxRecDepth 100000 in
set_option maxHeartbeats 2000000 in
theorem rupper_any (w : World) (l : List UInt8) (hl : l.length ≤ 1000000) :
    Calls Tryd.prog 14 #[encStr l] w fun e w' => e = .returned (encStr (upL l)) ∧ Below w.heap.size w w' := by
  obtain ⟨i8, h8i, h8z, h8s⟩ := u8_infoV
  have hlI : (l.length : Int) ≤ 1000000 := by omega
  go_enter Tryd.func14, Tryd.ntmps14
  go_wp2_with fail
  go_loopw [3, 4] (fun sv iv wr => ∃ i : Nat, i ≤ l.length ∧ iv = .int .i64 (i : Int) ∧ sv = encStr (upL (l.take i)) ∧ Below w.heap.size w wr) (fun _ iv _ => l.length - (intOf iv).toNat)
  case atStart => exact ⟨0, Nat.zero_le _, rfl, rfl, Below.refl _ _⟩
  case round =>
    obtain ⟨i, hi, rfl, rfl, bw⟩ := hrel
    by_cases hi2 : i < l.length
    · have hiI : (i : Int) < (l.length : Int) := by omega
      obtain ⟨c, hc⟩ : ∃ c, l[i]? = some c := ⟨_, List.getElem?_eq_getElem hi2⟩
      have hc8 := c.toNat_lt
      have hcI : (c.toNat : Int) < 256 := by omega
      obtain ⟨v, hv⟩ : ∃ v : Int, v = ((upC c).toNat : Int) := ⟨_, rfl⟩
      have hst : Value.string (strOfNums [v]) = encStr [upC c] := by rw [hv]; exact strOf_numsL [upC c]
      have hsn := hide (upL_snoc hc)
      have hE : (upL (l.take i)).length ≤ 1000000 := by simp [upL]; omega
      have hlA := hide (show (upL (l.take i)).length + ([upC c] : List UInt8).length ≤ 9223372036854775807 by simp [upL]; omega)
      generalize upL (l.take i) = E at *
      replace hst := hide hst
      have hcs := hide hc
      by_cases hu : 97 ≤ c.toNat ∧ c.toNat ≤ 122
      · have h1 : (97 : Int) ≤ (c.toNat : Int) := by omega
        have h2 : (c.toNat : Int) ≤ 122 := by omega
        obtain rfl : v = (c.toNat : Int) - 32 := by rw [hv, upC_32 hu]
        clear hu hv hc
        go_wp2_with (first
          | (with_reducible refine wl_run (o := ⟨some 8, _, _, _, _, _⟩) rfl (.int .i64 (l.length : Int)) (run_lenStr 9 (.tmp 7) l rfl Tryd.underlying9 rfl) ?_)
          | (with_reducible refine wl_run (o := ⟨some 14, _, _, _, _, _⟩) rfl (.int .u8 (c.toNat : Int)) (run_idxStr 9 (.tmp 12) (.tmp 13) l i c rfl Tryd.underlying9 rfl rfl hcs.out) ?_)
          | ((with_reducible refine wl_build1 (o := ⟨some 25, _, _, _, _, _⟩) rfl 54 (.tmp 24) rfl 5 i8 (.int .u8 0) (.int .u8 ((c.toNat : Int) - 32)) Tryd.underlying54 h8i h8z h8s rfl rfl rfl ?_); intro g3 w3 r3 p3 l3 b3; have bs3 : Bs w3 w3.heap.size (some ⟨g3, 0, none⟩) 1 [(c.toNat : Int) - 32] := Bs.row (t := 5) r3 rfl)
          | (refine wl_run (o := ⟨some 26, _, _, _, _, _⟩) rfl (encStr [upC c]) ((run_toStr 54 9 5 (.tmp 25) rfl rfl bs3 Tryd.underlying54 Tryd.underlying5 Tryd.underlying9).trans (by rw [hst.out])) ?_)
          | (with_reducible refine wl_run (o := ⟨some 27, _, _, _, _, _⟩) rfl (encStr (E ++ [upC c])) (run_addStr (.tmp 23) (.tmp 26) rfl rfl rfl hlA.out) ?_))
        go_roundw
        case rel => exact ⟨i + 1, hi2, by go_num, by rw [hsn.out], bw.trans (b3.mono bw.size)⟩
        case measure => simp [intOf]; omega
      · have hvc : v = (c.toNat : Int) := by rw [hv, upC_no hu]
        obtain rfl : v = (c.toNat : Int) := hvc
        by_cases h1 : (97 : Int) ≤ (c.toNat : Int)
        · have h2 : ¬ (c.toNat : Int) ≤ 122 := by omega
          clear hu hv hc
          go_wp2_with (first
            | (with_reducible refine wl_run (o := ⟨some 8, _, _, _, _, _⟩) rfl (.int .i64 (l.length : Int)) (run_lenStr 9 (.tmp 7) l rfl Tryd.underlying9 rfl) ?_)
            | (with_reducible refine wl_run (o := ⟨some 14, _, _, _, _, _⟩) rfl (.int .u8 (c.toNat : Int)) (run_idxStr 9 (.tmp 12) (.tmp 13) l i c rfl Tryd.underlying9 rfl rfl hcs.out) ?_)
            | ((with_reducible refine wl_build1 (o := ⟨some 25, _, _, _, _, _⟩) rfl 54 (.tmp 24) rfl 5 i8 (.int .u8 0) (.int .u8 ((c.toNat : Int))) Tryd.underlying54 h8i h8z h8s rfl rfl rfl ?_); intro g3 w3 r3 p3 l3 b3; have bs3 : Bs w3 w3.heap.size (some ⟨g3, 0, none⟩) 1 [(c.toNat : Int)] := Bs.row (t := 5) r3 rfl)
            | (refine wl_run (o := ⟨some 26, _, _, _, _, _⟩) rfl (encStr [upC c]) ((run_toStr 54 9 5 (.tmp 25) rfl rfl bs3 Tryd.underlying54 Tryd.underlying5 Tryd.underlying9).trans (by rw [hst.out])) ?_)
            | (with_reducible refine wl_run (o := ⟨some 27, _, _, _, _, _⟩) rfl (encStr (E ++ [upC c])) (run_addStr (.tmp 23) (.tmp 26) rfl rfl rfl hlA.out) ?_))
          go_roundw
          case rel => exact ⟨i + 1, hi2, by go_num, by rw [hsn.out], bw.trans (b3.mono bw.size)⟩
          case measure => simp [intOf]; omega
        · clear hu hv hc
          go_wp2_with (first
            | (with_reducible refine wl_run (o := ⟨some 8, _, _, _, _, _⟩) rfl (.int .i64 (l.length : Int)) (run_lenStr 9 (.tmp 7) l rfl Tryd.underlying9 rfl) ?_)
            | (with_reducible refine wl_run (o := ⟨some 14, _, _, _, _, _⟩) rfl (.int .u8 (c.toNat : Int)) (run_idxStr 9 (.tmp 12) (.tmp 13) l i c rfl Tryd.underlying9 rfl rfl hcs.out) ?_)
            | ((with_reducible refine wl_build1 (o := ⟨some 25, _, _, _, _, _⟩) rfl 54 (.tmp 24) rfl 5 i8 (.int .u8 0) (.int .u8 ((c.toNat : Int))) Tryd.underlying54 h8i h8z h8s rfl rfl rfl ?_); intro g3 w3 r3 p3 l3 b3; have bs3 : Bs w3 w3.heap.size (some ⟨g3, 0, none⟩) 1 [(c.toNat : Int)] := Bs.row (t := 5) r3 rfl)
            | (refine wl_run (o := ⟨some 26, _, _, _, _, _⟩) rfl (encStr [upC c]) ((run_toStr 54 9 5 (.tmp 25) rfl rfl bs3 Tryd.underlying54 Tryd.underlying5 Tryd.underlying9).trans (by rw [hst.out])) ?_)
            | (with_reducible refine wl_run (o := ⟨some 27, _, _, _, _, _⟩) rfl (encStr (E ++ [upC c])) (run_addStr (.tmp 23) (.tmp 26) rfl rfl rfl hlA.out) ?_))
          go_roundw
          case rel => exact ⟨i + 1, hi2, by go_num, by rw [hsn.out], bw.trans (b3.mono bw.size)⟩
          case measure => simp [intOf]; omega
    · obtain rfl : i = l.length := by omega
      rw [List.take_length]
      go_wp2_with (first
        | (with_reducible refine wl_run (o := ⟨some 8, _, _, _, _, _⟩) rfl (.int .i64 (l.length : Int)) (run_lenStr 9 (.tmp 7) l rfl Tryd.underlying9 rfl) ?_))
      go_ret
      exact ⟨rfl, bw⟩
end Go.Proofs.YtolmomnocfkhoaaDoor
