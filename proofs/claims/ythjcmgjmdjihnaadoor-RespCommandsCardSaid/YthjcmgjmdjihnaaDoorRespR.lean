/-
  A command as bytes, by the document. Contracts. Own work.
-/
import Derived.Test.YthjcmgjmdjihnaaDoorRespQ
namespace Go.Proofs.YthjcmgjmdjihnaaDoor
open Go.RowKit Go.Shelf
set_option linter.unusedVariables false
set_option linter.unusedSimpArgs false
set_option maxRecDepth 100000 in
theorem bulk_any (w : World) (a : Wd) (ha : a.length ≤ 140737488355328) : Calls Tryd.prog 22 #[encStr a] w fun e w' => e = .returned (encStr (textB a)) ∧ Below w.heap.size w w' := by
  have HX := rtext_any a.length (a.length : Int) w (by omega) (by omega) (by omega)
  have hil := itoa_len (n := (a.length : Int)) (by omega) (by omega)
  have hfin : ([36] ++ Lib.itoa (a.length : Int) ++ [13, 10] ++ a) ++ [13, 10] = textB a := by simp [textB, lineB]
  obtain ⟨it, hit⟩ : ∃ t, t = Lib.itoa (a.length : Int) := ⟨_, rfl⟩
  rw [← hit] at HX hil hfin
  have b1 := hide (show [(36 : UInt8)].length + it.length ≤ 9223372036854775807 by simp; omega)
  have b2 := hide (show ([36] ++ it).length + [(13 : UInt8), 10].length ≤ 9223372036854775807 by simp; omega)
  have b3 := hide (show ([36] ++ it ++ [13, 10]).length + a.length ≤ 9223372036854775807 by simp; omega)
  have b4 := hide (show ([36] ++ it ++ [13, 10] ++ a).length + [(13 : UInt8), 10].length ≤ 9223372036854775807 by simp; omega)
  have hlt := str_len a
  replace hfin := hide hfin
  clear hil ha hit
  go_enter Tryd.func22, Tryd.ntmps22
  go_wp2_with (first
    | (with_reducible refine wl_run (o := ⟨some 4, _, _, _, _, _⟩) rfl (.int .i64 (a.length : Int)) (run_lenStr 9 (.tmp 3) a rfl Tryd.underlying9 rfl) ?_))
  refine HX.mono ?_
  rintro e w1 ⟨rfl, b⟩
  clear HX
  go_wp2_with (first
    | (with_reducible refine wl_run (o := ⟨some 6, _, _, _, _, _⟩) rfl (encStr ([36] ++ it)) (run_addStr (.const (.string ⟨#[36]⟩)) (.tmp 5) rfl rfl rfl b1.out) ?_)
    | (with_reducible refine wl_run (o := ⟨some 7, _, _, _, _, _⟩) rfl (encStr ([36] ++ it ++ [13, 10])) (run_addStr (.tmp 6) (.const (.string ⟨#[13, 10]⟩)) rfl rfl rfl b2.out) ?_)
    | (with_reducible refine wl_run (o := ⟨some 9, _, _, _, _, _⟩) rfl (encStr ([36] ++ it ++ [13, 10] ++ a)) (run_addStr (.tmp 7) (.tmp 8) rfl rfl rfl b3.out) ?_)
    | (with_reducible refine wl_run (o := ⟨some 10, _, _, _, _, _⟩) rfl (encStr ([36] ++ it ++ [13, 10] ++ a ++ [13, 10])) (run_addStr (.tmp 9) (.const (.string ⟨#[13, 10]⟩)) rfl rfl rfl b4.out) ?_; rw [hfin.out]))
  go_ret
  exact ⟨rfl, b⟩
set_option maxRecDepth 100000 in
set_option maxHeartbeats 1000000 in
theorem rcmd_any (w : World) (v : Value) (ws : List Wd) (h : StV w v ws) (hlen : (cmdB ws).length ≤ 140737488355328) (hn : ws.length ≤ 100) : Calls Tryd.prog 14 #[v] w fun e w' => e = .returned (encStr (cmdB ws)) ∧ Below w.heap.size w w' := by
  obtain ⟨A, c, rfl, x1⟩ := id h
  clear x1
  have HX := rtext_any ws.length (ws.length : Int) w (by omega) (by omega) (by omega)
  have hcb : (cmdB ws).length = (lineB 42 ws.length).length + (textsB ws).length := by unfold cmdB; rw [List.length_append]
  have hil := itoa_len (n := (ws.length : Int)) (by omega) (by omega)
  have hfin : ([42] ++ Lib.itoa (ws.length : Int)) ++ [13, 10] = lineB 42 ws.length := by simp [lineB]
  obtain ⟨it, hit⟩ : ∃ t, t = Lib.itoa (ws.length : Int) := ⟨_, rfl⟩
  rw [← hit] at HX hil hfin
  have b1 := hide (show [(42 : UInt8)].length + it.length ≤ 9223372036854775807 by simp; omega)
  have b2 := hide (show ([42] ++ it).length + [(13 : UInt8), 10].length ≤ 9223372036854775807 by simp; omega)
  have hcm := hide (show cmdB ws = lineB 42 ws.length ++ textsB ws from rfl)
  obtain ⟨hd, hhd⟩ : ∃ d, d = lineB 42 ws.length := ⟨_, rfl⟩
  rw [← hhd] at hcb hcm hfin
  have hlen9 := hide hlen
  have hcb9 := hide hcb
  have hnI : (ws.length : Int) ≤ 100 := by omega
  have hn9 := hide hn
  replace hfin := hide hfin
  clear hil hn hit hlen hcb hhd
  go_enter Tryd.func14, Tryd.ntmps14
  go_wp2_with fail
  refine HX.mono ?_
  rintro e w1 ⟨rfl, B1⟩
  clear HX
  go_wp2_with (first
    | (with_reducible refine wl_run (o := ⟨some 8, _, _, _, _, _⟩) rfl (encStr ([42] ++ it)) (run_addStr (.const (.string ⟨#[42]⟩)) (.tmp 7) rfl rfl rfl b1.out) ?_)
    | (with_reducible refine wl_run (o := ⟨some 9, _, _, _, _, _⟩) rfl (encStr ([42] ++ it ++ [13, 10])) (run_addStr (.tmp 8) (.const (.string ⟨#[13, 10]⟩)) rfl rfl rfl b2.out) ?_; rw [hfin.out]))
  go_loopw [3, 4] (fun ov iv wr => ∃ i : Nat, i ≤ ws.length ∧ iv = .int .i64 (i : Int) ∧ ov = encStr (hd ++ textsB (ws.take i)) ∧ Below w.heap.size w wr) (fun _ iv _ => 200 - (intOf iv).toNat)
  case atStart => exact ⟨0, by omega, rfl, by rw [List.take_zero]; simp [textsB], B1⟩
  case round =>
    clear B1
    obtain ⟨i, hi, rfl, rfl, BW⟩ := hrel
    by_cases hlt : i < ws.length
    · have hltI : (i : Int) < (ws.length : Int) := by omega
      obtain ⟨a, ha⟩ : ∃ a, ws[i]? = some a := ⟨_, List.getElem?_eq_getElem hlt⟩
      obtain ⟨x1, g, off, rfl, c0⟩ := (h.later BW).at ha
      have hst : ws.take (i + 1) = ws.take i ++ [a] := by
        rw [List.take_succ_eq_append_getElem hlt]
        rw [List.getElem?_eq_getElem hlt] at ha
        injection ha with ha
        rw [ha]
      have hl1 := textsB_take_le ws i
      have hl0 := textsB_take_le ws (i + 1)
      have hl2 := text_in (List.mem_of_getElem? ha)
      have HT2 := bulk_any wr a (by have := hlen9.out; have := hcb9.out; omega)
      have hnew : (hd ++ textsB (ws.take i)) ++ textB a = hd ++ textsB (ws.take (i + 1)) := by rw [List.append_assoc, ← textsB_snoc, ← hst]
      have hbl := hide (show (hd ++ textsB (ws.take i)).length + (textB a).length ≤ 9223372036854775807 by
        rw [← List.length_append, hnew, List.length_append]
        have := hlen9.out; have := hcb9.out; omega)
      replace hnew := hide hnew
      generalize textsB (ws.take i) = pre at *
      generalize textB a = tb at *
      have hi9 := hide hi
      have h9 := hide h
      clear ha hst hl1 hl2 hl0 x1 hi h
      go_wp2_with (first
        | (with_reducible refine wl_run (o := ⟨some 19, _, _, _, _, _⟩) rfl (.pointer (some ⟨g, off + i * 1, none⟩)) (run_idxO 40 (.tmp 17) (.tmp 18) 9 1 g off ws.length c i rfl Tryd.underlying40 Tryd.sizeOf9 rfl rfl hlt) ?_))
      refine HT2.mono ?_
      rintro e w2 ⟨rfl, B2⟩
      have B3 := BW.trans (B2.mono BW.size)
      clear HT2
      go_wp2_with (first
        | (with_reducible refine wl_run (o := ⟨some 22, _, _, _, _, _⟩) rfl (encStr ((hd ++ pre) ++ tb)) (run_addStr (.tmp 16) (.tmp 21) rfl rfl rfl hbl.out) ?_; rw [hnew.out]))
      go_roundw
      case rel => exact ⟨i + 1, by omega, by go_num, rfl, B3⟩
      case measure => have := hn9.out; simp [intOf]; omega
    · obtain rfl : i = ws.length := by omega
      rw [List.take_length, ← hcm.out]
      go_wp2_with fail
      go_ret
      exact ⟨rfl, BW⟩
end Go.Proofs.YthjcmgjmdjihnaaDoor
