/-
  Numbers: the library's tables; a number's text, a text's number. Contracts. Own work.
-/
import Derived.Test.YthjcmgjmdjihnaaDoorRows
import Derived.Test.YthjcmgjmdjihnaaDoorChecked
import Derived.Test.YthjcmgjmdjihnaaDoorRun
import Derived.Test.YthjcmgjmdjihnaaDoorVerbN
import Derived.Test.YthjcmgjmdjihnaaDoorItoaS
import Derived.Test.YthjcmgjmdjihnaaDoorAtoiS
import Derived.Test.YthjcmgjmdjihnaaDoorOpen
import Derived.LaidMore
import Derived.Stop.LaidErr
import Derived.WalkSmall
import Derived.Lib.LaidTab
namespace Go.Proofs.YthjcmgjmdjihnaaDoor
open Go.RowKit
set_option linter.unusedVariables false
set_option linter.unusedSimpArgs false
/-- What the library's calls read. -/
structure TabV (w : World) : Prop where
  pow : Lib.TabIs Tryd.prog w "internal/strconv.uint64pow10" .u64 Lib.pow10Tab
  syn : ∃ t p, w.var? Tryd.prog "strconv.ErrSyntax" = some #[.iface t p]
  rng : ∃ t p, w.var? Tryd.prog "strconv.ErrRange" = some #[.iface t p]
theorem gPow : Tryd.prog.globalNamed "internal/strconv.uint64pow10" = some 1 := by kernel_rfl
theorem gSyn : Tryd.prog.globalNamed "strconv.ErrSyntax" = some 2 := by kernel_rfl
theorem gRng : Tryd.prog.globalNamed "strconv.ErrRange" = some 3 := by kernel_rfl
theorem var_lt {P : Program} {w : World} {n : String} {g : Nat} {cs : Array Value} (hg : P.globalNamed n = some g) (h : w.var? P n = some cs) : g < w.heap.size := by
  unfold World.var? at h
  rw [hg] at h
  rcases Nat.lt_or_ge g w.heap.size with h1 | h1
  · exact h1
  · simp [Array.getElem?_eq_none h1] at h
theorem TabV.later {w w' : World} (h : TabV w) (hb : Below w.heap.size w w') : TabV w' := by
  obtain ⟨t1, p1, e1⟩ := h.syn
  obtain ⟨t2, p2, e2⟩ := h.rng
  exact ⟨var?_below hb gPow (var_lt gPow h.pow) h.pow, ⟨t1, p1, var?_below hb gSyn (var_lt gSyn e1) e1⟩, ⟨t2, p2, var?_below hb gRng (var_lt gRng e2) e2⟩⟩
theorem below_gw (w : World) (k : Nat) (os : Array Obj) : Below w.heap.size w (Go.Sort.grow (w.drewN k) os) :=
  ⟨rfl, rfl, rfl, by simp [Go.Sort.grow], fun j hj => by simp only [Go.Sort.grow]; exact Array.getElem?_append_left hj⟩
theorem itoa_any (n : Int) (h0 : -9223372036854775808 ≤ n) (h1 : n ≤ 9223372036854775807) (w : World) (hT : TabV w) : Calls Tryd.prog 35 #[.int .i64 n] w fun e w' => e = .returned (encStr (Lib.itoa n)) ∧ Below w.heap.size w w' := by
  refine (Any.strconv_Itoa itoaSL n h0 h1 w hT.pow).mono ?_
  rintro e w' ⟨rfl, k, os, rfl⟩
  exact ⟨rfl, below_gw _ _ _⟩
set_option maxRecDepth 100000 in
theorem text_any (n : Int) (h0 : -9223372036854775808 ≤ n) (h1 : n ≤ 9223372036854775807) (w : World) (hT : TabV w) : Calls Tryd.prog 29 #[.int .i64 n] w fun e w' => e = .returned (encStr (Lib.itoa n)) ∧ Below w.heap.size w w' := by
  have H := itoa_any n h0 h1 w hT
  clear h0 h1 hT
  go_enter Tryd.func29, Tryd.ntmps29
  go_wp2_with fail
  refine H.mono ?_
  rintro e w' ⟨rfl, b⟩
  go_wp2_with fail
  go_ret
  exact ⟨rfl, b⟩
def AtoiRes (s : List UInt8) (w : World) (e : Ending) (w' : World) : Prop := ∃ (z : Int) (ev : Value), e = .returned (.tuple #[.int .i64 z, ev]) ∧ ((ev = .nilIface ∧ Lib.atoiAll s = .ok z) ∨ ((∃ t p, ev = .iface t p) ∧ ∀ v, Lib.atoiAll s ≠ .ok v)) ∧ Below w.heap.size w w'
theorem atoi_any (s : List UInt8) (hs : s.length ≤ 1000000) (w : World) (hT : TabV w) : Calls Tryd.prog 44 #[encStr s] w (AtoiRes s w) := by
  have hz : (⟨s.toArray⟩ : ByteArray).size ≤ 1000000 := by rw [str_len]; exact hs
  cases hq : Lib.atoiAll s
  · rename_i v
    refine (Any.strconv_Atoi_ok atoiSL ⟨s.toArray⟩ (by omega) v hq w).mono ?_
    rintro e w' ⟨rfl, hw⟩
    refine ⟨v, .nilIface, rfl, .inl ⟨rfl, hq⟩, ?_⟩
    rcases hw with rfl | ⟨t, rfl⟩
    · exact Below.refl _ _
    · exact Lib.bytesWorld_below _ _ _
  · obtain ⟨t, p, hv⟩ := hT.syn
    refine (Any.strconv_Atoi_syntax_var atoiSL ⟨s.toArray⟩ (by omega) hq t p w hv).mono ?_
    rintro e w' ⟨N, rfl, _, _, hb⟩
    exact ⟨_, _, rfl, .inr ⟨⟨_, _, rfl⟩, fun v h => by rw [hq] at h; cases h⟩, hb⟩
  · obtain ⟨t, p, hv⟩ := hT.rng
    refine (Any.strconv_Atoi_range_var atoiSL ⟨s.toArray⟩ (by omega) hq t p w hv).mono ?_
    rintro e w' ⟨N, rfl, _, _, hb⟩
    exact ⟨_, _, rfl, .inr ⟨⟨_, _, rfl⟩, fun v h => by rw [hq] at h; cases h⟩, hb⟩
set_option maxRecDepth 100000 in
set_option maxHeartbeats 1000000 in
theorem int_any (s : List UInt8) (hs : s.length ≤ 1000000) (w : World) (hT : TabV w) : Calls Tryd.prog 37 #[encStr s] w fun e w' => e = .returned (.tuple #[.int .i64 (intL s).1, .bool (intL s).2]) ∧ Below w.heap.size w w' := by
  have H := atoi_any s hs w hT
  obtain ⟨I, hIe⟩ : ∃ I, I = intL s := ⟨_, rfl⟩
  rw [← hIe]
  replace hIe := hide hIe
  go_enter Tryd.func37, Tryd.ntmps37
  go_wp2_with fail
  refine H.mono ?_
  rintro e w1 ⟨z, ev, rfl, hev, b1⟩
  have hT1 := hT.later b1
  clear H hT
  rcases hev with ⟨rfl, hz⟩ | ⟨⟨t, p, rfl⟩, hno⟩
  · obtain ⟨z0, z1⟩ := Lib.atoiAll_bounds hz
    have H2 := text_any z z0 z1 w1 hT1
    clear hT1 z0 z1
    by_cases hd : Lib.itoa z = s
    · have hI : intL s = (z, true) := by unfold intL; rw [hz]; simp only; rw [if_pos hd]
      obtain rfl : I = _ := hIe.out.trans hI
      replace hd := hide hd
      replace hz := hide hz
      clear hI hIe
      go_wp2_with fail
      refine H2.mono ?_
      rintro e w2 ⟨rfl, b2⟩
      clear H2
      go_wp2_with (first
        | (refine wg_run (o := ⟨some 17, _, _, _, _, _⟩) 2 false 13 rfl rfl rfl (.bool false) (run_neStr (.tmp 15) (.tmp 16) rfl rfl rfl (by rw [decide_eq_true hd.out]; rfl)) ?_))
      go_ret2
      exact ⟨rfl, b1.trans (b2.mono b1.size)⟩
    · have hI : intL s = (0, false) := by unfold intL; rw [hz]; simp only; rw [if_neg hd]
      obtain rfl : I = _ := hIe.out.trans hI
      replace hd := hide hd
      replace hz := hide hz
      clear hI hIe
      go_wp2_with fail
      refine H2.mono ?_
      rintro e w2 ⟨rfl, b2⟩
      clear H2
      go_wp2_with (first
        | (refine wg_run (o := ⟨some 17, _, _, _, _, _⟩) 2 false 13 rfl rfl rfl (.bool true) (run_neStr (.tmp 15) (.tmp 16) rfl rfl rfl (by rw [decide_eq_false hd.out]; rfl)) ?_))
      go_ret2
      exact ⟨rfl, b1.trans (b2.mono b1.size)⟩
  · have hI : intL s = (0, false) := by
      unfold intL
      split
      · rename_i n hn; exact absurd hn (hno n)
      · rfl
    obtain rfl : I = _ := hIe.out.trans hI
    clear hno hI hT1 hIe
    go_wp2_with fail
    go_ret2
    exact ⟨rfl, b1⟩
end Go.Proofs.YthjcmgjmdjihnaaDoor
