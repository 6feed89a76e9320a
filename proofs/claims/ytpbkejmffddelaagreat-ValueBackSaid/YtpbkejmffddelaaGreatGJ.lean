/-
  Several own texts in one: ValEa, ValEb, ValEc, ValEg, ValEd, ValEh. Own work.
-/
import Derived.Lib.ConvBytes
import Derived.Lib.LazyBuf
import Derived.Test.YtpbkejmffddelaaGreatGF
import Derived.Test.YtpbkejmffddelaaGreatGA
import Derived.Test.YtpbkejmffddelaaGreatGG
set_option linter.unusedVariables false
set_option linter.unusedSimpArgs false
/-
  Pack for values: numbers and texts put: contracts. Own work.
-/
namespace Go.Proofs.YtpbkejmffddelaaGreat
open Go.RowKit
set_option maxRecDepth 100000 in
set_option maxHeartbeats 2000000 in
theorem refPut32_any (A : Option Addr) (m c : Nat) (xs : List Int) (x : Int) (w : World) (h : Bs w w.heap.size A m xs) (hm : m ≤ 1000000) (h0 : 0 ≤ x) (h1 : x < 2 ^ 32) :
    Calls Tryz.prog 105 #[.slice A m c, .int .u32 x] w (RetBs (xs ++ highB x 4) w) := by
  go_enter Tryz.func105, Tryz.ntmps105
  go_wp2_with (first
    | (go_at_call 106
       refine (high_any x 4 _ h0 (by omega) (by omega)).mono ?_
       rintro e w1 ⟨A1, n1, c1, rfl, hb1, hn1, hc1, hl1⟩
       have hlen : n1 ≤ 8 := by have := hb1.1; rw [highB_length] at this; omega
       have h2 := h.later hl1)
    | (go_at_call 59; refine (both_any A A1 m n1 c c1 xs (highB x 4) _ h2 hb1 (by omega)).mono ?_; intro e w2 hr; obtain ⟨A2, n2, c2, rfl, hb2, hn2, hc2, hl2⟩ := hr.trans hl1))
  go_ret
  exact ⟨A2, n2, c2, rfl, hb2, hn2, hc2, hl2⟩
set_option maxRecDepth 100000 in
set_option maxHeartbeats 2000000 in
theorem refPut_any (A B : Option Addr) (m c n d : Nat) (xs ys : List Int) (w : World) (h : Bs w w.heap.size A m xs) (hy : Bs w w.heap.size B n ys) (hm : m ≤ 900000) (hn : n ≤ 100000) :
    Calls Tryz.prog 53 #[.slice A m c, .slice B n d] w (RetBs (xs ++ highB n 4 ++ ys) w) := by
  go_enter Tryz.func53, Tryz.ntmps53
  go_wp2_with (first
    | (go_at_call 105
       refine (refPut32_any A m c xs n _ h (by omega) (by omega) (by omega)).mono ?_
       rintro e w1 ⟨A1, n1, c1, rfl, hb1, hn1, hc1, hl1⟩
       have hlen : n1 ≤ 900004 := by have := hb1.1; rw [List.length_append, highB_length, h.1] at this; omega
       have h2 := hy.later hl1)
    | (go_at_call 59; refine (both_any A1 B n1 n c1 d (xs ++ highB n 4) ys _ hb1 h2 (by omega)).mono ?_; intro e w2 hr; obtain ⟨A2, n2, c2, rfl, hb2, hn2, hc2, hl2⟩ := hr.trans hl1))
  go_ret
  exact ⟨A2, n2, c2, rfl, hb2, hn2, hc2, hl2⟩
set_option maxRecDepth 100000 in
set_option maxHeartbeats 2000000 in
theorem packPut_any (A B : Option Addr) (m c n d : Nat) (xs ys : List Int) (w : World) (h : Bs w w.heap.size A m xs) (hy : Bs w w.heap.size B n ys) (hm : m ≤ 900000) (hn : n ≤ 100000) :
    Calls Tryz.prog 45 #[.slice A m c, .slice B n d] w (RetBs (xs ++ highB n 4 ++ ys) w) := by
  go_enter Tryz.func45, Tryz.ntmps45
  go_wp2_with (first
    | (go_at_call 102
       refine (put32_any none 0 0 [] n _ Bs.nil_ (by omega) (by omega) (by omega)).mono ?_
       rintro e w1 ⟨A1, n1, c1, rfl, hb1, hn1, hc1, hl1⟩
       rw [List.nil_append] at hb1
       have hl : n1 ≤ 4 := by have := hb1.1; rw [highB_length] at this; omega
       have hss := Bss.lit w1 31 [(A, m, c, xs), (A1, n1, c1, highB n 4), (B, n, d, ys)] (by
         intro x hx
         simp only [List.mem_cons, List.not_mem_nil, or_false] at hx
         rcases hx with rfl | rfl | rfl
         · exact h.later hl1
         · exact hb1
         · exact hy.later hl1)
       have HS := hide hss
       clear hss)
    | (go_at_call 50
       refine (join_any _ 3 3 [xs, highB n 4, ys] _ (HS.out.up (by simp)) (by omega) (by simp [sumLen, highB_length, h.1, hy.1]; omega)).mono ?_
       intro e w2 hr
       obtain ⟨A2, n2, c2, rfl, hb2, hn2, hc2, hl2⟩ := hr.trans (hl1.alloc hl1.size _)))
  go_ret
  exact ⟨A2, n2, c2, rfl, by simpa using hb2, hn2, hc2, hl2⟩
set_option maxRecDepth 100000 in
set_option maxHeartbeats 2000000 in
theorem packPutNum_any (A : Option Addr) (m c : Nat) (xs : List Int) (x : Int) (w : World) (h : Bs w w.heap.size A m xs) (hm : m ≤ 1000000) (h0 : -9223372036854775808 ≤ x) (h1 : x ≤ 9223372036854775807) :
    Calls Tryz.prog 46 #[.slice A m c, .int .i64 x] w (RetBs (xs ++ highB (max x 0) 8) w) := by
  have m0 : 0 ≤ max x 0 := by omega
  have m1 : max x 0 < 2 ^ 64 := by omega
  go_enter Tryz.func46, Tryz.ntmps46
  go_wp2_with (go_at_call 103; refine (put64_any A m c xs (max x 0) _ h hm m0 m1).mono ?_; rintro e w1 ⟨A1, n1, c1, rfl, hb, hn, hc, hl⟩)
  go_ret
  exact ⟨A1, n1, c1, rfl, hb, hn, hc, hl⟩
set_option maxRecDepth 100000 in
set_option maxHeartbeats 2000000 in
theorem refPut64_any (A : Option Addr) (m c : Nat) (xs : List Int) (x : Int) (w : World) (h : Bs w w.heap.size A m xs) (hm : m ≤ 1000000) (h0 : 0 ≤ x) (h1 : x < 2 ^ 64) :
    Calls Tryz.prog 54 #[.slice A m c, .int .u64 x] w (RetBs (xs ++ highB x 8) w) := by
  go_enter Tryz.func54, Tryz.ntmps54
  go_wp2_with (first
    | (go_at_call 106
       refine (high_any x 8 _ h0 (by omega) (by omega)).mono ?_
       rintro e w1 ⟨A1, n1, c1, rfl, hb1, hn1, hc1, hl1⟩
       have hlen : n1 ≤ 8 := by have := hb1.1; rw [highB_length] at this; omega
       have h2 := h.later hl1)
    | (go_at_call 59; refine (both_any A A1 m n1 c c1 xs (highB x 8) _ h2 hb1 (by omega)).mono ?_; intro e w2 hr; obtain ⟨A2, n2, c2, rfl, hb2, hn2, hc2, hl2⟩ := hr.trans hl1))
  go_ret
  exact ⟨A2, n2, c2, rfl, hb2, hn2, hc2, hl2⟩
set_option maxRecDepth 100000 in
set_option maxHeartbeats 2000000 in
theorem refPutNum_any (A : Option Addr) (m c : Nat) (xs : List Int) (x : Int) (w : World) (h : Bs w w.heap.size A m xs) (hm : m ≤ 1000000) (h0 : -9223372036854775808 ≤ x) (h1 : x ≤ 9223372036854775807) :
    Calls Tryz.prog 52 #[.slice A m c, .int .i64 x] w (RetBs (xs ++ highB (max x 0) 8) w) := by
  by_cases hx : 0 ≤ x
  · rw [show max x 0 = x from by omega]
    go_enter Tryz.func52, Tryz.ntmps52
    go_wp2_with (go_at_call 54; refine (refPut64_any A m c xs x _ h hm hx (by omega)).mono ?_; rintro e w1 ⟨A1, n1, c1, rfl, hb, hn, hc, hl⟩)
    go_ret
    exact ⟨A1, n1, c1, rfl, hb, hn, hc, hl⟩
  · rw [show max x 0 = 0 from by omega]
    go_enter Tryz.func52, Tryz.ntmps52
    go_wp2_with (go_at_call 54; refine (refPut64_any A m c xs 0 _ h hm (by omega) (by omega)).mono ?_; rintro e w1 ⟨A1, n1, c1, rfl, hb, hn, hc, hl⟩)
    go_ret
    exact ⟨A1, n1, c1, rfl, hb, hn, hc, hl⟩
end Go.Proofs.YtpbkejmffddelaaGreat

/-
  Texts as bytes: the bytes of a string, a conversion in a region; texts put. Own work.
-/
namespace Go.Proofs.YtpbkejmffddelaaGreat
open Go.RowKit Go.Shelf
/-- A text's bytes. -/
def nb (t : Nm) : List Int := t.map fun b => (b.toNat : Int)
theorem nb_len (t : Nm) : (nb t).length = t.length := by simp [nb]
theorem nb_by (t : Nm) : IsBy (nb t) := by
  intro x hx
  obtain ⟨b, _, rfl⟩ := List.mem_map.1 hx
  have := b.toNat_lt
  omega
theorem nb_str (t : Nm) : encStr t = .string (strOfNums (nb t)) := by rw [nb, Go.Lib.Lz.strOfNums_map]
section
variable {P : Program} {ops : Array Oper} {rest : List Oper} {o : Oper} {a : Act} {w : World} {Q : Exit → Act → World → Prop} {K : Act → World → Prop}
/-- Bytes of a text: a row of their own. -/
theorem st_convT (src dst e : TypeId) (x : Operand) (t : Nm) (ho : o.op = .convert src dst x) (hx : a.eval x = encStr t) {u : TypeDesc} (hs : P.underlying src = some u) (hd : P.underlying dst = some (.slice e)) (he : P.underlying e = some (.int .u8))
    (hk : ∀ A c w', Bs w' w'.heap.size A t.length (nb t) → Below w.heap.size w w' → K (a.put o.dst (.slice A t.length c)) w') : o.wp P a w K Q := by
  rw [nb_str] at hx
  have hz : (strOfNums (nb t)).size = t.length := by
    have := congrArg List.length (Lib.strOfNums_toList (nb t))
    rw [Lib.toList_data] at this
    simpa [Lib.bytesOf_length, nb_len] using this
  have hrun := Lib.run_convert_string_bytes (P := P) w src dst e (strOfNums (nb t)) hs hd he
  rw [hz] at hrun
  unfold Oper.wp execOp
  simp only [ho, hx, Sem.run_bind, Sem.run_pure, Result.andThen_ok, hrun]
  refine hk _ _ _ ⟨nb_len t, fun _ => ⟨w.heap.size, 0, rfl, by rw [Lib.bytesWorld_size]; omega, fun j hj => ?_⟩⟩ ?_
  · rw [Nat.zero_add, Lib.bytesWorld_cell w e _ j (by rw [hz]; exact hj)]
    have h1 : (strOfNums (nb t)).data.toList = Lib.bytesOf (nb t) := by rw [← Lib.toList_data, Lib.strOfNums_toList]
    rw [h1]
    have hl0 : j < (nb t).length := by rw [nb_len]; exact hj
    have hl : j < (Lib.bytesOf (nb t)).length := by rw [Lib.bytesOf_length]; exact hl0
    have h2 := nb_by t _ (List.getElem_mem hl0)
    simp only [List.getD, List.getElem?_eq_getElem hl, List.getElem?_eq_getElem hl0, Option.getD_some]
    simp only [Lib.bytesOf, List.getElem_map]
    congr 1
    simp
    omega
  · exact ⟨rfl, rfl, rfl, by rw [Lib.bytesWorld_size]; omega, fun k hk => Lib.bytesWorld_at_old w e _ k hk⟩
theorem wl_convT (hgd : o.guard = none) (src dst e : TypeId) (x : Operand) (t : Nm) (ho : o.op = .convert src dst x) (hx : a.eval x = encStr t) {u : TypeDesc} (hs : P.underlying src = some u) (hd : P.underlying dst = some (.slice e)) (he : P.underlying e = some (.int .u8))
    (hk : ∀ A c w', Bs w' w'.heap.size A t.length (nb t) → Below w.heap.size w w' → wpList P ops Q rest (a.put o.dst (.slice A t.length c)) w') : wpList P ops Q (o :: rest) a w :=
  wpList_plain hgd fun K hK => st_convT src dst e x t ho hx hs hd he fun A c w' h b => hK _ _ (hk A c w' h b)
end
/-- Bytes that a value stands for. -/
def ByF (xs : List Int) (v : Value) (w : World) : Prop := ∃ A n c, v = .slice A n c ∧ Bs w w.heap.size A n xs
theorem ByF.later {xs : List Int} {v : Value} {w w' : World} (h : ByF xs v w) (hb : Below w.heap.size w w') : ByF xs v w' := by
  obtain ⟨A, n, c, e, h⟩ := h
  exact ⟨A, n, c, e, h.later hb⟩
/-- A text put behind bytes. -/
def putT (b : List Int) (t : Nm) : List Int := b ++ highB t.length 4 ++ nb t
theorem putT_len (b : List Int) (t : Nm) : (putT b t).length = b.length + 4 + t.length := by simp [putT, highB_length, nb_len]; omega
theorem refPutT (A B : Option Addr) (m c n d : Nat) (xs : List Int) (t : Nm) (w : World) (h : Bs w w.heap.size A m xs) (hy : Bs w w.heap.size B n (nb t)) (hm : m ≤ 900000) (hn : t.length ≤ 100000) :
    Calls Tryz.prog 53 #[.slice A m c, .slice B n d] w (RetBs (putT xs t) w) := by
  have e : n = t.length := hy.1.symm.trans (nb_len t)
  subst e
  exact refPut_any A B m c _ d xs (nb t) w h hy hm hn
theorem packPutT (A B : Option Addr) (m c n d : Nat) (xs : List Int) (t : Nm) (w : World) (h : Bs w w.heap.size A m xs) (hy : Bs w w.heap.size B n (nb t)) (hm : m ≤ 900000) (hn : t.length ≤ 100000) :
    Calls Tryz.prog 45 #[.slice A m c, .slice B n d] w (RetBs (putT xs t) w) := by
  have e : n = t.length := hy.1.symm.trans (nb_len t)
  subst e
  exact packPut_any A B m c _ d xs (nb t) w h hy hm hn
end Go.Proofs.YtpbkejmffddelaaGreat

/-
  Entry, both; numbers and texts put, in rows of one's own. Own work.
-/
namespace Go.Proofs.YtpbkejmffddelaaGreat
open Go.RowKit Go.Shelf
abbrev TE : TypeId := 28
abbrev enC (key : Nm) (x : Vl) (vp vl vs : Value) (at_ : Int) : List Value := [encStr key] ++ (vlC x vp vl vs ++ [.int .i64 at_])
abbrev enV (key : Nm) (x : Vl) (vp vl vs : Value) (at_ : Int) : Value := .agg (enC key x vp vl vs at_).toArray
def entC (key : Nm) (at_ c : Int) : Int := if key.length < 1 ∨ 64 < key.length ∨ at_ < 0 ∨ 1099511627776 < at_ then 1 else c
theorem entC_bad {key : Nm} {at_ c : Int} (h : key.length < 1 ∨ 64 < key.length ∨ at_ < 0 ∨ 1099511627776 < at_) : entC key at_ c = 1 := by unfold entC; rw [if_pos h]
theorem entC_ok {key : Nm} {at_ c : Int} (h : ¬ (key.length < 1 ∨ 64 < key.length ∨ at_ < 0 ∨ 1099511627776 < at_)) : entC key at_ c = c := by unfold entC; rw [if_neg h]
set_option maxRecDepth 100000 in
set_option maxHeartbeats 2000000 in
theorem entry_any (w : World) (key : Nm) (x : Vl) (vp vl vs : Value) (at_ : Int) (HC : ∀ w1, Below w.heap.size w w1 → Calls Tryz.prog 79 #[vlV x vp vl vs] w1 fun e w' => e = .returned (.int .i64 x.chk) ∧ Below w1.heap.size w1 w') :
    Calls Tryz.prog 42 #[enV key x vp vl vs at_] w fun e w' => e = .returned (.int .i64 (entC key at_ (x.chk))) ∧ Below w.heap.size w w' := by
  have hst := str_len key
  have hsz := szVl x vp vl vs
  by_cases h1 : key.length < 1
  · have h1I : (key.length : Int) < 1 := by omega
    have hE := hide (entC_bad (key := key) (at_ := at_) (c := x.chk) (.inl h1))
    go_enter Tryz.func42, Tryz.ntmps42
    go_wp2_with (first
      | ((with_reducible refine wl_box (o := ⟨some 1, _, _, _, _, _⟩) rfl 28 (.tmp 0) _ (enC key x vp vl vs at_) rfl rfl rfl ?_); intro g1 w1 r1 p1 l1 b1; have c0 := r1.cell (j := 0) rfl; have c6 := r1.cell (j := 6) rfl))
    go_ret
    exact ⟨by show Ending.returned (.int .i64 1) = _; rw [hE.out], b1⟩
  · have h1I : ¬ (key.length : Int) < 1 := by omega
    by_cases h2 : 64 < key.length
    · have h2I : (64 : Int) < (key.length : Int) := by omega
      have hE := hide (entC_bad (key := key) (at_ := at_) (c := x.chk) (.inr (.inl h2)))
      go_enter Tryz.func42, Tryz.ntmps42
      go_wp2_with (first
        | ((with_reducible refine wl_box (o := ⟨some 1, _, _, _, _, _⟩) rfl 28 (.tmp 0) _ (enC key x vp vl vs at_) rfl rfl rfl ?_); intro g1 w1 r1 p1 l1 b1; have c0 := r1.cell (j := 0) rfl; have c6 := r1.cell (j := 6) rfl))
      go_ret
      exact ⟨by show Ending.returned (.int .i64 1) = _; rw [hE.out], b1⟩
    · have h2I : ¬ (64 : Int) < (key.length : Int) := by omega
      by_cases h3 : at_ < 0
      · have hE := hide (entC_bad (key := key) (at_ := at_) (c := x.chk) (.inr (.inr (.inl h3))))
        go_enter Tryz.func42, Tryz.ntmps42
        go_wp2_with (first
          | ((with_reducible refine wl_box (o := ⟨some 1, _, _, _, _, _⟩) rfl 28 (.tmp 0) _ (enC key x vp vl vs at_) rfl rfl rfl ?_); intro g1 w1 r1 p1 l1 b1; have c0 := r1.cell (j := 0) rfl; have c6 := r1.cell (j := 6) rfl))
        go_ret
        exact ⟨by show Ending.returned (.int .i64 1) = _; rw [hE.out], b1⟩
      · by_cases h4 : 1099511627776 < at_
        · have hE := hide (entC_bad (key := key) (at_ := at_) (c := x.chk) (.inr (.inr (.inr h4))))
          go_enter Tryz.func42, Tryz.ntmps42
          go_wp2_with (first
            | ((with_reducible refine wl_box (o := ⟨some 1, _, _, _, _, _⟩) rfl 28 (.tmp 0) _ (enC key x vp vl vs at_) rfl rfl rfl ?_); intro g1 w1 r1 p1 l1 b1; have c0 := r1.cell (j := 0) rfl; have c6 := r1.cell (j := 6) rfl))
          go_ret
          exact ⟨by show Ending.returned (.int .i64 1) = _; rw [hE.out], b1⟩
        · have hE := hide (entC_ok (key := key) (at_ := at_) (c := x.chk) (by omega))
          replace HC := hide HC
          go_enter Tryz.func42, Tryz.ntmps42
          go_wp2_with (first
            | ((with_reducible refine wl_box (o := ⟨some 1, _, _, _, _, _⟩) rfl 28 (.tmp 0) _ (enC key x vp vl vs at_) rfl rfl rfl ?_); intro g1 w1 r1 p1 l1 b1; have c0 := r1.cell (j := 0) rfl; have c6 := r1.cell (j := 6) rfl)
            | (with_reducible refine wl_load_part (o := ⟨some 24, _, _, _, _, _⟩) rfl 26 (.tmp 23) g1 1 28 [encStr key] (vlC x vp vl vs) [.int .i64 at_] _ rfl rfl r1 rfl Tryz.underlying26 rfl hsz ?_))
          refine (HC.out w1 b1).mono ?_
          rintro e w2 ⟨rfl, b2⟩
          go_wp2_with fail
          go_ret
          exact ⟨by rw [hE.out]; rfl, b1.trans (b2.mono b1.size)⟩

set_option maxRecDepth 100000 in
set_option maxHeartbeats 2000000 in
theorem rentry_any (w : World) (key : Nm) (x : Vl) (vp vl vs : Value) (at_ : Int) (HC : ∀ w1, Below w.heap.size w w1 → Calls Tryz.prog 22 #[vlV x vp vl vs] w1 fun e w' => e = .returned (.int .i64 x.rchk) ∧ Below w1.heap.size w1 w') :
    Calls Tryz.prog 51 #[enV key x vp vl vs at_] w fun e w' => e = .returned (.int .i64 (entC key at_ (x.rchk))) ∧ Below w.heap.size w w' := by
  have hst := str_len key
  have hsz := szVl x vp vl vs
  by_cases h1 : key.length < 1
  · have h1I : (key.length : Int) < 1 := by omega
    have hE := hide (entC_bad (key := key) (at_ := at_) (c := x.rchk) (.inl h1))
    go_enter Tryz.func51, Tryz.ntmps51
    go_wp2_with (first
      | ((with_reducible refine wl_box (o := ⟨some 1, _, _, _, _, _⟩) rfl 28 (.tmp 0) _ (enC key x vp vl vs at_) rfl rfl rfl ?_); intro g1 w1 r1 p1 l1 b1; have c0 := r1.cell (j := 0) rfl; have c6 := r1.cell (j := 6) rfl))
    go_ret
    exact ⟨by show Ending.returned (.int .i64 1) = _; rw [hE.out], b1⟩
  · have h1I : ¬ (key.length : Int) < 1 := by omega
    by_cases h2 : 64 < key.length
    · have h2I : (64 : Int) < (key.length : Int) := by omega
      have hE := hide (entC_bad (key := key) (at_ := at_) (c := x.rchk) (.inr (.inl h2)))
      go_enter Tryz.func51, Tryz.ntmps51
      go_wp2_with (first
        | ((with_reducible refine wl_box (o := ⟨some 1, _, _, _, _, _⟩) rfl 28 (.tmp 0) _ (enC key x vp vl vs at_) rfl rfl rfl ?_); intro g1 w1 r1 p1 l1 b1; have c0 := r1.cell (j := 0) rfl; have c6 := r1.cell (j := 6) rfl))
      go_ret
      exact ⟨by show Ending.returned (.int .i64 1) = _; rw [hE.out], b1⟩
    · have h2I : ¬ (64 : Int) < (key.length : Int) := by omega
      by_cases h3 : at_ < 0
      · have hE := hide (entC_bad (key := key) (at_ := at_) (c := x.rchk) (.inr (.inr (.inl h3))))
        go_enter Tryz.func51, Tryz.ntmps51
        go_wp2_with (first
          | ((with_reducible refine wl_box (o := ⟨some 1, _, _, _, _, _⟩) rfl 28 (.tmp 0) _ (enC key x vp vl vs at_) rfl rfl rfl ?_); intro g1 w1 r1 p1 l1 b1; have c0 := r1.cell (j := 0) rfl; have c6 := r1.cell (j := 6) rfl))
        go_ret
        exact ⟨by show Ending.returned (.int .i64 1) = _; rw [hE.out], b1⟩
      · by_cases h4 : 1099511627776 < at_
        · have hE := hide (entC_bad (key := key) (at_ := at_) (c := x.rchk) (.inr (.inr (.inr h4))))
          go_enter Tryz.func51, Tryz.ntmps51
          go_wp2_with (first
            | ((with_reducible refine wl_box (o := ⟨some 1, _, _, _, _, _⟩) rfl 28 (.tmp 0) _ (enC key x vp vl vs at_) rfl rfl rfl ?_); intro g1 w1 r1 p1 l1 b1; have c0 := r1.cell (j := 0) rfl; have c6 := r1.cell (j := 6) rfl))
          go_ret
          exact ⟨by show Ending.returned (.int .i64 1) = _; rw [hE.out], b1⟩
        · have hE := hide (entC_ok (key := key) (at_ := at_) (c := x.rchk) (by omega))
          replace HC := hide HC
          go_enter Tryz.func51, Tryz.ntmps51
          go_wp2_with (first
            | ((with_reducible refine wl_box (o := ⟨some 1, _, _, _, _, _⟩) rfl 28 (.tmp 0) _ (enC key x vp vl vs at_) rfl rfl rfl ?_); intro g1 w1 r1 p1 l1 b1; have c0 := r1.cell (j := 0) rfl; have c6 := r1.cell (j := 6) rfl)
            | (with_reducible refine wl_load_part (o := ⟨some 24, _, _, _, _, _⟩) rfl 26 (.tmp 23) g1 1 28 [encStr key] (vlC x vp vl vs) [.int .i64 at_] _ rfl rfl r1 rfl Tryz.underlying26 rfl hsz ?_))
          refine (HC.out w1 b1).mono ?_
          rintro e w2 ⟨rfl, b2⟩
          go_wp2_with fail
          go_ret
          exact ⟨by rw [hE.out]; rfl, b1.trans (b2.mono b1.size)⟩

/-- Bytes that a call made: a row of one's own. -/
def RetS (xs : List Int) (w : World) (e : Ending) (w' : World) : Prop := ∃ A n c, e = .returned (.slice A n c) ∧ w'.ownsRow w.heap.size 5 1 (.slice A n c) n (bv xs) ∧ Below w.heap.size w w'
def OwS (B : Nat) (xs : List Int) (v : Value) (w : World) : Prop := ∃ A n c, v = .slice A n c ∧ w.ownsRow B 5 1 (.slice A n c) n (bv xs)
theorem OwS.later {B : Nat} {xs : List Int} {v : Value} {w w' : World} (h : OwS B xs v w) (hb : Below w.heap.size w w') : OwS B xs v w' := by
  obtain ⟨A, n, c, e, h⟩ := h
  exact ⟨A, n, c, e, own_later h hb⟩
theorem own_bs2 {w : World} {B T n c : Nat} {A : Option Addr} {xs : List Int} (h : w.ownsRow B T 1 (.slice A n c) n (bv xs)) : Bs w w.heap.size A n xs := by
  obtain ⟨A', c', e, h1, _⟩ := ownsRow_bs h
  injection e with q1 q2 q3
  subst q1
  exact h1
theorem retS_of {w w1 w2 : World} {v : Value} {n : Nat} {xs : List Int} (h : w2.ownsRow w1.heap.size 5 1 v n (bv xs)) (h1 : Below w.heap.size w w1) (h2 : Below w1.heap.size w1 w2) : RetS xs w (.returned v) w2 := by
  obtain ⟨A, c, rfl, _⟩ := ownsRow_bs h
  exact ⟨A, n, c, rfl, own_low h h1.size, h1.trans (h2.mono h1.size)⟩
set_option maxRecDepth 100000 in
set_option maxHeartbeats 2000000 in
theorem refPut64_own (A : Option Addr) (m c : Nat) (xs : List Int) (x : Int) (w : World) (h : Bs w w.heap.size A m xs) (hm : m ≤ 1000000) (h0 : 0 ≤ x) (h1 : x < 2 ^ 64) :
    Calls Tryz.prog 54 #[.slice A m c, .int .u64 x] w (RetS (xs ++ highB x 8) w) := by
  go_enter Tryz.func54, Tryz.ntmps54
  go_wp2_with (first
    | (go_at_call 106
       refine (high_any x 8 _ h0 (by omega) (by omega)).mono ?_
       rintro e w1 ⟨A1, n1, c1, rfl, hb1, hn1, hc1, hl1⟩
       have hlen : n1 ≤ 8 := by have := hb1.1; rw [highB_length] at this; omega
       have h2 := h.later hl1)
    | (go_at_call 59; refine (both_own A A1 m n1 c c1 xs (highB x 8) _ h2 hb1 (by omega)).mono ?_; rintro e w2 ⟨v2, rfl, ho2, hl2⟩))
  go_ret
  exact retS_of ho2 hl1 hl2
set_option maxRecDepth 100000 in
set_option maxHeartbeats 2000000 in
theorem refPutNum_own (A : Option Addr) (m c : Nat) (xs : List Int) (x : Int) (w : World) (h : Bs w w.heap.size A m xs) (hm : m ≤ 1000000) (h0 : -9223372036854775808 ≤ x) (h1 : x ≤ 9223372036854775807) :
    Calls Tryz.prog 52 #[.slice A m c, .int .i64 x] w (RetS (xs ++ highB (max x 0) 8) w) := by
  by_cases hx : 0 ≤ x
  · rw [show max x 0 = x from by omega]
    go_enter Tryz.func52, Tryz.ntmps52
    go_wp2_with (go_at_call 54; refine (refPut64_own A m c xs x _ h hm hx (by omega)).mono ?_; rintro e w1 ⟨A1, n1, c1, rfl, ho, hl⟩)
    go_ret
    exact ⟨A1, n1, c1, rfl, ho, hl⟩
  · rw [show max x 0 = 0 from by omega]
    go_enter Tryz.func52, Tryz.ntmps52
    go_wp2_with (go_at_call 54; refine (refPut64_own A m c xs 0 _ h hm (by omega) (by omega)).mono ?_; rintro e w1 ⟨A1, n1, c1, rfl, ho, hl⟩)
    go_ret
    exact ⟨A1, n1, c1, rfl, ho, hl⟩
set_option maxRecDepth 100000 in
set_option maxHeartbeats 2000000 in
theorem refPutT_own (A B : Option Addr) (m c n d : Nat) (xs : List Int) (t : Nm) (w : World) (h : Bs w w.heap.size A m xs) (hy : Bs w w.heap.size B n (nb t)) (hm : m ≤ 900000) (hn : t.length ≤ 100000) :
    Calls Tryz.prog 53 #[.slice A m c, .slice B n d] w (RetS (putT xs t) w) := by
  have e : n = t.length := hy.1.symm.trans (nb_len t)
  subst e
  go_enter Tryz.func53, Tryz.ntmps53
  go_wp2_with (first
    | (go_at_call 105
       refine (refPut32_any A m c xs t.length _ h (by omega) (by omega) (by omega)).mono ?_
       rintro e w1 ⟨A1, n1, c1, rfl, hb1, hn1, hc1, hl1⟩
       have hlen : n1 ≤ 900004 := by have := hb1.1; rw [List.length_append, highB_length, h.1] at this; omega
       have h2 := hy.later hl1)
    | (go_at_call 59; refine (both_own A1 B n1 t.length c1 d (xs ++ highB t.length 4) (nb t) _ hb1 h2 (by omega)).mono ?_; rintro e w2 ⟨v2, rfl, ho2, hl2⟩))
  go_ret
  exact retS_of ho2 hl1 hl2
end Go.Proofs.YtpbkejmffddelaaGreat

/-
  What the program checks is what the document checks. Own work.
-/
namespace Go.Proofs.YtpbkejmffddelaaGreat
open Go.RowKit Go.Shelf
theorem lng_app (a b : List Nm) : lng (a ++ b) = (lng a || lng b) := by simp [lng, List.any_append]
theorem lngT_app (a b : List (List Int × List Nm)) : lngT (a ++ b) = (lngT a || lngT b) := by simp [lngT, List.any_append]
structure OwnE (x : Vl) : Prop where
  t : x.t = if x.k = 1 then x.t else []
  p : x.ps = if x.k = 2 then x.ps else []
  l : x.ls = if x.k = 3 ∨ x.k = 4 then x.ls else []
  s : x.ss = if x.k = 5 then x.ss else []
theorem ownE {x : Vl} (h : x = x.own) : OwnE x := ⟨congrArg Vl.t h, congrArg Vl.ps h, congrArg Vl.ls h, congrArg Vl.ss h⟩
theorem own_of {x : Vl} (h : OwnE x) : x = x.own := by
  obtain ⟨k, t, ps, ls, ss⟩ := x
  obtain ⟨h1, h2, h3, h4⟩ := h
  simp only at h1 h2 h3 h4
  unfold Vl.own
  simp only
  rw [← h1, ← h2, ← h3, ← h4]
theorem odd_own {x : Vl} : x.oddB = false ↔ x = x.own := by
  constructor
  · intro h
    unfold Vl.oddB at h
    simp only [Bool.or_eq_false_iff, Bool.and_eq_false_iff, Bool.not_eq_false', decide_eq_true_eq, decide_eq_false_iff_not] at h
    obtain ⟨h1, h2, h3, h4⟩ := h
    refine own_of ⟨?_, ?_, ?_, ?_⟩
    · rcases h1 with h | h
      · rw [if_pos h]
      · by_cases hk : x.k = 1
        · rw [if_pos hk]
        · rw [if_neg hk]; exact h
    · rcases h2 with h | h
      · rw [if_pos h]
      · have : x.ps = [] := List.eq_nil_of_length_eq_zero (by omega)
        rw [this]; simp
    · rcases h4 with h | h | h
      · rw [if_pos (.inl h)]
      · rw [if_pos (.inr h)]
      · have : x.ls = [] := List.eq_nil_of_length_eq_zero (by omega)
        rw [this]; simp
    · rcases h3 with h | h
      · rw [if_pos h]
      · have : x.ss = [] := List.eq_nil_of_length_eq_zero (by omega)
        rw [this]; simp
  · intro h
    obtain ⟨h1, h2, h3, h4⟩ := ownE h
    unfold Vl.oddB
    simp only [Bool.or_eq_false_iff, Bool.and_eq_false_iff, Bool.not_eq_false', decide_eq_true_eq, decide_eq_false_iff_not]
    refine ⟨?_, ?_, ?_, ?_⟩
    · by_cases hk : x.k = 1
      · exact .inl hk
      · rw [if_neg hk] at h1; exact .inr h1
    · by_cases hk : x.k = 2
      · exact .inl hk
      · rw [if_neg hk] at h2; exact .inr (by rw [h2]; simp)
    · by_cases hk : x.k = 5
      · exact .inl hk
      · rw [if_neg hk] at h4; exact .inr (by rw [h4]; simp)
    · by_cases hk : x.k = 3
      · exact .inl hk
      · by_cases hk4 : x.k = 4
        · exact .inr (.inl hk4)
        · rw [if_neg (by rintro (c | c) <;> contradiction)] at h3; exact .inr (.inr (by rw [h3]; simp))
theorem lngT_p (ps : List Pr) : lngT (ps.map fun p => (([] : List Int), [p.f, p.t])) = lng (prT ps) := by
  induction ps with
  | nil => rfl
  | cons a r ih => rw [List.map_cons, show prT (a :: r) = [a.f, a.t] ++ prT r from rfl, lng_app, ← ih]; rfl
theorem lngT_l (ls : List Nm) : lngT (ls.map fun t => (([] : List Int), [t])) = lng ls := by
  induction ls with
  | nil => rfl
  | cons a r ih => rw [List.map_cons, show a :: r = [a] ++ r from rfl, lng_app, ← ih]; rfl
theorem lngT_s (ss : List Sc) : lngT (ss.map fun a => (highB (IntKind.u64.wrap a.s) 8, [a.m])) = lng (ss.map Sc.m) := by
  induction ss with
  | nil => rfl
  | cons a r ih => rw [List.map_cons, List.map_cons, show a.m :: r.map Sc.m = [a.m] ++ r.map Sc.m from rfl, lng_app, ← ih]; rfl
theorem lng_tells {x : Vl} (h : OwnE x) : lngT x.tells = lng x.texts := by
  unfold Vl.tells Vl.texts
  rw [lngT_app, lngT_app, lngT_app, lngT_p, lngT_l, lngT_s, lng_app, lng_app, lng_app]
  have : lngT (if x.k = 1 then [(([] : List Int), [x.t])] else []) = lng [x.t] := by
    by_cases hk : x.k = 1
    · rw [if_pos hk]; simp [lngT]
    · rw [if_neg hk]
      have := h.t
      rw [if_neg hk] at this
      rw [this]; rfl
  rw [this, Bool.or_assoc, Bool.or_assoc]
theorem totT_p (ps : List Pr) : totT (ps.map fun p => (([] : List Int), [p.f, p.t])) = tot (prT ps) := by
  induction ps with
  | nil => rfl
  | cons a r ih => rw [List.map_cons, show prT (a :: r) = [a.f, a.t] ++ prT r from rfl, tot_app, ← ih]; simp [totT]
theorem totT_l (ls : List Nm) : totT (ls.map fun t => (([] : List Int), [t])) = tot ls := by
  induction ls with
  | nil => rfl
  | cons a r ih => rw [List.map_cons, show a :: r = [a] ++ r from rfl, tot_app, ← ih]; simp [totT]
theorem totT_s (ss : List Sc) : totT (ss.map fun a => (highB (IntKind.u64.wrap a.s) 8, [a.m])) = 8 * ss.length + tot (ss.map Sc.m) := by
  induction ss with
  | nil => rfl
  | cons a r ih =>
    rw [List.map_cons, List.map_cons, totT, ih]
    simp only [tot, highB, List.length_reverse, lowB_length, List.length_cons]; omega
theorem tot_tells {x : Vl} (h : OwnE x) : totT x.tells = 8 * x.ss.length + tot x.texts := by
  unfold Vl.tells Vl.texts
  rw [totT_app, totT_app, totT_app, totT_p, totT_l, totT_s, tot_app, tot_app, tot_app]
  have : totT (if x.k = 1 then [(([] : List Int), [x.t])] else []) = tot [x.t] := by
    by_cases hk : x.k = 1
    · rw [if_pos hk]; simp [totT]
    · rw [if_neg hk]
      have := h.t
      rw [if_neg hk] at this
      rw [this]; rfl
  rw [this]; omega
theorem ord_dord {x : Vl} (h : OwnE x) : x.ordB = x.dord := by
  obtain ⟨h1, h2, h3, h4⟩ := h
  unfold Vl.ordB Vl.dord
  by_cases k2 : x.k = 2
  · rw [if_neg (by omega)] at h3 h4
    rw [h3, h4, if_pos k2]; simp [riseB, frB]
  · rw [if_neg k2] at h2
    rw [if_neg k2, h2]
    by_cases k4 : x.k = 4
    · rw [if_neg (by omega)] at h4
      rw [if_pos k4, h4]; simp [riseB, frB, k4]
    · rw [if_neg k4]
      by_cases k5 : x.k = 5
      · rw [if_pos k5]; simp [riseB, k4]
      · rw [if_neg k5] at h4
        rw [if_neg k5, h4]; simp [riseB, frB, k4]
theorem chk_eq (x : Vl) : x.chk = x.rchk := by
  unfold Vl.chk Vl.rchk
  by_cases hk : 1 ≤ x.k ∧ x.k ≤ 5
  · by_cases hx : x = x.own
    · have hO := ownE hx
      have hod := odd_own.2 hx
      rw [← hx, lng_tells hO, ord_dord hO, hod, decide_eq_true hk]
      generalize (x.ps.length : Int) + x.ls.length + x.ss.length = q
      unfold chk rchk
      by_cases k1 : x.k = 1
      · simp [k1]
      · have e1 : ¬ x.k < 1 := by omega
        have e5 : ¬ 5 < x.k := by omega
        have e2 : 1 < x.k := by omega
        simp [k1, e1, e5, e2]
    · have hod : x.oddB = true := by
        cases h : x.oddB with
        | true => rfl
        | false => exact absurd (odd_own.1 h) hx
      rw [hod, decide_eq_false hx]
      unfold chk rchk
      simp
  · have h1 : x.k < 1 ∨ 5 < x.k := by omega
    rw [decide_eq_false hk]
    unfold chk rchk
    rw [if_pos (by simp), if_pos (by rcases h1 with h | h; exact .inl h; exact .inr (.inl h))]
theorem rchk_ok {x : Vl} (h : x.rchk = 0) : x = x.own ∧ lng x.texts = false := by
  unfold Vl.rchk rchk at h
  split at h
  · cases h
  · rename_i hn
    split at h
    · cases h
    · split at h
      · cases h
      · rename_i ht
        refine ⟨odd_own.1 ?_, by simpa using ht⟩
        cases ho : x.oddB with
        | false => rfl
        | true => exact absurd (.inr (.inr (.inl ho))) hn
theorem rchk_few {x : Vl} (h : x.rchk = 0) : x.ps.length + x.ls.length + x.ss.length ≤ 200 := by
  unfold Vl.rchk rchk at h
  split at h
  · cases h
  · split at h
    · cases h
    · omega
theorem entC_zero {key : Nm} {at_ c : Int} (h : entC key at_ c = 0) : c = 0 ∧ key.length ≤ 64 ∧ 0 ≤ at_ ∧ at_ ≤ 1099511627776 := by
  unfold entC at h
  split at h
  · cases h
  · exact ⟨h, by omega, by omega, by omega⟩
theorem lng_at {ts : List Nm} (h : lng ts = false) {t : Nm} (ht : t ∈ ts) : t.length ≤ 512 := by
  have := List.any_eq_false.1 h t ht
  simpa using this
end Go.Proofs.YtpbkejmffddelaaGreat

/-
  The document's Encode. Own work.
-/
namespace Go.Proofs.YtpbkejmffddelaaGreat
open Go.RowKit Go.Shelf
/-- An entry's bytes, as the document says them. -/
def encH (key : Nm) (at_ k : Int) : List Int := putT [] key ++ highB (max at_ 0) 8 ++ [IntKind.u8.wrap k]
def encP (b : List Int) (l : List Pr) : List Int := l.foldl (fun b p => putT (putT b p.f) p.t) b
def encL (b : List Int) (l : List Nm) : List Int := l.foldl putT b
def encS (b : List Int) (l : List Sc) : List Int := l.foldl (fun b a => putT b a.m ++ highB (IntKind.u64.wrap a.s) 8) b
def encC (key : Nm) (x : Vl) (at_ : Int) : List Int := encH key at_ x.k ++ highB (max ((x.ps.length : Int) + x.ls.length + x.ss.length) 0) 8
def encB (key : Nm) (x : Vl) (at_ : Int) : List Int := if x.k = 1 then putT (encH key at_ x.k) x.t else encS (encL (encP (encC key x at_) x.ps) x.ls) x.ss
theorem encP_more {b : List Int} {l : List Pr} {i : Nat} {p : Pr} (h : l[i]? = some p) : encP b (l.take (i + 1)) = putT (putT (encP b (l.take i)) p.f) p.t := by rw [encP, take_more h, List.foldl_append]; rfl
theorem encL_more {b : List Int} {l : List Nm} {i : Nat} {p : Nm} (h : l[i]? = some p) : encL b (l.take (i + 1)) = putT (encL b (l.take i)) p := by rw [encL, take_more h, List.foldl_append]; rfl
theorem encS_more {b : List Int} {l : List Sc} {i : Nat} {p : Sc} (h : l[i]? = some p) : encS b (l.take (i + 1)) = putT (encS b (l.take i)) p.m ++ highB (IntKind.u64.wrap p.s) 8 := by rw [encS, take_more h, List.foldl_append]; rfl
theorem encP_len : ∀ (l : List Pr) (b : List Int), (∀ p ∈ l, p.f.length ≤ 512 ∧ p.t.length ≤ 512) → (encP b l).length ≤ b.length + 1032 * l.length
  | [], b, _ => by simp [encP]
  | p :: r, b, h => by
    have h1 := h p (by simp)
    have := encP_len r (putT (putT b p.f) p.t) (fun q hq => h q (by simp [hq]))
    rw [putT_len, putT_len] at this
    show (encP (putT (putT b p.f) p.t) r).length ≤ _
    simp only [List.length_cons]
    omega
theorem encL_len : ∀ (l : List Nm) (b : List Int), (∀ p ∈ l, p.length ≤ 512) → (encL b l).length ≤ b.length + 516 * l.length
  | [], b, _ => by simp [encL]
  | p :: r, b, h => by
    have h1 := h p (by simp)
    have := encL_len r (putT b p) (fun q hq => h q (by simp [hq]))
    rw [putT_len] at this
    show (encL (putT b p) r).length ≤ _
    simp only [List.length_cons]
    omega
theorem encS_len : ∀ (l : List Sc) (b : List Int), (∀ p ∈ l, p.m.length ≤ 512) → (encS b l).length ≤ b.length + 524 * l.length
  | [], b, _ => by simp [encS]
  | p :: r, b, h => by
    have h1 := h p (by simp)
    have := encS_len r (putT b p.m ++ highB (IntKind.u64.wrap p.s) 8) (fun q hq => h q (by simp [hq]))
    rw [List.length_append, putT_len, highB_length] at this
    show (encS (putT b p.m ++ highB (IntKind.u64.wrap p.s) 8) r).length ≤ _
    simp only [List.length_cons]
    omega
theorem encH_len (key : Nm) (at_ k : Int) : (encH key at_ k).length = key.length + 13 := by
  rw [encH, List.length_append, List.length_append, putT_len, highB_length]; simp; omega
theorem encC_len (key : Nm) (x : Vl) (at_ : Int) : (encC key x at_).length = key.length + 21 := by
  rw [encC, List.length_append, encH_len, highB_length]
theorem mem_prT {ps : List Pr} {p : Pr} (h : p ∈ ps) : p.f ∈ prT ps ∧ p.t ∈ prT ps := ⟨List.mem_flatMap.2 ⟨p, h, by simp⟩, List.mem_flatMap.2 ⟨p, h, by simp⟩⟩
theorem szEnt (key : Nm) (x : Vl) (vp vl vs : Value) (at_ : Int) : (Tryz.prog.info? 28).map (·.size) = some (enC key x vp vl vs at_).length := by kernel_rfl
def FRh (gB : Nat) (key : Nm) (at_ : Int) (opn : Nat) (v : Value) (w : World) : Prop :=
  match opn with
  | 2 => ByF (nb key) v w
  | 3 => OwS gB (putT [] key) v w
  | 6 => OwS gB (putT [] key ++ highB (max at_ 0) 8) v w
  | 7 => OwS gB (putT [] key ++ highB (max at_ 0) 8) v w
  | _ => True
theorem FRh_mono (gB : Nat) (key : Nm) (at_ : Int) : ∀ j v w w', FRh gB key at_ j v w → Below w.heap.size w w' → FRh gB key at_ j v w' := by
  intro j v w w' h hb
  unfold FRh at h ⊢
  split at h
  · exact h.later hb
  · exact h.later hb
  · exact h.later hb
  · exact h.later hb
  · trivial

def SRh (g1 : Nat) (key : Nm) (at_ : Int) (opn : Nat) (v : Value) : Prop :=
  match opn with
  | 0 => v = .pointer (some ⟨g1, 0, none⟩)
  | 1 => v = encStr key
  | 4 => v = .pointer (some ⟨g1, 6, none⟩)
  | 5 => v = .int .i64 at_
  | _ => True

def FRp (gB : Nat) (b : List Int) (p : Pr) (opn : Nat) (v : Value) (w : World) : Prop :=
  match opn with
  | 8 => ByF (nb p.f) v w
  | 9 => OwS gB (putT b p.f) v w
  | 17 => ByF (nb p.t) v w
  | 18 => OwS gB (putT (putT b p.f) p.t) v w
  | 19 => OwS gB (putT (putT b p.f) p.t) v w
  | _ => True
theorem FRp_mono (gB : Nat) (b : List Int) (p : Pr) : ∀ j v w w', FRp gB b p j v w → Below w.heap.size w w' → FRp gB b p j v w' := by
  intro j v w w' h hb
  unfold FRp at h ⊢
  split at h
  · exact h.later hb
  · exact h.later hb
  · exact h.later hb
  · exact h.later hb
  · exact h.later hb
  · trivial

def SRp (g1 ga oa i on oc ln c2 : Nat) (OA : Option Addr) (p : Pr) (opn : Nat) (v : Value) : Prop :=
  match opn with
  | 0 => v = .slice OA on oc
  | 1 | 10 => v = .pointer (some ⟨g1, 1, none⟩)
  | 2 | 11 => v = .pointer (some ⟨g1, 3, none⟩)
  | 3 | 12 => v = .slice (some ⟨ga, oa, none⟩) ln c2
  | 4 | 13 => v = .int .i64 (i : Int)
  | 5 | 6 | 14 => v = .pointer (some ⟨ga, oa + i * 2, none⟩)
  | 7 => v = encStr p.f
  | 15 => v = .pointer (some ⟨ga, oa + i * 2 + 1, none⟩)
  | 16 => v = encStr p.t
  | _ => True

def FRs (gB : Nat) (b : List Int) (p : Sc) (opn : Nat) (v : Value) (w : World) : Prop :=
  match opn with
  | 8 => ByF (nb p.m) v w
  | 9 => OwS gB (putT b p.m) v w
  | 18 => OwS gB (putT b p.m ++ highB (IntKind.u64.wrap p.s) 8) v w
  | 19 => OwS gB (putT b p.m ++ highB (IntKind.u64.wrap p.s) 8) v w
  | _ => True
theorem FRs_mono (gB : Nat) (b : List Int) (p : Sc) : ∀ j v w w', FRs gB b p j v w → Below w.heap.size w w' → FRs gB b p j v w' := by
  intro j v w w' h hb
  unfold FRs at h ⊢
  split at h
  · exact h.later hb
  · exact h.later hb
  · exact h.later hb
  · exact h.later hb
  · trivial

def SRs (g1 ga oa i on oc ln c2 : Nat) (OA : Option Addr) (p : Sc) (opn : Nat) (v : Value) : Prop :=
  match opn with
  | 0 => v = .slice OA on oc
  | 1 | 10 => v = .pointer (some ⟨g1, 1, none⟩)
  | 2 | 11 => v = .pointer (some ⟨g1, 5, none⟩)
  | 3 | 12 => v = .slice (some ⟨ga, oa, none⟩) ln c2
  | 4 | 13 => v = .int .i64 (i : Int)
  | 5 | 6 | 14 => v = .pointer (some ⟨ga, oa + i * 2, none⟩)
  | 7 => v = encStr p.m
  | 15 => v = .pointer (some ⟨ga, oa + i * 2 + 1, none⟩)
  | 16 => v = .int .i64 p.s
  | 17 => v = .int .u64 (IntKind.u64.wrap p.s)
  | _ => True

end Go.Proofs.YtpbkejmffddelaaGreat

/-
  The document's Encode: contract. Own work.
-/
namespace Go.Proofs.YtpbkejmffddelaaGreat
open Go.RowKit Go.Shelf
set_option maxRecDepth 100000 in
set_option maxHeartbeats 4000000 in
theorem rencode_any (w : World) (key : Nm) (x : Vl) (vp vl vs : Value) (at_ : Int) (h : VlM w w.heap.size x vp vl vs) (few : x.Few) (ft : x.t.length ≤ 140737488355328) (hcp : ∃ A c, vs = .slice A x.ss.length c ∧ x.ss.length ≤ c) :
    Calls Tryz.prog 12 #[enV key x vp vl vs at_] w fun e w' => (∃ A n c, e = .returned (.tuple #[.slice A n c, .int .i64 (entC key at_ x.rchk)]) ∧ Bs w' w'.heap.size A n (if entC key at_ x.rchk = 0 then encB key x at_ else [])) ∧ Below w.heap.size w w' := by
  have hM := h
  have fx := few.fits ft
  have HR := fun wz (hb : Below w.heap.size w wz) => rentry_any wz key x vp vl vs at_ (fun wy hy => rcheck_any wy x vp vl vs ((h.later hb).later hy) few ft hcp)
  replace HR := hide HR
  obtain ⟨i0, hi, hz, hsz8, hby⟩ := u8_info
  obtain ⟨A2, C2, rfl⟩ := h.p.sl
  obtain ⟨A3, C3, rfl⟩ := h.l.sl
  obtain ⟨A4, C4, rfl⟩ := h.s.sl
  have hsz := szEnt key x (.slice A2 x.ps.length C2) (.slice A3 x.ls.length C3) (.slice A4 x.ss.length C4) at_
  obtain ⟨ec, hec⟩ : ∃ ec, ec = entC key at_ x.rchk := ⟨_, rfl⟩
  rw [← hec]
  clear hcp h
  by_cases h0 : ec = 0
  · subst h0
    obtain ⟨hr0, hk64, hat0, hat1⟩ := entC_zero hec.symm
    replace hec := hide hec
    have hown := rchk_ok hr0
    have hfew := rchk_few hr0
    have hT : ∀ t ∈ x.texts, t.length ≤ 512 := fun t ht => lng_at hown.2 ht
    have hTt : x.t.length ≤ 512 := hT x.t (by simp [Vl.texts])
    have hTp : ∀ p ∈ x.ps, p.f.length ≤ 512 ∧ p.t.length ≤ 512 := fun p hp => ⟨hT _ (by simp only [Vl.texts, List.mem_append]; exact .inl (.inl (.inr (mem_prT hp).1))), hT _ (by simp only [Vl.texts, List.mem_append]; exact .inl (.inl (.inr (mem_prT hp).2)))⟩
    have hTl : ∀ p ∈ x.ls, p.length ≤ 512 := fun p hp => hT _ (by simp only [Vl.texts, List.mem_append]; exact .inl (.inr hp))
    have hTs : ∀ p ∈ x.ss, p.m.length ≤ 512 := fun p hp => hT _ (by simp only [Vl.texts, List.mem_append]; exact .inr (List.mem_map.2 ⟨p, hp, rfl⟩))
    rw [if_pos rfl]
    have hkey : key.length ≤ 100000 := by omega
    have hat : -9223372036854775808 ≤ at_ ∧ at_ ≤ 9223372036854775807 := ⟨by omega, by omega⟩
    obtain ⟨gB, hgBe⟩ : ∃ gB, gB = w.heap.size := ⟨_, rfl⟩
    replace hfew := hide hfew
    replace hTp := hide hTp
    replace hTl := hide hTl
    replace hTs := hide hTs
    replace hat0 := hide hat0
    replace hat1 := hide hat1
    clear hT hown hr0
    go_enter Tryz.func12, Tryz.ntmps12
    go_wp2_with (first
      | ((with_reducible refine wl_box (o := ⟨some 1, _, _, _, _, _⟩) rfl 28 (.tmp 0) _ (enC key x (.slice A2 x.ps.length C2) (.slice A3 x.ls.length C3) (.slice A4 x.ss.length C4) at_) rfl rfl rfl ?_); intro g1 w1 r1 p1 l1 b1)
      | (with_reducible refine wl_load_row (o := ⟨some 9, _, _, _, _, _⟩) rfl 28 (.tmp 1) g1 28 (enC key x (.slice A2 x.ps.length C2) (.slice A3 x.ls.length C3) (.slice A4 x.ss.length C4) at_) _ rfl rfl r1 Tryz.underlying28 rfl hsz ?_))
    refine (HR.out w1 b1).mono ?_
    rintro e w2 ⟨rfl, b2⟩
    have B2 := b1.trans (b2.mono b1.size)
    have r12 := r1.later b2
    rw [← hec.out]
    clear HR r1
    have hgB : gB ≤ w2.heap.size := hgBe ▸ B2.size
    have r1 := r12
    go_wp2_with fail
    rename_i K6 hK6
    refine wp_region_valsG [2, 3, 6, 7] (SRh g1 key at_) (JF w2 [2, 3, 6, 7] (FRh gB key at_)) (by kernel_rfl) (by kernel_rfl) (by kernel_rfl) (by kernel_rfl) (JF.start _) ?obs4 ?he4
    case obs4 =>
      refine ⟨?_, ?_, ?_, ?_, ?_, ?_, ?_, ?_, trivial⟩
      · refine ⟨.inl rfl, ?_⟩
        refine .inl ⟨by kernel_rfl, fun L a1 w1 n h => ⟨.pointer (some ⟨g1, 0, none⟩), rfl, ?_⟩⟩
        have e0 : a1.eval (.tmp 1) = _ := h.var n 1 (by kernel_rfl)
        unfold execOp
        simp only [e0]
        go_simp
      · refine ⟨.inl rfl, ?_⟩
        exact .inl ⟨by kernel_rfl, fun L a1 w1 n h => ⟨_, rfl, run_load1 9 (.tmp 14) g1 0 _ rfl Tryz.isAgg9 (h.dep n 0 14 (by kernel_rfl) rfl) ((r1.later h.inv.1).cell rfl)⟩⟩
      · refine ⟨.inl rfl, ?_⟩
        refine .inr fun L a1 w1 n h K hK => ?_
        have e0 : a1.eval (.tmp 15) = encStr (key) := h.dep n 1 15 (by kernel_rfl) rfl
        refine st_convT 9 31 5 (.tmp 15) (key) rfl e0 Tryz.underlying9 Tryz.underlying31 Tryz.underlying5 ?_
        intro A9 c9 w3 hb9 b9
        exact JF.few (FRh_mono gB key at_) h hK 16 rfl _ trivial ⟨A9, _, c9, rfl, hb9⟩ b9
      · refine ⟨.inl rfl, ?_⟩
        refine .inr fun L a1 w1 n h K hK => ?_
        obtain ⟨A1, n1, c1, v1, hb1⟩ := JF.get h n 2 16 (by kernel_rfl) (by kernel_rfl) rfl
        have e1 : a1.eval (.tmp 16) = .slice A1 n1 c1 := v1
        refine JF.call (FRh_mono gB key at_) h hK 17 rfl 53 _ _ #[nilS, .slice A1 n1 c1] rfl Tryz.call53 ?_ (refPutT_own none A1 0 0 n1 c1 [] key w1 Bs.nil_ hb1 (by decide) hkey) ?_
        · simp only [List.map_toArray, List.map_cons, List.map_nil, e1]; rfl
        · rintro e w3 ⟨A9, n9, c9, rfl, ho9, b9⟩
          exact ⟨_, rfl, trivial, ⟨A9, n9, c9, rfl, own_low ho9 (Nat.le_trans hgB h.inv.1.size)⟩, b9⟩
      · refine ⟨.inl rfl, ?_⟩
        refine .inl ⟨by kernel_rfl, fun L a1 w1 n h => ⟨.pointer (some ⟨g1, 6, none⟩), rfl, ?_⟩⟩
        have e0 : a1.eval (.tmp 1) = _ := h.var n 1 (by kernel_rfl)
        unfold execOp
        simp only [e0]
        go_simp
      · refine ⟨.inl rfl, ?_⟩
        exact .inl ⟨by kernel_rfl, fun L a1 w1 n h => ⟨_, rfl, run_load1 3 (.tmp 18) g1 6 _ rfl Tryz.isAgg3 (h.dep n 4 18 (by kernel_rfl) rfl) ((r1.later h.inv.1).cell rfl)⟩⟩
      · refine ⟨.inl rfl, ?_⟩
        refine .inr fun L a1 w1 n h K hK => ?_
        obtain ⟨A2, n2, c2, v2, ho2⟩ := JF.get h n 3 17 (by kernel_rfl) (by kernel_rfl) rfl
        have e0 : a1.eval (.tmp 17) = .slice A2 n2 c2 := v2
        have e1 : a1.eval (.tmp 19) = .int .i64 at_ := h.dep n 5 19 (by kernel_rfl) rfl
        refine JF.call (FRh_mono gB key at_) h hK 20 rfl 52 _ _ #[.slice A2 n2 c2, .int .i64 at_] rfl Tryz.call52 ?_ (refPutNum_own A2 n2 c2 (putT [] key) at_ w1 (own_bs2 ho2) (by have := (own_bs2 ho2).1; rw [putT_len] at this; simp only [List.length_nil] at this; omega) hat.1 hat.2) ?_
        · simp only [List.map_toArray, List.map_cons, List.map_nil, e0, e1]
        · rintro e w3 ⟨A9, n9, c9, rfl, ho9, b9⟩
          exact ⟨_, rfl, trivial, ⟨A9, n9, c9, rfl, own_low ho9 (Nat.le_trans hgB h.inv.1.size)⟩, b9⟩
      · refine ⟨.inl rfl, ?_⟩
        refine .inr fun L a1 w1 n h K hK => ?_
        obtain ⟨A3, n3, c3, v3, ho3⟩ := JF.get h n 6 20 (by kernel_rfl) (by kernel_rfl) rfl
        exact JF.run (FRh_mono gB key at_) h hK 5 rfl (.slice A3 n3 c3) (run_assign (.tmp 20) rfl v3) trivial ⟨A3, n3, c3, rfl, ho3⟩
    case he4 =>
      intro V w3 hV hJ
      obtain ⟨A5, n5, c5, e5, ho5⟩ : OwS gB (putT [] key ++ highB (max at_ 0) 8) (V 7) w3 := JF.last hJ 7 5 rfl rfl
      have b3 : Below w2.heap.size w2 w3 := hJ.1
      clear hV hJ
      simp only [putOps, List.setIfInBounds_toArray, List.set_cons_succ, List.set_cons_zero, Nat.reduceAdd]
      rw [e5]
      refine hK6 _ _ ?_
      have B3 := B2.trans (b3.mono B2.size)
      have r13 := r1.later b3
      have hl5 : n5 ≤ 200 := by have := (own_bs2 ho5).1; rw [List.length_append, putT_len, highB_length] at this; simp only [List.length_nil] at this; omega
      have hgB3 : gB ≤ w3.heap.size := hgBe ▸ B3.size
      generalize V 0 = v0
      generalize V 1 = v1
      generalize V 2 = v2
      generalize V 3 = v3
      generalize V 4 = v4
      generalize V 5 = v5
      generalize V 6 = v6
      have c1 := r13.cell (j := 1) rfl
      clear e5 r1 r12 b3 b2
      by_cases hk1 : x.k = 1
      · have f1 : (x.k == 1) = true := beq_iff_eq.2 hk1
        have f2 : decide (x.k = 1) = true := decide_eq_true hk1
        have hEB := hide (show encB key x at_ = putT (encH key at_ x.k) x.t from if_pos hk1)
        replace hk1 := hide hk1
        go_wp2_with (first
          | ((with_reducible refine wl_build1 (o := ⟨some 26, _, _, _, _, _⟩) rfl 31 (.tmp 25) rfl 5 i0 (.int .u8 0) (.int .u8 (IntKind.u8.wrap x.k)) Tryz.underlying31 hi hz hsz8 rfl rfl rfl ?_); intro g6 w6 r6 p6 l6 b6; have ho6 := own_later ho5 b6; have hgB6 := Nat.le_trans hgB3 b6.size)
          | (at_builtin; refine wpList_append_bs (o := ⟨some 27, _, _, _, _, _⟩) rfl (.tmp 21) (.tmp 26) _ rfl gB 5 i0 Tryz.underlying31 hi hz hsz8 hby (.slice A5 n5 c5) n5 (putT [] key ++ highB (max at_ 0) 8) rfl ho6 w6.heap.size (some ⟨g6, 0, none⟩) 1 1 [IntKind.u8.wrap x.k] rfl (Row.bs (A := []) (C := []) (xs := [IntKind.u8.wrap x.k]) r6 rfl r6.lt) (by omega) hgB6 ?_; intro v7 w7 ho7 hg7; have r7 := (r13.later b6).grownS ho6 (by decide) hg7; have B7 := grown_below (B3.trans (b6.mono B3.size)) ho6 (Nat.le_of_eq hgBe.symm) hg7; have d1 := r7.cell (j := 1) rfl; have d2 := r7.cell (j := 2) rfl; obtain ⟨A7, c7, rfl, hb7, _⟩ := ownsRow_bs ho7)
          | ((with_reducible refine wl_convT (o := ⟨some 36, _, _, _, _, _⟩) rfl 9 31 5 (.tmp 35) x.t rfl rfl Tryz.underlying9 Tryz.underlying31 Tryz.underlying5 ?_); intro A8 c8 w8 hb8 b8))
        refine (refPutT_own A7 A8 (n5 + 1) c7 x.t.length c8 (encH key at_ x.k) x.t w8 (hb7.later b8) hb8 (by omega) (by omega)).mono ?_
        rintro e w9 ⟨A9, n9, c9, rfl, ho9, b9⟩
        have B8 := B7.trans (b8.mono B7.size)
        go_wp2_with fail
        go_ret2
        exact ⟨⟨A9, n9, c9, rfl, by rw [hEB.out]; exact own_bs2 ho9⟩, B8.trans (b9.mono B8.size)⟩
      · have f1 : (x.k == 1) = false := beq_eq_false_iff_ne.2 hk1
        have f2 : decide (x.k = 1) = false := decide_eq_false hk1
        have hEB := hide (show encB key x at_ = encS (encL (encP (encC key x at_) x.ps) x.ls) x.ss from if_neg hk1)
        replace hk1 := hide hk1
        go_wp2_with (first
          | ((with_reducible refine wl_build1 (o := ⟨some 26, _, _, _, _, _⟩) rfl 31 (.tmp 25) rfl 5 i0 (.int .u8 0) (.int .u8 (IntKind.u8.wrap x.k)) Tryz.underlying31 hi hz hsz8 rfl rfl rfl ?_); intro g6 w6 r6 p6 l6 b6; have ho6 := own_later ho5 b6; have hgB6 := Nat.le_trans hgB3 b6.size)
          | (at_builtin; refine wpList_append_bs (o := ⟨some 27, _, _, _, _, _⟩) rfl (.tmp 21) (.tmp 26) _ rfl gB 5 i0 Tryz.underlying31 hi hz hsz8 hby (.slice A5 n5 c5) n5 (putT [] key ++ highB (max at_ 0) 8) rfl ho6 w6.heap.size (some ⟨g6, 0, none⟩) 1 1 [IntKind.u8.wrap x.k] rfl (Row.bs (A := []) (C := []) (xs := [IntKind.u8.wrap x.k]) r6 rfl r6.lt) (by omega) hgB6 ?_; intro v7 w7 ho7 hg7; have r7 := (r13.later b6).grownS ho6 (by decide) hg7; have B7 := grown_below (B3.trans (b6.mono B3.size)) ho6 (Nat.le_of_eq hgBe.symm) hg7; have d1 := r7.cell (j := 1) rfl; have d2 := r7.cell (j := 2) rfl; obtain ⟨A7, c7, rfl, hb7, _⟩ := ownsRow_bs ho7)
          | (with_reducible refine wl_load_part (o := ⟨some 40, _, _, _, _, _⟩) rfl 26 (.tmp 39) g1 1 28 [encStr key] (vlC x (.slice A2 x.ps.length C2) (.slice A3 x.ls.length C3) (.slice A4 x.ss.length C4)) [.int .i64 at_] _ rfl rfl r7 rfl Tryz.underlying26 rfl (by kernel_rfl) ?_))
        refine (rcount_any w7 x _ _ _ (hM.later B7) fx).mono ?_
        rintro e w8 ⟨rfl, b8⟩
        go_wp2_with fail
        refine (refPutNum_own A7 (n5 + 1) c7 (encH key at_ x.k) _ w8 (hb7.later b8) (by omega) (by omega) (by have := hfew.out; omega)).mono ?_
        rintro e w9 ⟨A9, n9, c9, rfl, ho9, b9⟩
        have B8 := B7.trans (b8.mono B7.size)
        have B9 := B8.trans (b9.mono B8.size)
        have r9 := (r7.later b8).later b9
        have own9 : OwS gB (encC key x at_) (.slice A9 n9 c9) w9 := ⟨A9, n9, c9, rfl, own_low ho9 (hgBe ▸ B8.size)⟩
        have fp : x.ps.length ≤ 200 := by have := hfew.out; omega
        have fl : x.ls.length ≤ 200 := by have := hfew.out; omega
        have fs : x.ss.length ≤ 200 := by have := hfew.out; omega
        have hcl := encC_len key x at_
        clear r13 c1 ho5 B3 hl5 hgB3 r7 B7 b8 b9 ho9 ho6 ho7 hb7 hg7 d1 d2 b6 r6 hgB6 B8 hgB B2
        go_wp2_with fail
        go_loopw [5, 6] (fun bb iv wr => ∃ i : Nat, i ≤ x.ps.length ∧ iv = .int .i64 (i : Int) ∧ OwS gB (encP (encC key x at_) (x.ps.take i)) bb wr ∧ Row wr 28 g1 (enC key x (.slice A2 x.ps.length C2) (.slice A3 x.ls.length C3) (.slice A4 x.ss.length C4) at_) ∧ Below w.heap.size w wr) (fun _ iv _ => x.ps.length - (intOf iv).toNat)
        case atStart => exact ⟨0, by omega, rfl, own9, r9, B9⟩
        case round =>
          clear own9 r9 B9
          obtain ⟨i, hi, rfl, ⟨OA, on, oc, rfl, ho⟩, r1, BW⟩ := hrel
          have hgB : gB ≤ wr.heap.size := hgBe ▸ BW.size
          have cc3 := r1.cell (j := 3) rfl
          by_cases hlt : i < x.ps.length
          · have hltI : (i : Int) < (x.ps.length : Int) := by omega
            obtain ⟨p, hp⟩ : ∃ p, x.ps[i]? = some p := ⟨_, List.getElem?_eq_getElem hlt⟩
            have hp5 := hTp.out p (List.mem_of_getElem? hp)
            obtain ⟨x1, ga, oa, rfl, hga, hca⟩ := hM.p.at hp
            clear x1
            have hac0 : ∀ w1, Below wr.heap.size wr w1 → w1.cell? ⟨ga, oa + i * 2, none⟩ = some (encStr p.f) := fun w1 hb1 => ((BW.trans (hb1.mono BW.size)).cell (p := ⟨ga, _, none⟩) hga).trans (hca 0 _ rfl)
            have hac1 : ∀ w1, Below wr.heap.size wr w1 → w1.cell? ⟨ga, oa + i * 2 + 1, none⟩ = some (encStr p.t) := fun w1 hb1 => ((BW.trans (hb1.mono BW.size)).cell (p := ⟨ga, _, none⟩) hga).trans (hca 1 _ rfl)
            have hmore := hide (encP_more (b := encC key x at_) hp)
            have hbl := encP_len (x.ps.take i) (encC key x at_) (fun q hq => hTp.out q (List.mem_of_mem_take hq))
            have htl : (x.ps.take i).length = i := by rw [List.length_take]; omega
            have hol := (own_bs2 ho).1
            have hon := hide (show on ≤ 900000 by omega)
            have hon2 := hide (show on + 4 + p.f.length ≤ 900000 by omega)
            have hpf := hide (show p.f.length ≤ 100000 by omega)
            have hpt := hide (show p.t.length ≤ 100000 by omega)
            obtain ⟨b, hbd⟩ : ∃ b, b = encP (encC key x at_) (x.ps.take i) := ⟨_, rfl⟩
            rw [← hbd] at ho hol hbl
            replace hbd := hide hbd
            have hlt9 := hide hlt
            have hol2 := hide (show b.length = on from hol)
            replace hlt := hide hlt
            clear hp hp5 hca hga hol htl hbl
            go_wp2_with fail
            rename_i K6 hK6
            refine wp_region_valsG [8, 9, 17, 18, 19] (SRp g1 ga oa i on oc x.ps.length C2 OA p) (JF wr [8, 9, 17, 18, 19] (FRp gB b p)) (by kernel_rfl) (by kernel_rfl) (by kernel_rfl) (by kernel_rfl) (JF.start _) ?obsP ?heP
            case obsP =>
              refine ⟨?_, ?_, ?_, ?_, ?_, ?_, ?_, ?_, ?_, ?_, ?_, ?_, ?_, ?_, ?_, ?_, ?_, ?_, ?_, ?_, trivial⟩
              · refine ⟨.inl rfl, ?_⟩
                exact .inl ⟨by kernel_rfl, fun L a1 w1 n h => ⟨_, rfl, run_move (.tmp 5) rfl (h.var n 5 (by kernel_rfl))⟩⟩
              · refine ⟨.inl rfl, ?_⟩
                refine .inl ⟨by kernel_rfl, fun L a1 w1 n h => ⟨.pointer (some ⟨g1, 1, none⟩), rfl, ?_⟩⟩
                have e0 : a1.eval (.tmp 1) = _ := h.var n 1 (by kernel_rfl)
                unfold execOp
                simp only [e0]
                go_simp
              · refine ⟨.inl rfl, ?_⟩
                refine .inl ⟨by kernel_rfl, fun L a1 w1 n h => ⟨.pointer (some ⟨g1, 3, none⟩), rfl, ?_⟩⟩
                have e0 : a1.eval (.tmp 52) = _ := h.dep n 1 52 (by kernel_rfl) rfl
                unfold execOp
                simp only [e0]
                go_simp
              · refine ⟨.inl rfl, ?_⟩
                exact .inl ⟨by kernel_rfl, fun L a1 w1 n h => ⟨_, rfl, run_load1 22 (.tmp 53) g1 3 _ rfl Tryz.isAgg22 (h.dep n 2 53 (by kernel_rfl) rfl) ((r1.later h.inv.1).cell rfl)⟩⟩
              · refine ⟨.inl rfl, ?_⟩
                exact .inl ⟨by kernel_rfl, fun L a1 w1 n h => ⟨_, rfl, run_move (.tmp 6) rfl (h.var n 6 (by kernel_rfl))⟩⟩
              · refine ⟨.inl rfl, ?_⟩
                exact .inl ⟨by kernel_rfl, fun L a1 w1 n h => ⟨_, rfl, run_idxO 22 (.tmp 54) (.tmp 55) 87 2 ga oa _ _ i rfl Tryz.underlying22 Tryz.sizeOf87 (h.dep n 3 54 (by kernel_rfl) rfl) (h.dep n 4 55 (by kernel_rfl) rfl) hlt.out⟩⟩
              · refine ⟨.inl rfl, ?_⟩
                refine .inl ⟨by kernel_rfl, fun L a1 w1 n h => ⟨.pointer (some ⟨ga, oa + i * 2, none⟩), rfl, ?_⟩⟩
                have e0 : a1.eval (.tmp 56) = _ := h.dep n 5 56 (by kernel_rfl) rfl
                unfold execOp
                simp only [e0]
                go_simp
              · refine ⟨.inl rfl, ?_⟩
                exact .inl ⟨by kernel_rfl, fun L a1 w1 n h => ⟨_, rfl, run_load1 9 (.tmp 57) ga (oa + i * 2) _ rfl Tryz.isAgg9 (h.dep n 6 57 (by kernel_rfl) rfl) (hac0 w1 h.inv.1)⟩⟩
              · refine ⟨.inl rfl, ?_⟩
                refine .inr fun L a1 w1 n h K hK => ?_
                have e0 : a1.eval (.tmp 58) = encStr (p.f) := h.dep n 7 58 (by kernel_rfl) rfl
                refine st_convT 9 31 5 (.tmp 58) (p.f) rfl e0 Tryz.underlying9 Tryz.underlying31 Tryz.underlying5 ?_
                intro A9 c9 w3 hb9 b9
                exact JF.few (FRp_mono gB b p) h hK 59 rfl _ trivial ⟨A9, _, c9, rfl, hb9⟩ b9
              · refine ⟨.inl rfl, ?_⟩
                refine .inr fun L a1 w1 n h K hK => ?_
                obtain ⟨A1, n1, c1, v1, hb1⟩ := JF.get h n 8 59 (by kernel_rfl) (by kernel_rfl) rfl
                have e0 : a1.eval (.tmp 51) = .slice OA on oc := h.dep n 0 51 (by kernel_rfl) rfl
                have e1 : a1.eval (.tmp 59) = .slice A1 n1 c1 := v1
                refine JF.call (FRp_mono gB b p) h hK 60 rfl 53 _ _ #[.slice OA on oc, .slice A1 n1 c1] rfl Tryz.call53 ?_ (refPutT_own OA A1 on oc n1 c1 b p.f w1 (own_bs2 (own_later ho h.inv.1)) hb1 hon.out hpf.out) ?_
                · simp only [List.map_toArray, List.map_cons, List.map_nil, e0, e1]
                · rintro e w3 ⟨A9, n9, c9, rfl, ho9, b9⟩
                  exact ⟨_, rfl, trivial, ⟨A9, n9, c9, rfl, own_low ho9 (Nat.le_trans hgB h.inv.1.size)⟩, b9⟩
              · refine ⟨.inl rfl, ?_⟩
                refine .inl ⟨by kernel_rfl, fun L a1 w1 n h => ⟨.pointer (some ⟨g1, 1, none⟩), rfl, ?_⟩⟩
                have e0 : a1.eval (.tmp 1) = _ := h.var n 1 (by kernel_rfl)
                unfold execOp
                simp only [e0]
                go_simp
              · refine ⟨.inl rfl, ?_⟩
                refine .inl ⟨by kernel_rfl, fun L a1 w1 n h => ⟨.pointer (some ⟨g1, 3, none⟩), rfl, ?_⟩⟩
                have e0 : a1.eval (.tmp 61) = _ := h.dep n 10 61 (by kernel_rfl) rfl
                unfold execOp
                simp only [e0]
                go_simp
              · refine ⟨.inl rfl, ?_⟩
                exact .inl ⟨by kernel_rfl, fun L a1 w1 n h => ⟨_, rfl, run_load1 22 (.tmp 62) g1 3 _ rfl Tryz.isAgg22 (h.dep n 11 62 (by kernel_rfl) rfl) ((r1.later h.inv.1).cell rfl)⟩⟩
              · refine ⟨.inl rfl, ?_⟩
                exact .inl ⟨by kernel_rfl, fun L a1 w1 n h => ⟨_, rfl, run_move (.tmp 6) rfl (h.var n 6 (by kernel_rfl))⟩⟩
              · refine ⟨.inl rfl, ?_⟩
                exact .inl ⟨by kernel_rfl, fun L a1 w1 n h => ⟨_, rfl, run_idxO 22 (.tmp 63) (.tmp 64) 87 2 ga oa _ _ i rfl Tryz.underlying22 Tryz.sizeOf87 (h.dep n 12 63 (by kernel_rfl) rfl) (h.dep n 13 64 (by kernel_rfl) rfl) hlt.out⟩⟩
              · refine ⟨.inl rfl, ?_⟩
                refine .inl ⟨by kernel_rfl, fun L a1 w1 n h => ⟨.pointer (some ⟨ga, oa + i * 2 + 1, none⟩), rfl, ?_⟩⟩
                have e0 : a1.eval (.tmp 65) = _ := h.dep n 14 65 (by kernel_rfl) rfl
                unfold execOp
                simp only [e0]
                go_simp
              · refine ⟨.inl rfl, ?_⟩
                exact .inl ⟨by kernel_rfl, fun L a1 w1 n h => ⟨_, rfl, run_load1 9 (.tmp 66) ga (oa + i * 2 + 1) _ rfl Tryz.isAgg9 (h.dep n 15 66 (by kernel_rfl) rfl) (hac1 w1 h.inv.1)⟩⟩
              · refine ⟨.inl rfl, ?_⟩
                refine .inr fun L a1 w1 n h K hK => ?_
                have e0 : a1.eval (.tmp 67) = encStr (p.t) := h.dep n 16 67 (by kernel_rfl) rfl
                refine st_convT 9 31 5 (.tmp 67) (p.t) rfl e0 Tryz.underlying9 Tryz.underlying31 Tryz.underlying5 ?_
                intro A9 c9 w3 hb9 b9
                exact JF.few (FRp_mono gB b p) h hK 68 rfl _ trivial ⟨A9, _, c9, rfl, hb9⟩ b9
              · refine ⟨.inl rfl, ?_⟩
                refine .inr fun L a1 w1 n h K hK => ?_
                obtain ⟨A1, n1, c1, v1, hb1⟩ := JF.get h n 17 68 (by kernel_rfl) (by kernel_rfl) rfl
                obtain ⟨A2, n2, c2, v2, ho2⟩ := JF.get h n 9 60 (by kernel_rfl) (by kernel_rfl) rfl
                have e0 : a1.eval (.tmp 60) = .slice A2 n2 c2 := v2
                have e1 : a1.eval (.tmp 68) = .slice A1 n1 c1 := v1
                refine JF.call (FRp_mono gB b p) h hK 69 rfl 53 _ _ #[.slice A2 n2 c2, .slice A1 n1 c1] rfl Tryz.call53 ?_ (refPutT_own A2 A1 n2 c2 n1 c1 (putT b p.f) p.t w1 (own_bs2 ho2) hb1 (by have := (own_bs2 ho2).1; rw [putT_len] at this; have := hon2.out; have := hol2.out; omega) hpt.out) ?_
                · simp only [List.map_toArray, List.map_cons, List.map_nil, e0, e1]
                · rintro e w3 ⟨A9, n9, c9, rfl, ho9, b9⟩
                  exact ⟨_, rfl, trivial, ⟨A9, n9, c9, rfl, own_low ho9 (Nat.le_trans hgB h.inv.1.size)⟩, b9⟩
              · refine ⟨.inl rfl, ?_⟩
                refine .inr fun L a1 w1 n h K hK => ?_
                obtain ⟨A3, n3, c3, v3, ho3⟩ := JF.get h n 18 69 (by kernel_rfl) (by kernel_rfl) rfl
                exact JF.run (FRp_mono gB b p) h hK 5 rfl (.slice A3 n3 c3) (run_assign (.tmp 69) rfl v3) trivial ⟨A3, n3, c3, rfl, ho3⟩
            case heP =>
              intro V w9 hV hJ
              obtain ⟨A5, n5, c5, e5, ho5⟩ : OwS gB (putT (putT b p.f) p.t) (V 19) w9 := JF.last hJ 19 5 rfl rfl
              have b9 : Below wr.heap.size wr w9 := hJ.1
              clear hV hJ
              simp only [putOps, List.setIfInBounds_toArray, List.set_cons_succ, List.set_cons_zero, Nat.reduceAdd]
              rw [e5]
              refine hK6 _ _ ?_
              clear e5
              go_wp2_with fail
              go_roundw
              case rel => exact ⟨i + 1, by have := hlt9.out; omega, by go_num, ⟨A5, n5, c5, rfl, by rw [hmore.out, ← hbd.out]; exact ho5⟩, r1.later b9, BW.trans (b9.mono BW.size)⟩
              case measure => have := hlt9.out; simp [intOf]; omega
          · obtain rfl : i = x.ps.length := by omega
            rw [List.take_length] at ho
            have hbp := encP_len x.ps (encC key x at_) hTp.out
            clear hi hlt
            go_wp2_with fail
            obtain ⟨b1, hb1⟩ : ∃ b1, b1 = encP (encC key x at_) x.ps := ⟨_, rfl⟩
            rw [← hb1] at ho hbp
            replace hb1 := hide hb1
            go_loopw [5, 7] (fun bb iv wz => ∃ j : Nat, j ≤ x.ls.length ∧ iv = .int .i64 (j : Int) ∧ OwS gB (encL b1 (x.ls.take j)) bb wz ∧ Row wz 28 g1 (enC key x (.slice A2 x.ps.length C2) (.slice A3 x.ls.length C3) (.slice A4 x.ss.length C4) at_) ∧ Below w.heap.size w wz) (fun _ iv _ => x.ls.length - (intOf iv).toNat)
            case atStart => exact ⟨0, by omega, rfl, ⟨OA, on, oc, rfl, ho⟩, r1, BW⟩
            case round =>
              clear ho r1 BW cc3 hgB
              obtain ⟨i, hi, rfl, ⟨OA, on, oc, rfl, ho⟩, r1, BW⟩ := hrel
              have cc4 := r1.cell (j := 4) rfl
              by_cases hlt : i < x.ls.length
              · have hltI : (i : Int) < (x.ls.length : Int) := by omega
                obtain ⟨t, ht⟩ : ∃ t, x.ls[i]? = some t := ⟨_, List.getElem?_eq_getElem hlt⟩
                have ht5 := hTl.out t (List.mem_of_getElem? ht)
                obtain ⟨x1, ga, oa, rfl, hga, hca⟩ := (hM.l.below BW).at ht
                clear x1
                have q0 := hca 0 _ rfl
                rw [Nat.add_zero, Nat.mul_one] at q0
                have hmore := hide (encL_more (b := b1) ht)
                have hbl := encL_len (x.ls.take i) b1 (fun q hq => hTl.out q (List.mem_of_mem_take hq))
                have htl : (x.ls.take i).length = i := by rw [List.length_take]; omega
                have hol := (own_bs2 ho).1
                have hon := hide (show on ≤ 900000 by omega)
                have hlt9 := hide hlt
                replace ht5 := hide ht5
                replace hbp := hide hbp
                clear ht hca hga hol htl hbl
                go_wp2_with (first
                  | (with_reducible refine wl_run (o := ⟨some 83, _, _, _, _, _⟩) rfl (.pointer (some ⟨ga, oa + i * 1, none⟩)) (run_idxO 23 (.tmp 81) (.tmp 82) 9 1 ga oa x.ls.length C3 i rfl Tryz.underlying23 Tryz.sizeOf9 rfl rfl hlt) ?_)
                  | ((with_reducible refine wl_convT (o := ⟨some 85, _, _, _, _, _⟩) rfl 9 31 5 (.tmp 84) t rfl rfl Tryz.underlying9 Tryz.underlying31 Tryz.underlying5 ?_); intro A8 c8 w8 hb8 b8))
                refine (refPutT_own OA A8 on oc t.length c8 (encL b1 (x.ls.take i)) t w8 ((own_bs2 ho).later b8) hb8 hon.out (by have := ht5.out; omega)).mono ?_
                rintro e w9 ⟨A9, n9, c9, rfl, ho9, b9⟩
                have B8 := BW.trans (b8.mono BW.size)
                go_wp2_with fail
                go_roundw
                case rel => exact ⟨i + 1, by have := hlt9.out; omega, by go_num, ⟨A9, n9, c9, rfl, by rw [hmore.out]; exact own_low ho9 (hgBe ▸ B8.size)⟩, (r1.later b8).later b9, B8.trans (b9.mono B8.size)⟩
                case measure => have := hlt9.out; simp [intOf]; omega
              · obtain rfl : i = x.ls.length := by omega
                rw [List.take_length] at ho
                have hbq := encL_len x.ls b1 hTl.out
                clear hi hlt
                go_wp2_with fail
                obtain ⟨b2, hb2⟩ : ∃ b2, b2 = encL b1 x.ls := ⟨_, rfl⟩
                rw [← hb2] at ho hbq
                replace hb2 := hide hb2
                go_loopw [5, 8] (fun bb iv wz => ∃ j : Nat, j ≤ x.ss.length ∧ iv = .int .i64 (j : Int) ∧ OwS gB (encS b2 (x.ss.take j)) bb wz ∧ Row wz 28 g1 (enC key x (.slice A2 x.ps.length C2) (.slice A3 x.ls.length C3) (.slice A4 x.ss.length C4) at_) ∧ Below w.heap.size w wz) (fun _ iv _ => x.ss.length - (intOf iv).toNat)
                case atStart => exact ⟨0, by omega, rfl, ⟨OA, on, oc, rfl, ho⟩, r1, BW⟩
                case round =>
                  clear ho r1 BW cc4
                  obtain ⟨i, hi, rfl, ⟨OA, on, oc, rfl, ho⟩, r1, BW⟩ := hrel
                  have hgB : gB ≤ wr.heap.size := hgBe ▸ BW.size
                  have cc5 := r1.cell (j := 5) rfl
                  by_cases hlt : i < x.ss.length
                  · have hltI : (i : Int) < (x.ss.length : Int) := by omega
                    obtain ⟨p, hp⟩ : ∃ p, x.ss[i]? = some p := ⟨_, List.getElem?_eq_getElem hlt⟩
                    have hp5 := hTs.out p (List.mem_of_getElem? hp)
                    obtain ⟨x1, ga, oa, rfl, hga, hca⟩ := hM.s.at hp
                    clear x1
                    have hac0 : ∀ w1, Below wr.heap.size wr w1 → w1.cell? ⟨ga, oa + i * 2, none⟩ = some (encStr p.m) := fun w1 hb1 => ((BW.trans (hb1.mono BW.size)).cell (p := ⟨ga, _, none⟩) hga).trans (hca 0 _ rfl)
                    have hac1 : ∀ w1, Below wr.heap.size wr w1 → w1.cell? ⟨ga, oa + i * 2 + 1, none⟩ = some (.int .i64 p.s) := fun w1 hb1 => ((BW.trans (hb1.mono BW.size)).cell (p := ⟨ga, _, none⟩) hga).trans (hca 1 _ rfl)
                    have hmore := hide (encS_more (b := b2) hp)
                    have hbl := encS_len (x.ss.take i) b2 (fun q hq => hTs.out q (List.mem_of_mem_take hq))
                    have htl : (x.ss.take i).length = i := by rw [List.length_take]; omega
                    have hol := (own_bs2 ho).1
                    have hon := hide (show on ≤ 900000 by omega)
                    have hon2 := hide (show on + 4 + p.m.length ≤ 900000 by omega)
                    have hpf := hide (show p.m.length ≤ 100000 by omega)
                    obtain ⟨b, hbd⟩ : ∃ b, b = encS b2 (x.ss.take i) := ⟨_, rfl⟩
                    rw [← hbd] at ho hol hbl
                    replace hbd := hide hbd
                    have hlt9 := hide hlt
                    have hol2 := hide (show b.length = on from hol)
                    replace hlt := hide hlt
                    replace hbp := hide hbp
                    replace hbq := hide hbq
                    clear hp hp5 hca hga hol htl hbl
                    go_wp2_with fail
                    rename_i K6 hK6
                    refine wp_region_valsG [8, 9, 18, 19] (SRs g1 ga oa i on oc x.ss.length C4 OA p) (JF wr [8, 9, 18, 19] (FRs gB b p)) (by kernel_rfl) (by kernel_rfl) (by kernel_rfl) (by kernel_rfl) (JF.start _) ?obsS ?heS
                    case obsS =>
                      refine ⟨?_, ?_, ?_, ?_, ?_, ?_, ?_, ?_, ?_, ?_, ?_, ?_, ?_, ?_, ?_, ?_, ?_, ?_, ?_, ?_, trivial⟩
                      · refine ⟨.inl rfl, ?_⟩
                        exact .inl ⟨by kernel_rfl, fun L a1 w1 n h => ⟨_, rfl, run_move (.tmp 5) rfl (h.var n 5 (by kernel_rfl))⟩⟩
                      · refine ⟨.inl rfl, ?_⟩
                        refine .inl ⟨by kernel_rfl, fun L a1 w1 n h => ⟨.pointer (some ⟨g1, 1, none⟩), rfl, ?_⟩⟩
                        have e0 : a1.eval (.tmp 1) = _ := h.var n 1 (by kernel_rfl)
                        unfold execOp
                        simp only [e0]
                        go_simp
                      · refine ⟨.inl rfl, ?_⟩
                        refine .inl ⟨by kernel_rfl, fun L a1 w1 n h => ⟨.pointer (some ⟨g1, 5, none⟩), rfl, ?_⟩⟩
                        have e0 : a1.eval (.tmp 96) = _ := h.dep n 1 96 (by kernel_rfl) rfl
                        unfold execOp
                        simp only [e0]
                        go_simp
                      · refine ⟨.inl rfl, ?_⟩
                        exact .inl ⟨by kernel_rfl, fun L a1 w1 n h => ⟨_, rfl, run_load1 24 (.tmp 97) g1 5 _ rfl Tryz.isAgg24 (h.dep n 2 97 (by kernel_rfl) rfl) ((r1.later h.inv.1).cell rfl)⟩⟩
                      · refine ⟨.inl rfl, ?_⟩
                        exact .inl ⟨by kernel_rfl, fun L a1 w1 n h => ⟨_, rfl, run_move (.tmp 8) rfl (h.var n 8 (by kernel_rfl))⟩⟩
                      · refine ⟨.inl rfl, ?_⟩
                        exact .inl ⟨by kernel_rfl, fun L a1 w1 n h => ⟨_, rfl, run_idxO 24 (.tmp 98) (.tmp 99) 99 2 ga oa _ _ i rfl Tryz.underlying24 Tryz.sizeOf99 (h.dep n 3 98 (by kernel_rfl) rfl) (h.dep n 4 99 (by kernel_rfl) rfl) hlt.out⟩⟩
                      · refine ⟨.inl rfl, ?_⟩
                        refine .inl ⟨by kernel_rfl, fun L a1 w1 n h => ⟨.pointer (some ⟨ga, oa + i * 2, none⟩), rfl, ?_⟩⟩
                        have e0 : a1.eval (.tmp 100) = _ := h.dep n 5 100 (by kernel_rfl) rfl
                        unfold execOp
                        simp only [e0]
                        go_simp
                      · refine ⟨.inl rfl, ?_⟩
                        exact .inl ⟨by kernel_rfl, fun L a1 w1 n h => ⟨_, rfl, run_load1 9 (.tmp 101) ga (oa + i * 2) _ rfl Tryz.isAgg9 (h.dep n 6 101 (by kernel_rfl) rfl) (hac0 w1 h.inv.1)⟩⟩
                      · refine ⟨.inl rfl, ?_⟩
                        refine .inr fun L a1 w1 n h K hK => ?_
                        have e0 : a1.eval (.tmp 102) = encStr (p.m) := h.dep n 7 102 (by kernel_rfl) rfl
                        refine st_convT 9 31 5 (.tmp 102) (p.m) rfl e0 Tryz.underlying9 Tryz.underlying31 Tryz.underlying5 ?_
                        intro A9 c9 w3 hb9 b9
                        exact JF.few (FRs_mono gB b p) h hK 103 rfl _ trivial ⟨A9, _, c9, rfl, hb9⟩ b9
                      · refine ⟨.inl rfl, ?_⟩
                        refine .inr fun L a1 w1 n h K hK => ?_
                        obtain ⟨A1, n1, c1, v1, hb1⟩ := JF.get h n 8 103 (by kernel_rfl) (by kernel_rfl) rfl
                        have e0 : a1.eval (.tmp 95) = .slice OA on oc := h.dep n 0 95 (by kernel_rfl) rfl
                        have e1 : a1.eval (.tmp 103) = .slice A1 n1 c1 := v1
                        refine JF.call (FRs_mono gB b p) h hK 104 rfl 53 _ _ #[.slice OA on oc, .slice A1 n1 c1] rfl Tryz.call53 ?_ (refPutT_own OA A1 on oc n1 c1 b p.m w1 (own_bs2 (own_later ho h.inv.1)) hb1 hon.out hpf.out) ?_
                        · simp only [List.map_toArray, List.map_cons, List.map_nil, e0, e1]
                        · rintro e w3 ⟨A9, n9, c9, rfl, ho9, b9⟩
                          exact ⟨_, rfl, trivial, ⟨A9, n9, c9, rfl, own_low ho9 (Nat.le_trans hgB h.inv.1.size)⟩, b9⟩
                      · refine ⟨.inl rfl, ?_⟩
                        refine .inl ⟨by kernel_rfl, fun L a1 w1 n h => ⟨.pointer (some ⟨g1, 1, none⟩), rfl, ?_⟩⟩
                        have e0 : a1.eval (.tmp 1) = _ := h.var n 1 (by kernel_rfl)
                        unfold execOp
                        simp only [e0]
                        go_simp
                      · refine ⟨.inl rfl, ?_⟩
                        refine .inl ⟨by kernel_rfl, fun L a1 w1 n h => ⟨.pointer (some ⟨g1, 5, none⟩), rfl, ?_⟩⟩
                        have e0 : a1.eval (.tmp 105) = _ := h.dep n 10 105 (by kernel_rfl) rfl
                        unfold execOp
                        simp only [e0]
                        go_simp
                      · refine ⟨.inl rfl, ?_⟩
                        exact .inl ⟨by kernel_rfl, fun L a1 w1 n h => ⟨_, rfl, run_load1 24 (.tmp 106) g1 5 _ rfl Tryz.isAgg24 (h.dep n 11 106 (by kernel_rfl) rfl) ((r1.later h.inv.1).cell rfl)⟩⟩
                      · refine ⟨.inl rfl, ?_⟩
                        exact .inl ⟨by kernel_rfl, fun L a1 w1 n h => ⟨_, rfl, run_move (.tmp 8) rfl (h.var n 8 (by kernel_rfl))⟩⟩
                      · refine ⟨.inl rfl, ?_⟩
                        exact .inl ⟨by kernel_rfl, fun L a1 w1 n h => ⟨_, rfl, run_idxO 24 (.tmp 107) (.tmp 108) 99 2 ga oa _ _ i rfl Tryz.underlying24 Tryz.sizeOf99 (h.dep n 12 107 (by kernel_rfl) rfl) (h.dep n 13 108 (by kernel_rfl) rfl) hlt.out⟩⟩
                      · refine ⟨.inl rfl, ?_⟩
                        refine .inl ⟨by kernel_rfl, fun L a1 w1 n h => ⟨.pointer (some ⟨ga, oa + i * 2 + 1, none⟩), rfl, ?_⟩⟩
                        have e0 : a1.eval (.tmp 109) = _ := h.dep n 14 109 (by kernel_rfl) rfl
                        unfold execOp
                        simp only [e0]
                        go_simp
                      · refine ⟨.inl rfl, ?_⟩
                        exact .inl ⟨by kernel_rfl, fun L a1 w1 n h => ⟨_, rfl, run_load1 3 (.tmp 110) ga (oa + i * 2 + 1) _ rfl Tryz.isAgg3 (h.dep n 15 110 (by kernel_rfl) rfl) (hac1 w1 h.inv.1)⟩⟩
                      · refine ⟨.inl rfl, ?_⟩
                        refine .inl ⟨by kernel_rfl, fun L a1 w1 n h => ⟨.int .u64 (IntKind.u64.wrap p.s), rfl, ?_⟩⟩
                        have e0 : a1.eval (.tmp 111) = _ := h.dep n 16 111 (by kernel_rfl) rfl
                        unfold execOp
                        simp only [e0]
                        go_simp
                      · refine ⟨.inl rfl, ?_⟩
                        refine .inr fun L a1 w1 n h K hK => ?_
                        obtain ⟨A2, n2, c2, v2, ho2⟩ := JF.get h n 9 104 (by kernel_rfl) (by kernel_rfl) rfl
                        have e0 : a1.eval (.tmp 104) = .slice A2 n2 c2 := v2
                        have e1 : a1.eval (.tmp 112) = .int .u64 (IntKind.u64.wrap p.s) := h.dep n 17 112 (by kernel_rfl) rfl
                        refine JF.call (FRs_mono gB b p) h hK 113 rfl 54 _ _ #[.slice A2 n2 c2, .int .u64 (IntKind.u64.wrap p.s)] rfl Tryz.call54 ?_ (refPut64_own A2 n2 c2 (putT b p.m) _ w1 (own_bs2 ho2) (by have := (own_bs2 ho2).1; rw [putT_len] at this; have := hon2.out; have := hol2.out; omega) (wrap_u64 p.s).1 (wrap_u64 p.s).2) ?_
                        · simp only [List.map_toArray, List.map_cons, List.map_nil, e0, e1]
                        · rintro e w3 ⟨A9, n9, c9, rfl, ho9, b9⟩
                          exact ⟨_, rfl, trivial, ⟨A9, n9, c9, rfl, own_low ho9 (Nat.le_trans hgB h.inv.1.size)⟩, b9⟩
                      · refine ⟨.inl rfl, ?_⟩
                        refine .inr fun L a1 w1 n h K hK => ?_
                        obtain ⟨A3, n3, c3, v3, ho3⟩ := JF.get h n 18 113 (by kernel_rfl) (by kernel_rfl) rfl
                        exact JF.run (FRs_mono gB b p) h hK 5 rfl (.slice A3 n3 c3) (run_assign (.tmp 113) rfl v3) trivial ⟨A3, n3, c3, rfl, ho3⟩
                    case heS =>
                      intro V w9 hV hJ
                      obtain ⟨A5, n5, c5, e5, ho5⟩ : OwS gB (putT b p.m ++ highB (IntKind.u64.wrap p.s) 8) (V 19) w9 := JF.last hJ 19 5 rfl rfl
                      have b9 : Below wr.heap.size wr w9 := hJ.1
                      clear hV hJ
                      simp only [putOps, List.setIfInBounds_toArray, List.set_cons_succ, List.set_cons_zero, Nat.reduceAdd]
                      rw [e5]
                      refine hK6 _ _ ?_
                      clear e5
                      go_wp2_with fail
                      go_roundw
                      case rel => exact ⟨i + 1, by have := hlt9.out; omega, by go_num, ⟨A5, n5, c5, rfl, by rw [hmore.out, ← hbd.out]; exact ho5⟩, r1.later b9, BW.trans (b9.mono BW.size)⟩
                      case measure => have := hlt9.out; simp [intOf]; omega
                  · obtain rfl : i = x.ss.length := by omega
                    rw [List.take_length] at ho
                    clear hi hlt
                    go_wp2_with fail
                    go_ret2
                    exact ⟨⟨OA, on, oc, rfl, by rw [hEB.out, ← hb1.out, ← hb2.out]; exact own_bs2 ho⟩, BW⟩
  · rw [if_neg h0]
    replace hec := hide hec
    go_enter Tryz.func12, Tryz.ntmps12
    go_wp2_with (first
      | ((with_reducible refine wl_box (o := ⟨some 1, _, _, _, _, _⟩) rfl 28 (.tmp 0) _ (enC key x (.slice A2 x.ps.length C2) (.slice A3 x.ls.length C3) (.slice A4 x.ss.length C4) at_) rfl rfl rfl ?_); intro g1 w1 r1 p1 l1 b1)
      | (with_reducible refine wl_load_row (o := ⟨some 9, _, _, _, _, _⟩) rfl 28 (.tmp 1) g1 28 (enC key x (.slice A2 x.ps.length C2) (.slice A3 x.ls.length C3) (.slice A4 x.ss.length C4) at_) _ rfl rfl r1 Tryz.underlying28 rfl hsz ?_))
    refine (HR.out w1 b1).mono ?_
    rintro e w2 ⟨rfl, b2⟩
    have B2 := b1.trans (b2.mono b1.size)
    have r12 := r1.later b2
    rw [← hec.out]
    clear HR r1
    have hd1 : decide (ec = 0) = false := decide_eq_false h0
    have hd2 : (ec == 0) = false := beq_eq_false_iff_ne.2 h0
    go_wp2_with fail
    go_ret2
    exact ⟨⟨none, 0, 0, rfl, Bs.nil_⟩, B2⟩
end Go.Proofs.YtpbkejmffddelaaGreat
