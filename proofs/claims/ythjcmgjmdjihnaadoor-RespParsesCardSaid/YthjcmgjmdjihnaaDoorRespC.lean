/-
  A decoder: texts, lines, numbers. Contracts. Own work.
-/
import Derived.Test.YthjcmgjmdjihnaaDoorRespB
import Derived.BigQuiet
namespace Go.Proofs.YthjcmgjmdjihnaaDoor
open Go.RowKit Go.Shelf
set_option linter.unusedVariables false
set_option linter.unusedSimpArgs false
/-- What a decoder's call leaves and tells: a value and what is left, or that it gives up. -/
def DRes {α : Type} (w : World) (g B : Nat) (r : Except Nat (α × Wd)) (V : α → Value → World → Prop) (e : Ending) (w' : World) : Prop :=
  But g w w' ∧ match r with
  | .error c => e = .panicked (Pn c)
  | .ok p => (∃ v, e = .returned v ∧ V p.1 v w') ∧ DecAt w' g B p.2
theorem DRes.err {α : Type} {w w' : World} {g B c : Nat} {r : Except Nat (α × Wd)} {V : α → Value → World → Prop} (hr : r = .error c) (h : But g w w') : DRes w g B r V (.panicked (Pn c)) w' := by
  subst hr
  exact ⟨h, rfl⟩
theorem DRes.ok {α : Type} {w w' : World} {g B : Nat} {r : Except Nat (α × Wd)} {V : α → Value → World → Prop} {a : α} {q : Wd} {v : Value} (hr : r = .ok (a, q)) (h : But g w w') (hv : V a v w') (hd : DecAt w' g B q) : DRes w g B r V (.returned v) w' := by
  subst hr
  exact ⟨h, ⟨v, rfl, hv⟩, hd⟩
theorem DecAt.below {w w' : World} {g B : Nat} {s : Wd} (h : DecAt w g B s) (hb : Below w.heap.size w w') : DecAt w' g B s := by
  obtain ⟨A, c, r, h1, h2, h3⟩ := h
  exact ⟨A, c, r.later hb, h1.below (hb.mono (Nat.le_of_lt (Nat.lt_of_le_of_lt h3 r.lt))), h2, h3⟩
theorem DecAt.hB {w : World} {g B : Nat} {s : Wd} (h : DecAt w g B s) : B ≤ w.heap.size := by
  obtain ⟨A, c, r, h1, h2, h3⟩ := h
  exact Nat.le_of_lt (Nat.lt_of_le_of_lt h3 r.lt)
theorem crlf_take {s : Wd} {k : Nat} (h : k + 2 ≤ s.length) : Crlf (s.take (k + 2)) ↔ s[k]? = some 13 ∧ s[k + 1]? = some 10 := by
  unfold Crlf
  rw [List.length_take, Nat.min_eq_left h, show k + 2 - 2 = k by omega, show k + 2 - 1 = k + 1 by omega, List.getElem?_take, List.getElem?_take, if_pos (by omega), if_pos (by omega)]
  exact ⟨fun h => h.2, fun h => ⟨by omega, h⟩⟩
set_option maxRecDepth 100000 in
set_option maxHeartbeats 1000000 in
theorem text_dec (g B n : Nat) (s : Wd) (w : World) (h : DecAt w g B s) (hs : s.length ≤ 150000000000000) (hn : n ≤ 100000) : Calls Tryd.prog 32 #[.pointer (some ⟨g, 0, none⟩), .int .i64 (n : Int)] w (DRes w g B (textL n s) (fun a v w' => BsV w' B v a)) := by
  have HT := take_any g B (n + 2) s w h hs (by omega)
  have HE := fun w2 v h2 hB => ended_any w2 B v (s.take (n + 2)) h2 hB (by rw [List.length_take]; omega)
  have hadd : ((n : Int) + 2) = ((n + 2 : Nat) : Int) := by omega
  have hB := h.hB
  have hw : IntKind.i64.wrap ((n : Int) + 2) = ((n + 2 : Nat) : Int) := wrap_id hadd (by omega) (by omega)
  have hw2 := hide hw
  have hs2 := hide hs
  clear hadd hw hn h hs
  go_enter Tryd.func32, Tryd.ntmps32
  go_wp2_with (first
    | (with_reducible refine wl_run (o := ⟨some 7, _, _, _, _, _⟩) rfl (.int .i64 ((n + 2 : Nat) : Int)) (run_addZ (.tmp 6) (.const (.int .i64 2)) rfl rfl rfl hw2.out) ?_))
  refine HT.mono ?_
  rintro e w1 (⟨hlt, rfl, rfl⟩ | ⟨hle, ⟨v, rfl, bv1⟩, d1, o1⟩)
  · have ht : textL n s = .error 4 := by unfold textL; exact if_pos hlt
    replace ht := hide ht
    clear hlt HE HT
    go_wp2_with fail
    exact ⟨rfl, DRes.err ht.out (But.refl _ _)⟩
  · have hle2 := hide hle
    clear hle HT
    go_wp2_with fail
    refine (HE w1 v bv1 d1.hB).mono ?_
    rintro e w2 ⟨b2, ⟨hcr, v2, rfl, bv2⟩ | ⟨hcr, rfl⟩⟩
    · have ht : textL n s = .ok (s.take n, s.drop (n + 2)) := by
        unfold textL
        rw [if_neg (by have := hle2.out; omega), if_pos ((crlf_take hle2.out).1 hcr)]
      replace ht := hide ht
      clear hcr HE
      go_wp2_with fail
      go_ret
      refine DRes.ok ht.out ((But.only o1).trans (But.of b2 g)) ?_ (d1.below b2)
      rw [List.length_take, Nat.min_eq_left hle2.out, List.take_take, show min (n + 2 - 2) (n + 2) = n by omega] at bv2
      exact bv2
    · have ht : textL n s = .error 3 := by
        unfold textL
        rw [if_neg (by have := hle2.out; omega), if_neg (fun hq => hcr ((crlf_take hle2.out).2 hq))]
      replace ht := hide ht
      clear hcr HE
      go_wp2_with fail
      exact ⟨rfl, DRes.err ht.out ((But.only o1).trans (But.of b2 g))⟩
theorem idx_any (w : World) (B : Nat) (A : Option Addr) (c : Nat) (l : Wd) (h : Bs w B A l.length (nb l)) :
    Calls Tryd.prog 43 #[.slice A l.length c, .int .u8 10] w fun e w' => e = .returned (.int .i64 (Lib.indexByte l 10)) ∧ w = w' := by
  cases A with
  | none =>
    have hl : l.length = 0 := by
      rcases Nat.eq_zero_or_pos l.length with h0 | h0
      · exact h0
      · obtain ⟨b, o, e, _⟩ := h.2 h0
        cases e
    obtain rfl : l = [] := List.eq_nil_of_length_eq_zero hl
    clear h hl
    go_enter Tryd.func43, Tryd.ntmps43
    go_wp2
    rw [run_callFunc_extern Tryd.func47 (by kernel_rfl) (by kernel_rfl) (by kernel_rfl) (e := Extern.BytealgIndexByte.indexByte) (by kernel_rfl), Lib.run_indexByteNil w 0 c 10]
    simp only [Result.andThen]
    rw [Oper.upon_value]
    go_wp2
    go_ret
    exact ⟨rfl, rfl⟩
  | some a =>
    refine (Any.bytes_IndexByte_at idxBL a l.length c (nb l) 10 w (nb_len l) fun i hi => ?_).mono ?_
    · obtain ⟨b, o, e, _, hc⟩ := h.2 (by omega)
      injection e with e
      subst e
      rw [addr_plain]
      exact hc i hi
    · rintro e w' ⟨rfl, rfl⟩
      rw [nb_of]
      exact ⟨rfl, rfl⟩
def LN1 (gd : Nat) (A : Option Addr) (nn m c : Nat) (opn : Nat) (v : Value) : Prop :=
  match opn with
  | 0 | 1 | 2 | 5 | 6 | 7 => v = .pointer (some ⟨gd, 0, none⟩)
  | 3 | 8 => v = .slice A nn c
  | 4 => v = .int .i64 16
  | 9 => v = .int .i64 (nn : Int)
  | 10 => v = .int .i64 (m : Int)
  | 11 | 12 => v = .slice A m c
  | _ => True

def LN8 (bb oo k c2 : Nat) (cc : UInt8) (l9 : Wd) (opn : Nat) (v : Value) : Prop :=
  match opn with
  | 0 | 3 => v = .slice (some ⟨bb, oo, none⟩) k c2
  | 1 => v = .pointer (some ⟨bb, oo, none⟩)
  | 2 | 6 => v = .int .u8 (cc.toNat : Int)
  | 4 => v = .slice (subA (some ⟨bb, oo, none⟩) c2 1) (k - 1) (c2 - 1)
  | 5 | 7 => v = .string (strOfNums (nb l9))
  | _ => True

theorem crlf_line {s : Wd} {i : Nat} (h : nlAt s = some i) : Crlf (s.take (i + 1)) ↔ 1 ≤ i ∧ s[i - 1]? = some 13 := by
  obtain ⟨h1, h2, h3, h4⟩ := nlAt_some h
  unfold Crlf
  rw [List.length_take, Nat.min_eq_left (by omega), show i + 1 - 2 = i - 1 by omega, show i + 1 - 1 = i by omega, List.getElem?_take, List.getElem?_take, if_pos (by omega), if_pos (by omega)]
  exact ⟨fun h => ⟨by have := h.1; omega, h.2.1⟩, fun h => ⟨by have := h.1; omega, h.2, h3⟩⟩
def LineRes (w : World) (g B : Nat) (s : Wd) : Ending → World → Prop := DRes w g B (lineL s) (fun p v w' => v = .tuple #[.int .u8 (p.1.toNat : Int), encStr p.2])
set_option maxRecDepth 100000 in
set_option maxHeartbeats 1000000 in
theorem line_dec (gd B : Nat) (s : Wd) (w : World) (h : DecAt w gd B s) (hs : s.length ≤ 150000000000000) : Calls Tryd.prog 36 #[.pointer (some ⟨gd, 0, none⟩), .int .i64 16] w (LineRes w gd B s) := by
  obtain ⟨A, c, r, hb, hc, hg⟩ := id h
  have c0 := r.cell (j := 0) rfl
  have hcell := hide (show ∀ w1, Below w.heap.size w w1 → w1.cell? ⟨gd, 0, none⟩ = some (.slice A s.length c) from fun w1 hb1 => by
    rw [← c0]; exact World.cell?_of_block (hb1.block gd r.lt))
  have hm16 : min 16 s.length ≤ s.length := Nat.min_le_right _ _
  have hmin := hide (show min (16 : Int) (s.length : Int) = ((min 16 s.length : Nat) : Int) by omega)
  have hS1 := fun w => run_sliceTo (P := Tryd.prog) w 26 5 1 Tryd.underlying26 Tryd.sizeOf5 A s.length c .i64 ((min 16 s.length : Nat) : Int) (min 16 s.length) rfl (Nat.le_trans hm16 hc)
  have HI := fun w2 (b2 : Below w.heap.size w w2) => idx_any w2 B A c (s.take 16) (by
    have h2 := (BsV.cut hb hc (min 16 s.length) hm16)
    obtain ⟨q1, q2, q3⟩ := h2.len
    have e : s.take (min 16 s.length) = s.take 16 := by
      rw [List.take_eq_take_iff]; omega
    rw [e] at q2
    exact q2.below (b2.mono h.hB))
  rw [nlI_eq, List.length_take] at HI
  have HT := fun w2 (b2 : Below w.heap.size w w2) i (hi : i ≤ 16) => take_any gd B (i + 1) s w2 (h.below b2) hs (by omega)
  have HE := fun (i : Nat) w2 v (h2 : BsV w2 B v (s.take (i + 1))) hB => ended_any w2 B v (s.take (i + 1)) h2 hB (by rw [List.length_take]; omega)
  obtain ⟨nn, hn⟩ : ∃ n, n = s.length := ⟨_, rfl⟩
  obtain ⟨m, hm⟩ : ∃ m, m = min 16 s.length := ⟨_, rfl⟩
  rw [← hm] at hmin hS1 HI
  rw [← hn] at hmin hS1 hcell
  have hm2 := hide hm
  have hn2 := hide hn
  clear hm hn hm16 hb hc hg c0 r
  replace h := hide h
  go_enter Tryd.func36, Tryd.ntmps36
  go_wp2_with fail
  rename_i K1 hK1
  refine wp_region_vals [] (LN1 gd A nn m c) (fun _ _ wz => Below w.heap.size w wz) (by kernel_rfl) (by kernel_rfl) (by kernel_rfl) (by kernel_rfl) (by kernel_rfl) ((Below.refl _ _).drew) ?obs1 ?he1
  case obs1 =>
    refine ⟨?_, ?_, ?_, ?_, ?_, ?_, ?_, ?_, ?_, ?_, ?_, ?_, ?_, trivial⟩
    · exact .inl ⟨by kernel_rfl, fun L a1 w1 n h => ⟨_, rfl, run_move (.tmp 0) rfl (h.var n 0 (by kernel_rfl))⟩⟩
    · refine .inl ⟨by kernel_rfl, fun L a1 w1 n h => ⟨.pointer (some ⟨gd, 0, none⟩), rfl, ?_⟩⟩
      have e0 : a1.eval (.tmp 9) = _ := h.dep n 0 9 (by kernel_rfl) rfl
      unfold execOp
      simp only [e0]
      go_simp
    · refine .inl ⟨by kernel_rfl, fun L a1 w1 n h => ⟨.pointer (some ⟨gd, 0, none⟩), rfl, ?_⟩⟩
      have e0 : a1.eval (.tmp 10) = _ := h.dep n 1 10 (by kernel_rfl) rfl
      unfold execOp
      simp only [e0]
      go_simp
    · exact .inl ⟨by kernel_rfl, fun L a1 w1 n h => ⟨_, rfl, run_load1 26 (.tmp 11) gd 0 (.slice A nn c) rfl Tryd.isAgg26 (h.dep n 2 11 (by kernel_rfl) rfl) (hcell.out w1 h.inv)⟩⟩
    · exact .inl ⟨by kernel_rfl, fun L a1 w1 n h => ⟨_, rfl, run_move (.tmp 1) rfl (h.var n 1 (by kernel_rfl))⟩⟩
    · exact .inl ⟨by kernel_rfl, fun L a1 w1 n h => ⟨_, rfl, run_move (.tmp 0) rfl (h.var n 0 (by kernel_rfl))⟩⟩
    · refine .inl ⟨by kernel_rfl, fun L a1 w1 n h => ⟨.pointer (some ⟨gd, 0, none⟩), rfl, ?_⟩⟩
      have e0 : a1.eval (.tmp 14) = _ := h.dep n 5 14 (by kernel_rfl) rfl
      unfold execOp
      simp only [e0]
      go_simp
    · refine .inl ⟨by kernel_rfl, fun L a1 w1 n h => ⟨.pointer (some ⟨gd, 0, none⟩), rfl, ?_⟩⟩
      have e0 : a1.eval (.tmp 15) = _ := h.dep n 6 15 (by kernel_rfl) rfl
      unfold execOp
      simp only [e0]
      go_simp
    · exact .inl ⟨by kernel_rfl, fun L a1 w1 n h => ⟨_, rfl, run_load1 26 (.tmp 16) gd 0 (.slice A nn c) rfl Tryd.isAgg26 (h.dep n 7 16 (by kernel_rfl) rfl) (hcell.out w1 h.inv)⟩⟩
    · exact .inl ⟨by kernel_rfl, fun L a1 w1 n h => ⟨_, rfl, run_lenSl 26 (.tmp 17) A nn c rfl ⟨_, Tryd.underlying26⟩ (h.dep n 8 17 (by kernel_rfl) rfl)⟩⟩
    · exact .inl ⟨by kernel_rfl, fun L a1 w1 n h => ⟨_, rfl, run_min2 (.tmp 13) (.tmp 18) _ _ rfl (h.dep n 4 13 (by kernel_rfl) rfl) (h.dep n 9 18 (by kernel_rfl) rfl) hmin.out⟩⟩
    · refine .inl ⟨by kernel_rfl, fun L a1 w1 n h => ⟨.slice A m c, rfl, ?_⟩⟩
      have e0 : a1.eval (.tmp 12) = _ := h.dep n 3 12 (by kernel_rfl) rfl
      have e1 : a1.eval (.tmp 19) = _ := h.dep n 10 19 (by kernel_rfl) rfl
      unfold execOp
      simp only [e0, e1, Option.map_some, Option.map_none, Sem.run_bind, hS1 w1, Result.andThen_ok, Sem.run_pure]
    · exact .inl ⟨by kernel_rfl, fun L a1 w1 n h => ⟨_, rfl, run_assign (.tmp 20) rfl (h.dep n 11 20 (by kernel_rfl) rfl)⟩⟩
  case he1 =>
    intro V w1 hV hJ
    have b1 : Below w.heap.size w w1 := hJ
    have hE : V 12 = .slice A m c := hV 12 _ rfl
    clear hV hJ
    simp only [putOps, List.setIfInBounds_toArray, List.set_cons_succ, List.set_cons_zero, Nat.reduceAdd]
    rw [hE]
    refine hK1 _ _ ?_
    go_wp2_with fail
    refine (HI w1 b1).mono ?_
    rintro e w2 ⟨rfl, rfl⟩
    clear HI hS1 hmin hcell
    cases hq : nlAt s with
    | none =>
      have hni : nlI s = -1 := by unfold nlI; rw [hq]
      rw [hni]
      clear HT HE hni
      by_cases h16 : s.length < 16
      · have hL : lineL s = .error 4 := by unfold lineL; rw [hq]; simp only; rw [if_pos h16]
        have hmI : (m : Int) < 16 := by have := hm2.out; omega
        replace hL := hide hL
        clear hq h16
        go_wp2_with fail
        refine (need_yes w1).mono ?_
        rintro e w3 ⟨rfl, rfl⟩
        go_wp2_with fail
        refine (giveUp_any 4 w1).mono ?_
        rintro e w3 ⟨rfl, rfl⟩
        go_wp2_with fail
        exact ⟨rfl, DRes.err hL.out (But.of b1 gd)⟩
      · have hL : lineL s = .error 3 := by unfold lineL; rw [hq]; simp only; rw [if_neg h16]
        have hmI : ¬ (m : Int) < 16 := by have := hm2.out; omega
        replace hL := hide hL
        clear hq h16
        go_wp2_with fail
        rw [decide_eq_false (show ¬ (m : Int) < 16 by omega)]
        refine (need_no w1).mono ?_
        rintro e w3 ⟨rfl, rfl⟩
        go_wp2_with fail
        exact ⟨rfl, DRes.err hL.out (But.of b1 gd)⟩
    | some i =>
      have hni : nlI s = (i : Int) := by unfold nlI; rw [hq]
      rw [hni]
      obtain ⟨h1, h2, h3, h4⟩ := nlAt_some hq
      have hcr9 := hide (crlf_line hq)
      have hi0 : (0 : Int) ≤ (i : Int) := by omega
      have hi1 : ¬ (i : Int) < 0 := by omega
      have hadd := hide (show IntKind.i64.wrap ((i : Int) + 1) = ((i + 1 : Nat) : Int) from wrap_id (by omega) (by omega) (by omega))
      have HT2 := HT w1 b1 i (by omega)
      have hl9 := hide h2
      replace hq := hide hq
      clear HT hni h1 h2 h3 h4
      go_wp2_with fail
      refine (need_yes w1).mono ?_
      rintro e w3 ⟨rfl, rfl⟩
      go_wp2_with (first
        | (with_reducible refine wl_run (o := ⟨some 37, _, _, _, _, _⟩) rfl (.int .i64 ((i + 1 : Nat) : Int)) (run_addZ (.tmp 36) (.const (.int .i64 1)) rfl rfl rfl hadd.out) ?_))
      refine HT2.mono ?_
      rintro e w4 (⟨hlt, rfl, rfl⟩ | ⟨hle, ⟨v, rfl, bv4⟩, d4, o4⟩)
      · exact absurd hl9.out (by omega)
      have b14 : But gd w w4 := (But.of b1 gd).trans (But.only o4)
      clear HT2 hle o4
      go_wp2_with fail
      refine (HE i w4 v bv4 d4.hB).mono ?_
      rintro e w5 ⟨b5, ⟨hcr, v5, rfl, bv5⟩ | ⟨hcr, rfl⟩⟩
      · obtain ⟨hi2, h13⟩ := hcr9.out.1 hcr
        have bu5 := b14.trans (But.of b5 gd)
        have d5 := d4.below b5
        rw [List.length_take, Nat.min_eq_left (by have := hl9.out; omega), List.take_take, show min (i + 1 - 2) (i + 1) = i - 1 by omega] at bv5
        have hkl : (s.take (i - 1)).length = i - 1 := by rw [List.length_take, Nat.min_eq_left (by have := hl9.out; omega)]
        obtain ⟨A2, c2, rfl, hb2, hc2⟩ := bv5
        rw [hkl] at hb2 hc2 ⊢
        clear HE hcr bv4 d4 b14 b5
        by_cases hi3 : 2 ≤ i
        · have hL : lineL s = .ok ((s.getD 0 0, (s.take (i - 1)).drop 1), s.drop (i + 1)) := by
            unfold lineL
            rw [hq.out]
            simp only
            rw [if_pos ⟨hi3, h13⟩]
          obtain ⟨k, hk⟩ : ∃ k, k = i - 1 := ⟨_, rfl⟩
          obtain ⟨bb, oo, rfl, hbb, hcc⟩ := hb2.2 (by omega)
          obtain ⟨cc, hcc0⟩ : ∃ cc, cc = s.getD 0 0 := ⟨_, rfl⟩
          rw [← hk] at hb2 hc2 hkl ⊢
          have hk0 := hide (show 0 < k by omega)
          have hkI : (0 : Int) < (k : Int) := by omega
          have hc0 := hide (show ∀ w6, Below w5.heap.size w5 w6 → w6.cell? ⟨bb, oo, none⟩ = some (.int .u8 (cc.toNat : Int)) from fun w6 hb6 => by
            have := hcc 0 (by omega)
            rw [Nat.add_zero] at this
            rw [nb_at (c := cc) (by
              have hl := hl9.out
              rw [List.getElem?_take, if_pos (by omega), hcc0, List.getD, List.getElem?_eq_getElem (by omega)]
              rfl)] at this
            rw [← this]
            exact World.cell?_of_block (hb6.block bb (Nat.lt_of_lt_of_le hbb d5.hB)))
          have hS2 := fun w => run_sliceFrom (P := Tryd.prog) w 26 5 Tryd.underlying26 Tryd.sizeOf5 (some ⟨bb, oo, none⟩) k c2 .i64 1 hk0.out
          obtain ⟨l9, hl90⟩ : ∃ l9, l9 = (s.take k).drop 1 := ⟨_, rfl⟩
          have hb9 := hide (show ∀ w6, Below w5.heap.size w5 w6 → Bs w6 B (subA (some ⟨bb, oo, none⟩) c2 1) (k - 1) (nb l9) from fun w6 hb6 => by
            have := ((hb2.below (hb6.mono d5.hB)).sub (cap := c2) hk0.out (Nat.le_refl _) hc2)
            rw [List.take_of_length_le (by rw [List.length_drop, nb_len, hkl]; exact Nat.le_refl _), nb_drop, ← hl90] at this
            exact this)
          rw [← hk, ← hl90, ← hcc0] at hL
          replace hL := hide hL
          clear hk hkl hb2 hc2 hcc hbb hcc0 hl90 hi2 hi3 h13 hi0 hi1 hadd
          go_wp2_with fail
          rw [decide_eq_true hk0.out]
          refine (need_yes w5).mono ?_
          rintro e w6 ⟨rfl, rfl⟩
          go_wp2_with fail
          rename_i K8 hK8
          refine wp_region_vals [] (LN8 bb oo k c2 cc l9) (fun _ _ wz => Below w5.heap.size w5 wz) (by kernel_rfl) (by kernel_rfl) (by kernel_rfl) (by kernel_rfl) (by kernel_rfl) ((Below.refl _ _).drew) ?obs8 ?he8
          case obs8 =>
            refine ⟨?_, ?_, ?_, ?_, ?_, ?_, ?_, ?_, trivial⟩
            · exact .inl ⟨by kernel_rfl, fun L a1 w1 n h => ⟨_, rfl, run_move (.tmp 8) rfl (h.var n 8 (by kernel_rfl))⟩⟩
            · exact .inl ⟨by kernel_rfl, fun L a1 w1 n h => ⟨_, rfl, run_idxO0 26 (.tmp 44) (.const (.int .i64 0)) 5 1 bb oo k c2 rfl Tryd.underlying26 Tryd.sizeOf5 (h.dep n 0 44 (by kernel_rfl) rfl) rfl hk0.out⟩⟩
            · exact .inl ⟨by kernel_rfl, fun L a1 w1 n h => ⟨_, rfl, run_load1 5 (.tmp 45) bb oo (.int .u8 (cc.toNat : Int)) rfl Tryd.isAgg5 (h.dep n 1 45 (by kernel_rfl) rfl) (hc0.out w1 h.inv)⟩⟩
            · exact .inl ⟨by kernel_rfl, fun L a1 w1 n h => ⟨_, rfl, run_move (.tmp 8) rfl (h.var n 8 (by kernel_rfl))⟩⟩
            · exact .inl ⟨by kernel_rfl, fun L a1 w1 n h => ⟨_, rfl, run_sliceFromO 26 (.tmp 47) (.const (.int .i64 1)) rfl 5 Tryd.underlying26 Tryd.sizeOf5 (some ⟨bb, oo, none⟩) k c2 1 .i64 (h.dep n 3 47 (by kernel_rfl) rfl) rfl hk0.out⟩⟩
            · exact .inl ⟨by kernel_rfl, fun L a1 w1 n h => ⟨_, rfl, run_toStr 26 9 5 (.tmp 48) rfl (h.dep n 4 48 (by kernel_rfl) rfl) (hb9.out w1 h.inv) Tryd.underlying26 Tryd.underlying5 Tryd.underlying9⟩⟩
            · exact .inl ⟨by kernel_rfl, fun L a1 w1 n h => ⟨_, rfl, run_assign (.tmp 46) rfl (h.dep n 2 46 (by kernel_rfl) rfl)⟩⟩
            · exact .inl ⟨by kernel_rfl, fun L a1 w1 n h => ⟨_, rfl, run_assign (.tmp 49) rfl (h.dep n 5 49 (by kernel_rfl) rfl)⟩⟩
          case he8 =>
            intro V w6 hV hJ
            have b6 : Below w5.heap.size w5 w6 := hJ
            have hE : V 6 = .int .u8 (cc.toNat : Int) := hV 6 _ rfl
            have hE2 : V 7 = .string (strOfNums (nb l9)) := hV 7 _ rfl
            clear hV hJ
            simp only [putOps, List.setIfInBounds_toArray, List.set_cons_succ, List.set_cons_zero, Nat.reduceAdd]
            rw [hE, hE2, nb_str]
            refine hK8 _ _ ?_
            go_wp2_with fail
            go_ret2
            exact DRes.ok hL.out (bu5.trans (But.of b6 gd)) rfl (d5.below b6)
        · have hL : lineL s = .error 3 := by
            unfold lineL
            rw [hq.out]
            simp only
            rw [if_neg (fun h => hi3 h.1)]
          obtain ⟨k, hk⟩ : ∃ k, k = i - 1 := ⟨_, rfl⟩
          rw [← hk]
          have hkI : ¬ (0 : Int) < (k : Int) := by omega
          replace hL := hide hL
          clear hk hkl hb2 hc2 hi2 hi3 h13 hi0 hi1 hadd
          go_wp2_with fail
          rw [decide_eq_false (show ¬ 0 < k by omega)]
          refine (need_no w5).mono ?_
          rintro e w6 ⟨rfl, rfl⟩
          go_wp2_with fail
          exact ⟨rfl, DRes.err hL.out bu5⟩
      · have hL : lineL s = .error 3 := by
          unfold lineL
          rw [hq.out]
          simp only
          rw [if_neg (fun h => hcr (hcr9.out.2 ⟨by have := h.1; omega, h.2⟩))]
        have bu5 := b14.trans (But.of b5 gd)
        replace hL := hide hL
        clear hcr HE hi0 hi1 hadd
        go_wp2_with fail
        exact ⟨rfl, DRes.err hL.out bu5⟩
end Go.Proofs.YthjcmgjmdjihnaaDoor
