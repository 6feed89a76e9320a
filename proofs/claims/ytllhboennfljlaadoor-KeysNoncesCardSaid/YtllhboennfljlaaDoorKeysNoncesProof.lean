/- Proved: the law KeysNonces (P7.2, P7.4) answers true. For every two numbers; no condition but the tie of the table of keys to the program's text. -/
import Derived.Laws.ResultCell
import Derived.Test.YtllhboennfljlaaDoorRows
import Derived.Test.YtllhboennfljlaaDoorCards
import Derived.Test.YtllhboennfljlaaDoorTie
import Derived.WalkKit
import Derived.ProofKit
import Derived.OpenShut
import Derived.ShutString
import Derived.ChangeOld
import Derived.Below
import Derived.LaidMore
import Derived.Stop.Joined
import Derived.SevenTiedAt
import Derived.Test.YtllhboennfljlaaDoorGA
import Derived.Test.YtllhboennfljlaaDoorGK
set_option linter.unusedVariables false
set_option linter.unusedSimpArgs false
/-
  Bytes that lie outside a block; a copy into it. Own work.
-/
namespace Go.Proofs.YtllhboennfljlaaDoor
open Go.RowKit
theorem st_copy_take {P : Program} {o : Oper} {a : Act} {w : World} {K : Act → World → Prop} {Q : Exit → Act → World → Prop} (d s : Operand) (dT sT : TypeId) (ho : o.op = .call { callee := .builtin .copy, args := #[d, s], argTypes := #[dT, sT] }) (elem : TypeId) (hu : P.underlying dT = some (.slice elem)) (hsz : (P.info? elem).map (·.size) = some 1)
    (g off dLen dCap n c t B : Nat) (A : Option Addr) (hd : a.eval d = .slice (some ⟨g, off, none⟩) dLen dCap) (hs : a.eval s = .slice A n c) (cur : List Value) (xs : List Int) (k : Nat) (h : Row w t g cur) (hx : Bs w B A n xs) (hk0 : k = min n dLen) (hpos : 0 < k) (hfit : off + k ≤ cur.length)
    (hk : ∀ w', Row w' t g (cur.take off ++ (bv (xs.take k) ++ cur.drop (off + k))) → Only g w w' → K (a.put o.dst (goInt k)) w') : o.wp P a w K Q := by
  have hx' := hx.take (k := k) (by omega)
  obtain ⟨b, o', rfl, _, _⟩ := hx'.2 hpos
  have hl : (bv (xs.take k)).length = Nat.min n dLen := by rw [bv_len, hx'.1]; exact hk0
  have hrun := run_copy_row (P := P) w dT sT o.type elem g off dLen dCap ⟨b, o', none⟩ n c cur.toArray t (bv (xs.take k)) hu hsz h hl (hx'.cells rfl) (by rw [bv_len, hx'.1]; simpa using hfit) (bv_one _)
  rw [bv_len, hx'.1] at hrun
  unfold Oper.wp
  simp [execOp, ho, resolve, invoke, builtin, hd, hs, hrun, Result.andThen]
  refine hk _ ?_ (only_setRow _ _ _)
  have := setRow_heap w g _ (cur.take off ++ (bv (xs.take k) ++ cur.drop (off + k))).toArray t _ h
  exact this
theorem But.cellB {g B : Nat} {w w' : World} {p : Addr} (h : But g w w') (hB : B ≤ g) (hw : B ≤ w.heap.size) (hp : p.block < B) : w'.cell? p = w.cell? p := (h.below hB hw).cell hp
def Off (g n : Nat) (A : Option Addr) : Prop := 0 < n → ∀ x, A = some x → x.block ≠ g
theorem Off.of {w : World} {B g n : Nat} {A : Option Addr} {xs : List Int} (h : Bs w B A n xs) (hB : B ≤ g) : Off g n A := fun hn x hx => by
  obtain ⟨b, o, rfl, hb, _⟩ := h.2 hn
  injection hx with hx
  subst hx
  show b ≠ g
  omega
theorem Off.sub {g n : Nat} {A : Option Addr} (h : Off g n A) (c k : Nat) : Off g (n - k) (subA A c k) := fun hn x hx => by
  have h' := h (by omega)
  unfold subA at hx
  split at hx
  · exact h' x hx
  · cases A with
    | none => simp at hx
    | some y => simp at hx; subst hx; rw [show (y.add k).block = y.block from by unfold Addr.add; split <;> rfl]; exact h' y rfl
theorem Bs.keepOff {w w' : World} {g B n : Nat} {A : Option Addr} {xs : List Int} (h : Bs w B A n xs) (hw : But g w w') (ho : Off g n A) (hB : B ≤ w.heap.size) : Bs w' B A n xs := by
  refine ⟨h.1, fun hn => ?_⟩
  obtain ⟨b, o, rfl, hb, hc⟩ := h.2 hn
  have hne := ho hn _ rfl
  exact ⟨b, o, rfl, hb, fun j hj => by rw [World.cell?_of_block (w := w) (a := ⟨b, o + j, none⟩) (hw.block b (by omega) hne)]; exact hc j hj⟩
end Go.Proofs.YtllhboennfljlaaDoor

/-
  Keys: nonces: contracts. Own work.
-/
namespace Go.Proofs.YtllhboennfljlaaDoor
open Go.RowKit
theorem results_row_tmp {P : Program} {fn : Func} {p u : Tmp} {ty : TypeId} (h : fn.results = #[.cell p ty, .tmp u]) (tmps : Array Value) (w : World) (g : Nat) (t : TypeId) (cs : Array Value) (fr : Nat × Nat) (d : TypeDesc) (v : Value)
    (hp : tmps.getD p undef = .pointer (some ⟨g, 0, none⟩)) (hg : w.heap[g]? = some (.cells cs t fr))
    (hu : P.underlying ty = some d) (hd : (match d with | .struct _ | .array _ _ => true | _ => false) = true) (hi : (P.info? ty).map (·.size) = some cs.size) (hv : tmps.getD u undef = v) :
    (results fn tmps).run P w = .ok (.tuple #[.agg cs, v]) w := by
  rw [results_cell_tmp h, hp, hv]
  simp [asAddr, run_loadVar_row w g t ty cs fr d hg hu hd hi]
theorem lowB_inj {n : Nat} : ∀ {x y : Int}, 0 ≤ x → x < 256 ^ n → 0 ≤ y → y < 256 ^ n → lowB x n = lowB y n → x = y := by
  induction n with
  | zero => intro x y h1 h2 h3 h4 _; simp at h2 h4; omega
  | succ n ih =>
    intro x y h1 h2 h3 h4 h
    simp only [lowB, List.cons.injEq] at h
    rw [Int.pow_succ] at h2 h4
    have := ih (Int.ediv_nonneg h1 (by decide)) (by omega) (Int.ediv_nonneg h3 (by decide)) (by omega) h.2
    omega
theorem highB_inj {x y : Int} (h1 : 0 ≤ x) (h2 : x ≤ 1099511627776) (h3 : 0 ≤ y) (h4 : y ≤ 1099511627776) (h : highB x 8 = highB y 8) : x = y := by
  have e : (256 : Int) ^ 8 = 18446744073709551616 := by decide
  exact lowB_inj (n := 8) h1 (by rw [e]; omega) h3 (by rw [e]; omega) (List.reverse_inj.1 h)
/-- The nonce of a number. -/
def nonL (x : Int) : List Int := List.replicate 4 0 ++ highB (max x 0) 8
theorem nonL_len (x : Int) : (nonL x).length = 12 := by unfold nonL; rw [List.length_append, highB_length]; rfl
theorem nonL_inj {x y : Int} (h1 : 0 ≤ x ∧ x ≤ 1099511627776) (h2 : 0 ≤ y ∧ y ≤ 1099511627776) : nonL x = nonL y ↔ x = y := by
  refine ⟨fun h => ?_, fun h => by rw [h]⟩
  unfold nonL at h
  have := List.append_cancel_left h
  rw [Int.max_eq_left h1.1, Int.max_eq_left h2.1] at this
  exact highB_inj h1.1 h1.2 h2.1 h2.2 this
def zs12 : List Int := List.replicate 12 0
theorem zero12 : (Tryd.prog.info? 37).map (fun i => i.zero) = some (some (.agg (bv zs12).toArray)) := by kernel_rfl
theorem size12b {xs : List Int} (h : xs.length = 12) : (Tryd.prog.info? 37).map (·.size) = some (bv xs).length := by rw [bv_len, h]; kernel_rfl
set_option maxRecDepth 100000 in
set_option maxHeartbeats 1000000 in
theorem nonce_lo (x : Int) (w : World) (hi : isI x) (hx : x < 0) : Calls Tryd.prog 19 #[.int .i64 x] w fun e w' => e = .returned (.tuple #[.agg (bv zs12).toArray, .bool false]) ∧ Below w.heap.size w w' := by
  have zz := zero12
  have zf := hide (size12b (xs := zs12) (by decide))
  have hd : decide (x < 0) = true := by simp; omega
  skip
  generalize zs12 = Z at *
  go_enter Tryd.func19, Tryd.ntmps19
  go_wp2_with (first
    | (with_reducible refine wl_alloc (o := ⟨some 2, _, _, _, _, _⟩) rfl 37 _ (bv Z) rfl zz rfl ?_; intro g2 w2 r2 p2 l2 b2)
    | (with_reducible refine wl_alloc (o := ⟨some 4, _, _, _, _, _⟩) rfl 37 _ (bv Z) rfl zz rfl ?_; intro g4 w4 r4 p4 l4 b4; have r2a := r2.later b4)
    | (with_reducible refine wl_load_row rfl 37 (.tmp 4) g4 37 (bv Z) _ rfl rfl r4 Tryd.underlying37 rfl zf.out ?_)
    | (with_reducible refine wl_store_row rfl 37 (.tmp 2) (.tmp 12) g2 37 _ (bv Z) rfl rfl rfl r2a zf.out rfl (bv_one _) ?_; intro w5 r5 o5))
  refine bodyPost_ret (v := .tuple #[.agg (bv Z).toArray, .bool false]) ?_ rfl ⟨rfl, ?_⟩
  · exact results_row_tmp Tryd.results19 _ _ g2 37 _ (0, 0) _ _ rfl r5 Tryd.underlying37 rfl zf.out rfl
  · exact (b2.trans (b4.mono b2.size)).trans (o5.below p2)
set_option maxRecDepth 100000 in
set_option maxHeartbeats 1000000 in
theorem nonce_hi (x : Int) (w : World) (hi : isI x) (hx : 1099511627776 < x) : Calls Tryd.prog 19 #[.int .i64 x] w fun e w' => e = .returned (.tuple #[.agg (bv zs12).toArray, .bool false]) ∧ Below w.heap.size w w' := by
  have zz := zero12
  have zf := hide (size12b (xs := zs12) (by decide))
  have hd : decide (x < 0) = false := by simp; omega
  have hd2 : decide (1099511627776 < x) = true := by simp; omega
  generalize zs12 = Z at *
  go_enter Tryd.func19, Tryd.ntmps19
  go_wp2_with (first
    | (with_reducible refine wl_alloc (o := ⟨some 2, _, _, _, _, _⟩) rfl 37 _ (bv Z) rfl zz rfl ?_; intro g2 w2 r2 p2 l2 b2)
    | (with_reducible refine wl_alloc (o := ⟨some 4, _, _, _, _, _⟩) rfl 37 _ (bv Z) rfl zz rfl ?_; intro g4 w4 r4 p4 l4 b4; have r2a := r2.later b4)
    | (with_reducible refine wl_load_row rfl 37 (.tmp 4) g4 37 (bv Z) _ rfl rfl r4 Tryd.underlying37 rfl zf.out ?_)
    | (with_reducible refine wl_store_row rfl 37 (.tmp 2) (.tmp 12) g2 37 _ (bv Z) rfl rfl rfl r2a zf.out rfl (bv_one _) ?_; intro w5 r5 o5))
  refine bodyPost_ret (v := .tuple #[.agg (bv Z).toArray, .bool false]) ?_ rfl ⟨rfl, ?_⟩
  · exact results_row_tmp Tryd.results19 _ _ g2 37 _ (0, 0) _ _ rfl r5 Tryd.underlying37 rfl zf.out rfl
  · exact (b2.trans (b4.mono b2.size)).trans (o5.below p2)
set_option maxRecDepth 100000 in
set_option maxHeartbeats 1000000 in
theorem refNonce_no (x : Int) (w : World) (hi : isI x) (hx : ¬ (0 ≤ x ∧ x ≤ 1099511627776)) : Calls Tryd.prog 20 #[.int .i64 x] w fun e w' => e = .returned (.tuple #[.agg (bv zs12).toArray, .bool false]) ∧ Below w.heap.size w w' := by
  have zz := zero12
  have zf := hide (size12b (xs := zs12) (by decide))
  skip
  skip
  generalize zs12 = Z at *
  go_enter Tryd.func20, Tryd.ntmps20
  go_wp2_with (first
    | (with_reducible refine wl_alloc (o := ⟨some 2, _, _, _, _, _⟩) rfl 37 _ (bv Z) rfl zz rfl ?_; intro g2 w2 r2 p2 l2 b2)
    | (with_reducible refine wl_alloc (o := ⟨some 4, _, _, _, _, _⟩) rfl 37 _ (bv Z) rfl zz rfl ?_; intro g4 w4 r4 p4 l4 b4; have r2a := r2.later b4)
    | (with_reducible refine wl_load_row rfl 37 (.tmp 4) g4 37 (bv Z) _ rfl rfl r4 Tryd.underlying37 rfl zf.out ?_)
    | (with_reducible refine wl_store_row rfl 37 (.tmp 2) (.tmp 10) g2 37 _ (bv Z) rfl rfl rfl r2a zf.out rfl (bv_one _) ?_; intro w5 r5 o5))
  refine (in_f x w4 hi hx).mono ?_
  rintro e w' ⟨rfl, rfl⟩
  go_wp2_with (first
    | (with_reducible refine wl_load_row rfl 37 (.tmp 4) g4 37 (bv Z) _ rfl rfl r4 Tryd.underlying37 rfl zf.out ?_)
    | (with_reducible refine wl_store_row rfl 37 (.tmp 2) (.tmp 10) g2 37 _ (bv Z) rfl rfl rfl r2a zf.out rfl (bv_one _) ?_; intro w5 r5 o5))
  refine bodyPost_ret (v := .tuple #[.agg (bv Z).toArray, .bool false]) ?_ rfl ⟨rfl, ?_⟩
  · exact results_row_tmp Tryd.results20 _ _ g2 37 _ (0, 0) _ _ rfl r5 Tryd.underlying37 rfl zf.out rfl
  · exact (b2.trans (b4.mono b2.size)).trans (o5.below p2)

set_option maxRecDepth 100000 in
set_option maxHeartbeats 1000000 in
theorem nonce_yes (x : Int) (w : World) (hi : isI x) (hx : 0 ≤ x ∧ x ≤ 1099511627776) : Calls Tryd.prog 19 #[.int .i64 x] w fun e w' => e = .returned (.tuple #[.agg (bv (nonL x)).toArray, .bool true]) ∧ Below w.heap.size w w' := by
  have zz := zero12
  have zf := hide (size12b (nonL_len x))
  have lf := hide (show (bv zs12).length = (bv (nonL x)).length by rw [bv_len, bv_len, nonL_len]; rfl)
  have hd : decide (x < 0) = false := by simp; omega
  have hd2 : decide (1099511627776 < x) = false := by simp; omega
  have hP := fun w => putNum_any none 0 0 [] x w Bs.nil_ (by decide) hi.1 hi.2
  rw [List.nil_append] at hP
  have hHl := highB_length (max x 0) 8
  have hdef : nonL x = zs12.take 4 ++ highB (max x 0) 8 ++ zs12.drop (4 + 8) := by unfold nonL zs12; simp
  have HD := hide hdef
  have hz12 := hide (show zs12.length = 12 by decide)
  clear hdef
  generalize nonL x = FS at *
  generalize highB (max x 0) 8 = X at *
  generalize zs12 = Z at *
  go_enter Tryd.func19, Tryd.ntmps19
  go_wp2_with (first
    | (with_reducible refine wl_alloc (o := ⟨some 2, _, _, _, _, _⟩) rfl 37 _ (bv Z) rfl zz rfl ?_; intro g2 w2 r2 p2 l2 b2)
    | (with_reducible refine wl_alloc (o := ⟨some 4, _, _, _, _, _⟩) rfl 37 _ (bv Z) rfl zz rfl ?_; intro g4 w4 r4 p4 l4 b4; have r2a := r2.later b4))
  have B4 := b2.trans (b4.mono b2.size)
  refine (hP w4).mono ?_
  rintro e w5 ⟨A, n, c, rfl, h5, hn, hc, b5⟩
  have hn8 : n = 8 := by rw [← h5.1]; exact hHl
  subst hn8
  have B5 := B4.trans (b5.mono B4.size)
  have q4 : w.heap.size ≤ g4 := Nat.le_trans b2.size p4
  have r2b := r2a.later b5
  have r4b := r4.later b5
  have h24 : g2 ≠ g4 := by have := r2.lt; omega
  have hS := fun w => run_sliceArr (P := Tryd.prog) w 37 12 5 Tryd.underlying37 Tryd.sizeOf5 .i64 g4 4 (by decide)
  have h4lt : g4 < w5.heap.size := r4b.lt
  clear r2 r2a r4 b5 hP hHl
  have hlt24 : g2 < g4 := by have := b2.size; omega
  go_wp2_with (first
    | (refine wpList_copy_bs rfl (.tmp 18) (.tmp 19) _ _ rfl 5 Tryd.underlying26 u8_size g4 4 _ _ 8 c A rfl rfl Z X 37 w5.heap.size (Row.toOwn r4b) h5 (by decide) (by rw [hz12.out]; decide) g4 w5 (Below.refl _ _) (Nat.le_refl _) ?_; intro w6 r6 b6; have r6' : Row w6 37 g4 (bv FS) := (by rw [HD.out]; exact r6); have r2c := r2b.below b6 hlt24)
    | (with_reducible refine wl_load_row rfl 37 (.tmp 4) g4 37 (bv FS) _ rfl rfl r6' Tryd.underlying37 rfl zf.out ?_)
    | (with_reducible refine wl_store_row rfl 37 (.tmp 2) (.tmp 21) g2 37 _ (bv FS) rfl rfl rfl r2c zf.out lf.out (bv_one _) ?_; intro w7 r7 o7))
  refine bodyPost_ret (v := .tuple #[.agg (bv FS).toArray, .bool true]) ?_ rfl ⟨rfl, ?_⟩
  · exact results_row_tmp Tryd.results19 _ _ g2 37 _ (0, 0) _ _ rfl r7 Tryd.underlying37 rfl zf.out rfl
  · exact (B5.trans (b6.mono q4)).trans (o7.below p2)
/-- Bytes that a call made in new memory. -/
def RetFn (out : List Int) (w : World) (e : Ending) (w' : World) : Prop :=
  ∃ A n c, e = .returned (.slice A n c) ∧ Bs w' w'.heap.size A n out ∧ n ≤ c ∧ Below w.heap.size w w' ∧ ∀ x, A = some x → w.heap.size ≤ x.block
set_option maxRecDepth 100000 in
theorem refPut64_fn (x : Int) (w : World) (h0 : 0 ≤ x) (h1 : x < 2 ^ 64) : Calls Tryd.prog 39 #[.slice none 0 0, .int .u64 x] w (RetFn (highB x 8) w) := by
  go_enter Tryd.func39, Tryd.ntmps39
  go_wp2_with fail
  refine (high_any x 8 w h0 (by omega) (by omega)).mono ?_
  rintro e w1 ⟨A1, n1, c1, rfl, hb1, hn1, hc1, hl1⟩
  have hlen : n1 ≤ 8 := by have := hb1.1; rw [highB_length] at this; omega
  go_wp2_with fail
  refine (both_own none A1 0 n1 0 c1 [] (highB x 8) w1 Bs.nil_ hb1 (by omega)).mono ?_
  rintro e w2 ⟨v, rfl, ho, hb⟩
  rw [List.nil_append] at ho
  obtain ⟨A, c, rfl, q1, q2, q3⟩ := ownsRow_bs ho
  go_wp2_with fail
  go_ret
  rw [Nat.zero_add] at q1 q2
  refine ⟨A, _, c, rfl, q1, q2, hl1.trans (hb.mono hl1.size), fun y hy => ?_⟩
  subst hy
  exact Nat.le_trans hl1.size (ho.lt y.block rfl).1
set_option maxRecDepth 100000 in
theorem refPutNum_fn (x : Int) (w : World) (hi : isI x) (hx : 0 ≤ x) : Calls Tryd.prog 26 #[.slice none 0 0, .int .i64 x] w (RetFn (highB (max x 0) 8) w) := by
  obtain ⟨h0, h1⟩ := hi
  rw [Int.max_eq_left hx]
  go_enter Tryd.func26, Tryd.ntmps26
  go_wp2_with fail
  refine (refPut64_fn x w hx (by omega)).mono ?_
  rintro e w1 ⟨A1, n1, c1, rfl, h⟩
  have H := hide h
  clear h
  go_wp2_with fail
  go_ret
  exact ⟨A1, n1, c1, rfl, H.out⟩
set_option maxRecDepth 100000 in
set_option maxHeartbeats 2000000 in
theorem refNonce_yes (x : Int) (w : World) (hi : isI x) (hx : 0 ≤ x ∧ x ≤ 1099511627776) : Calls Tryd.prog 20 #[.int .i64 x] w fun e w' => e = .returned (.tuple #[.agg (bv (nonL x)).toArray, .bool true]) ∧ Below w.heap.size w w' := by
  have zz := zero12
  have zf := hide (size12b (nonL_len x))
  have lf := hide (show (bv zs12).length = (bv (nonL x)).length by rw [bv_len, bv_len, nonL_len]; rfl)
  have hP := fun w => refPutNum_fn x w hi hx.1
  have hIn := fun w => in_t x w hi hx
  have hHl := highB_length (max x 0) 8
  have hdef : ∀ i, i ≤ 8 → (List.replicate 4 0 ++ ((highB (max x 0) 8).take i ++ List.replicate (8 - i) 0)).length = 12 := by intro i h; simp [highB_length]; omega
  have hset : ∀ i, i < 8 → (List.replicate 4 0 ++ ((highB (max x 0) 8).take i ++ List.replicate (8 - i) 0)).set (4 + i) ((highB (max x 0) 8).getD i 0) = List.replicate 4 0 ++ ((highB (max x 0) 8).take (i + 1) ++ List.replicate (8 - (i + 1)) 0) := by
    intro i h
    rw [List.set_append_right _ _ (by simp), List.length_replicate, show 4 + i - 4 = i by omega]
    congr 1
    rw [List.set_append_right _ _ (by simp only [List.length_take]; omega), List.length_take, hHl, Nat.min_eq_left (by omega), Nat.sub_self, show 8 - i = (8 - (i + 1)) + 1 by omega, List.replicate_succ, List.set_cons_zero, List.take_succ_eq_append_getElem (by rw [hHl]; exact h), List.append_assoc]
    simp [List.getD, List.getElem?_eq_getElem (show i < (highB (max x 0) 8).length by rw [hHl]; exact h)]
  have h0 : zs12 = List.replicate 4 0 ++ ((highB (max x 0) 8).take 0 ++ List.replicate (8 - 0) 0) := by simp [zs12]
  have h8 : List.replicate 4 0 ++ ((highB (max x 0) 8).take 8 ++ List.replicate (8 - 8) 0) = nonL x := by unfold nonL; rw [List.take_of_length_le (by rw [hHl]; exact Nat.le_refl _)]; simp
  have HLen := hide hdef; have HSet := hide hset; have H0 := hide h0; have H8 := hide h8
  clear hdef hset h0 h8
  generalize nonL x = FS at *
  generalize highB (max x 0) 8 = X at *
  generalize zs12 = Z at *
  go_enter Tryd.func20, Tryd.ntmps20
  go_wp2_with (first
    | (with_reducible refine wl_alloc (o := ⟨some 2, _, _, _, _, _⟩) rfl 37 _ (bv Z) rfl zz rfl ?_; intro g2 w2 r2 p2 l2 b2)
    | (with_reducible refine wl_alloc (o := ⟨some 4, _, _, _, _, _⟩) rfl 37 _ (bv Z) rfl zz rfl ?_; intro g4 w4 r4 p4 l4 b4; have r2a := r2.later b4))
  have B4 := b2.trans (b4.mono b2.size)
  refine (hIn w4).mono ?_
  rintro e w' ⟨rfl, rfl⟩
  go_wp2_with fail
  refine (hP w4).mono ?_
  rintro e w5 ⟨A, n, c, rfl, h5, hn, b5, hfr⟩
  have hn8 : n = 8 := by rw [← h5.1]; exact hHl
  subst hn8
  have B5 := B4.trans (b5.mono B4.size)
  have q4 : w.heap.size ≤ g4 := Nat.le_trans b2.size p4
  have r2b := r2a.later b5
  have r4b := r4.later b5
  have h24 : g2 ≠ g4 := by have := r2.lt; omega
  have ho : Off g4 8 A := fun _ y hy => by have := hfr y hy; have := r4.lt; omega
  rw [H0.out] at r4b
  have hXl := hide hHl
  clear r2 r2a r4 b5 hP hHl hIn hfr
  go_wp2_with fail
  go_loopw [6] (fun iv wr => ∃ i : Nat, i ≤ 8 ∧ iv = .int .i64 i ∧ Row wr 37 g4 (bv (List.replicate 4 0 ++ (X.take i ++ List.replicate (8 - i) 0))) ∧ Row wr 37 g2 (bv Z) ∧ But g4 w5 wr) (fun iv _ => 8 - (intOf iv).toNat)
  case atStart => exact ⟨0, Nat.zero_le _, rfl, r4b, r2b, But.refl _ _⟩
  case round =>
    clear r4b r2b
    obtain ⟨i, hi, rfl, r4, r2, br⟩ := hrel
    have hbs := h5.keepOff br ho (Nat.le_refl _)
    by_cases hlt : i < 8
    · obtain ⟨b, o, rfl, hb, hcs⟩ := hbs.2 (by decide)
      have c1 := hcs i hlt
      have hset := HSet.out i hlt
      have hlen := HLen.out i hi
      have HS := hide hset
      have HL := hide (show 4 + i < (bv (List.replicate 4 0 ++ (X.take i ++ List.replicate (8 - i) 0))).length by rw [bv_len, hlen]; omega)
      clear hset hlen hcs
      generalize X.getD i 0 = y at *
      generalize hcur : List.replicate 4 0 ++ (X.take i ++ List.replicate (8 - i) 0) = cur at *
      clear hcur
      go_wp2_with (first
        | (with_reducible refine wl_store rfl 5 (.tmp 23) (.tmp 22) g4 (4 + i) 37 _ (.int .u8 y) rfl (by kernel_rfl) rfl rfl r4 HL.out rfl ?_; intro w7 r7 o7; rw [bv_set, HS.out] at r7))
      go_roundw
      case rel => exact ⟨i + 1, by omega, by go_num, r7, r2.only o7 h24, br.trans (But.only o7)⟩
      case measure => simp [intOf]; omega
    · have h8 : i = 8 := by omega
      subst h8
      rw [H8.out] at r4
      have B6 := B5.trans (br.below q4 B5.size)
      clear hbs hlt hi
      go_wp2_with (first
        | (with_reducible refine wl_load_row rfl 37 (.tmp 4) g4 37 (bv FS) _ rfl rfl r4 Tryd.underlying37 rfl zf.out ?_)
        | (with_reducible refine wl_store_row rfl 37 (.tmp 2) (.tmp 24) g2 37 _ (bv FS) rfl rfl rfl r2 zf.out lf.out (bv_one _) ?_; intro w7 r7 o7))
      refine bodyPost_ret (v := .tuple #[.agg (bv FS).toArray, .bool true]) ?_ rfl ⟨rfl, ?_⟩
      · exact results_row_tmp Tryd.results20 _ _ g2 37 _ (0, 0) _ _ rfl r7 Tryd.underlying37 rfl zf.out rfl
      · exact B6.trans (o7.below p2)
end Go.Proofs.YtllhboennfljlaaDoor

/-
  Keys: the law KeysNonces: contract. Own work.
-/
namespace Go.Proofs.YtllhboennfljlaaDoor
open Go.RowKit
theorem eq12 (xs ys : List Int) (hx : xs.length = 12) (hy : ys.length = 12) (w : World) : (Op.equalIn 10000 37 (.agg (bv xs).toArray) (.agg (bv ys).toArray)).run Tryd.prog w = .ok (decide (xs = ys)) w := by
  obtain ⟨i0, hi, _⟩ := u8_info
  exact run_eqArr w Tryd.underlying37 hi (by kernel_rfl) Tryd.underlying5 Tryd.isAgg5 xs ys hx hy
theorem nonce_no (x : Int) (w : World) (hi : isI x) (hx : ¬ (0 ≤ x ∧ x ≤ 1099511627776)) : Calls Tryd.prog 19 #[.int .i64 x] w fun e w' => e = .returned (.tuple #[.agg (bv zs12).toArray, .bool false]) ∧ Below w.heap.size w w' := by
  by_cases h : x < 0
  · exact nonce_lo x w hi h
  · exact nonce_hi x w hi (by omega)
set_option maxRecDepth 100000 in
set_option maxHeartbeats 1000000 in
theorem nonces_vv (x y : Int) (w : World) (hT : TabK w) (ix : isI x) (iy : isI y) (vx : 0 ≤ x ∧ x ≤ 1099511627776) (vy : 0 ≤ y ∧ y ≤ 1099511627776) (hne : x ≠ y) : Calls Tryd.prog 7 #[.int .i64 x, .int .i64 y] w fun e w' => e = .returned (.bool true) ∧ Below w.heap.size w w' := by
  obtain ⟨Z, hZ⟩ : ∃ Z, Z = zs12 := ⟨_, rfl⟩
  obtain ⟨F1, hF1⟩ : ∃ F, F = (nonL x) := ⟨_, rfl⟩
  obtain ⟨F2, hF2⟩ : ∃ F, F = (nonL y) := ⟨_, rfl⟩
  have P1 : ∀ w, Calls Tryd.prog 19 #[.int .i64 x] w fun e w' => e = .returned (.tuple #[.agg (bv F1).toArray, .bool true]) ∧ Below w.heap.size w w' := by intro w; rw [hF1]; exact nonce_yes x w ix vx
  have R1 : ∀ w, Calls Tryd.prog 20 #[.int .i64 x] w fun e w' => e = .returned (.tuple #[.agg (bv F1).toArray, .bool true]) ∧ Below w.heap.size w w' := by intro w; rw [hF1]; exact refNonce_yes x w ix vx
  have P2 : ∀ w, Calls Tryd.prog 19 #[.int .i64 y] w fun e w' => e = .returned (.tuple #[.agg (bv F2).toArray, .bool true]) ∧ Below w.heap.size w w' := by intro w; rw [hF2]; exact nonce_yes y w iy vy
  have l1 : F1.length = 12 := by rw [hF1]; exact nonL_len _
  have l2 : F2.length = 12 := by rw [hF2]; exact nonL_len _
  have lZ : Z.length = 12 := by rw [hZ]; decide
  have E1 : ∀ w, (Op.equalIn 10000 37 (.agg (bv F1).toArray) (.agg (bv F1).toArray)).run Tryd.prog w = .ok true w := fun w => (eq12 _ _ l1 l1 w).trans (by simp)
  have E2 : ∀ w, (Op.equalIn 10000 37 (.agg (bv F1).toArray) (.agg (bv F2).toArray)).run Tryd.prog w = .ok false w := fun w => (eq12 _ _ l1 l2 w).trans (by rw [hF1, hF2]; rw [decide_eq_false (fun h => hne ((nonL_inj vx vy).1 h))])
  have z1 := hide (size12b l1)
  have z2 := hide (size12b l2)
  have lz1 := hide (show (bv Z).length = (bv F1).length by rw [bv_len, bv_len, l1, lZ])
  have lz2 := hide (show (bv Z).length = (bv F2).length by rw [bv_len, bv_len, l2, lZ])
  have zz : (Tryd.prog.info? 37).map (fun i => i.zero) = some (some (.agg (bv Z).toArray)) := by rw [hZ]; exact zero12
  have hq : (x == y) = false := by simp; exact hne
  clear l1 l2 lZ ix iy hF1 hF2 hZ
  go_enter Tryd.func7, Tryd.ntmps7
  go_wp2_with fail
  refine (P1 w).mono ?_
  rintro e w1 ⟨rfl, b1⟩
  go_wp2_with (first
    | (with_reducible refine wl_alloc rfl 37 _ (bv Z) rfl zz rfl ?_; intro g5 w2 r5 p5 l5 b2)
    | (with_reducible refine wl_store_row rfl 37 (.tmp 5) (.tmp 14) g5 37 _ (bv F1) rfl rfl rfl r5 z1.out lz1.out (bv_one _) ?_; intro w3 r5a o3))
  have B3 := b1.trans ((b2.trans (o3.below p5)).mono b1.size)
  clear r5 b2 o3
  refine (R1 w3).mono ?_
  rintro e w4 ⟨rfl, b4⟩
  have B4 := B3.trans (b4.mono B3.size)
  have r5b := r5a.later b4
  clear r5a
  go_wp2_with (first
    | (with_reducible refine wl_alloc rfl 37 _ (bv Z) rfl zz rfl ?_; intro g7 w5 r7 p7 l7 b5)
    | (with_reducible refine wl_store_row rfl 37 (.tmp 7) (.tmp 19) g7 37 _ (bv F1) rfl rfl rfl r7 z1.out lz1.out (bv_one _) ?_; intro w6 r7a o6))
  have b46 := b5.trans (o6.below p7)
  have B6 := B4.trans (b46.mono B4.size)
  have r5c := r5b.later b46
  clear r7 r5b b5 o6 b46
  refine (P2 w6).mono ?_
  rintro e w7 ⟨rfl, b7⟩
  have B7 := B6.trans (b7.mono B6.size)
  have r5d := r5c.later b7
  have r7b := r7a.later b7
  clear r5c r7a
  go_wp2_with (first
    | (with_reducible refine wl_alloc rfl 37 _ (bv Z) rfl zz rfl ?_; intro g9 w8 r9 p9 l9 b8)
    | (with_reducible refine wl_store_row rfl 37 (.tmp 9) (.tmp 24) g9 37 _ (bv F2) rfl rfl rfl r9 z2.out lz2.out (bv_one _) ?_; intro w9 r9a o9; have b79 := b8.trans (o9.below p9); have r5e := r5d.later b79; have r7c := r7b.later b79)
    | (with_reducible refine wl_load_row rfl 37 (.tmp 5) g5 37 (bv F1) _ rfl rfl r5e Tryd.underlying37 rfl z1.out ?_)
    | (with_reducible refine wl_load_row rfl 37 (.tmp 7) g7 37 (bv F1) _ rfl rfl r7c Tryd.underlying37 rfl z1.out ?_)
    | (with_reducible refine wg_load_row _ _ _ rfl rfl rfl 37 (.tmp 5) g5 37 (bv F1) _ rfl rfl r5e Tryd.underlying37 rfl z1.out ?_)
    | (with_reducible refine wg_load_row _ _ _ rfl rfl rfl 37 (.tmp 9) g9 37 (bv F2) _ rfl rfl r9a Tryd.underlying37 rfl z2.out ?_)
    | rw [E1] | rw [E2])
  have B9 := B7.trans (b79.mono B7.size)
  refine (awake_any w9 (hT.later B9)).mono ?_
  rintro e w10 ⟨rfl, b10⟩
  go_wp2_with fail
  go_ret
  exact ⟨rfl, B9.trans (b10.mono B9.size)⟩
set_option maxRecDepth 100000 in
set_option maxHeartbeats 1000000 in
theorem nonces_vs (x : Int) (w : World) (hT : TabK w) (ix : isI x) (vx : 0 ≤ x ∧ x ≤ 1099511627776) : Calls Tryd.prog 7 #[.int .i64 x, .int .i64 x] w fun e w' => e = .returned (.bool true) ∧ Below w.heap.size w w' := by
  obtain ⟨Z, hZ⟩ : ∃ Z, Z = zs12 := ⟨_, rfl⟩
  obtain ⟨F1, hF1⟩ : ∃ F, F = (nonL x) := ⟨_, rfl⟩
  obtain ⟨F2, hF2⟩ : ∃ F, F = (nonL x) := ⟨_, rfl⟩
  have P1 : ∀ w, Calls Tryd.prog 19 #[.int .i64 x] w fun e w' => e = .returned (.tuple #[.agg (bv F1).toArray, .bool true]) ∧ Below w.heap.size w w' := by intro w; rw [hF1]; exact nonce_yes x w ix vx
  have R1 : ∀ w, Calls Tryd.prog 20 #[.int .i64 x] w fun e w' => e = .returned (.tuple #[.agg (bv F1).toArray, .bool true]) ∧ Below w.heap.size w w' := by intro w; rw [hF1]; exact refNonce_yes x w ix vx
  have P2 : ∀ w, Calls Tryd.prog 19 #[.int .i64 x] w fun e w' => e = .returned (.tuple #[.agg (bv F2).toArray, .bool true]) ∧ Below w.heap.size w w' := by intro w; rw [hF2]; exact nonce_yes x w ix vx
  have l1 : F1.length = 12 := by rw [hF1]; exact nonL_len _
  have l2 : F2.length = 12 := by rw [hF2]; exact nonL_len _
  have lZ : Z.length = 12 := by rw [hZ]; decide
  have E1 : ∀ w, (Op.equalIn 10000 37 (.agg (bv F1).toArray) (.agg (bv F1).toArray)).run Tryd.prog w = .ok true w := fun w => (eq12 _ _ l1 l1 w).trans (by simp)
  have E2 : ∀ w, (Op.equalIn 10000 37 (.agg (bv F1).toArray) (.agg (bv F2).toArray)).run Tryd.prog w = .ok true w := fun w => (eq12 _ _ l1 l2 w).trans (by rw [hF1, hF2]; simp)
  have z1 := hide (size12b l1)
  have z2 := hide (size12b l2)
  have lz1 := hide (show (bv Z).length = (bv F1).length by rw [bv_len, bv_len, l1, lZ])
  have lz2 := hide (show (bv Z).length = (bv F2).length by rw [bv_len, bv_len, l2, lZ])
  have zz : (Tryd.prog.info? 37).map (fun i => i.zero) = some (some (.agg (bv Z).toArray)) := by rw [hZ]; exact zero12
  skip
  clear l1 l2 lZ ix hF1 hF2 hZ
  go_enter Tryd.func7, Tryd.ntmps7
  go_wp2_with fail
  refine (P1 w).mono ?_
  rintro e w1 ⟨rfl, b1⟩
  go_wp2_with (first
    | (with_reducible refine wl_alloc rfl 37 _ (bv Z) rfl zz rfl ?_; intro g5 w2 r5 p5 l5 b2)
    | (with_reducible refine wl_store_row rfl 37 (.tmp 5) (.tmp 14) g5 37 _ (bv F1) rfl rfl rfl r5 z1.out lz1.out (bv_one _) ?_; intro w3 r5a o3))
  have B3 := b1.trans ((b2.trans (o3.below p5)).mono b1.size)
  clear r5 b2 o3
  refine (R1 w3).mono ?_
  rintro e w4 ⟨rfl, b4⟩
  have B4 := B3.trans (b4.mono B3.size)
  have r5b := r5a.later b4
  clear r5a
  go_wp2_with (first
    | (with_reducible refine wl_alloc rfl 37 _ (bv Z) rfl zz rfl ?_; intro g7 w5 r7 p7 l7 b5)
    | (with_reducible refine wl_store_row rfl 37 (.tmp 7) (.tmp 19) g7 37 _ (bv F1) rfl rfl rfl r7 z1.out lz1.out (bv_one _) ?_; intro w6 r7a o6))
  have b46 := b5.trans (o6.below p7)
  have B6 := B4.trans (b46.mono B4.size)
  have r5c := r5b.later b46
  clear r7 r5b b5 o6 b46
  refine (P2 w6).mono ?_
  rintro e w7 ⟨rfl, b7⟩
  have B7 := B6.trans (b7.mono B6.size)
  have r5d := r5c.later b7
  have r7b := r7a.later b7
  clear r5c r7a
  go_wp2_with (first
    | (with_reducible refine wl_alloc rfl 37 _ (bv Z) rfl zz rfl ?_; intro g9 w8 r9 p9 l9 b8)
    | (with_reducible refine wl_store_row rfl 37 (.tmp 9) (.tmp 24) g9 37 _ (bv F2) rfl rfl rfl r9 z2.out lz2.out (bv_one _) ?_; intro w9 r9a o9; have b79 := b8.trans (o9.below p9); have r5e := r5d.later b79; have r7c := r7b.later b79)
    | (with_reducible refine wl_load_row rfl 37 (.tmp 5) g5 37 (bv F1) _ rfl rfl r5e Tryd.underlying37 rfl z1.out ?_)
    | (with_reducible refine wl_load_row rfl 37 (.tmp 7) g7 37 (bv F1) _ rfl rfl r7c Tryd.underlying37 rfl z1.out ?_)
    | (with_reducible refine wg_load_row _ _ _ rfl rfl rfl 37 (.tmp 5) g5 37 (bv F1) _ rfl rfl r5e Tryd.underlying37 rfl z1.out ?_)
    | (with_reducible refine wg_load_row _ _ _ rfl rfl rfl 37 (.tmp 9) g9 37 (bv F2) _ rfl rfl r9a Tryd.underlying37 rfl z2.out ?_)
    | rw [E1] | rw [E2])
  have B9 := B7.trans (b79.mono B7.size)
  refine (awake_any w9 (hT.later B9)).mono ?_
  rintro e w10 ⟨rfl, b10⟩
  go_wp2_with fail
  go_ret
  exact ⟨rfl, B9.trans (b10.mono B9.size)⟩
set_option maxRecDepth 100000 in
set_option maxHeartbeats 1000000 in
theorem nonces_vn (x y : Int) (w : World) (hT : TabK w) (ix : isI x) (iy : isI y) (vx : 0 ≤ x ∧ x ≤ 1099511627776) (vy : ¬ (0 ≤ y ∧ y ≤ 1099511627776)) : Calls Tryd.prog 7 #[.int .i64 x, .int .i64 y] w fun e w' => e = .returned (.bool true) ∧ Below w.heap.size w w' := by
  obtain ⟨Z, hZ⟩ : ∃ Z, Z = zs12 := ⟨_, rfl⟩
  obtain ⟨F1, hF1⟩ : ∃ F, F = (nonL x) := ⟨_, rfl⟩
  obtain ⟨F2, hF2⟩ : ∃ F, F = (zs12) := ⟨_, rfl⟩
  have P1 : ∀ w, Calls Tryd.prog 19 #[.int .i64 x] w fun e w' => e = .returned (.tuple #[.agg (bv F1).toArray, .bool true]) ∧ Below w.heap.size w w' := by intro w; rw [hF1]; exact nonce_yes x w ix vx
  have R1 : ∀ w, Calls Tryd.prog 20 #[.int .i64 x] w fun e w' => e = .returned (.tuple #[.agg (bv F1).toArray, .bool true]) ∧ Below w.heap.size w w' := by intro w; rw [hF1]; exact refNonce_yes x w ix vx
  have P2 : ∀ w, Calls Tryd.prog 19 #[.int .i64 y] w fun e w' => e = .returned (.tuple #[.agg (bv F2).toArray, .bool false]) ∧ Below w.heap.size w w' := by intro w; rw [hF2]; exact nonce_no y w iy vy
  have l1 : F1.length = 12 := by rw [hF1]; exact nonL_len _
  have l2 : F2.length = 12 := by rw [hF2]; exact by decide
  have lZ : Z.length = 12 := by rw [hZ]; decide
  have E1 : ∀ w, (Op.equalIn 10000 37 (.agg (bv F1).toArray) (.agg (bv F1).toArray)).run Tryd.prog w = .ok true w := fun w => (eq12 _ _ l1 l1 w).trans (by simp)
  skip
  have z1 := hide (size12b l1)
  have z2 := hide (size12b l2)
  have lz1 := hide (show (bv Z).length = (bv F1).length by rw [bv_len, bv_len, l1, lZ])
  have lz2 := hide (show (bv Z).length = (bv F2).length by rw [bv_len, bv_len, l2, lZ])
  have zz : (Tryd.prog.info? 37).map (fun i => i.zero) = some (some (.agg (bv Z).toArray)) := by rw [hZ]; exact zero12
  skip
  clear l1 l2 lZ ix iy hF1 hF2 hZ
  go_enter Tryd.func7, Tryd.ntmps7
  go_wp2_with fail
  refine (P1 w).mono ?_
  rintro e w1 ⟨rfl, b1⟩
  go_wp2_with (first
    | (with_reducible refine wl_alloc rfl 37 _ (bv Z) rfl zz rfl ?_; intro g5 w2 r5 p5 l5 b2)
    | (with_reducible refine wl_store_row rfl 37 (.tmp 5) (.tmp 14) g5 37 _ (bv F1) rfl rfl rfl r5 z1.out lz1.out (bv_one _) ?_; intro w3 r5a o3))
  have B3 := b1.trans ((b2.trans (o3.below p5)).mono b1.size)
  clear r5 b2 o3
  refine (R1 w3).mono ?_
  rintro e w4 ⟨rfl, b4⟩
  have B4 := B3.trans (b4.mono B3.size)
  have r5b := r5a.later b4
  clear r5a
  go_wp2_with (first
    | (with_reducible refine wl_alloc rfl 37 _ (bv Z) rfl zz rfl ?_; intro g7 w5 r7 p7 l7 b5)
    | (with_reducible refine wl_store_row rfl 37 (.tmp 7) (.tmp 19) g7 37 _ (bv F1) rfl rfl rfl r7 z1.out lz1.out (bv_one _) ?_; intro w6 r7a o6))
  have b46 := b5.trans (o6.below p7)
  have B6 := B4.trans (b46.mono B4.size)
  have r5c := r5b.later b46
  clear r7 r5b b5 o6 b46
  refine (P2 w6).mono ?_
  rintro e w7 ⟨rfl, b7⟩
  have B7 := B6.trans (b7.mono B6.size)
  have r5d := r5c.later b7
  have r7b := r7a.later b7
  clear r5c r7a
  go_wp2_with (first
    | (with_reducible refine wl_alloc rfl 37 _ (bv Z) rfl zz rfl ?_; intro g9 w8 r9 p9 l9 b8)
    | (with_reducible refine wl_store_row rfl 37 (.tmp 9) (.tmp 24) g9 37 _ (bv F2) rfl rfl rfl r9 z2.out lz2.out (bv_one _) ?_; intro w9 r9a o9; have b79 := b8.trans (o9.below p9); have r5e := r5d.later b79; have r7c := r7b.later b79)
    | (with_reducible refine wl_load_row rfl 37 (.tmp 5) g5 37 (bv F1) _ rfl rfl r5e Tryd.underlying37 rfl z1.out ?_)
    | (with_reducible refine wl_load_row rfl 37 (.tmp 7) g7 37 (bv F1) _ rfl rfl r7c Tryd.underlying37 rfl z1.out ?_)
    | (with_reducible refine wg_load_row _ _ _ rfl rfl rfl 37 (.tmp 5) g5 37 (bv F1) _ rfl rfl r5e Tryd.underlying37 rfl z1.out ?_)
    | (with_reducible refine wg_load_row _ _ _ rfl rfl rfl 37 (.tmp 9) g9 37 (bv F2) _ rfl rfl r9a Tryd.underlying37 rfl z2.out ?_)
    | rw [E1])
  have B9 := B7.trans (b79.mono B7.size)
  refine (awake_any w9 (hT.later B9)).mono ?_
  rintro e w10 ⟨rfl, b10⟩
  go_wp2_with fail
  go_ret
  exact ⟨rfl, B9.trans (b10.mono B9.size)⟩
set_option maxRecDepth 100000 in
set_option maxHeartbeats 1000000 in
theorem nonces_nv (x y : Int) (w : World) (hT : TabK w) (ix : isI x) (iy : isI y) (vx : ¬ (0 ≤ x ∧ x ≤ 1099511627776)) (vy : 0 ≤ y ∧ y ≤ 1099511627776) : Calls Tryd.prog 7 #[.int .i64 x, .int .i64 y] w fun e w' => e = .returned (.bool true) ∧ Below w.heap.size w w' := by
  obtain ⟨Z, hZ⟩ : ∃ Z, Z = zs12 := ⟨_, rfl⟩
  obtain ⟨F1, hF1⟩ : ∃ F, F = (zs12) := ⟨_, rfl⟩
  obtain ⟨F2, hF2⟩ : ∃ F, F = (nonL y) := ⟨_, rfl⟩
  have P1 : ∀ w, Calls Tryd.prog 19 #[.int .i64 x] w fun e w' => e = .returned (.tuple #[.agg (bv F1).toArray, .bool false]) ∧ Below w.heap.size w w' := by intro w; rw [hF1]; exact nonce_no x w ix vx
  have R1 : ∀ w, Calls Tryd.prog 20 #[.int .i64 x] w fun e w' => e = .returned (.tuple #[.agg (bv F1).toArray, .bool false]) ∧ Below w.heap.size w w' := by intro w; rw [hF1]; exact refNonce_no x w ix vx
  have P2 : ∀ w, Calls Tryd.prog 19 #[.int .i64 y] w fun e w' => e = .returned (.tuple #[.agg (bv F2).toArray, .bool true]) ∧ Below w.heap.size w w' := by intro w; rw [hF2]; exact nonce_yes y w iy vy
  have l1 : F1.length = 12 := by rw [hF1]; exact by decide
  have l2 : F2.length = 12 := by rw [hF2]; exact nonL_len _
  have lZ : Z.length = 12 := by rw [hZ]; decide
  have E1 : ∀ w, (Op.equalIn 10000 37 (.agg (bv F1).toArray) (.agg (bv F1).toArray)).run Tryd.prog w = .ok true w := fun w => (eq12 _ _ l1 l1 w).trans (by simp)
  skip
  have z1 := hide (size12b l1)
  have z2 := hide (size12b l2)
  have lz1 := hide (show (bv Z).length = (bv F1).length by rw [bv_len, bv_len, l1, lZ])
  have lz2 := hide (show (bv Z).length = (bv F2).length by rw [bv_len, bv_len, l2, lZ])
  have zz : (Tryd.prog.info? 37).map (fun i => i.zero) = some (some (.agg (bv Z).toArray)) := by rw [hZ]; exact zero12
  skip
  clear l1 l2 lZ ix iy hF1 hF2 hZ
  go_enter Tryd.func7, Tryd.ntmps7
  go_wp2_with fail
  refine (P1 w).mono ?_
  rintro e w1 ⟨rfl, b1⟩
  go_wp2_with (first
    | (with_reducible refine wl_alloc rfl 37 _ (bv Z) rfl zz rfl ?_; intro g5 w2 r5 p5 l5 b2)
    | (with_reducible refine wl_store_row rfl 37 (.tmp 5) (.tmp 14) g5 37 _ (bv F1) rfl rfl rfl r5 z1.out lz1.out (bv_one _) ?_; intro w3 r5a o3))
  have B3 := b1.trans ((b2.trans (o3.below p5)).mono b1.size)
  clear r5 b2 o3
  refine (R1 w3).mono ?_
  rintro e w4 ⟨rfl, b4⟩
  have B4 := B3.trans (b4.mono B3.size)
  have r5b := r5a.later b4
  clear r5a
  go_wp2_with (first
    | (with_reducible refine wl_alloc rfl 37 _ (bv Z) rfl zz rfl ?_; intro g7 w5 r7 p7 l7 b5)
    | (with_reducible refine wl_store_row rfl 37 (.tmp 7) (.tmp 19) g7 37 _ (bv F1) rfl rfl rfl r7 z1.out lz1.out (bv_one _) ?_; intro w6 r7a o6))
  have b46 := b5.trans (o6.below p7)
  have B6 := B4.trans (b46.mono B4.size)
  have r5c := r5b.later b46
  clear r7 r5b b5 o6 b46
  refine (P2 w6).mono ?_
  rintro e w7 ⟨rfl, b7⟩
  have B7 := B6.trans (b7.mono B6.size)
  have r5d := r5c.later b7
  have r7b := r7a.later b7
  clear r5c r7a
  go_wp2_with (first
    | (with_reducible refine wl_alloc rfl 37 _ (bv Z) rfl zz rfl ?_; intro g9 w8 r9 p9 l9 b8)
    | (with_reducible refine wl_store_row rfl 37 (.tmp 9) (.tmp 24) g9 37 _ (bv F2) rfl rfl rfl r9 z2.out lz2.out (bv_one _) ?_; intro w9 r9a o9; have b79 := b8.trans (o9.below p9); have r5e := r5d.later b79; have r7c := r7b.later b79)
    | (with_reducible refine wl_load_row rfl 37 (.tmp 5) g5 37 (bv F1) _ rfl rfl r5e Tryd.underlying37 rfl z1.out ?_)
    | (with_reducible refine wl_load_row rfl 37 (.tmp 7) g7 37 (bv F1) _ rfl rfl r7c Tryd.underlying37 rfl z1.out ?_)
    | (with_reducible refine wg_load_row _ _ _ rfl rfl rfl 37 (.tmp 5) g5 37 (bv F1) _ rfl rfl r5e Tryd.underlying37 rfl z1.out ?_)
    | (with_reducible refine wg_load_row _ _ _ rfl rfl rfl 37 (.tmp 9) g9 37 (bv F2) _ rfl rfl r9a Tryd.underlying37 rfl z2.out ?_)
    | rw [E1])
  have B9 := B7.trans (b79.mono B7.size)
  refine (awake_any w9 (hT.later B9)).mono ?_
  rintro e w10 ⟨rfl, b10⟩
  go_wp2_with fail
  go_ret
  exact ⟨rfl, B9.trans (b10.mono B9.size)⟩
set_option maxRecDepth 100000 in
set_option maxHeartbeats 1000000 in
theorem nonces_nn (x y : Int) (w : World) (hT : TabK w) (ix : isI x) (iy : isI y) (vx : ¬ (0 ≤ x ∧ x ≤ 1099511627776)) (vy : ¬ (0 ≤ y ∧ y ≤ 1099511627776)) : Calls Tryd.prog 7 #[.int .i64 x, .int .i64 y] w fun e w' => e = .returned (.bool true) ∧ Below w.heap.size w w' := by
  obtain ⟨Z, hZ⟩ : ∃ Z, Z = zs12 := ⟨_, rfl⟩
  obtain ⟨F1, hF1⟩ : ∃ F, F = (zs12) := ⟨_, rfl⟩
  obtain ⟨F2, hF2⟩ : ∃ F, F = (zs12) := ⟨_, rfl⟩
  have P1 : ∀ w, Calls Tryd.prog 19 #[.int .i64 x] w fun e w' => e = .returned (.tuple #[.agg (bv F1).toArray, .bool false]) ∧ Below w.heap.size w w' := by intro w; rw [hF1]; exact nonce_no x w ix vx
  have R1 : ∀ w, Calls Tryd.prog 20 #[.int .i64 x] w fun e w' => e = .returned (.tuple #[.agg (bv F1).toArray, .bool false]) ∧ Below w.heap.size w w' := by intro w; rw [hF1]; exact refNonce_no x w ix vx
  have P2 : ∀ w, Calls Tryd.prog 19 #[.int .i64 y] w fun e w' => e = .returned (.tuple #[.agg (bv F2).toArray, .bool false]) ∧ Below w.heap.size w w' := by intro w; rw [hF2]; exact nonce_no y w iy vy
  have l1 : F1.length = 12 := by rw [hF1]; exact by decide
  have l2 : F2.length = 12 := by rw [hF2]; exact by decide
  have lZ : Z.length = 12 := by rw [hZ]; decide
  have E1 : ∀ w, (Op.equalIn 10000 37 (.agg (bv F1).toArray) (.agg (bv F1).toArray)).run Tryd.prog w = .ok true w := fun w => (eq12 _ _ l1 l1 w).trans (by simp)
  skip
  have z1 := hide (size12b l1)
  have z2 := hide (size12b l2)
  have lz1 := hide (show (bv Z).length = (bv F1).length by rw [bv_len, bv_len, l1, lZ])
  have lz2 := hide (show (bv Z).length = (bv F2).length by rw [bv_len, bv_len, l2, lZ])
  have zz : (Tryd.prog.info? 37).map (fun i => i.zero) = some (some (.agg (bv Z).toArray)) := by rw [hZ]; exact zero12
  skip
  clear l1 l2 lZ ix iy hF1 hF2 hZ
  go_enter Tryd.func7, Tryd.ntmps7
  go_wp2_with fail
  refine (P1 w).mono ?_
  rintro e w1 ⟨rfl, b1⟩
  go_wp2_with (first
    | (with_reducible refine wl_alloc rfl 37 _ (bv Z) rfl zz rfl ?_; intro g5 w2 r5 p5 l5 b2)
    | (with_reducible refine wl_store_row rfl 37 (.tmp 5) (.tmp 14) g5 37 _ (bv F1) rfl rfl rfl r5 z1.out lz1.out (bv_one _) ?_; intro w3 r5a o3))
  have B3 := b1.trans ((b2.trans (o3.below p5)).mono b1.size)
  clear r5 b2 o3
  refine (R1 w3).mono ?_
  rintro e w4 ⟨rfl, b4⟩
  have B4 := B3.trans (b4.mono B3.size)
  have r5b := r5a.later b4
  clear r5a
  go_wp2_with (first
    | (with_reducible refine wl_alloc rfl 37 _ (bv Z) rfl zz rfl ?_; intro g7 w5 r7 p7 l7 b5)
    | (with_reducible refine wl_store_row rfl 37 (.tmp 7) (.tmp 19) g7 37 _ (bv F1) rfl rfl rfl r7 z1.out lz1.out (bv_one _) ?_; intro w6 r7a o6))
  have b46 := b5.trans (o6.below p7)
  have B6 := B4.trans (b46.mono B4.size)
  have r5c := r5b.later b46
  clear r7 r5b b5 o6 b46
  refine (P2 w6).mono ?_
  rintro e w7 ⟨rfl, b7⟩
  have B7 := B6.trans (b7.mono B6.size)
  have r5d := r5c.later b7
  have r7b := r7a.later b7
  clear r5c r7a
  go_wp2_with (first
    | (with_reducible refine wl_alloc rfl 37 _ (bv Z) rfl zz rfl ?_; intro g9 w8 r9 p9 l9 b8)
    | (with_reducible refine wl_store_row rfl 37 (.tmp 9) (.tmp 24) g9 37 _ (bv F2) rfl rfl rfl r9 z2.out lz2.out (bv_one _) ?_; intro w9 r9a o9; have b79 := b8.trans (o9.below p9); have r5e := r5d.later b79; have r7c := r7b.later b79)
    | (with_reducible refine wl_load_row rfl 37 (.tmp 5) g5 37 (bv F1) _ rfl rfl r5e Tryd.underlying37 rfl z1.out ?_)
    | (with_reducible refine wl_load_row rfl 37 (.tmp 7) g7 37 (bv F1) _ rfl rfl r7c Tryd.underlying37 rfl z1.out ?_)
    | (with_reducible refine wg_load_row _ _ _ rfl rfl rfl 37 (.tmp 5) g5 37 (bv F1) _ rfl rfl r5e Tryd.underlying37 rfl z1.out ?_)
    | (with_reducible refine wg_load_row _ _ _ rfl rfl rfl 37 (.tmp 9) g9 37 (bv F2) _ rfl rfl r9a Tryd.underlying37 rfl z2.out ?_)
    | rw [E1])
  have B9 := B7.trans (b79.mono B7.size)
  refine (awake_any w9 (hT.later B9)).mono ?_
  rintro e w10 ⟨rfl, b10⟩
  go_wp2_with fail
  go_ret
  exact ⟨rfl, B9.trans (b10.mono B9.size)⟩

theorem keysNonces_any (x y : Int) (w : World) (hT : TabK w) (ix : isI x) (iy : isI y) : Calls Tryd.prog 7 #[.int .i64 x, .int .i64 y] w fun e w' => e = .returned (.bool true) ∧ Below w.heap.size w w' := by
  by_cases vx : 0 ≤ x ∧ x ≤ 1099511627776
  · by_cases vy : 0 ≤ y ∧ y ≤ 1099511627776
    · by_cases h : y = x
      · subst h; exact nonces_vs y w hT iy vy
      · exact nonces_vv x y w hT ix iy vx vy (fun e => h e.symm)
    · exact nonces_vn x y w hT ix iy vx vy
  · by_cases vy : 0 ≤ y ∧ y ≤ 1099511627776
    · exact nonces_nv x y w hT ix iy vx vy
    · exact nonces_nn x y w hT ix iy vx vy
end Go.Proofs.YtllhboennfljlaaDoor

/- Proved: the law KeysNonces (P7.2, P7.4) answers true. For every two numbers; no condition but the tie of the table of keys to the program's text. -/
namespace Go.Proofs.YtllhboennfljlaaDoor.keysNonces
open Go.ChangeShapes Go.WideShapes Go.ChangeAt Go.WideMaps Go.WideElems Go.RowKit

theorem own : ownKnob Tryd.prog.godebug = none := by kernel_rfl
theorem laidOut : laidOutB Tryd.prog = true := by kernel_rfl
theorem door_met (os : Os) (args : Array Value) : laidMetH Tryd.prog laidK ((World.doorLaid Tryd.prog 400 os).forCall (fun _ _ => 0) ⟨#[], args, []⟩).memory :=
  laidMetH_of_parts3 (fuel := 8) (laidMet_of_run' 8 (by kernel_rfl) (by kernel_rfl)) (by kernel_rfl) (by kernel_rfl)

set_option maxRecDepth 100000 in
theorem lifted (os : Os) (started : os.Started) (H : Type) (enc : TypeId × Value → H) :
    ReturnsInHanded {} Tryd.checked os 7 .any (fun w args => (Rows.keysNoncesSpec.pre enc Tryd.prog Tryd.f7 [] false w args ∧ laidMetH Tryd.prog laidK w) ∧ sizedMet enc Tryd.prog Tryd.f7 (OpenSpec.ofChange Rows.keysNoncesSpec) false w args)
      (Rows.keysNoncesSpec.post enc Tryd.prog Tryd.f7 false true false false) := by
  refine returnsInHanded_of_change_and (C := Tryd.checked) (X := fun w _ => laidMetH Tryd.prog laidK w) (fun _ _ _ hh h => h.of_heap hh) own started (by kernel_rfl) Tryd.func7
    (ChangeSpec.witness_shaped (enc := enc) (C := Tryd.checked) (os := os) (X := fun w _ => laidMetH Tryd.prog laidK w) false (World.doorLaid Tryd.prog 400 os) #[.int .i64 0, .int .i64 0] 8 rfl (World.shaped_of_RefB (by kernel_rfl) (by kernel_rfl)) (by kernel_rfl) (by kernel_rfl) (by kernel_rfl) (door_met os _)) ?_
  intro W base args ds gs before hval0 hW _ _ hL _
  have hval : ∀ (j : Nat) t v, Tryd.f7.params[j]? = some t → args[j]? = some v → Value.okWide Tryd.prog W .any base t v := hval0
  have hW' := hW
  obtain ⟨p, q, hA0, hV, rfl, hfz, hnd⟩ := hW
  have hA : DataW.TrodAll enc Tryd.prog W 0 (fun _ => true) true Tryd.f7.params.toList args.toList ds p := hA0
  rw [Tryd.params7] at hA hval
  obtain ⟨v0, vs0, d0, ds0, p0, q0, hargs, rfl, rfl, h0, r0⟩ := trodAll_cons hA
  obtain ⟨v1, vs1, d1, ds1, p1, q1, rfl, rfl, rfl, h1, r1⟩ := trodAll_cons r0
  obtain ⟨rfl, rfl, rfl⟩ := trodAll_nil r1
  obtain rfl : args = #[v0, v1] := by cases args; simp_all
  obtain ⟨rfl, rfl⟩ := trodVars_none hV
  obtain ⟨a0, rfl, rfl, rfl, w0⟩ := open_int Tryd.underlying3 (hval 0 3 v0 rfl rfl) h0
  obtain ⟨a1, rfl, rfl, rfl, w1⟩ := open_int Tryd.underlying3 (hval 1 3 v1 rfl rfl) h1
  clear hA0 hval0
  have hT : TabK W := tabsK_of_laid hL
  refine (keysNonces_any a0 a1 W hT (wf_i64 w0) (wf_i64 w1)).mono fun e W' ⟨he, bel⟩ => ?_
  subst he
  exact ⟨_, rfl, _, _, _, [], _, [], hW', trodAll_mk1 (shut_bool Tryd.underlying4 _), (trodAll_cons_mk (shut_int Tryd.underlying3 w0) (trodAll_cons_mk (shut_int Tryd.underlying3 w1) trodAll_mk0)), rfl, bel.frame _, fun h => by cases h⟩

theorem over : Rows.KeysNoncesSaid :=
  OpenClaim.holds_of_wide 7 Tryd.f7 rfl rfl rfl rfl rfl rfl rfl ⟨rfl, rfl, rfl, rfl, rfl⟩ rfl rfl rfl rfl rfl (by kernel_rfl) Tryd.func7 (by kernel_rfl)
    (of_decide_eq_true (by kernel_rfl)) (by unfold Func.isWrapper; first | (rw [if_pos (by decide +kernel)]; kernel_rfl) | (rw [if_neg (by decide +kernel)]; exact ⟨rfl, rfl⟩))
    (fun os started H enc _ => lifted os started H enc)

/-- The given statement. -/
theorem proved : Rows.KeysNoncesCardSaid :=
  Claim7.holds_tied_plain_at .later [] [.data] true (true, "c5e6d4fba9d01d79537203324b4b20f015822582f19f4e8141ef0e0e286c03f5") false
    over (fun _ h => by cases h) (by kernel_rfl) (fun _ h => by cases h) keysNonces_row_tie rfl ⟨rfl, rfl⟩ (by kernel_rfl) rfl
    (fun f fn hf hfn => by
      obtain rfl : f = 7 := Option.some.inj ((show Tryd.prog.funcNamed "intaglio/intagliolaw07.KeysNonces" = some 7 by kernel_rfl).symm.trans hf) |>.symm
      obtain rfl : fn = Tryd.f7 := (Option.some.inj (Tryd.func7.symm.trans hfn)).symm
      exact ⟨by kernel_rfl, fun j t ht => by
        rw [Tryd.params7] at ht
        have hm : t ∈ [3, 3] := by simpa using Array.mem_of_getElem? ht
        have hall : ([3, 3].all fun u => !Tryd.prog.wantsStandIn u) = true := by kernel_rfl
        exact (show Tryd.prog.wantsStandIn t = false by simpa using List.all_eq_true.1 hall t hm)⟩)
    (by kernel_rfl)
#print axioms proved
end Go.Proofs.YtllhboennfljlaaDoor.keysNonces
