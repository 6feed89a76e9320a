/-
  Several own texts in one: BoxA, BoxB, BoxC, BuildA, BoxD, BoxE, BoxF, BoxG, BoxH, BoxI, BoxJ. Own work.
-/
import Derived.Test.YtooooncmjhcdbaaGreatDoorGK
import Derived.Test.YtooooncmjhcdbaaGreatDoorGA
import Derived.Test.YtooooncmjhcdbaaGreatDoorGC
set_option linter.unusedVariables false
set_option linter.unusedSimpArgs false
/-
  The box: ids, uses; may a use be; made, refuse; a token. Own work.
-/
namespace Go.Proofs.YtooooncmjhcdbaaGreatDoor
open Go.RowKit
/-- An id's six numbers. -/
structure Kid where
  a : Int
  b : Int
  c : Int
  d : Int
  e : Int
  f : Int
deriving DecidableEq
abbrev Kid.l (q : Kid) : List Int := [q.a, q.b, q.c, q.d, q.e, q.f]
def Kid.ok (q : Kid) : Bool := okB q.a q.b q.c q.d q.e q.f
/-- An id with a number. -/
abbrev useL (q : Kid) (n : Int) : List Int := [q.a, q.b, q.c, q.d, q.e, q.f, n]
def okU (q : Kid) (n : Int) : Bool := decide (0 ≤ n ∧ n ≤ 1099511627776) && q.ok
theorem szKid (q : Kid) : (Tryz.prog.info? 24).map (·.size) = some (vk .i64 q.l).length := by kernel_rfl
theorem szUse (q : Kid) (n : Int) : (Tryz.prog.info? 72).map (·.size) = some (vk .i64 (useL q n)).length := by kernel_rfl
theorem one_vk (kd : IntKind) (l : List Int) : ∀ u ∈ vk kd l, u.oneCell' = true := by
  intro u hu
  obtain ⟨z, _, rfl⟩ := List.mem_map.1 hu
  rfl
theorem nonce_no (x : Int) (w : World) (hi : isI x) (hx : ¬ (0 ≤ x ∧ x ≤ 1099511627776)) : Calls Tryz.prog 18 #[.int .i64 x] w fun e w' => e = .returned (.tuple #[.agg (bv zs12).toArray, .bool false]) ∧ Below w.heap.size w w' := by
  by_cases h : x < 0
  · exact nonce_lo x w hi h
  · exact nonce_hi x w hi (by omega)
set_option maxRecDepth 100000 in
theorem mayBe_any (q : Kid) (n : Int) (w : World) (hT : TabK w) (hn : isI n) : Calls Tryz.prog 36 #[.agg (vk .i64 (useL q n)).toArray] w fun e w' => e = .returned (.bool (okU q n)) ∧ Below w.heap.size w w' := by
  have zz := zero12
  have hV := fun w hT => valid_any q.a q.b q.c q.d q.e q.f w hT
  obtain ⟨ov, hov⟩ : ∃ ov, okB q.a q.b q.c q.d q.e q.f = ov := ⟨_, rfl⟩
  rw [hov] at hV
  have HOv := hide (show q.ok = ov from hov)
  clear hov
  obtain ⟨q1, q2, q3, q4, q5, q6⟩ := q
  by_cases hx : 0 ≤ n ∧ n ≤ 1099511627776
  · have hN := fun w => nonce_yes n w hn hx
    have zf := hide (size12b (nonL_len n))
    have lf := hide (show (bv zs12).length = (bv (nonL n)).length by rw [bv_len, bv_len, nonL_len]; rfl)
    have hu : okU ⟨q1, q2, q3, q4, q5, q6⟩ n = ov := by unfold okU; rw [decide_eq_true hx, Bool.true_and]; exact HOv.out
    have HU := hide hu
    clear hu hx
    generalize nonL n = FS at *
    generalize zs12 = Z at *
    go_enter Tryz.func36, Tryz.ntmps36
    go_wp2_with (first
      | (with_reducible refine wl_box rfl 72 _ (.agg (vk .i64 [q1, q2, q3, q4, q5, q6, n]).toArray) (vk .i64 [q1, q2, q3, q4, q5, q6, n]) rfl rfl rfl ?_; intro g1 w1 r1 p1 l1 b1; have c6 := r1.cell (j := 6) rfl))
    refine (hN w1).mono ?_
    rintro e w2 ⟨rfl, b2⟩
    have B2 := b1.trans (b2.mono b1.size)
    have r1b := r1.later b2
    go_wp2_with (first
      | ((with_reducible refine wl_alloc rfl 45 _ (bv Z) rfl zz rfl ?_); intro g3 w3 r3 p3 l3 b3)
      | ((with_reducible refine wl_store_row rfl 45 (.tmp 3) (.tmp 9) g3 45 _ (bv FS) rfl rfl rfl r3 zf.out lf.out (bv_one _) ?_); intro w4 r4 o4; have B4 := (B2.trans (b3.mono B2.size)).trans (o4.below (Nat.le_trans B2.size p3)); have r1c : Row w4 72 g1 ([] ++ (vk .i64 [q1, q2, q3, q4, q5, q6] ++ [.int .i64 n])) := (r1b.later b3).only o4 (by have := r1b.lt; omega))
      | (with_reducible refine wg_load_part 1 true 12 rfl rfl rfl 24 (.tmp 13) g1 0 72 [] (vk .i64 [q1, q2, q3, q4, q5, q6]) [.int .i64 n] _ rfl rfl r1c rfl Tryz.underlying24 rfl (szKid ⟨q1, q2, q3, q4, q5, q6⟩) ?_))
    refine (hV w4 (hT.later B4)).mono ?_
    rintro e w5 ⟨rfl, b5⟩
    go_wp2_with fail
    go_ret
    exact ⟨by rw [HU.out]; rfl, B4.trans (b5.mono B4.size)⟩
  · have hN := fun w => nonce_no n w hn hx
    have hu : okU ⟨q1, q2, q3, q4, q5, q6⟩ n = false := by unfold okU; rw [decide_eq_false hx, Bool.false_and]
    have HU := hide hu
    have zf := hide (show (Tryz.prog.info? 45).map (·.size) = some (bv zs12).length by kernel_rfl)
    clear hu hx
    generalize zs12 = Z at *
    go_enter Tryz.func36, Tryz.ntmps36
    go_wp2_with (first
      | (with_reducible refine wl_box rfl 72 _ (.agg (vk .i64 [q1, q2, q3, q4, q5, q6, n]).toArray) (vk .i64 [q1, q2, q3, q4, q5, q6, n]) rfl rfl rfl ?_; intro g1 w1 r1 p1 l1 b1; have c6 := r1.cell (j := 6) rfl))
    refine (hN w1).mono ?_
    rintro e w2 ⟨rfl, b2⟩
    have B2 := b1.trans (b2.mono b1.size)
    go_wp2_with (first
      | ((with_reducible refine wl_alloc rfl 45 _ (bv Z) rfl zz rfl ?_); intro g3 w3 r3 p3 l3 b3)
      | ((with_reducible refine wl_store_row rfl 45 (.tmp 3) (.tmp 9) g3 45 _ (bv Z) rfl rfl rfl r3 zf.out rfl (bv_one _) ?_); intro w4 r4 o4; have B4 := (B2.trans (b3.mono B2.size)).trans (o4.below (Nat.le_trans B2.size p3))))
    go_ret
    exact ⟨by rw [HU.out]; rfl, B4⟩
/-- A box: its kind, how many it sealed, its map of uses. -/
abbrev BxRow (w : World) (g : Nat) (kd : Value) (n : Int) (mv : Value) : Prop := Row w 54 g [kd, .int .i64 n, mv]
/-- No box: nil, or one that New did not make. -/
def NoBox (w : World) (p : Option Addr) : Prop := p = none ∨ ∃ g, p = some ⟨g, 0, none⟩ ∧ BxRow w g .nilIface 0 (.map none)
theorem NoBox.later {w w' : World} {p : Option Addr} (h : NoBox w p) (hb : Below w.heap.size w w') : NoBox w' p := by
  rcases h with rfl | ⟨g, rfl, h1⟩
  · exact .inl rfl
  · exact .inr ⟨g, rfl, Row.later h1 hb⟩
set_option maxRecDepth 100000 in
theorem made_no (w : World) (p : Option Addr) (h : NoBox w p) : Calls Tryz.prog 35 #[.pointer p] w fun e w' => e = .returned (.bool false) ∧ w = w' := by
  rcases h with rfl | ⟨g, rfl, h1⟩
  · go_enter Tryz.func35, Tryz.ntmps35
    go_wp2_with fail
    go_ret
    exact ⟨rfl, rfl⟩
  · have c0 := h1.cell (j := 0) rfl
    clear h1
    go_enter Tryz.func35, Tryz.ntmps35
    go_wp2_with fail
    go_ret
    exact ⟨rfl, rfl⟩
set_option maxRecDepth 100000 in
theorem made_yes (w : World) (g T : Nat) (v : Value) (n : Int) (mv : Value) (h : BxRow w g (.iface T v) n mv) : Calls Tryz.prog 35 #[.pointer (some ⟨g, 0, none⟩)] w fun e w' => e = .returned (.bool true) ∧ w = w' := by
  have c0 := Row.cell h (j := 0) rfl
  clear h
  go_enter Tryz.func35, Tryz.ntmps35
  go_wp2_with fail
  go_ret
  exact ⟨rfl, rfl⟩
end Go.Proofs.YtooooncmjhcdbaaGreatDoor

/-
  The box: refuse; a token. Own work.
-/
namespace Go.Proofs.YtooooncmjhcdbaaGreatDoor
open Go.RowKit
def refB (q : Kid) (n : Int) : Int := if okU q n = true then 0 else 1
set_option maxRecDepth 100000 in
theorem refuse_no (w : World) (p : Option Addr) (q : Kid) (n : Int) (h : NoBox w p) : Calls Tryz.prog 25 #[.pointer p, .agg (vk .i64 (useL q n)).toArray] w fun e w' => e = .returned (.int .i64 2) ∧ Below w.heap.size w w' := by
  obtain ⟨q1, q2, q3, q4, q5, q6⟩ := q
  go_enter Tryz.func25, Tryz.ntmps25
  go_wp2_with (first
    | (with_reducible refine wl_box rfl 72 _ (.agg (vk .i64 [q1, q2, q3, q4, q5, q6, n]).toArray) (vk .i64 [q1, q2, q3, q4, q5, q6, n]) rfl rfl rfl ?_; intro g1 w1 r1 p1 l1 b1))
  refine (made_no w1 p (h.later b1)).mono ?_
  rintro e w2 ⟨rfl, rfl⟩
  go_wp2_with fail
  go_ret
  exact ⟨rfl, b1⟩
set_option maxRecDepth 100000 in
theorem refuse_yes (w : World) (g T : Nat) (v : Value) (k : Int) (mv : Value) (q : Kid) (n : Int) (h : BxRow w g (.iface T v) k mv) (hT : TabK w) (hn : isI n) : Calls Tryz.prog 25 #[.pointer (some ⟨g, 0, none⟩), .agg (vk .i64 (useL q n)).toArray] w fun e w' => e = .returned (.int .i64 (refB q n)) ∧ Below w.heap.size w w' := by
  have hM := fun w hT => mayBe_any q n w hT hn
  obtain ⟨ou, hou⟩ : ∃ ou, okU q n = ou := ⟨_, rfl⟩
  rw [hou] at hM
  have hr : refB q n = if ou = true then 0 else 1 := by unfold refB; rw [hou]
  have HR := hide hr
  clear hr hou
  obtain ⟨q1, q2, q3, q4, q5, q6⟩ := q
  go_enter Tryz.func25, Tryz.ntmps25
  go_wp2_with (first
    | (with_reducible refine wl_box rfl 72 _ (.agg (vk .i64 [q1, q2, q3, q4, q5, q6, n]).toArray) (vk .i64 [q1, q2, q3, q4, q5, q6, n]) rfl rfl rfl ?_; intro g1 w1 r1 p1 l1 b1))
  refine (made_yes w1 g T v k mv (Row.later h b1)).mono ?_
  rintro e w2 ⟨rfl, rfl⟩
  go_wp2_with (first
    | (with_reducible refine wl_load_row rfl 72 (.tmp 3) g1 72 (vk .i64 [q1, q2, q3, q4, q5, q6, n]) _ rfl rfl r1 Tryz.underlying72 rfl (szUse ⟨q1, q2, q3, q4, q5, q6⟩ n) ?_))
  refine (hM w1 (hT.later b1)).mono ?_
  rintro e w2 ⟨rfl, b2⟩
  have B2 := b1.trans (b2.mono b1.size)
  cases ou with
  | true =>
    go_wp2_with fail
    go_ret
    exact ⟨by rw [HR.out]; rfl, B2⟩
  | false =>
    go_wp2_with fail
    go_ret
    exact ⟨by rw [HR.out]; rfl, B2⟩
/-- The bytes that stand for an entry. -/
def tokL (n s : Nat) : List Int := highB (n : Int) 8 ++ List.replicate (s - 8) 0
theorem tokL_len {n s : Nat} (h : 8 ≤ s) : (tokL n s).length = s := by unfold tokL; rw [List.length_append, highB_length, List.length_replicate]; omega
theorem highB_byX (x : Int) (n : Nat) : IsBy (highB x n) := fun b hb => lowB_byte x n b (by simpa [highB] using hb)
theorem tokL_by (n s : Nat) : IsBy (tokL n s) := by
  intro x hx
  rcases List.mem_append.1 hx with h | h
  · exact highB_byX _ _ x h
  · obtain ⟨_, rfl⟩ := List.mem_replicate.1 h; decide
/-- Where a slice lies there are bytes. -/
def TyB (w : World) (A : Option Addr) : Prop := ∀ p, A = some p → ∃ cs fr, w.heap[p.block]? = some (.cells cs 5 fr)
theorem TyB.later {w w' : World} {A : Option Addr} (h : TyB w A) (hb : Below w.heap.size w w') : TyB w' A := by
  intro p hp
  obtain ⟨cs, fr, hc⟩ := h p hp
  have hl : p.block < w.heap.size := (Array.getElem?_eq_some_iff.1 hc).1
  exact ⟨cs, fr, (hb.block _ hl).trans hc⟩
/-- Bytes, and that they lie among bytes. -/
def SlB (xs : List Int) (v : Value) (w : World) : Prop := ∃ A c, v = .slice A xs.length c ∧ Bs w w.heap.size A xs.length xs ∧ xs.length ≤ c ∧ c ≤ maxLen ∧ TyB w A
theorem SlB.later {xs : List Int} {v : Value} {w w' : World} (h : SlB xs v w) (hb : Below w.heap.size w w') : SlB xs v w' := by
  obtain ⟨A, c, e, h1, h2, h3, h4⟩ := h
  exact ⟨A, c, e, h1.later hb, h2, h3, h4.later hb⟩
def RetTk (xs : List Int) (w : World) (e : Ending) (w' : World) : Prop := ∃ v, e = .returned v ∧ SlB xs v w' ∧ Below w.heap.size w w'
theorem SlB.of_ret {xs : List Int} {w w' : World} {e : Ending} (h : RetTk xs w e w') : ∃ v, e = .returned v ∧ SlB xs v w' ∧ Below w.heap.size w w' := h
set_option maxRecDepth 100000 in
theorem token_ty (n s : Nat) (w : World) (hn : n < 9223372036854775808) (h8 : 8 ≤ s) (hs : s ≤ 1000000) : Calls Tryz.prog 127 #[.int .i64 (n : Int), .int .i64 (s : Int)] w (RetTk (tokL n s) w) := by
  obtain ⟨i8, h8i, h8z, h8s, h8b⟩ := u8_info
  have hP := fun w => putNum_any none 0 0 [] (n : Int) w Bs.nil_ (by decide) (by omega) (by omega)
  rw [List.nil_append, show max (n : Int) 0 = (n : Int) by omega] at hP
  have hHl := highB_length (n : Int) 8
  have hdef : tokL n s = (List.replicate s 0).take 0 ++ highB (n : Int) 8 ++ (List.replicate s 0).drop (0 + 8) := by unfold tokL; simp
  have HD := hide hdef
  have HTl := hide (tokL_len (n := n) h8)
  have hs2 : s ≤ 140737488355328 := by omega
  have hsI : (s : Int) ≤ 1000000 := by omega
  have hs0 : (0 : Int) ≤ (s : Int) := by omega
  have hrl : (List.replicate s (0 : Int)).length = s := List.length_replicate
  clear hdef
  generalize highB (n : Int) 8 = X at *
  generalize tokL n s = FS at *
  go_enter Tryz.func127, Tryz.ntmps127
  go_wp2_with (first
    | (refine wpList_make_bs rfl 25 (.tmp 6) (.tmp 6) rfl 5 i8 Tryz.underlying25 h8i h8z h8s h8b s rfl rfl hs2 ?_; intro w1 r1 z1 b1))
  refine (hP w1).mono ?_
  rintro e w2 ⟨A, m, c, rfl, hx2, hm, hc, b2⟩
  have hm8 : m = 8 := by rw [← hx2.1]; exact hHl
  subst hm8
  have r2 := r1.below b2 (by omega)
  have B2 := b1.trans (b2.mono b1.size)
  clear hHl hP
  go_wp2_with (first
    | (refine wpList_copy_bs rfl (.tmp 8) (.tmp 10) _ _ rfl 5 Tryz.underlying25 u8_size w.heap.size 0 _ _ 8 c A rfl rfl _ X 5 w2.heap.size r2 hx2 h8 (by rw [hrl]; omega) w.heap.size w B2 (Nat.le_refl _) ?_; intro w3 r3 b3))
  have r3' : Own w3 5 w.heap.size FS := by rw [HD.out]; exact r3
  go_ret
  obtain ⟨A9, n9, c9, e9, h9, l9, m9, b9⟩ := ret_own r3' b3 rfl HTl.out (Nat.le_refl _) (by simp only [maxLen]; omega)
  injection e9 with e9
  injection e9 with ea eb ec
  subst ea; subst eb; subst ec
  exact ⟨_, rfl, ⟨some ⟨w.heap.size, 0, none⟩, s, by rw [HTl.out]; rfl, by rw [HTl.out]; exact h9, by rw [HTl.out]; exact l9, m9, fun p hp => by injection hp with hp; subst hp; exact ⟨_, _, r3'⟩⟩, b9⟩
theorem token_any (n s : Nat) (w : World) (hn : n < 9223372036854775808) (h8 : 8 ≤ s) (hs : s ≤ 1000000) : Calls Tryz.prog 127 #[.int .i64 (n : Int), .int .i64 (s : Int)] w (RetBs (tokL n s) w) := by
  refine (token_ty n s w hn h8 hs).mono ?_
  rintro e w' ⟨v, rfl, ⟨A, c, rfl, h1, h2, h3, h4⟩, hb⟩
  exact ⟨_, _, _, rfl, h1, h2, h3, hb⟩
end Go.Proofs.YtooooncmjhcdbaaGreatDoor

/-
  The box: a call through an interface; the ledgers' entries and their sizes. Own work.
-/
namespace Go.Proofs.YtooooncmjhcdbaaGreatDoor
open Go.RowKit
/-- A call of a method through an interface whose dynamic type is known. -/
theorem st_invoke {P : Program} {o : Oper} {a : Act} {w : World} {K : Act → World → Prop} {Q : Exit → Act → World → Prop} (T : Nat) (v recv : Value) (f : FuncId) (x : Operand) (name : String) (args : Array Operand) (ats : Array TypeId) (vals : List Value) (ho : o.op = .call { callee := .invoke x name, args := args, argTypes := ats }) (hx : a.eval x = .iface T v)
    (hm : ∀ w, (method (P.types.size + Made.depth) T v name).run P w = .ok (f, recv) w) (hf : ∀ (xs : Array Value) (w : World), (callFunc f xs).run P w = .ok (.enter f xs) w) (hv : args.map a.eval = vals.toArray)
    {R : Ending → World → Prop} (hc : Calls P f (recv :: vals).toArray w R) (hk : ∀ e w', R e w' → ∃ v, e = .returned v ∧ K (a.put o.dst v) w') : o.wp P a w K Q := by
  have hp : ∀ w, (program).run P w = .ok P w := fun _ => rfl
  have h1 : (#[Value.iface T v] ++ vals.toArray)[0]? = some (Value.iface T v) := by simp
  have h2 : (#[Value.iface T v] ++ vals.toArray).extract 1 (#[Value.iface T v] ++ vals.toArray).size = vals.toArray := by simp
  have h3 : #[recv] ++ vals.toArray = (recv :: vals).toArray := by simp
  unfold Oper.wp execOp
  simp only [ho, resolve, hv, hx, Sem.run_bind, Sem.run_pure, Result.andThen_ok, invoke, h1, h2, callMethod, hp, hm, h3, hf]
  refine hc.mono fun e w' h => ?_
  obtain ⟨v, rfl, h2⟩ := hk e w' h
  exact h2
/-- What was sealed: with what, what beside, the text. -/
structure SEn where
  q : Kid
  n : Int
  ad : List Int
  tx : List Int
/-- What was marked. -/
structure MEn where
  q : Kid
  tx : List Int
abbrev SEn.cells (s : SEn) : List Value := [.int .i64 s.q.a, .int .i64 s.q.b, .int .i64 s.q.c, .int .i64 s.q.d, .int .i64 s.q.e, .int .i64 s.q.f, .int .i64 s.n, .string (strOfNums s.ad), .string (strOfNums s.tx)]
abbrev MEn.cells (s : MEn) : List Value := [.int .i64 s.q.a, .int .i64 s.q.b, .int .i64 s.q.c, .int .i64 s.q.d, .int .i64 s.q.e, .int .i64 s.q.f, .string (strOfNums s.tx)]
theorem str_size (xs : List Int) : (strOfNums xs).size = xs.length := by
  have := congrArg List.length (Lib.strOfNums_toList xs)
  rw [Lib.toList_data] at this
  simpa [Lib.bytesOf_length] using this
theorem szSEn (s : SEn) : (Tryz.prog.info? 191).map (·.size) = some s.cells.length := by kernel_rfl
theorem szMEn (s : MEn) : (Tryz.prog.info? 186).map (·.size) = some s.cells.length := by kernel_rfl
set_option maxRecDepth 100000 in
theorem sizeS_any (s : SEn) (w : World) (h : s.tx.length ≤ 100000) : Calls Tryz.prog 140 #[.agg s.cells.toArray] w fun e w' => e = .returned (.int .i64 ((s.tx.length + 16 : Nat) : Int)) ∧ Below w.heap.size w w' := by
  have hz := str_size s.tx
  have hI : (s.tx.length : Int) ≤ 100000 := by omega
  obtain ⟨⟨q1, q2, q3, q4, q5, q6⟩, n, ad, tx⟩ := s
  replace hI : (tx.length : Int) ≤ 100000 := hI
  replace hz : (strOfNums tx).size = tx.length := hz
  go_enter Tryz.func140, Tryz.ntmps140
  go_wp2_with (first
    | (with_reducible refine wl_box rfl 191 _ _ [.int .i64 q1, .int .i64 q2, .int .i64 q3, .int .i64 q4, .int .i64 q5, .int .i64 q6, .int .i64 n, .string (strOfNums ad), .string (strOfNums tx)] rfl rfl rfl ?_; intro g1 w1 r1 p1 l1 b1; have c8 := r1.cell (j := 8) rfl))
  go_ret
  exact ⟨by simp, b1⟩
set_option maxRecDepth 100000 in
theorem sizeM_any (s : MEn) (w : World) : Calls Tryz.prog 139 #[.agg s.cells.toArray] w fun e w' => e = .returned (.int .i64 32) ∧ Below w.heap.size w w' := by
  obtain ⟨⟨q1, q2, q3, q4, q5, q6⟩, tx⟩ := s
  go_enter Tryz.func139, Tryz.ntmps139
  go_wp2_with (first
    | (with_reducible refine wl_box rfl 186 _ _ [.int .i64 q1, .int .i64 q2, .int .i64 q3, .int .i64 q4, .int .i64 q5, .int .i64 q6, .string (strOfNums tx)] rfl rfl rfl ?_; intro g1 w1 r1 p1 l1 b1))
  go_ret
  exact ⟨rfl, b1⟩
theorem mS (s : SEn) : ∀ w, (method (Tryz.prog.types.size + Made.depth) 191 (.agg s.cells.toArray) "intaglio/box.size").run Tryz.prog w = .ok (140, .agg s.cells.toArray) w := fun _ => by kernel_rfl
theorem mM (s : MEn) : ∀ w, (method (Tryz.prog.types.size + Made.depth) 186 (.agg s.cells.toArray) "intaglio/box.size").run Tryz.prog w = .ok (139, .agg s.cells.toArray) w := fun _ => by kernel_rfl
end Go.Proofs.YtooooncmjhcdbaaGreatDoor

/-
  A list literal of one struct or array of many cells. Plain theorems over whatever program. Own work.
-/
namespace Go.Proofs.YtooooncmjhcdbaaGreatDoor
open Go.RowKit
theorem setAllB : ∀ (L : List Value) (k : Nat) (C : Array Value), ((L.zipIdx k).foldl (fun cs x => cs.setIfInBounds x.2 x.1) C).size = C.size ∧ ∀ j, ((L.zipIdx k).foldl (fun cs x => cs.setIfInBounds x.2 x.1) C)[j]? = if k ≤ j ∧ j < k + L.length ∧ j < C.size then L[j - k]? else C[j]? := by
  intro L
  induction L with
  | nil => intro k C; exact ⟨rfl, fun j => by rw [if_neg (by simp; omega)]; rfl⟩
  | cons v r ih =>
    intro k C
    obtain ⟨h1, h2⟩ := ih (k + 1) (C.setIfInBounds k v)
    simp only [List.zipIdx_cons, List.foldl_cons]
    refine ⟨by rw [h1, Array.size_setIfInBounds], fun j => ?_⟩
    rw [h2, Array.size_setIfInBounds, Array.getElem?_setIfInBounds]
    by_cases hc : k + 1 ≤ j ∧ j < k + 1 + r.length ∧ j < C.size
    · rw [if_pos hc, if_pos ⟨by omega, by rw [List.length_cons]; omega, hc.2.2⟩]
      obtain ⟨d, hd⟩ : ∃ d, j - k = d + 1 := ⟨j - k - 1, by omega⟩
      rw [hd, List.getElem?_cons_succ, show j - (k + 1) = d by omega]
    · rw [if_neg hc]
      by_cases hj : k = j
      · subst hj
        rw [if_pos rfl]
        by_cases hs : k < C.size
        · rw [if_pos hs, if_pos ⟨Nat.le_refl _, by rw [List.length_cons]; omega, hs⟩, Nat.sub_self]; rfl
        · rw [if_neg hs, if_neg (by omega)]; exact (Array.getElem?_eq_none (by omega)).symm
      · rw [if_neg hj, if_neg (by rw [List.length_cons]; omega)]
theorem fill_oneB (z M : Array Value) (hl : z.size = M.size) (h0 : 0 < M.size) : Instr.fill (fun i => some (i * M.size, M.size)) ((Array.range (1 * M.size)).map (z[· % z.size]!)) [(0, .agg M)] = some M := by
  have h : ((Array.range (1 * M.size)).map (z[· % z.size]!)).size = M.size := by simp
  generalize (Array.range (1 * M.size)).map (z[· % z.size]!) = C at *
  simp only [Instr.fill, Value.cells, Nat.zero_mul, Nat.zero_add]
  have key : M.zipIdx.foldl (fun cs x => cs.setIfInBounds x.2 x.1) C = M := by
    obtain ⟨h1, h2⟩ := setAllB M.toList 0 C
    have e : M.zipIdx.foldl (fun cs x => cs.setIfInBounds x.2 x.1) C = (M.toList.zipIdx 0).foldl (fun cs x => cs.setIfInBounds x.2 x.1) C := by rw [← Array.foldl_toList, Array.toList_zipIdx]
    rw [e]
    apply Array.ext_getElem?
    intro j
    rw [h2]
    by_cases hj : j < M.size
    · rw [if_pos ⟨Nat.zero_le _, by simpa using hj, by omega⟩]; simp
    · rw [if_neg (by omega), Array.getElem?_eq_none (by omega), Array.getElem?_eq_none (by omega)]
  simp [h]
  simpa using key
theorem st_build1B {P : Program} {o : Oper} {a : Act} {w : World} {K : Act → World → Prop} {Q : Exit → Act → World → Prop} (t : TypeId) (x : Operand) (ho : o.op = .buildSlice t 1 #[(0, x)]) (e : TypeId) (i : TypeInfo) (z : Value) (M : List Value) (n : Nat) (ht : P.underlying t = some (.slice e)) (hi : P.info? e = some i) (hz : i.zero = some z) (hzs : z.cells.size = n) (hsz : i.size = n) (hl : M.length = n) (h0 : 0 < n) (hn : n ≤ 1000) (hx : a.eval x = .agg M.toArray)
    (hk : ∀ g w', Row w' e g M → w.heap.size ≤ g → g < w'.heap.size → Below w.heap.size w w' → K (a.put o.dst (.slice (some ⟨g, 0, none⟩) 1 1)) w') : o.wp P a w K Q := by
  have hzz : ∀ w, (zeroValue e).run P w = .ok z w := fun w => by simp [zeroValue, typeInfo, hi, hz]
  have hss : ∀ w, (sizeOf e).run P w = .ok n w := fun w => by simp [sizeOf, typeInfo, hi, hsz]
  have hM : M.toArray.size = n := by simpa using hl
  have hf := fill_oneB z.cells M.toArray (by rw [hzs, hM]) (by omega)
  rw [hM] at hf
  have hrun : (Instr.buildSlice t 1 #[(0, .agg M.toArray)]).run P w = .ok (.slice (some ⟨w.heap.size, 0, none⟩) 1 1) (w.alloc (.cells M.toArray e)) := by
    have h1 : ¬ (2 ^ 24 < 1 * n) := by omega
    have h2 : ¬ (1 * n = 0) := by omega
    simp only [Instr.buildSlice, run_underlying ht, Sem.run_bind, Sem.run_pure, Result.andThen_ok, hss, gt_iff_lt, h1, if_false, h2, hzz, hf, newRow]
    simp
  unfold Oper.wp execOp
  simp only [ho, List.map_toArray, List.map_cons, List.map_nil, hx, hrun, Sem.run_bind, Result.andThen_ok, Sem.run_pure]
  exact hk _ _ (by unfold Row; exact heap_alloc_new _ _) (Nat.le_refl _) (by simp) ((Below.refl _ _).alloc (Nat.le_refl _) _)
end Go.Proofs.YtooooncmjhcdbaaGreatDoor

/-
  The box: a ledger takes an entry in: contracts. Own work.
-/
namespace Go.Proofs.YtooooncmjhcdbaaGreatDoor
open Go.RowKit
/-- The ledgers of an ideal box: both rows are its own. -/
structure LedAt (w : World) (B gl : Nat) (ts : List SEn) (ms : List MEn) : Prop where
  row : ∃ v1 v2, Row w 67 gl [v1, v2] ∧ w.ownsRow B 191 9 v1 ts.length (ts.flatMap SEn.cells) ∧ w.ownsRow B 186 7 v2 ms.length (ms.flatMap MEn.cells)
  lo : B ≤ gl ∧ B ≤ w.heap.size
theorem own_at {w w' : World} {B e size n : Nat} {v : Value} {xs : List Value} (h : w.ownsRow B e size v n xs) (hb : ∀ k, v.ownBlock = some k → w'.heap[k]? = w.heap[k]?) : w'.ownsRow B e size v n xs :=
  ⟨h.1, h.2.imp id fun ⟨g, cap, cur, e1, h1, hg, h2⟩ => ⟨g, cap, cur, e1, h1, (hb g (by rw [e1]; rfl)).trans hg, h2⟩⟩
theorem own_apart {w : World} {B B' e e' size size' n n' : Nat} {v v' : Value} {xs xs' : List Value} (h : w.ownsRow B e size v n xs) (h' : w.ownsRow B' e' size' v' n' xs') (ht : e ≠ e') : ∀ k, v.ownBlock = some k → v'.ownBlock ≠ some k := by
  intro k hk hk'
  rcases h.2 with ⟨rfl, _⟩ | ⟨g, cap, cur, rfl, _, hc, _⟩
  · cases hk
  · rcases h'.2 with ⟨rfl, _⟩ | ⟨g', cap', cur', rfl, _, hc', _⟩
    · cases hk'
    · injection hk with hk; injection hk' with hk'
      subst hk; subst hk'
      have := hc.symm.trans hc'
      simp at this
      exact ht this.2
theorem own_ne_row {w : World} {B e size n t g : Nat} {v : Value} {xs vs : List Value} (h : w.ownsRow B e size v n xs) (hr : Row w t g vs) (ht : e ≠ t) : ∀ k, v.ownBlock = some k → k ≠ g := by
  intro k hk hkg
  subst hkg
  rcases h.2 with ⟨rfl, _⟩ | ⟨g, cap, cur, rfl, _, hc, _⟩
  · cases hk
  · injection hk with hk
    subst hk
    have := hc.symm.trans hr
    simp at this
    exact ht this.2
theorem LedAt.later {w w' : World} {B gl : Nat} {ts : List SEn} {ms : List MEn} (h : LedAt w B gl ts ms) (hb : Below w.heap.size w w') : LedAt w' B gl ts ms := by
  obtain ⟨⟨v1, v2, h1, h2, h3⟩, h4, h5⟩ := h
  exact ⟨⟨v1, v2, h1.later hb, own_at h2 fun k hk => hb.block k (h2.lt k hk).2, own_at h3 fun k hk => hb.block k (h3.lt k hk).2⟩, h4, Nat.le_trans h5 hb.size⟩
/-- What the region that takes an entry in keeps. -/
def JLg (w0 : World) (T : Nat) (cs : List Value) (N1 : Value → World → Prop) (N2 : World → Prop) (bs : List Bool) (vs : List Value) (w : World) : Prop :=
  (bs.getD 1 false = false → Below w0.heap.size w0 w) ∧ (bs.getD 0 false = true → bs.getD 1 false = false → ∃ g, vs.getD 0 undef = .slice (some ⟨g, 0, none⟩) 1 1 ∧ Row w T g cs) ∧ (bs.getD 1 false = true → bs.getD 2 false = false → N1 (vs.getD 1 undef) w) ∧ (bs.getD 2 false = true → N2 w)
theorem JLg.start (w0 : World) (T : Nat) (cs : List Value) (N1 : Value → World → Prop) (N2 : World → Prop) (vs : List Value) : JLg w0 T cs N1 N2 [false, false, false] vs w0.drew :=
  ⟨fun _ => (Below.refl _ _).drew, fun h => absurd (show false = true from h) (by decide), fun h => absurd (show false = true from h) (by decide), fun h => absurd (show false = true from h) (by decide)⟩
theorem bytes_info (t n : Nat) : True := trivial
theorem seI : ∃ i, Tryz.prog.info? 191 = some i ∧ i.zero = some (.agg ((⟨⟨0, 0, 0, 0, 0, 0⟩, 0, [], []⟩ : SEn).cells).toArray) ∧ i.size = 9 ∧ i.bytes = 88 := by
  have h : (Tryz.prog.info? 191).map (fun i => (i.zero, i.size, i.bytes)) = some (some (.agg ((⟨⟨0, 0, 0, 0, 0, 0⟩, 0, [], []⟩ : SEn).cells).toArray), 9, 88) := by kernel_rfl
  exact info_parts h
theorem meI : ∃ i, Tryz.prog.info? 186 = some i ∧ i.zero = some (.agg ((⟨⟨0, 0, 0, 0, 0, 0⟩, []⟩ : MEn).cells).toArray) ∧ i.size = 7 ∧ i.bytes = 64 := by
  have h : (Tryz.prog.info? 186).map (fun i => (i.zero, i.size, i.bytes)) = some (some (.agg ((⟨⟨0, 0, 0, 0, 0, 0⟩, []⟩ : MEn).cells).toArray), 7, 64) := by kernel_rfl
  exact info_parts h
theorem one_SEn (s : SEn) : ∀ u ∈ s.cells, u.oneCell' = true := by
  intro u hu; simp at hu; rcases hu with rfl | rfl | rfl | rfl | rfl | rfl | rfl | rfl | rfl <;> rfl
theorem one_MEn (s : MEn) : ∀ u ∈ s.cells, u.oneCell' = true := by
  intro u hu; simp at hu; rcases hu with rfl | rfl | rfl | rfl | rfl | rfl | rfl <;> rfl
end Go.Proofs.YtooooncmjhcdbaaGreatDoor

/-
  The box: a ledger takes an entry in. Own work.
-/
namespace Go.Proofs.YtooooncmjhcdbaaGreatDoor
open Go.RowKit
/-- From w to w' nothing that was there has turned but the blocks S. -/
structure ButS (S : List Nat) (w w' : World) : Prop where
  os : w'.os = w.os
  tape : w'.tape = w.tape
  output : w'.output = w.output
  size : w.heap.size ≤ w'.heap.size
  block : ∀ k, k < w.heap.size → k ∉ S → w'.heap[k]? = w.heap[k]?
theorem ButS.refl (S : List Nat) (w : World) : ButS S w w := ⟨rfl, rfl, rfl, Nat.le_refl _, fun _ _ _ => rfl⟩
theorem ButS.trans {S : List Nat} {a b c : World} (h : ButS S a b) (k : ButS S b c) : ButS S a c :=
  ⟨k.os.trans h.os, k.tape.trans h.tape, k.output.trans h.output, Nat.le_trans h.size k.size, fun i hi hg => (k.block i (Nat.lt_of_lt_of_le hi h.size) hg).trans (h.block i hi hg)⟩
theorem ButS.of {w w' : World} (h : Below w.heap.size w w') (S : List Nat) : ButS S w w' := ⟨h.os, h.tape, h.output, h.size, fun k hk _ => h.block k hk⟩
theorem ButS.only {S : List Nat} {g : Nat} {w w' : World} (h : Only g w w') (hg : g ∈ S) : ButS S w w' := ⟨h.os, h.tape, h.output, Nat.le_of_eq h.size.symm, fun k _ hk => h.block k (fun e => hk (e ▸ hg))⟩
theorem ButS.grown {S : List Nat} {r : Option Nat} {w w' : World} (h : w.grownBy w' r) (hg : ∀ k, r = some k → k ∈ S) : ButS S w w' := ⟨h.os, h.tape, h.output, h.size, fun k hk hn => h.block k hk (fun e => hn (hg k e.symm))⟩
theorem ButS.sub {S S' : List Nat} {w w' : World} (h : ButS S w w') (hs : ∀ k ∈ S, k ∈ S') : ButS S' w w' := ⟨h.os, h.tape, h.output, h.size, fun k hk hn => h.block k hk (fun e => hn (hs k e))⟩
theorem ButS.below {S : List Nat} {B : Nat} {w w' : World} (h : ButS S w w') (hS : ∀ k ∈ S, B ≤ k) (hw : B ≤ w.heap.size) : Below B w w' := ⟨h.os, h.tape, h.output, h.size, fun k hk => h.block k (by omega) (fun e => by have := hS k e; omega)⟩
theorem Row.butS {S : List Nat} {t g : Nat} {vs : List Value} {w w' : World} (h : Row w t g vs) (hb : ButS S w w') (hne : g ∉ S) : Row w' t g vs := (hb.block g h.lt hne).trans h
theorem own_one {w : World} {B e size n : Nat} {v : Value} {xs : List Value} (h : w.ownsRow B e size v n xs) : v.oneCell' = true := by
  rcases h.2 with ⟨rfl, _⟩ | ⟨g, cap, cur, rfl, _⟩ <;> rfl
/-- A row that was grown by one entry, not stored yet. -/
def MidG (w0 : World) (B gl T size n : Nat) (v1 v2 : Value) (xs cs : List Value) (Oth : World → Prop) (v' : Value) (w : World) : Prop :=
  w.ownsRow B T size v' (n + 1) (xs ++ cs) ∧ Row w 67 gl [v1, v2] ∧ Oth w ∧ ButS (gl :: (if T = 191 then v1 else v2).ownBlock.toList) w0 w
theorem run_lenSl2 {P : Program} {w : World} {a : Act} {o : Oper} (T e : Nat) (hu : P.underlying T = some (.slice e)) (x : Operand) {A : Option Addr} {n c : Nat} (ho : o.op = .call { callee := .builtin .len, args := #[x], argTypes := #[T] }) (hx : a.eval x = .slice A n c) : (execOp a.eval o).run P w = .ok (.value (.int .i64 (n : Int))) w := by
  unfold execOp
  simp only [ho, resolve, invoke, builtin, Sem.run_bind, Sem.run_pure, Result.andThen_ok, List.map_toArray, List.map_cons, List.map_nil, hx]
  simp [Builtin.len_, run_underlying hu, goInt]
theorem run_sub1 {P : Program} {w : World} {a : Act} {o : Oper} {t u m : Nat} (x : Operand) (ho : o.op = .binOp .sub t x (.const (.int .i64 1)) u) (hx : a.eval x = .int .i64 ((m + 1 : Nat) : Int)) (hm : (m : Int) ≤ 1000000) : (execOp a.eval o).run P w = .ok (.value (.int .i64 (m : Int))) w := by
  unfold execOp
  simp only [ho, hx]
  go_simp
  rw [IntKind.wrap_i64]
  omega
theorem own_formB {w : World} {base e size n : Nat} {v : Value} {xs : List Value} (h : w.ownsRow base e size v n xs) (hn : 0 < n) : ∃ g cap, v = .slice (some ⟨g, 0, none⟩) n cap ∧ base ≤ g ∧ g < w.heap.size := by
  rcases h.2 with ⟨_, h0⟩ | ⟨g, cap, cur, hv, hb, hg, _⟩
  · omega
  · exact ⟨g, cap, hv, hb, (Array.getElem?_eq_some_iff.1 hg).1⟩
theorem szSlS : (Tryz.prog.info? 60).map (·.size) = some 1 := by kernel_rfl
theorem szSlM : (Tryz.prog.info? 63).map (·.size) = some 1 := by kernel_rfl
def SAdS (v1 v2 : Value) (cs : List Value) (gl g3 : Nat) (opn : Nat) (v : Value) : Prop :=
  match opn with
  | 0 | 1 | 2 | 3 | 8 | 9 => v = .pointer (some ⟨gl, 0, none⟩)
  | 4 => v = v1
  | 5 => v = .agg cs.toArray
  | _ => True
def SAdM (v1 v2 : Value) (cs : List Value) (gl g3 : Nat) (opn : Nat) (v : Value) : Prop :=
  match opn with
  | 0 | 1 | 2 | 3 | 8 | 9 => v = .pointer (some ⟨gl, 1, none⟩)
  | 4 => v = v2
  | 5 => v = .agg cs.toArray
  | _ => True

def SAdS2 (cs : List Value) (gl g3 gs m cp z : Nat) (opn : Nat) (v : Value) : Prop :=
  match opn with
  | 0 | 1 | 2 => v = .pointer (some ⟨gl, 0, none⟩)
  | 3 => v = .slice (some ⟨gs, 0, none⟩) (m + 1) cp
  | 4 => v = .int .i64 ((m + 1 : Nat) : Int)
  | 5 => v = .int .i64 (m : Int)
  | 6 => v = .agg cs.toArray
  | 7 => v = .iface 191 (.agg cs.toArray)
  | 8 => v = .int .i64 (z : Int)
  | _ => True
def SAdM2 (cs : List Value) (gl g3 gs m cp z : Nat) (opn : Nat) (v : Value) : Prop :=
  match opn with
  | 0 | 1 | 2 => v = .pointer (some ⟨gl, 1, none⟩)
  | 3 => v = .slice (some ⟨gs, 0, none⟩) (m + 1) cp
  | 4 => v = .int .i64 ((m + 1 : Nat) : Int)
  | 5 => v = .int .i64 (m : Int)
  | 6 => v = .agg cs.toArray
  | 7 => v = .iface 186 (.agg cs.toArray)
  | 8 => v = .int .i64 (z : Int)
  | _ => True
def FAdS (tk : List Int) (opn : Nat) (v : Value) (w : World) : Prop :=
  match opn with
  | 9 => SlB tk v w
  | 10 => SlB tk v w
  | _ => True
theorem FAdS_mono (tk : List Int) : ∀ j v w w', FAdS tk j v w → Below w.heap.size w w' → FAdS tk j v w' := by
  intro j v w w' h hb
  unfold FAdS at h ⊢
  split at h
  · exact h.later hb
  · exact h.later hb
  · trivial
def FAdM (tk : List Int) (opn : Nat) (v : Value) (w : World) : Prop :=
  match opn with
  | 9 => SlB tk v w
  | 10 => SlB tk v w
  | _ => True
theorem FAdM_mono (tk : List Int) : ∀ j v w w', FAdM tk j v w → Below w.heap.size w w' → FAdM tk j v w' := by
  intro j v w w' h hb
  unfold FAdM at h ⊢
  split at h
  · exact h.later hb
  · exact h.later hb
  · trivial

set_option maxRecDepth 100000 in
set_option maxHeartbeats 2000000 in
theorem addS_any (w : World) (B gl : Nat) (ts : List SEn) (ms : List MEn) (s : SEn) (h : LedAt w B gl ts ms) (hn : ts.length ≤ 10000) (ht : s.tx.length ≤ 100000) :
    Calls Tryz.prog 125 #[.pointer (some ⟨gl, 0, none⟩), .agg s.cells.toArray] w fun e w' => (∃ A c, e = .returned (.slice A (s.tx.length + 16) c) ∧ Bs w' w'.heap.size A (s.tx.length + 16) (tokL ts.length (s.tx.length + 16)) ∧ (s.tx.length + 16) ≤ c ∧ TyB w' A) ∧ LedAt w' B gl (ts ++ [s]) ms ∧
      ∃ S, (∀ k ∈ S, B ≤ k ∧ (k = gl ∨ ∃ cs fr, w.heap[k]? = some (.cells cs 191 fr))) ∧ ButS S w w' := by
  obtain ⟨⟨v1, v2, hr, hO, hO2⟩, hlo, hB0⟩ := h
  obtain ⟨ie, hie, hiz, his, hib⟩ := seI
  have hsz := hide (szSEn s)
  have hcl : s.cells.length = 1 * 9 := rfl
  have h1c := one_SEn s
  have hmt := mS s
  have HSz := fun w => sizeS_any s w ht
  have HTk0 := fun w => token_ty ts.length (s.tx.length + 16) w (by omega) (by omega) (by omega)
  have htl : (tokL ts.length (s.tx.length + 16)).length = (s.tx.length + 16) := tokL_len (by omega)
  have hS : ∀ k ∈ (gl :: v1.ownBlock.toList), B ≤ k ∧ k < w.heap.size ∧ (k = gl ∨ ∃ cs fr, w.heap[k]? = some (.cells cs 191 fr)) := by
    intro k hk
    rcases List.mem_cons.1 hk with rfl | hk
    · exact ⟨hlo, hr.lt, .inl rfl⟩
    · have hk2 : v1.ownBlock = some k := by simpa [Option.mem_toList] using hk
      refine ⟨(hO.lt k hk2).1, (hO.lt k hk2).2, .inr ?_⟩
      rcases hO.2 with ⟨rfl, _⟩ | ⟨g, cap, cur, rfl, _, hg, _⟩
      · cases hk2
      · injection hk2 with hk2; subst hk2; exact ⟨_, _, hg⟩
  have HMid : ∀ w0, Below w.heap.size w w0 → ∀ (w1 wq : World) (v' : Value), Below w0.heap.size w0 w1 → wq.ownsRow B 191 9 v' (ts.length + 1) (ts.flatMap SEn.cells ++ s.cells) → w1.grownBy wq v1.ownBlock →
      MidG w0 B gl 191 9 ts.length v1 v2 (ts.flatMap SEn.cells) s.cells (fun w => w.ownsRow B 186 7 v2 ms.length (ms.flatMap MEn.cells)) v' wq := by
    intro w0 b0 w1 wq v' b1 ho hg
    have hb := b0.trans (b1.mono b0.size)
    refine ⟨ho, ?_, ?_, ?_⟩
    · have hr1 := hr.later hb
      exact (hg.block gl hr1.lt (fun e => own_ne_row hO hr (by decide) gl e.symm rfl)).trans hr1
    · refine own_at hO2 fun k hk => ?_
      have hk1 := hO2.lt k hk
      rw [hg.block k (Nat.lt_of_lt_of_le hk1.2 hb.size) (fun e => own_apart hO2 hO (by decide) k hk e.symm), hb.block k hk1.2]
    · refine (ButS.of b1 _).trans (ButS.grown hg fun k hk => ?_)
      exact List.mem_cons_of_mem _ (by simpa [Option.mem_toList] using hk)
  have HEnd : ∀ w0, Below w.heap.size w w0 → ∀ (w1 wq : World) (v' : Value), MidG w0 B gl 191 9 ts.length v1 v2 (ts.flatMap SEn.cells) s.cells (fun w => w.ownsRow B 186 7 v2 ms.length (ms.flatMap MEn.cells)) v' w1 → Row wq 67 gl ([v1, v2].set 0 v') → Only gl w1 wq →
      (LedAt wq B gl (ts ++ [s]) ms) ∧ ButS (gl :: v1.ownBlock.toList) w0 wq := by
    intro w0 b0 w1 wq v' hM r oq
    obtain ⟨h1, h2, h3, h4⟩ := hM
    refine ⟨⟨⟨v', v2, r, ?_, ?_⟩, hlo, Nat.le_trans (Nat.le_trans hB0 b0.size) (Nat.le_trans h4.size (Nat.le_of_eq oq.size.symm))⟩, h4.trans (ButS.only oq (by simp))⟩
    · rw [List.length_append, List.flatMap_append]; exact own_at (by simpa using h1) fun k hk => oq.block k (own_ne_row h1 h2 (by decide) k hk)
    · exact own_at h3 fun k hk => oq.block k (own_ne_row h3 h2 (by decide) k hk)
  have h63 : ts.length + 1 ≤ maxLen := by simp only [maxLen]; omega
  have hby : (ts.length + 1) * 88 ≤ 140737488355328 := by omega
  have hmI : (ts.length : Int) ≤ 1000000 := by omega
  obtain ⟨tk, htk⟩ : ∃ tk, tk = tokL ts.length (s.tx.length + 16) := ⟨_, rfl⟩
  rw [← htk] at HTk0 htl ⊢
  generalize hcs : s.cells = cs at *
  obtain ⟨z, hz⟩ : ∃ z, z = (s.tx.length + 16) := ⟨_, rfl⟩
  have HSz : ∀ w, Calls Tryz.prog 140 #[.agg cs.toArray] w fun e w' => e = .returned (.int .i64 (z : Int)) ∧ Below w.heap.size w w' := fun w => by rw [hz]; exact HSz w
  rw [← hz] at HTk0 htl ⊢
  clear hz htk hcs
  go_enter Tryz.func125, Tryz.ntmps125
  go_wp2_with (first
    | (with_reducible refine wl_box rfl 191 _ (.agg cs.toArray) cs rfl rfl rfl ?_; intro g3 w0 r3 p3 l3 b3))
  replace HMid := HMid w0 b3
  replace HEnd := HEnd w0 b3
  have rL := hr.later b3
  have hB : B ≤ w0.heap.size := Nat.le_trans hB0 b3.size
  have hO0 := own_at hO (w' := w0) fun k hk => b3.block k (hO.lt k hk).2
  clear hO hO2
  have hO := hO0
  rename_i K1 hK1
  refine wp_region_vals [6, 7, 10] (SAdS v1 v2 cs gl g3) (JLg w0 191 cs (MidG w0 B gl 191 9 ts.length v1 v2 (ts.flatMap SEn.cells) cs (fun w => w.ownsRow B 186 7 v2 ms.length (ms.flatMap MEn.cells))) (fun wq => (LedAt wq B gl (ts ++ [s]) ms) ∧ ButS (gl :: v1.ownBlock.toList) w0 wq)) (by kernel_rfl) (by kernel_rfl) (by kernel_rfl) (by kernel_rfl) (by kernel_rfl) (JLg.start _ _ _ _ _ _) ?obs1 ?he1
  case obs1 =>
    refine ⟨?_, ?_, ?_, ?_, ?_, ?_, ?_, ?_, ?_, ?_, ?_, trivial⟩
    · exact .inl ⟨by kernel_rfl, fun L a1 w1 n' h => ⟨_, rfl, run_move (.tmp 0) rfl (h.var n' 0 (by kernel_rfl))⟩⟩
    · exact .inl ⟨by kernel_rfl, fun L a1 w1 n' h => ⟨_, rfl, run_move (.tmp 0) rfl (h.var n' 0 (by kernel_rfl))⟩⟩
    · refine .inl ⟨by kernel_rfl, fun L a1 w1 n' h => ⟨.pointer (some ⟨gl, 0, none⟩), rfl, ?_⟩⟩
      have e0 : a1.eval (.tmp 6) = _ := h.dep n' 1 6 (by kernel_rfl) rfl
      unfold execOp
      simp only [e0]
      go_simp
    · refine .inl ⟨by kernel_rfl, fun L a1 w1 n' h => ⟨.pointer (some ⟨gl, 0, none⟩), rfl, ?_⟩⟩
      have e0 : a1.eval (.tmp 7) = _ := h.dep n' 2 7 (by kernel_rfl) rfl
      unfold execOp
      simp only [e0]
      go_simp
    · exact .inl ⟨by kernel_rfl, fun L a1 w1 n' h => ⟨_, rfl, run_loadA 60 (.tmp 8) ⟨gl, 0, none⟩ rfl Tryz.isAgg60 (h.dep n' 3 8 (by kernel_rfl) rfl) ((Row.later rL (h.inv.1 ((bits_at rfl).trans (n'.later (by kernel_rfl) : L.getD 7 false = false)))).cell (j := 0) rfl)⟩⟩
    · exact .inl ⟨by kernel_rfl, fun L a1 w1 n' h => ⟨_, rfl, run_loadRow 191 (.tmp 3) g3 191 _ _ rfl (h.var n' 3 (by kernel_rfl)) (Row.later r3 (h.inv.1 ((bits_at rfl).trans (n'.later (by kernel_rfl) : L.getD 7 false = false)))) Tryz.underlying191 rfl hsz.out⟩⟩
    · refine .inr fun L a1 w1 n' h K hK => ?_
      have no7 : L.getD 7 false = false := n'.later (by kernel_rfl)
      have no10 : L.getD 10 false = false := n'.later (by kernel_rfl)
      have b9 := h.inv.1 ((bits_at rfl).trans no7)
      have y0 : a1.eval (.tmp 10) = .agg cs.toArray := h.dep n' 5 10 (by kernel_rfl) rfl
      refine st_build1B 60 (.tmp 10) rfl 191 ie _ cs 9 Tryz.underlying60 hie hiz rfl his hcl (by decide) (by decide) y0 ?_
      intro g2 wq rq pq lq bq
      exact hK _ wq trivial ⟨fun _ => b9.trans (bq.mono b9.size), fun _ _ => ⟨g2, rfl, rq⟩, (fun h0 _ => absurd (no7.symm.trans h0) (by decide)), (fun h0 => absurd (no10.symm.trans h0) (by decide))⟩
    · refine .inr fun L a1 w1 n' h K hK => ?_
      have yes6 : L.getD 6 false = true := n'.dep (by kernel_rfl)
      have no7 : L.getD 7 false = false := n'.not_yet
      have no10 : L.getD 10 false = false := n'.later (by kernel_rfl)
      have b9 := h.inv.1 ((bits_at rfl).trans no7)
      obtain ⟨g2, ev, r2⟩ := h.inv.2.1 ((bits_at rfl).trans yes6) ((bits_at rfl).trans no7)
      have y0 : a1.eval (.tmp 9) = v1 := h.dep n' 4 9 (by kernel_rfl) rfl
      have own1 := own_at hO (w' := w1) fun k hk => b9.block k (hO.lt k hk).2
      refine st_append_at (.tmp 9) (.tmp 11) 60 rfl B 191 ie _ 9 88 Tryz.underlying60 hie hiz his hib rfl (by decide) v1 ts.length (ts.flatMap SEn.cells) y0 own1 ⟨g2, 0, none⟩ 1 1 cs ev hcl (row_src r2) h1c h63 hby (Nat.le_trans hB b9.size) ?_
      intro v' wq ownq grq atq
      exact hK _ wq trivial ⟨(fun h0 => absurd (show true = false from h0) (by decide)), (fun _ h0 => absurd (show true = false from h0) (by decide)), fun _ _ => HMid w1 wq v' b9 ownq grq, (fun h0 => absurd (no10.symm.trans h0) (by decide))⟩
    · refine .inl ⟨by kernel_rfl, fun L a1 w1 n' h => ⟨.pointer (some ⟨gl, 0, none⟩), rfl, ?_⟩⟩
      have e0 : a1.eval (.tmp 5) = _ := h.dep n' 0 5 (by kernel_rfl) rfl
      unfold execOp
      simp only [e0]
      go_simp
    · refine .inl ⟨by kernel_rfl, fun L a1 w1 n' h => ⟨.pointer (some ⟨gl, 0, none⟩), rfl, ?_⟩⟩
      have e0 : a1.eval (.tmp 13) = _ := h.dep n' 8 13 (by kernel_rfl) rfl
      unfold execOp
      simp only [e0]
      go_simp
    · refine .inr fun L a1 w1 n' h K hK => ?_
      have yes7 : L.getD 7 false = true := n'.dep (by kernel_rfl)
      have no10 : L.getD 10 false = false := n'.not_yet
      have hN := h.inv.2.2.1 ((bits_at rfl).trans yes7) ((bits_at rfl).trans no10)
      obtain ⟨v', hv', hN⟩ : ∃ v', a1.eval (.tmp 12) = v' ∧ MidG w0 B gl 191 9 ts.length v1 v2 (ts.flatMap SEn.cells) cs (fun w => w.ownsRow B 186 7 v2 ms.length (ms.flatMap MEn.cells)) v' w1 := ⟨_, rfl, hN⟩
      have y0 : a1.eval (.tmp 14) = .pointer (some ⟨gl, 0, none⟩) := h.dep n' 9 14 (by kernel_rfl) rfl
      refine st_store 60 (.tmp 14) (.tmp 12) gl 0 67 [v1, v2] v' rfl szSlS y0 hv' hN.2.1 (by simp) (own_one hN.1) ?_
      intro wq rq oq
      exact hK undef wq trivial ⟨fun h0 => absurd (yes7.symm.trans h0) (by decide), fun _ h0 => absurd (yes7.symm.trans h0) (by decide), (fun _ h0 => absurd (show true = false from h0) (by decide)), fun _ => HEnd w1 wq v' hN rq oq⟩
  case he1 =>
    intro V w5 hV hJ
    obtain ⟨hL5, bS⟩ := hJ.2.2.2 rfl
    clear hV hJ HMid HEnd
    simp only [putOps, List.setIfInBounds_toArray, List.set_cons_succ, List.set_cons_zero, Nat.reduceAdd]
    refine hK1 _ _ ?_
    have hL5' := hL5
    obtain ⟨⟨u1, u2, hr5, hO5, hO25⟩, _, hB5⟩ := hL5'
    obtain ⟨gs, cp, rfl, _, _⟩ := own_formB hO5 (by rw [List.length_append]; simp)
    rw [List.length_append] at hr5
    have rL : Row w5 67 gl [.slice (some ⟨gs, 0, none⟩) (ts.length + 1) cp, u2] := hr5
    have hg3 : g3 ∉ (gl :: v1.ownBlock.toList) := fun hk => by have := (hS g3 hk).2.1; omega
    have r3 := r3.butS bS hg3
    have HTk := HTk0
    clear hr5 hO5 hO25 hO
    go_wp2_with fail
    rename_i K2 hK2
    refine wp_region_vals [8, 9, 10] (SAdS2 cs gl g3 gs ts.length cp z) (JF w5 [8, 9, 10] (FAdS tk)) (by kernel_rfl) (by kernel_rfl) (by kernel_rfl) (by kernel_rfl) (by kernel_rfl) (JF.start _) ?obs2 ?he2
    case obs2 =>
      refine ⟨?_, ?_, ?_, ?_, ?_, ?_, ?_, ?_, ?_, ?_, ?_, trivial⟩
      · exact .inl ⟨by kernel_rfl, fun L a1 w1 n h => ⟨_, rfl, run_move (.tmp 0) rfl (h.var n 0 (by kernel_rfl))⟩⟩
      · refine .inl ⟨by kernel_rfl, fun L a1 w1 n h => ⟨.pointer (some ⟨gl, 0, none⟩), rfl, ?_⟩⟩
        have e0 : a1.eval (.tmp 15) = _ := h.dep n 0 15 (by kernel_rfl) rfl
        unfold execOp
        simp only [e0]
        go_simp
      · refine .inl ⟨by kernel_rfl, fun L a1 w1 n h => ⟨.pointer (some ⟨gl, 0, none⟩), rfl, ?_⟩⟩
        have e0 : a1.eval (.tmp 16) = _ := h.dep n 1 16 (by kernel_rfl) rfl
        unfold execOp
        simp only [e0]
        go_simp
      · exact .inl ⟨by kernel_rfl, fun L a1 w1 n h => ⟨_, rfl, run_loadA 60 (.tmp 17) ⟨gl, 0, none⟩ rfl Tryz.isAgg60 (h.dep n 2 17 (by kernel_rfl) rfl) ((Row.later rL h.inv.1).cell (j := 0) rfl)⟩⟩
      · exact .inl ⟨by kernel_rfl, fun L a1 w1 n h => ⟨_, rfl, run_lenSl2 60 191 Tryz.underlying60 (.tmp 18) rfl (h.dep n 3 18 (by kernel_rfl) rfl)⟩⟩
      · exact .inl ⟨by kernel_rfl, fun L a1 w1 n h => ⟨_, rfl, run_sub1 (.tmp 19) rfl (h.dep n 4 19 (by kernel_rfl) rfl) hmI⟩⟩
      · exact .inl ⟨by kernel_rfl, fun L a1 w1 n h => ⟨_, rfl, run_loadRow 191 (.tmp 3) g3 191 _ _ rfl (h.var n 3 (by kernel_rfl)) (Row.later r3 h.inv.1) Tryz.underlying191 rfl hsz.out⟩⟩
      · refine .inl ⟨by kernel_rfl, fun L a1 w1 n h => ⟨.iface 191 (.agg cs.toArray), rfl, ?_⟩⟩
        have e0 : a1.eval (.tmp 21) = _ := h.dep n 6 21 (by kernel_rfl) rfl
        unfold execOp
        simp only [e0]
        go_simp
      · refine .inr fun L a1 w1 n h K hK => ?_
        have y0 : a1.eval (.tmp 22) = .iface 191 (.agg cs.toArray) := h.dep n 7 22 (by kernel_rfl) rfl
        refine st_invoke 191 (.agg cs.toArray) (.agg cs.toArray) 140 (.tmp 22) _ #[] #[] [] rfl y0 hmt Tryz.call140 (by simp) (HSz w1) ?_
        rintro e wq ⟨rfl, b9⟩
        exact ⟨_, rfl, JF.few (FAdS_mono tk) h hK 23 rfl _ rfl trivial b9⟩
      · refine .inr fun L a1 w1 n h K hK => ?_
        have e0 : a1.eval (.tmp 20) = .int .i64 (ts.length : Int) := h.dep n 5 20 (by kernel_rfl) rfl
        have e1 : a1.eval (.tmp 23) = .int .i64 (z : Int) := h.dep n 8 23 (by kernel_rfl) rfl
        refine JF.call (FAdS_mono tk) h hK 24 rfl 127 _ _ #[.int .i64 (ts.length : Int), .int .i64 (z : Int)] rfl Tryz.call127 ?_ (HTk w1) ?_
        · simp only [List.map_toArray, List.map_cons, List.map_nil, e0, e1]
        · rintro e w3 h9
          obtain ⟨v9, rfl, f9, b9⟩ := SlB.of_ret h9
          exact ⟨_, rfl, trivial, f9, b9⟩
      · refine .inr fun L a1 w1 n h K hK => ?_
        obtain ⟨A9, c9, v9, h9⟩ := JF.get h n 9 24 (by kernel_rfl) (by kernel_rfl) rfl
        exact JF.run (FAdS_mono tk) h hK 4 rfl (.slice A9 tk.length c9) (run_assign (.tmp 24) rfl v9) trivial ⟨A9, c9, rfl, h9⟩
    case he2 =>
      intro V2 w6 hV hJ
      obtain ⟨A9, c9, v9, h9, l9, m9, y9⟩ := JF.last hJ 10 4 rfl rfl
      have b6 := hJ.1
      clear hV hJ
      simp only [putOps, List.setIfInBounds_toArray, List.set_cons_succ, List.set_cons_zero, Nat.reduceAdd]
      rw [v9]
      refine hK2 _ _ ?_
      clear v9
      go_wp2_with fail
      go_ret
      rw [htl] at h9 l9 ⊢
      exact ⟨⟨A9, c9, rfl, h9, l9, y9⟩, hL5.later b6, _, fun k hk => ⟨(hS k hk).1, (hS k hk).2.2⟩, ((ButS.of b3 _).trans bS).trans (ButS.of b6 _)⟩
set_option maxRecDepth 100000 in
set_option maxHeartbeats 2000000 in
theorem addM_any (w : World) (B gl : Nat) (ts : List SEn) (ms : List MEn) (s : MEn) (h : LedAt w B gl ts ms) (hn : ms.length ≤ 10000) :
    Calls Tryz.prog 123 #[.pointer (some ⟨gl, 1, none⟩), .agg s.cells.toArray] w fun e w' => (∃ A c, e = .returned (.slice A 32 c) ∧ Bs w' w'.heap.size A 32 (tokL ms.length 32) ∧ 32 ≤ c ∧ TyB w' A) ∧ LedAt w' B gl ts (ms ++ [s]) ∧
      ∃ S, (∀ k ∈ S, B ≤ k ∧ (k = gl ∨ ∃ cs fr, w.heap[k]? = some (.cells cs 186 fr))) ∧ ButS S w w' := by
  obtain ⟨⟨v1, v2, hr, hO, hO2⟩, hlo, hB0⟩ := h
  obtain ⟨ie, hie, hiz, his, hib⟩ := meI
  have hsz := hide (szMEn s)
  have hcl : s.cells.length = 1 * 7 := rfl
  have h1c := one_MEn s
  have hmt := mM s
  have HSz := fun w => sizeM_any s w
  have HTk0 := fun w => token_ty ms.length 32 w (by omega) (by omega) (by omega)
  have htl : (tokL ms.length 32).length = 32 := tokL_len (by omega)
  have hS : ∀ k ∈ (gl :: v2.ownBlock.toList), B ≤ k ∧ k < w.heap.size ∧ (k = gl ∨ ∃ cs fr, w.heap[k]? = some (.cells cs 186 fr)) := by
    intro k hk
    rcases List.mem_cons.1 hk with rfl | hk
    · exact ⟨hlo, hr.lt, .inl rfl⟩
    · have hk2 : v2.ownBlock = some k := by simpa [Option.mem_toList] using hk
      refine ⟨(hO2.lt k hk2).1, (hO2.lt k hk2).2, .inr ?_⟩
      rcases hO2.2 with ⟨rfl, _⟩ | ⟨g, cap, cur, rfl, _, hg, _⟩
      · cases hk2
      · injection hk2 with hk2; subst hk2; exact ⟨_, _, hg⟩
  have HMid : ∀ w0, Below w.heap.size w w0 → ∀ (w1 wq : World) (v' : Value), Below w0.heap.size w0 w1 → wq.ownsRow B 186 7 v' (ms.length + 1) (ms.flatMap MEn.cells ++ s.cells) → w1.grownBy wq v2.ownBlock →
      MidG w0 B gl 186 7 ms.length v1 v2 (ms.flatMap MEn.cells) s.cells (fun w => w.ownsRow B 191 9 v1 ts.length (ts.flatMap SEn.cells)) v' wq := by
    intro w0 b0 w1 wq v' b1 ho hg
    have hb := b0.trans (b1.mono b0.size)
    refine ⟨ho, ?_, ?_, ?_⟩
    · have hr1 := hr.later hb
      exact (hg.block gl hr1.lt (fun e => own_ne_row hO2 hr (by decide) gl e.symm rfl)).trans hr1
    · refine own_at hO fun k hk => ?_
      have hk1 := hO.lt k hk
      rw [hg.block k (Nat.lt_of_lt_of_le hk1.2 hb.size) (fun e => own_apart hO hO2 (by decide) k hk e.symm), hb.block k hk1.2]
    · refine (ButS.of b1 _).trans (ButS.grown hg fun k hk => ?_)
      exact List.mem_cons_of_mem _ (by simpa [Option.mem_toList] using hk)
  have HEnd : ∀ w0, Below w.heap.size w w0 → ∀ (w1 wq : World) (v' : Value), MidG w0 B gl 186 7 ms.length v1 v2 (ms.flatMap MEn.cells) s.cells (fun w => w.ownsRow B 191 9 v1 ts.length (ts.flatMap SEn.cells)) v' w1 → Row wq 67 gl ([v1, v2].set 1 v') → Only gl w1 wq →
      (LedAt wq B gl ts (ms ++ [s])) ∧ ButS (gl :: v2.ownBlock.toList) w0 wq := by
    intro w0 b0 w1 wq v' hM r oq
    obtain ⟨h1, h2, h3, h4⟩ := hM
    refine ⟨⟨⟨v1, v', r, ?_, ?_⟩, hlo, Nat.le_trans (Nat.le_trans hB0 b0.size) (Nat.le_trans h4.size (Nat.le_of_eq oq.size.symm))⟩, h4.trans (ButS.only oq (by simp))⟩
    · exact own_at h3 fun k hk => oq.block k (own_ne_row h3 h2 (by decide) k hk)
    · rw [List.length_append, List.flatMap_append]; exact own_at (by simpa using h1) fun k hk => oq.block k (own_ne_row h1 h2 (by decide) k hk)
  have h63 : ms.length + 1 ≤ maxLen := by simp only [maxLen]; omega
  have hby : (ms.length + 1) * 64 ≤ 140737488355328 := by omega
  have hmI : (ms.length : Int) ≤ 1000000 := by omega
  obtain ⟨tk, htk⟩ : ∃ tk, tk = tokL ms.length 32 := ⟨_, rfl⟩
  rw [← htk] at HTk0 htl ⊢
  generalize hcs : s.cells = cs at *
  obtain ⟨z, hz⟩ : ∃ z, z = 32 := ⟨_, rfl⟩
  have HSz : ∀ w, Calls Tryz.prog 139 #[.agg cs.toArray] w fun e w' => e = .returned (.int .i64 (z : Int)) ∧ Below w.heap.size w w' := fun w => by rw [hz]; exact HSz w
  rw [← hz] at HTk0 htl ⊢
  clear hz htk hcs
  go_enter Tryz.func123, Tryz.ntmps123
  go_wp2_with (first
    | (with_reducible refine wl_box rfl 186 _ (.agg cs.toArray) cs rfl rfl rfl ?_; intro g3 w0 r3 p3 l3 b3))
  replace HMid := HMid w0 b3
  replace HEnd := HEnd w0 b3
  have rL := hr.later b3
  have hB : B ≤ w0.heap.size := Nat.le_trans hB0 b3.size
  have hO0 := own_at hO2 (w' := w0) fun k hk => b3.block k (hO2.lt k hk).2
  clear hO hO2
  have hO := hO0
  rename_i K1 hK1
  refine wp_region_vals [6, 7, 10] (SAdM v1 v2 cs gl g3) (JLg w0 186 cs (MidG w0 B gl 186 7 ms.length v1 v2 (ms.flatMap MEn.cells) cs (fun w => w.ownsRow B 191 9 v1 ts.length (ts.flatMap SEn.cells))) (fun wq => (LedAt wq B gl ts (ms ++ [s])) ∧ ButS (gl :: v2.ownBlock.toList) w0 wq)) (by kernel_rfl) (by kernel_rfl) (by kernel_rfl) (by kernel_rfl) (by kernel_rfl) (JLg.start _ _ _ _ _ _) ?obs1 ?he1
  case obs1 =>
    refine ⟨?_, ?_, ?_, ?_, ?_, ?_, ?_, ?_, ?_, ?_, ?_, trivial⟩
    · exact .inl ⟨by kernel_rfl, fun L a1 w1 n' h => ⟨_, rfl, run_move (.tmp 0) rfl (h.var n' 0 (by kernel_rfl))⟩⟩
    · exact .inl ⟨by kernel_rfl, fun L a1 w1 n' h => ⟨_, rfl, run_move (.tmp 0) rfl (h.var n' 0 (by kernel_rfl))⟩⟩
    · refine .inl ⟨by kernel_rfl, fun L a1 w1 n' h => ⟨.pointer (some ⟨gl, 1, none⟩), rfl, ?_⟩⟩
      have e0 : a1.eval (.tmp 6) = _ := h.dep n' 1 6 (by kernel_rfl) rfl
      unfold execOp
      simp only [e0]
      go_simp
    · refine .inl ⟨by kernel_rfl, fun L a1 w1 n' h => ⟨.pointer (some ⟨gl, 1, none⟩), rfl, ?_⟩⟩
      have e0 : a1.eval (.tmp 7) = _ := h.dep n' 2 7 (by kernel_rfl) rfl
      unfold execOp
      simp only [e0]
      go_simp
    · exact .inl ⟨by kernel_rfl, fun L a1 w1 n' h => ⟨_, rfl, run_loadA 63 (.tmp 8) ⟨gl, 1, none⟩ rfl Tryz.isAgg63 (h.dep n' 3 8 (by kernel_rfl) rfl) ((Row.later rL (h.inv.1 ((bits_at rfl).trans (n'.later (by kernel_rfl) : L.getD 7 false = false)))).cell (j := 1) rfl)⟩⟩
    · exact .inl ⟨by kernel_rfl, fun L a1 w1 n' h => ⟨_, rfl, run_loadRow 186 (.tmp 3) g3 186 _ _ rfl (h.var n' 3 (by kernel_rfl)) (Row.later r3 (h.inv.1 ((bits_at rfl).trans (n'.later (by kernel_rfl) : L.getD 7 false = false)))) Tryz.underlying186 rfl hsz.out⟩⟩
    · refine .inr fun L a1 w1 n' h K hK => ?_
      have no7 : L.getD 7 false = false := n'.later (by kernel_rfl)
      have no10 : L.getD 10 false = false := n'.later (by kernel_rfl)
      have b9 := h.inv.1 ((bits_at rfl).trans no7)
      have y0 : a1.eval (.tmp 10) = .agg cs.toArray := h.dep n' 5 10 (by kernel_rfl) rfl
      refine st_build1B 63 (.tmp 10) rfl 186 ie _ cs 7 Tryz.underlying63 hie hiz rfl his hcl (by decide) (by decide) y0 ?_
      intro g2 wq rq pq lq bq
      exact hK _ wq trivial ⟨fun _ => b9.trans (bq.mono b9.size), fun _ _ => ⟨g2, rfl, rq⟩, (fun h0 _ => absurd (no7.symm.trans h0) (by decide)), (fun h0 => absurd (no10.symm.trans h0) (by decide))⟩
    · refine .inr fun L a1 w1 n' h K hK => ?_
      have yes6 : L.getD 6 false = true := n'.dep (by kernel_rfl)
      have no7 : L.getD 7 false = false := n'.not_yet
      have no10 : L.getD 10 false = false := n'.later (by kernel_rfl)
      have b9 := h.inv.1 ((bits_at rfl).trans no7)
      obtain ⟨g2, ev, r2⟩ := h.inv.2.1 ((bits_at rfl).trans yes6) ((bits_at rfl).trans no7)
      have y0 : a1.eval (.tmp 9) = v2 := h.dep n' 4 9 (by kernel_rfl) rfl
      have own1 := own_at hO (w' := w1) fun k hk => b9.block k (hO.lt k hk).2
      refine st_append_at (.tmp 9) (.tmp 11) 63 rfl B 186 ie _ 7 64 Tryz.underlying63 hie hiz his hib rfl (by decide) v2 ms.length (ms.flatMap MEn.cells) y0 own1 ⟨g2, 0, none⟩ 1 1 cs ev hcl (row_src r2) h1c h63 hby (Nat.le_trans hB b9.size) ?_
      intro v' wq ownq grq atq
      exact hK _ wq trivial ⟨(fun h0 => absurd (show true = false from h0) (by decide)), (fun _ h0 => absurd (show true = false from h0) (by decide)), fun _ _ => HMid w1 wq v' b9 ownq grq, (fun h0 => absurd (no10.symm.trans h0) (by decide))⟩
    · refine .inl ⟨by kernel_rfl, fun L a1 w1 n' h => ⟨.pointer (some ⟨gl, 1, none⟩), rfl, ?_⟩⟩
      have e0 : a1.eval (.tmp 5) = _ := h.dep n' 0 5 (by kernel_rfl) rfl
      unfold execOp
      simp only [e0]
      go_simp
    · refine .inl ⟨by kernel_rfl, fun L a1 w1 n' h => ⟨.pointer (some ⟨gl, 1, none⟩), rfl, ?_⟩⟩
      have e0 : a1.eval (.tmp 13) = _ := h.dep n' 8 13 (by kernel_rfl) rfl
      unfold execOp
      simp only [e0]
      go_simp
    · refine .inr fun L a1 w1 n' h K hK => ?_
      have yes7 : L.getD 7 false = true := n'.dep (by kernel_rfl)
      have no10 : L.getD 10 false = false := n'.not_yet
      have hN := h.inv.2.2.1 ((bits_at rfl).trans yes7) ((bits_at rfl).trans no10)
      obtain ⟨v', hv', hN⟩ : ∃ v', a1.eval (.tmp 12) = v' ∧ MidG w0 B gl 186 7 ms.length v1 v2 (ms.flatMap MEn.cells) cs (fun w => w.ownsRow B 191 9 v1 ts.length (ts.flatMap SEn.cells)) v' w1 := ⟨_, rfl, hN⟩
      have y0 : a1.eval (.tmp 14) = .pointer (some ⟨gl, 1, none⟩) := h.dep n' 9 14 (by kernel_rfl) rfl
      refine st_store 63 (.tmp 14) (.tmp 12) gl 1 67 [v1, v2] v' rfl szSlM y0 hv' hN.2.1 (by simp) (own_one hN.1) ?_
      intro wq rq oq
      exact hK undef wq trivial ⟨fun h0 => absurd (yes7.symm.trans h0) (by decide), fun _ h0 => absurd (yes7.symm.trans h0) (by decide), (fun _ h0 => absurd (show true = false from h0) (by decide)), fun _ => HEnd w1 wq v' hN rq oq⟩
  case he1 =>
    intro V w5 hV hJ
    obtain ⟨hL5, bS⟩ := hJ.2.2.2 rfl
    clear hV hJ HMid HEnd
    simp only [putOps, List.setIfInBounds_toArray, List.set_cons_succ, List.set_cons_zero, Nat.reduceAdd]
    refine hK1 _ _ ?_
    have hL5' := hL5
    obtain ⟨⟨u1, u2, hr5, hO5, hO25⟩, _, hB5⟩ := hL5'
    obtain ⟨gs, cp, rfl, _, _⟩ := own_formB hO25 (by rw [List.length_append]; simp)
    rw [List.length_append] at hr5
    have rL : Row w5 67 gl [u1, .slice (some ⟨gs, 0, none⟩) (ms.length + 1) cp] := hr5
    have hg3 : g3 ∉ (gl :: v2.ownBlock.toList) := fun hk => by have := (hS g3 hk).2.1; omega
    have r3 := r3.butS bS hg3
    have HTk := HTk0
    clear hr5 hO5 hO25 hO
    go_wp2_with fail
    rename_i K2 hK2
    refine wp_region_vals [8, 9, 10] (SAdM2 cs gl g3 gs ms.length cp z) (JF w5 [8, 9, 10] (FAdM tk)) (by kernel_rfl) (by kernel_rfl) (by kernel_rfl) (by kernel_rfl) (by kernel_rfl) (JF.start _) ?obs2 ?he2
    case obs2 =>
      refine ⟨?_, ?_, ?_, ?_, ?_, ?_, ?_, ?_, ?_, ?_, ?_, trivial⟩
      · exact .inl ⟨by kernel_rfl, fun L a1 w1 n h => ⟨_, rfl, run_move (.tmp 0) rfl (h.var n 0 (by kernel_rfl))⟩⟩
      · refine .inl ⟨by kernel_rfl, fun L a1 w1 n h => ⟨.pointer (some ⟨gl, 1, none⟩), rfl, ?_⟩⟩
        have e0 : a1.eval (.tmp 15) = _ := h.dep n 0 15 (by kernel_rfl) rfl
        unfold execOp
        simp only [e0]
        go_simp
      · refine .inl ⟨by kernel_rfl, fun L a1 w1 n h => ⟨.pointer (some ⟨gl, 1, none⟩), rfl, ?_⟩⟩
        have e0 : a1.eval (.tmp 16) = _ := h.dep n 1 16 (by kernel_rfl) rfl
        unfold execOp
        simp only [e0]
        go_simp
      · exact .inl ⟨by kernel_rfl, fun L a1 w1 n h => ⟨_, rfl, run_loadA 63 (.tmp 17) ⟨gl, 1, none⟩ rfl Tryz.isAgg63 (h.dep n 2 17 (by kernel_rfl) rfl) ((Row.later rL h.inv.1).cell (j := 1) rfl)⟩⟩
      · exact .inl ⟨by kernel_rfl, fun L a1 w1 n h => ⟨_, rfl, run_lenSl2 63 186 Tryz.underlying63 (.tmp 18) rfl (h.dep n 3 18 (by kernel_rfl) rfl)⟩⟩
      · exact .inl ⟨by kernel_rfl, fun L a1 w1 n h => ⟨_, rfl, run_sub1 (.tmp 19) rfl (h.dep n 4 19 (by kernel_rfl) rfl) hmI⟩⟩
      · exact .inl ⟨by kernel_rfl, fun L a1 w1 n h => ⟨_, rfl, run_loadRow 186 (.tmp 3) g3 186 _ _ rfl (h.var n 3 (by kernel_rfl)) (Row.later r3 h.inv.1) Tryz.underlying186 rfl hsz.out⟩⟩
      · refine .inl ⟨by kernel_rfl, fun L a1 w1 n h => ⟨.iface 186 (.agg cs.toArray), rfl, ?_⟩⟩
        have e0 : a1.eval (.tmp 21) = _ := h.dep n 6 21 (by kernel_rfl) rfl
        unfold execOp
        simp only [e0]
        go_simp
      · refine .inr fun L a1 w1 n h K hK => ?_
        have y0 : a1.eval (.tmp 22) = .iface 186 (.agg cs.toArray) := h.dep n 7 22 (by kernel_rfl) rfl
        refine st_invoke 186 (.agg cs.toArray) (.agg cs.toArray) 139 (.tmp 22) _ #[] #[] [] rfl y0 hmt Tryz.call139 (by simp) (HSz w1) ?_
        rintro e wq ⟨rfl, b9⟩
        exact ⟨_, rfl, JF.few (FAdM_mono tk) h hK 23 rfl _ rfl trivial b9⟩
      · refine .inr fun L a1 w1 n h K hK => ?_
        have e0 : a1.eval (.tmp 20) = .int .i64 (ms.length : Int) := h.dep n 5 20 (by kernel_rfl) rfl
        have e1 : a1.eval (.tmp 23) = .int .i64 (z : Int) := h.dep n 8 23 (by kernel_rfl) rfl
        refine JF.call (FAdM_mono tk) h hK 24 rfl 127 _ _ #[.int .i64 (ms.length : Int), .int .i64 (z : Int)] rfl Tryz.call127 ?_ (HTk w1) ?_
        · simp only [List.map_toArray, List.map_cons, List.map_nil, e0, e1]
        · rintro e w3 h9
          obtain ⟨v9, rfl, f9, b9⟩ := SlB.of_ret h9
          exact ⟨_, rfl, trivial, f9, b9⟩
      · refine .inr fun L a1 w1 n h K hK => ?_
        obtain ⟨A9, c9, v9, h9⟩ := JF.get h n 9 24 (by kernel_rfl) (by kernel_rfl) rfl
        exact JF.run (FAdM_mono tk) h hK 4 rfl (.slice A9 tk.length c9) (run_assign (.tmp 24) rfl v9) trivial ⟨A9, c9, rfl, h9⟩
    case he2 =>
      intro V2 w6 hV hJ
      obtain ⟨A9, c9, v9, h9, l9, m9, y9⟩ := JF.last hJ 10 4 rfl rfl
      have b6 := hJ.1
      clear hV hJ
      simp only [putOps, List.setIfInBounds_toArray, List.set_cons_succ, List.set_cons_zero, Nat.reduceAdd]
      rw [v9]
      refine hK2 _ _ ?_
      clear v9
      go_wp2_with fail
      go_ret
      rw [htl] at h9 l9 ⊢
      exact ⟨⟨A9, c9, rfl, h9, l9, y9⟩, hL5.later b6, _, fun k hk => ⟨(hS k hk).1, (hS k hk).2.2⟩, ((ButS.of b3 _).trans bS).trans (ButS.of b6 _)⟩
end Go.Proofs.YtooooncmjhcdbaaGreatDoor

/-
  The box: a ledger finds an entry: contracts. Own work.
-/
namespace Go.Proofs.YtooooncmjhcdbaaGreatDoor
open Go.RowKit
abbrev zSEn : SEn := ⟨⟨0, 0, 0, 0, 0, 0⟩, 0, [], []⟩
abbrev zMEn : MEn := ⟨⟨0, 0, 0, 0, 0, 0⟩, []⟩
theorem own_cellB {w : World} {B e size n k : Nat} {v x : Value} {xs : List Value} (h : w.ownsRow B e size v n xs) (hx : xs[k]? = some x) : ∃ g cap, v = .slice (some ⟨g, 0, none⟩) n cap ∧ w.cell? ⟨g, k, none⟩ = some x := by
  obtain ⟨hl, ho⟩ := h
  have hlt := (List.getElem?_eq_some_iff.1 hx).1
  rcases ho with ⟨rfl, h0⟩ | ⟨g, cap, cur, rfl, _, hg, h1, h2, h3, h4⟩
  · subst h0; omega
  · refine ⟨g, cap, rfl, ?_⟩
    have e : (cur.toList.take (n * size))[k]? = xs[k]? := by rw [h4]
    rw [List.getElem?_take, if_pos (by omega), hx] at e
    rw [cell_of_row w g k cur _ (0, 0) hg, ← Array.getElem?_toList]
    exact e
theorem own_slB {w : World} {B e size n : Nat} {v : Value} {xs : List Value} (h : w.ownsRow B e size v n xs) : ∃ A c, v = .slice A n c := by
  rcases h.2 with ⟨rfl, rfl⟩ | ⟨g, cap, cur, rfl, _⟩
  · exact ⟨none, 0, rfl⟩
  · exact ⟨_, cap, rfl⟩
theorem flat_at {α : Type} (f : α → List Value) (z : Nat) (hz : ∀ a, (f a).length = z) : ∀ (l : List α) (i : Nat) (a : α), l[i]? = some a → ∀ j v, (f a)[j]? = some v → (l.flatMap f)[i * z + j]? = some v := by
  intro l
  induction l with
  | nil => intro i a h; simp at h
  | cons b r ih =>
    intro i a h j v hv
    rw [List.flatMap_cons]
    cases i with
    | zero =>
      simp at h; subst h
      rw [Nat.zero_mul, Nat.zero_add, List.getElem?_append_left (List.getElem?_eq_some_iff.1 hv).1]; exact hv
    | succ i =>
      rw [List.getElem?_append_right (by rw [hz, Nat.succ_mul]; omega), hz, show (i + 1) * z + j - z = i * z + j by rw [Nat.succ_mul]; omega]
      exact ih i a (by simpa using h) j v hv
theorem wl_invoke {P : Program} {ops : Array Oper} {rest : List Oper} {o : Oper} {a : Act} {w : World} {Q : Exit → Act → World → Prop} (hgd : o.guard = none) (T : Nat) (v recv : Value) (f : FuncId) (x : Operand) (name : String) (args : Array Operand) (ats : Array TypeId) (vals : List Value) (ho : o.op = .call { callee := .invoke x name, args := args, argTypes := ats }) (hx : a.eval x = .iface T v)
    (hm : ∀ w, (method (P.types.size + Made.depth) T v name).run P w = .ok (f, recv) w) (hf : ∀ (xs : Array Value) (w : World), (callFunc f xs).run P w = .ok (.enter f xs) w) (hv : args.map a.eval = vals.toArray)
    {R : Ending → World → Prop} (hc : Calls P f (recv :: vals).toArray w R) (hk : ∀ e w', R e w' → ∃ v, e = .returned v ∧ wpList P ops Q rest (a.put o.dst v) w') : wpList P ops Q (o :: rest) a w :=
  wpList_plain hgd fun K hK => st_invoke T v recv f x name args ats vals ho hx hm hf hv hc fun e w' h => let ⟨v, e1, h2⟩ := hk e w' h; ⟨v, e1, hK _ _ h2⟩
/-- What a told number is read to, by a ledger of m entries. -/
def nfT (m : Nat) (bs : List Int) : Int × List Int × Int := tkNum ((m : Int) - 1) bs 0
theorem nfT_lt {m : Nat} {bs : List Int} (hx : IsBy bs) (h : (nfT m bs).2.2 = 0) : (nfT m bs).1.toNat < m ∧ (nfT m bs).1 = ((nfT m bs).1.toNat : Int) := by
  have hb := (unum_bound (n := 8) (e := 0) hx).1
  unfold nfT tkNum at *
  dsimp only at *
  by_cases hm : (m : Int) - 1 < unum 8 bs 0
  · rw [if_pos hm] at h
    dsimp only at h
    split at h <;> omega
  · rw [if_neg hm] at h ⊢
    dsimp only at h ⊢
    omega
def fdS (ts : List SEn) (bs : List Int) : Option SEn :=
  if (nfT ts.length bs).2.2 ≠ 0 then none else (ts[(nfT ts.length bs).1.toNat]?).bind fun s => if bs = tokL (nfT ts.length bs).1.toNat (s.tx.length + 16) then some s else none
def fdM (ms : List MEn) (bs : List Int) : Option MEn :=
  if (nfT ms.length bs).2.2 ≠ 0 then none else (ms[(nfT ms.length bs).1.toNat]?).bind fun s => if bs = tokL (nfT ms.length bs).1.toNat 32 then some s else none
theorem tsz_S (s : SEn) : s.cells.length = 9 := rfl
theorem tsz_M (s : MEn) : s.cells.length = 7 := rfl
def FFdS (tk : List Int) (opn : Nat) (v : Value) (w : World) : Prop :=
  match opn with
  | 5 => SlF tk v w
  | _ => True
theorem FFdS_mono (tk : List Int) : ∀ j v w w', FFdS tk j v w → Below w.heap.size w w' → FFdS tk j v w' := by
  intro j v w w' h hb
  unfold FFdS at h ⊢
  split at h
  · exact h.later hb
  · trivial
def FFdM (tk : List Int) (opn : Nat) (v : Value) (w : World) : Prop :=
  match opn with
  | 5 => SlF tk v w
  | _ => True
theorem FFdM_mono (tk : List Int) : ∀ j v w w', FFdM tk j v w → Below w.heap.size w w' → FFdM tk j v w' := by
  intro j v w w' h hb
  unfold FFdM at h ⊢
  split at h
  · exact h.later hb
  · trivial

def SFdS (A : Option Addr) (m c i z g9 : Nat) (cs : List Value) (bs tk : List Int) (opn : Nat) (v : Value) : Prop :=
  match opn with
  | 0 => v = .slice A m c
  | 1 => v = .int .i64 (i : Int)
  | 2 => v = .agg cs.toArray
  | 3 => v = .iface 191 (.agg cs.toArray)
  | 4 => v = .int .i64 (z : Int)
  | 6 => v = .bool (decide (bs = tk))
  | 7 => v = .bool !(decide (bs = tk))
  | _ => True
def SFdM (A : Option Addr) (m c i z g9 : Nat) (cs : List Value) (bs tk : List Int) (opn : Nat) (v : Value) : Prop :=
  match opn with
  | 0 => v = .slice A m c
  | 1 => v = .int .i64 (i : Int)
  | 2 => v = .agg cs.toArray
  | 3 => v = .iface 186 (.agg cs.toArray)
  | 4 => v = .int .i64 (z : Int)
  | 6 => v = .bool (decide (bs = tk))
  | 7 => v = .bool !(decide (bs = tk))
  | _ => True

set_option maxRecDepth 100000 in
set_option maxHeartbeats 2000000 in
theorem findS_any (w : World) (B gl : Nat) (ts : List SEn) (ms : List MEn) (A : Option Addr) (m c : Nat) (bs : List Int) (h : LedAt w B gl ts ms) (hn : ts.length ≤ 10000) (ht : ∀ s ∈ ts, s.tx.length ≤ 100000)
    (hbs : Bs w w.heap.size A m bs) (hby : IsBy bs) (hm : m ≤ 1000000) :
    Calls Tryz.prog 124 #[.pointer (some ⟨gl, 0, none⟩), .slice A m c] w fun e w' => e = .returned (.tuple #[.agg ((fdS ts bs).getD zSEn).cells.toArray, .bool (fdS ts bs).isSome]) ∧ Below w.heap.size w w' := by
  obtain ⟨⟨v1, v2, hr, hO, hO2⟩, hlo, hB0⟩ := h
  obtain ⟨ie, hie, hiz, his, hib⟩ := seI
  have hz0 : (Tryz.prog.info? 191).map (fun i => i.zero) = some (some (.agg (zSEn.cells).toArray)) := by rw [hie]; exact congrArg some hiz
  have hzf := hide (szSEn zSEn)
  have hone := hide (one_SEn zSEn)
  obtain ⟨fd, hfe⟩ : ∃ fd, fd = fdS ts bs := ⟨_, rfl⟩
  rw [← hfe]
  unfold fdS at hfe
  have hlt := nfT_lt (m := ts.length) hby
  have hNum := fun (g : Nat) (lo : Nat) (w1 : World) (h : Rd w1 lo g bs 0) => num_any w1 h hby ((ts.length : Int) - 1) (by omega) (by omega)
  have hnf : nfT ts.length bs = tkNum ((ts.length : Int) - 1) bs 0 := rfl
  rw [← hnf] at hNum
  clear hnf
  generalize nfT ts.length bs = r at *
  obtain ⟨x, xs, er⟩ := r
  dsimp only at hlt hNum hfe
  have hml : m ≤ maxLen := by unfold maxLen; omega
  have hL : (ts.length : Int) ≤ 10000 := by omega
  obtain ⟨Aq, cq, hv⟩ := own_slB hO
  obtain ⟨zc, hzc⟩ : ∃ zc, zc = zSEn.cells := ⟨_, rfl⟩
  rw [← hzc] at hz0 hzf hone
  replace hNum := hide hNum
  have Hlt := hide hlt
  have Hfd := hide hfe
  have HO := hide hO
  clear hlt hfe hie hiz his hib hO hO2
  go_enter Tryz.func124, Tryz.ntmps124
  go_wp2_with (first
    | (with_reducible refine wl_alloc (o := ⟨some 4, _, _, _, _, _⟩) rfl 191 _ zc rfl hz0 rfl ?_; intro g4 w1 r4 p4 l4 b4)
    | (with_reducible refine wl_alloc (o := ⟨some 6, _, _, _, _, _⟩) rfl 191 _ zc rfl hz0 rfl ?_; intro g6 w2 r6 p6 l6 b6; have r4a := r4.later b6))
  have B2 := b4.trans (b6.mono b4.size)
  refine (read_any A m c bs w2 (hbs.later B2) hm).mono ?_
  rintro e w3 ⟨g, rfl, pg, lg, hrd, b3⟩
  have B3 := B2.trans (b3.mono B2.size)
  have rL := hr.later B3
  have c0 : w3.cell? ⟨gl, 0, none⟩ = some v1 := rL.cell (j := 0) rfl
  rw [hv] at c0
  go_wp2_with fail
  refine (hNum.out g w2.heap.size w3 hrd).mono ?_
  rintro e w4 ⟨rfl, hrd4, hg4⟩
  have b34 : Below w2.heap.size w3 w4 := below_of_grown hg4 pg (by have := b3.size; omega)
  have B4 := B3.trans (b34.mono B2.size)
  have r6b := (r6.later b3).below b34 l6
  have r4b := (r4a.later b3).below b34 r4a.lt
  have rL4 := rL.below (b34.mono B2.size) hr.lt
  go_wp2_with fail
  refine (err_any w4 hrd4).mono ?_
  rintro e w5 ⟨rfl, rfl⟩
  clear hrd hrd4 hg4 hNum c0
  by_cases he : er = 0
  case neg =>
    have he1 : (er == 0) = false := by simp [he]
    have he2 : decide (er = 0) = false := by simp [he]
    have hno : fd = none := by rw [Hfd.out, if_pos he]
    go_wp2_with (first
      | (with_reducible refine wl_load_row rfl 191 (.tmp 6) g6 191 zc _ rfl rfl r6b Tryz.underlying191 rfl hzf.out ?_)
      | (with_reducible refine wl_store_row rfl 191 (.tmp 4) (.tmp 23) g4 191 _ zc rfl rfl rfl r4b hzf.out rfl hone.out ?_; intro wz rz oz))
    refine bodyPost_ret (v := .tuple #[.agg zc.toArray, .bool false]) ?_ rfl ⟨?_, ?_⟩
    · exact results_row_tmp Tryz.results124 _ _ g4 191 _ (0, 0) _ _ rfl rz Tryz.underlying191 rfl hzf.out rfl
    · rw [hno, hzc]; rfl
    · exact B4.trans (oz.below p4)
  case pos =>
    subst he
    obtain ⟨hxi, hxn⟩ := Hlt.out rfl
    have hs := List.getElem?_eq_getElem hxi
    have hfs0 : fd = (ts[x.toNat]?).bind fun s => if bs = tokL x.toNat (s.tx.length + 16) then some s else none := by rw [Hfd.out, if_neg (by simp)]
    generalize ts[x.toNat] = s at hs
    rw [hs] at hfs0
    replace hfs0 : fd = if bs = tokL x.toNat (s.tx.length + 16) then some s else none := hfs0
    obtain ⟨i, hi⟩ : ∃ i, i = x.toNat := ⟨_, rfl⟩
    rw [← hi] at hxi hxn hs hfs0
    clear hi Hlt Hfd
    subst hxn
    have hmem := List.mem_of_getElem? hs
    obtain ⟨g1, cap, hv1, _⟩ := own_cellB HO.out (flat_at SEn.cells 9 (fun _ => rfl) ts i s hs 0 _ rfl)
    have hq := hv.symm.trans hv1
    injection hq with q1 q2 q3
    subst q1; subst q3
    have hcl : ∀ j v, s.cells[j]? = some v → w4.cell? ⟨g1, i * 9 + j, none⟩ = some v := by
      intro j v hj
      obtain ⟨g', cap', hv', hc⟩ := own_cellB HO.out (flat_at SEn.cells 9 (fun _ => rfl) ts i s hs j v hj)
      have e := hv1.symm.trans hv'
      injection e with e1
      injection e1 with e1
      injection e1 with e1
      subst e1
      exact (B4.cell (p := ⟨g1, i * 9 + j, none⟩) (block_lt_of_cell hc : g1 < w.heap.size)).trans hc
    have c0 : w4.cell? ⟨gl, 0, none⟩ = some v1 := rL4.cell (j := 0) rfl
    rw [hv] at c0
    have hsz := hide (szSEn s)
    have hlc := hide (show zc.length = s.cells.length by rw [hzc]; rfl)
    have h1c := hide (one_SEn s)
    have hmt := mS s
    obtain ⟨z, hz⟩ : ∃ z, z = (s.tx.length + 16) := ⟨_, rfl⟩
    have HSz : ∀ w, Calls Tryz.prog 140 #[.agg s.cells.toArray] w fun e w' => e = .returned (.int .i64 (z : Int)) ∧ Below w.heap.size w w' := fun w => by rw [hz]; exact sizeS_any s w (ht s hmem)
    have HTk := fun w => token_any i z w (by omega) (by omega) (by have := ht s hmem; omega)
    have htby := tokL_by i z
    rw [← hz] at hfs0
    obtain ⟨tk, htk⟩ : ∃ tk, tk = tokL i z := ⟨_, rfl⟩
    rw [← htk] at HTk htby hfs0
    obtain ⟨cs, hcs⟩ : ∃ cs, cs = s.cells := ⟨_, rfl⟩
    rw [← hcs] at hcl hsz hlc h1c hmt HSz
    have Hcs := hide hcs
    clear hz htk hs hmem HO hv1 hcs
    have hI : (i : Int) < (ts.length : Int) := by omega
    have HSd : ∀ w, (sizeOf 191).run Tryz.prog w = .ok 9 w := fun w => by kernel_rfl
    have hd1 : decide ((i : Int) < (ts.length : Int)) = true := by simp; omega
    go_wp2_with (first
      | (with_reducible refine wl_load_cells (o := ⟨some 30, _, _, _, _, _⟩) rfl 191 (.tmp 29) g1 (i * 9) cs _ rfl rfl hcl Tryz.underlying191 rfl hsz.out ?_)
      | (with_reducible refine wl_alloc (o := ⟨some 9, _, _, _, _, _⟩) rfl 191 _ zc rfl hz0 rfl ?_; intro g9 w7 r9a p9 l9 b9)
      | (with_reducible refine wl_store_row rfl 191 (.tmp 9) (.tmp 30) g9 191 _ cs rfl rfl rfl r9a hsz.out hlc.out h1c.out ?_; intro w8 r9 o9)
      | (with_reducible refine wl_load_row (o := ⟨some 33, _, _, _, _, _⟩) rfl 191 (.tmp 9) g9 191 cs _ rfl rfl r9 Tryz.underlying191 rfl hsz.out ?_)
      | (refine wl_invoke (o := ⟨some 35, _, _, _, _, _⟩) rfl 191 (.agg cs.toArray) (.agg cs.toArray) 140 (.tmp 34) _ #[] #[] [] rfl rfl hmt Tryz.call140 (by simp) (HSz w8) ?_; rintro e wq ⟨rfl, bq⟩; refine ⟨_, rfl, ?_⟩))
    have B8 := B4.trans ((b9.trans (o9.below p9)).mono B4.size)
    have r4d := (r4b.later b9).only o9 (by have := r4b.lt; omega)
    have r6d := (r6b.later b9).only o9 (by have := r6b.lt; omega)
    refine (HTk wq).mono ?_
    rintro e wt ⟨A5, n5, c5, rfl, h5, l5, m5, b5⟩
    have b89 := bq.trans (b5.mono bq.size)
    have B9 := B8.trans (b89.mono B8.size)
    replace hbs := hbs.later B9
    have r4f := r4d.later b89
    have r6f := r6d.later b89
    have r9f := r9.later b89
    go_wp2_with fail
    refine (same_any A A5 m c n5 c5 bs tk wt hbs h5 hby htby hml (Nat.le_trans l5 m5)).mono ?_
    rintro e wu ⟨rfl, rfl⟩
    clear rL rL4 c0 hcl r4b r6b r4d r6d r9 hbs h5
    by_cases ht : bs = tk
    case neg =>
      have hno : fd = none := by rw [hfs0, if_neg ht]
      have ht2 : decide (bs = tk) = false := by simp [ht]
      rw [ht2]
      go_wp2_with (first
        | (with_reducible refine wl_load_row rfl 191 (.tmp 6) g6 191 zc _ rfl rfl r6f Tryz.underlying191 rfl hzf.out ?_)
        | (with_reducible refine wl_store_row rfl 191 (.tmp 4) (.tmp 39) g4 191 _ zc rfl rfl rfl r4f hzf.out rfl hone.out ?_; intro wz rz oz))
      refine bodyPost_ret (v := .tuple #[.agg zc.toArray, .bool false]) ?_ rfl ⟨?_, ?_⟩
      · exact results_row_tmp Tryz.results124 _ _ g4 191 _ (0, 0) _ _ rfl rz Tryz.underlying191 rfl hzf.out rfl
      · rw [hno, hzc]; rfl
      · exact B9.trans (oz.below p4)
    case pos =>
      have hno : fd = some s := by rw [hfs0, if_pos ht]
      have ht2 : decide (bs = tk) = true := by simp [ht]
      rw [ht2]
      go_wp2_with (first
        | (with_reducible refine wl_load_row rfl 191 (.tmp 9) g9 191 cs _ rfl rfl r9f Tryz.underlying191 rfl hsz.out ?_)
        | (with_reducible refine wl_store_row rfl 191 (.tmp 4) (.tmp 40) g4 191 _ cs rfl rfl rfl r4f hsz.out hlc.out h1c.out ?_; intro wz rz oz))
      refine bodyPost_ret (v := .tuple #[.agg cs.toArray, .bool true]) ?_ rfl ⟨?_, ?_⟩
      · exact results_row_tmp Tryz.results124 _ _ g4 191 _ (0, 0) _ _ rfl rz Tryz.underlying191 rfl hsz.out rfl
      · rw [hno, Hcs.out]; rfl
      · exact B9.trans (oz.below p4)
set_option maxRecDepth 100000 in
set_option maxHeartbeats 2000000 in
theorem findM_any (w : World) (B gl : Nat) (ts : List SEn) (ms : List MEn) (A : Option Addr) (m c : Nat) (bs : List Int) (h : LedAt w B gl ts ms) (hn : ms.length ≤ 10000)
    (hbs : Bs w w.heap.size A m bs) (hby : IsBy bs) (hm : m ≤ 1000000) :
    Calls Tryz.prog 122 #[.pointer (some ⟨gl, 1, none⟩), .slice A m c] w fun e w' => e = .returned (.tuple #[.agg ((fdM ms bs).getD zMEn).cells.toArray, .bool (fdM ms bs).isSome]) ∧ Below w.heap.size w w' := by
  obtain ⟨⟨v1, v2, hr, hO, hO2⟩, hlo, hB0⟩ := h
  obtain ⟨ie, hie, hiz, his, hib⟩ := meI
  have hz0 : (Tryz.prog.info? 186).map (fun i => i.zero) = some (some (.agg (zMEn.cells).toArray)) := by rw [hie]; exact congrArg some hiz
  have hzf := hide (szMEn zMEn)
  have hone := hide (one_MEn zMEn)
  obtain ⟨fd, hfe⟩ : ∃ fd, fd = fdM ms bs := ⟨_, rfl⟩
  rw [← hfe]
  unfold fdM at hfe
  have hlt := nfT_lt (m := ms.length) hby
  have hNum := fun (g : Nat) (lo : Nat) (w1 : World) (h : Rd w1 lo g bs 0) => num_any w1 h hby ((ms.length : Int) - 1) (by omega) (by omega)
  have hnf : nfT ms.length bs = tkNum ((ms.length : Int) - 1) bs 0 := rfl
  rw [← hnf] at hNum
  clear hnf
  generalize nfT ms.length bs = r at *
  obtain ⟨x, xs, er⟩ := r
  dsimp only at hlt hNum hfe
  have hml : m ≤ maxLen := by unfold maxLen; omega
  have hL : (ms.length : Int) ≤ 10000 := by omega
  obtain ⟨Aq, cq, hv⟩ := own_slB hO2
  obtain ⟨zc, hzc⟩ : ∃ zc, zc = zMEn.cells := ⟨_, rfl⟩
  rw [← hzc] at hz0 hzf hone
  replace hNum := hide hNum
  have Hlt := hide hlt
  have Hfd := hide hfe
  have HO := hide hO2
  clear hlt hfe hie hiz his hib hO hO2
  go_enter Tryz.func122, Tryz.ntmps122
  go_wp2_with (first
    | (with_reducible refine wl_alloc (o := ⟨some 4, _, _, _, _, _⟩) rfl 186 _ zc rfl hz0 rfl ?_; intro g4 w1 r4 p4 l4 b4)
    | (with_reducible refine wl_alloc (o := ⟨some 6, _, _, _, _, _⟩) rfl 186 _ zc rfl hz0 rfl ?_; intro g6 w2 r6 p6 l6 b6; have r4a := r4.later b6))
  have B2 := b4.trans (b6.mono b4.size)
  refine (read_any A m c bs w2 (hbs.later B2) hm).mono ?_
  rintro e w3 ⟨g, rfl, pg, lg, hrd, b3⟩
  have B3 := B2.trans (b3.mono B2.size)
  have rL := hr.later B3
  have c0 : w3.cell? ⟨gl, 1, none⟩ = some v2 := rL.cell (j := 1) rfl
  rw [hv] at c0
  go_wp2_with fail
  refine (hNum.out g w2.heap.size w3 hrd).mono ?_
  rintro e w4 ⟨rfl, hrd4, hg4⟩
  have b34 : Below w2.heap.size w3 w4 := below_of_grown hg4 pg (by have := b3.size; omega)
  have B4 := B3.trans (b34.mono B2.size)
  have r6b := (r6.later b3).below b34 l6
  have r4b := (r4a.later b3).below b34 r4a.lt
  have rL4 := rL.below (b34.mono B2.size) hr.lt
  go_wp2_with fail
  refine (err_any w4 hrd4).mono ?_
  rintro e w5 ⟨rfl, rfl⟩
  clear hrd hrd4 hg4 hNum c0
  by_cases he : er = 0
  case neg =>
    have he1 : (er == 0) = false := by simp [he]
    have he2 : decide (er = 0) = false := by simp [he]
    have hno : fd = none := by rw [Hfd.out, if_pos he]
    go_wp2_with (first
      | (with_reducible refine wl_load_row rfl 186 (.tmp 6) g6 186 zc _ rfl rfl r6b Tryz.underlying186 rfl hzf.out ?_)
      | (with_reducible refine wl_store_row rfl 186 (.tmp 4) (.tmp 23) g4 186 _ zc rfl rfl rfl r4b hzf.out rfl hone.out ?_; intro wz rz oz))
    refine bodyPost_ret (v := .tuple #[.agg zc.toArray, .bool false]) ?_ rfl ⟨?_, ?_⟩
    · exact results_row_tmp Tryz.results122 _ _ g4 186 _ (0, 0) _ _ rfl rz Tryz.underlying186 rfl hzf.out rfl
    · rw [hno, hzc]; rfl
    · exact B4.trans (oz.below p4)
  case pos =>
    subst he
    obtain ⟨hxi, hxn⟩ := Hlt.out rfl
    have hs := List.getElem?_eq_getElem hxi
    have hfs0 : fd = (ms[x.toNat]?).bind fun s => if bs = tokL x.toNat 32 then some s else none := by rw [Hfd.out, if_neg (by simp)]
    generalize ms[x.toNat] = s at hs
    rw [hs] at hfs0
    replace hfs0 : fd = if bs = tokL x.toNat 32 then some s else none := hfs0
    obtain ⟨i, hi⟩ : ∃ i, i = x.toNat := ⟨_, rfl⟩
    rw [← hi] at hxi hxn hs hfs0
    clear hi Hlt Hfd
    subst hxn
    have hmem := List.mem_of_getElem? hs
    obtain ⟨g1, cap, hv1, _⟩ := own_cellB HO.out (flat_at MEn.cells 7 (fun _ => rfl) ms i s hs 0 _ rfl)
    have hq := hv.symm.trans hv1
    injection hq with q1 q2 q3
    subst q1; subst q3
    have hcl : ∀ j v, s.cells[j]? = some v → w4.cell? ⟨g1, i * 7 + j, none⟩ = some v := by
      intro j v hj
      obtain ⟨g', cap', hv', hc⟩ := own_cellB HO.out (flat_at MEn.cells 7 (fun _ => rfl) ms i s hs j v hj)
      have e := hv1.symm.trans hv'
      injection e with e1
      injection e1 with e1
      injection e1 with e1
      subst e1
      exact (B4.cell (p := ⟨g1, i * 7 + j, none⟩) (block_lt_of_cell hc : g1 < w.heap.size)).trans hc
    have c0 : w4.cell? ⟨gl, 1, none⟩ = some v2 := rL4.cell (j := 1) rfl
    rw [hv] at c0
    have hsz := hide (szMEn s)
    have hlc := hide (show zc.length = s.cells.length by rw [hzc]; rfl)
    have h1c := hide (one_MEn s)
    have hmt := mM s
    obtain ⟨z, hz⟩ : ∃ z, z = 32 := ⟨_, rfl⟩
    have HSz : ∀ w, Calls Tryz.prog 139 #[.agg s.cells.toArray] w fun e w' => e = .returned (.int .i64 (z : Int)) ∧ Below w.heap.size w w' := fun w => by rw [hz]; exact sizeM_any s w
    have HTk := fun w => token_any i z w (by omega) (by omega) (by omega)
    have htby := tokL_by i z
    rw [← hz] at hfs0
    obtain ⟨tk, htk⟩ : ∃ tk, tk = tokL i z := ⟨_, rfl⟩
    rw [← htk] at HTk htby hfs0
    obtain ⟨cs, hcs⟩ : ∃ cs, cs = s.cells := ⟨_, rfl⟩
    rw [← hcs] at hcl hsz hlc h1c hmt HSz
    have Hcs := hide hcs
    clear hz htk hs hmem HO hv1 hcs
    have hI : (i : Int) < (ms.length : Int) := by omega
    have HSd : ∀ w, (sizeOf 186).run Tryz.prog w = .ok 7 w := fun w => by kernel_rfl
    have hd1 : decide ((i : Int) < (ms.length : Int)) = true := by simp; omega
    go_wp2_with (first
      | (with_reducible refine wl_load_cells (o := ⟨some 30, _, _, _, _, _⟩) rfl 186 (.tmp 29) g1 (i * 7) cs _ rfl rfl hcl Tryz.underlying186 rfl hsz.out ?_)
      | (with_reducible refine wl_alloc (o := ⟨some 9, _, _, _, _, _⟩) rfl 186 _ zc rfl hz0 rfl ?_; intro g9 w7 r9a p9 l9 b9)
      | (with_reducible refine wl_store_row rfl 186 (.tmp 9) (.tmp 30) g9 186 _ cs rfl rfl rfl r9a hsz.out hlc.out h1c.out ?_; intro w8 r9 o9)
      | (with_reducible refine wl_load_row (o := ⟨some 33, _, _, _, _, _⟩) rfl 186 (.tmp 9) g9 186 cs _ rfl rfl r9 Tryz.underlying186 rfl hsz.out ?_)
      | (refine wl_invoke (o := ⟨some 35, _, _, _, _, _⟩) rfl 186 (.agg cs.toArray) (.agg cs.toArray) 139 (.tmp 34) _ #[] #[] [] rfl rfl hmt Tryz.call139 (by simp) (HSz w8) ?_; rintro e wq ⟨rfl, bq⟩; refine ⟨_, rfl, ?_⟩))
    have B8 := B4.trans ((b9.trans (o9.below p9)).mono B4.size)
    have r4d := (r4b.later b9).only o9 (by have := r4b.lt; omega)
    have r6d := (r6b.later b9).only o9 (by have := r6b.lt; omega)
    refine (HTk wq).mono ?_
    rintro e wt ⟨A5, n5, c5, rfl, h5, l5, m5, b5⟩
    have b89 := bq.trans (b5.mono bq.size)
    have B9 := B8.trans (b89.mono B8.size)
    replace hbs := hbs.later B9
    have r4f := r4d.later b89
    have r6f := r6d.later b89
    have r9f := r9.later b89
    go_wp2_with fail
    refine (same_any A A5 m c n5 c5 bs tk wt hbs h5 hby htby hml (Nat.le_trans l5 m5)).mono ?_
    rintro e wu ⟨rfl, rfl⟩
    clear rL rL4 c0 hcl r4b r6b r4d r6d r9 hbs h5
    by_cases ht : bs = tk
    case neg =>
      have hno : fd = none := by rw [hfs0, if_neg ht]
      have ht2 : decide (bs = tk) = false := by simp [ht]
      rw [ht2]
      go_wp2_with (first
        | (with_reducible refine wl_load_row rfl 186 (.tmp 6) g6 186 zc _ rfl rfl r6f Tryz.underlying186 rfl hzf.out ?_)
        | (with_reducible refine wl_store_row rfl 186 (.tmp 4) (.tmp 39) g4 186 _ zc rfl rfl rfl r4f hzf.out rfl hone.out ?_; intro wz rz oz))
      refine bodyPost_ret (v := .tuple #[.agg zc.toArray, .bool false]) ?_ rfl ⟨?_, ?_⟩
      · exact results_row_tmp Tryz.results122 _ _ g4 186 _ (0, 0) _ _ rfl rz Tryz.underlying186 rfl hzf.out rfl
      · rw [hno, hzc]; rfl
      · exact B9.trans (oz.below p4)
    case pos =>
      have hno : fd = some s := by rw [hfs0, if_pos ht]
      have ht2 : decide (bs = tk) = true := by simp [ht]
      rw [ht2]
      go_wp2_with (first
        | (with_reducible refine wl_load_row rfl 186 (.tmp 9) g9 186 cs _ rfl rfl r9f Tryz.underlying186 rfl hsz.out ?_)
        | (with_reducible refine wl_store_row rfl 186 (.tmp 4) (.tmp 40) g4 186 _ cs rfl rfl rfl r4f hsz.out hlc.out h1c.out ?_; intro wz rz oz))
      refine bodyPost_ret (v := .tuple #[.agg cs.toArray, .bool true]) ?_ rfl ⟨?_, ?_⟩
      · exact results_row_tmp Tryz.results122 _ _ g4 186 _ (0, 0) _ _ rfl rz Tryz.underlying186 rfl hsz.out rfl
      · rw [hno, Hcs.out]; rfl
      · exact B9.trans (oz.below p4)

end Go.Proofs.YtooooncmjhcdbaaGreatDoor

/-
  The box: the ledgers seal and mark: contracts. Own work.
-/
namespace Go.Proofs.YtooooncmjhcdbaaGreatDoor
open Go.RowKit
theorem run_convS {P : Program} {w : World} {a : Act} {o : Oper} (src dst e : TypeId) (x : Operand) {B n c : Nat} {A : Option Addr} {xs : List Int} (ho : o.op = .convert src dst x) (hx : a.eval x = .slice A n c) (h : Bs w B A n xs) (hs : P.underlying src = some (.slice e)) (he : P.underlying e = some (.int .u8)) (hd : P.underlying dst = some .string) :
    (execOp a.eval o).run P w = .ok (.value (.string (strOfNums xs))) w := by
  unfold execOp
  simp only [ho, hx, Sem.run_bind, Bs.convert h c src e dst hs he hd, Result.andThen_ok, Sem.run_pure]
/-- What a region with one call that turns memory keeps. -/
def JCl (w0 : World) (N : Value → World → Prop) (bs : List Bool) (vs : List Value) (w : World) : Prop :=
  (bs.getD 0 false = false → Below w0.heap.size w0 w) ∧ (bs.getD 0 false = true → N (vs.getD 0 undef) w) ∧ (bs.getD 1 false = true → vs.getD 1 undef = vs.getD 0 undef)
theorem JCl.start (w0 : World) (N : Value → World → Prop) (vs : List Value) : JCl w0 N [false, false] vs w0.drew :=
  ⟨fun _ => (Below.refl _ _).drew, fun h => absurd (show false = true from h) (by decide), fun h => absurd (show false = true from h) (by decide)⟩
/-- What is told back of an entry that was taken in. -/
def AddRes (w : World) (B gl : Nat) (E : TypeId) (bs : List Int) (ts : List SEn) (ms : List MEn) (v : Value) (w' : World) : Prop :=
  (∃ A c, v = .slice A bs.length c ∧ Bs w' w'.heap.size A bs.length bs ∧ bs.length ≤ c ∧ TyB w' A) ∧ LedAt w' B gl ts ms ∧ ∃ S, (∀ k ∈ S, B ≤ k ∧ (k = gl ∨ ∃ cs fr, w.heap[k]? = some (.cells cs E fr))) ∧ ButS S w w'
theorem bUseS (q : Kid) (n : Int) (ad tx : List Int) : Tryz.prog.built 191 [(0, .agg (vk .i64 (useL q n)).toArray), (1, .string (strOfNums ad)), (2, .string (strOfNums tx))] = some (SEn.cells ⟨q, n, ad, tx⟩).toArray := by kernel_rfl
theorem bUseM (q : Kid) (tx : List Int) : Tryz.prog.built 186 [(0, .agg (vk .i64 [q.a, q.b, q.c, q.d, q.e, q.f]).toArray), (1, .string (strOfNums tx))] = some (MEn.cells ⟨q, tx⟩).toArray := by kernel_rfl
def SSeL (A D : Option Addr) (m c l d gl g5 : Nat) (us cs : List Value) (sa st : ByteArray) (opn : Nat) (v : Value) : Prop :=
  match opn with
  | 0 | 1 | 2 => v = .pointer (some ⟨gl, 0, none⟩)
  | 3 => v = .agg us.toArray
  | 4 => v = .slice A m c
  | 5 => v = .string sa
  | 6 => v = .slice D l d
  | 7 => v = .string st
  | 8 => v = .agg cs.toArray
  | _ => True

set_option maxRecDepth 100000 in
set_option maxHeartbeats 2000000 in
theorem lseal_any (w : World) (B gl : Nat) (ts : List SEn) (ms : List MEn) (q : Kid) (n : Int) (A D : Option Addr) (m c l d : Nat) (ad tx : List Int) (h : LedAt w B gl ts ms) (hn : ts.length ≤ 10000) (ht : tx.length ≤ 100000)
    (had : Bs w w.heap.size A m ad) (htx : Bs w w.heap.size D l tx) :
    Calls Tryz.prog 121 #[.pointer (some ⟨gl, 0, none⟩), .agg (vk .i64 (useL q n)).toArray, .slice A m c, .slice D l d] w fun e w' =>
      ∃ v, e = .returned v ∧ AddRes w B gl 191 (tokL ts.length (tx.length + 16)) (ts ++ [⟨q, n, ad, tx⟩]) ms v w' := by
  have hAdd := fun w1 (h1 : LedAt w1 B gl ts ms) => addS_any w1 B gl ts ms ⟨q, n, ad, tx⟩ h1 hn ht
  have hbl := hide (bUseS q n ad tx)
  have husz := hide (szUse q n)
  have htl : (tokL ts.length (tx.length + 16)).length = tx.length + 16 := tokL_len (by omega)
  generalize SEn.cells ⟨q, n, ad, tx⟩ = cs at *
  obtain ⟨us, hus⟩ : ∃ us, us = vk .i64 (useL q n) := ⟨_, rfl⟩
  rw [← hus] at hbl husz ⊢
  clear hus
  go_enter Tryz.func121, Tryz.ntmps121
  go_wp2_with (first
    | (with_reducible refine wl_box rfl 72 _ (.agg us.toArray) us rfl rfl rfl ?_; intro g5 w0 r5 p5 l5 b5))
  have HAdd : ∀ w1, Below w0.heap.size w0 w1 → Calls Tryz.prog 125 #[.pointer (some ⟨gl, 0, none⟩), .agg cs.toArray] w1 fun e w' =>
      ∃ v, e = .returned v ∧ AddRes w B gl 191 (tokL ts.length (tx.length + 16)) (ts ++ [⟨q, n, ad, tx⟩]) ms v w' := by
    intro w1 b1
    have b := b5.trans (b1.mono b5.size)
    refine (hAdd w1 (h.later b)).mono ?_
    rintro e wq ⟨⟨A9, c9, rfl, h9, l9, y9⟩, hL, S, hS, hB⟩
    refine ⟨_, rfl, ⟨A9, c9, by rw [htl], by rw [htl]; exact h9, by rw [htl]; exact l9, y9⟩, hL, S.filter (fun k => decide (k < w.heap.size)), fun k hk => ?_, ?_⟩
    · have hk2 := List.mem_filter.1 hk
      have hlt : k < w.heap.size := by simpa using hk2.2
      refine ⟨(hS k hk2.1).1, (hS k hk2.1).2.imp id ?_⟩
      rintro ⟨cs, fr, hc⟩
      exact ⟨cs, fr, (b.block k hlt).symm.trans hc⟩
    · exact ⟨hB.os.trans b.os, hB.tape.trans b.tape, hB.output.trans b.output, Nat.le_trans b.size hB.size, fun k hk hnk => (hB.block k (Nat.lt_of_lt_of_le hk b.size) (fun hS => hnk (List.mem_filter.2 ⟨hS, by simpa using hk⟩))).trans (b.block k hk)⟩
  replace had := had.later b5
  replace htx := htx.later b5
  obtain ⟨sa, hsa⟩ : ∃ sa, sa = strOfNums ad := ⟨_, rfl⟩
  obtain ⟨st, hst⟩ : ∃ st, st = strOfNums tx := ⟨_, rfl⟩
  rename_i K1 hK1
  refine wp_region_vals [9, 10] (SSeL A D m c l d gl g5 us cs (strOfNums ad) (strOfNums tx)) (JCl w0 (fun v w' => AddRes w B gl 191 (tokL ts.length (tx.length + 16)) (ts ++ [⟨q, n, ad, tx⟩]) ms v w')) (by kernel_rfl) (by kernel_rfl) (by kernel_rfl) (by kernel_rfl) (by kernel_rfl) (JCl.start _ _ _) ?obs1 ?he1
  case obs1 =>
    refine ⟨?_, ?_, ?_, ?_, ?_, ?_, ?_, ?_, ?_, ?_, ?_, trivial⟩
    · exact .inl ⟨by kernel_rfl, fun L a1 w1 n h => ⟨_, rfl, run_move (.tmp 0) rfl (h.var n 0 (by kernel_rfl))⟩⟩
    · refine .inl ⟨by kernel_rfl, fun L a1 w1 n h => ⟨.pointer (some ⟨gl, 0, none⟩), rfl, ?_⟩⟩
      have e0 : a1.eval (.tmp 9) = _ := h.dep n 0 9 (by kernel_rfl) rfl
      unfold execOp
      simp only [e0]
      go_simp
    · refine .inl ⟨by kernel_rfl, fun L a1 w1 n h => ⟨.pointer (some ⟨gl, 0, none⟩), rfl, ?_⟩⟩
      have e0 : a1.eval (.tmp 10) = _ := h.dep n 1 10 (by kernel_rfl) rfl
      unfold execOp
      simp only [e0]
      go_simp
    · exact .inl ⟨by kernel_rfl, fun L a1 w1 n h => ⟨_, rfl, run_loadRow 72 (.tmp 5) g5 72 _ _ rfl (h.var n 5 (by kernel_rfl)) (Row.later r5 (h.inv.1 ((bits_at rfl).trans (n.later (by kernel_rfl) : L.getD 9 false = false)))) Tryz.underlying72 rfl husz.out⟩⟩
    · exact .inl ⟨by kernel_rfl, fun L a1 w1 n h => ⟨_, rfl, run_move (.tmp 2) rfl (h.var n 2 (by kernel_rfl))⟩⟩
    · exact .inl ⟨by kernel_rfl, fun L a1 w1 n h => ⟨_, rfl, run_convS 25 9 5 (.tmp 13) rfl (h.dep n 4 13 (by kernel_rfl) rfl) ((had).later (h.inv.1 ((bits_at rfl).trans (n.later (by kernel_rfl) : L.getD 9 false = false)))) Tryz.underlying25 Tryz.underlying5 Tryz.underlying9⟩⟩
    · exact .inl ⟨by kernel_rfl, fun L a1 w1 n h => ⟨_, rfl, run_move (.tmp 3) rfl (h.var n 3 (by kernel_rfl))⟩⟩
    · exact .inl ⟨by kernel_rfl, fun L a1 w1 n h => ⟨_, rfl, run_convS 25 9 5 (.tmp 15) rfl (h.dep n 6 15 (by kernel_rfl) rfl) ((htx).later (h.inv.1 ((bits_at rfl).trans (n.later (by kernel_rfl) : L.getD 9 false = false)))) Tryz.underlying25 Tryz.underlying5 Tryz.underlying9⟩⟩
    · refine .inl ⟨by kernel_rfl, fun L a1 w1 n h => ⟨.agg cs.toArray, rfl, ?_⟩⟩
      have e0 : a1.eval (.tmp 12) = _ := h.dep n 3 12 (by kernel_rfl) rfl
      have e1 : a1.eval (.tmp 14) = _ := h.dep n 5 14 (by kernel_rfl) rfl
      have e2 : a1.eval (.tmp 16) = _ := h.dep n 7 16 (by kernel_rfl) rfl
      exact run_buildX 191 [(0, .tmp 12), (1, .tmp 14), (2, .tmp 16)] rfl _ (by simp only [List.map_cons, List.map_nil, e0, e1, e2]) _ hbl.out
    · refine .inr fun L a1 w1 n h K hK => ?_
      have no9 : L.getD 9 false = false := n.not_yet
      have no10 : L.getD 10 false = false := n.later (by kernel_rfl)
      have b1 := h.inv.1 ((bits_at rfl).trans no9)
      have y0 : a1.eval (.tmp 11) = .pointer (some ⟨gl, 0, none⟩) := h.dep n 2 11 (by kernel_rfl) rfl
      have y1 : a1.eval (.tmp 17) = .agg cs.toArray := h.dep n 8 17 (by kernel_rfl) rfl
      refine st_call 125 _ _ #[.pointer (some ⟨gl, 0, none⟩), .agg cs.toArray] rfl Tryz.call125 ?_ (HAdd w1 b1) ?_
      · simp only [List.map_toArray, List.map_cons, List.map_nil, y0, y1]
      · rintro e wq ⟨v, rfl, hN⟩
        exact ⟨_, rfl, hK _ wq trivial ⟨fun h0 => absurd (show true = false from h0) (by decide), fun _ => hN, fun h0 => absurd (no10.symm.trans h0) (by decide)⟩⟩
    · refine .inr fun L a1 w1 n h K hK => ?_
      have yes9 : L.getD 9 false = true := n.dep (by kernel_rfl)
      have hN := h.inv.2.1 ((bits_at rfl).trans yes9)
      obtain ⟨v, hv⟩ : ∃ v, a1.eval (.tmp 18) = v := ⟨_, rfl⟩
      unfold Oper.wp
      rw [run_assign (.tmp 18) rfl hv]
      exact hK v w1 trivial ⟨fun h0 => absurd (yes9.symm.trans h0) (by decide), fun _ => hN, fun _ => hv.symm⟩
  case he1 =>
    intro V w9 hV hJ
    have hE : V 10 = V 9 := hJ.2.2 rfl
    have hN : AddRes w B gl 191 (tokL ts.length (tx.length + 16)) (ts ++ [⟨q, n, ad, tx⟩]) ms (V 9) w9 := hJ.2.1 rfl
    rw [← hE] at hN
    clear hV hJ
    simp only [putOps, List.setIfInBounds_toArray, List.set_cons_succ, List.set_cons_zero, Nat.reduceAdd]
    refine hK1 _ _ ?_
    go_wp2_with fail
    go_ret
    exact ⟨_, rfl, hN⟩
end Go.Proofs.YtooooncmjhcdbaaGreatDoor

/-
  The box: the ledgers mark: contract. Own work.
-/
namespace Go.Proofs.YtooooncmjhcdbaaGreatDoor
open Go.RowKit
def SMaL (D : Option Addr) (l d gl g4 : Nat) (us cs : List Value) (st : ByteArray) (opn : Nat) (v : Value) : Prop :=
  match opn with
  | 0 | 1 => v = .pointer (some ⟨gl, 0, none⟩)
  | 2 => v = .pointer (some ⟨gl, 1, none⟩)
  | 3 => v = .agg us.toArray
  | 4 => v = .slice D l d
  | 5 => v = .string st
  | 6 => v = .agg cs.toArray
  | _ => True

set_option maxRecDepth 100000 in
set_option maxHeartbeats 2000000 in
theorem lmark_any (w : World) (B gl : Nat) (ts : List SEn) (ms : List MEn) (q : Kid) (D : Option Addr) (l d : Nat) (tx : List Int) (h : LedAt w B gl ts ms) (hn : ms.length ≤ 10000)
    (htx : Bs w w.heap.size D l tx) :
    Calls Tryz.prog 119 #[.pointer (some ⟨gl, 0, none⟩), .agg (vk .i64 q.l).toArray, .slice D l d] w fun e w' =>
      ∃ v, e = .returned v ∧ AddRes w B gl 186 (tokL ms.length 32) ts (ms ++ [⟨q, tx⟩]) v w' := by
  have hAdd := fun w1 (h1 : LedAt w1 B gl ts ms) => addM_any w1 B gl ts ms ⟨q, tx⟩ h1 hn
  have hbl := hide (bUseM q tx)
  have husz := hide (szKid q)
  have htl : (tokL ms.length 32).length = 32 := tokL_len (by omega)
  generalize MEn.cells ⟨q, tx⟩ = cs at *
  obtain ⟨us, hus⟩ : ∃ us, us = vk .i64 q.l := ⟨_, rfl⟩
  have hus2 : vk .i64 [q.a, q.b, q.c, q.d, q.e, q.f] = us := hus.symm
  rw [hus2] at hbl
  rw [← hus] at husz ⊢
  clear hus hus2
  go_enter Tryz.func119, Tryz.ntmps119
  go_wp2_with (first
    | (with_reducible refine wl_box rfl 24 _ (.agg us.toArray) us rfl rfl rfl ?_; intro g4 w0 r4 p4 l4 b4))
  have HAdd : ∀ w1, Below w0.heap.size w0 w1 → Calls Tryz.prog 123 #[.pointer (some ⟨gl, 1, none⟩), .agg cs.toArray] w1 fun e w' =>
      ∃ v, e = .returned v ∧ AddRes w B gl 186 (tokL ms.length 32) ts (ms ++ [⟨q, tx⟩]) v w' := by
    intro w1 b1
    have b := b4.trans (b1.mono b4.size)
    refine (hAdd w1 (h.later b)).mono ?_
    rintro e wq ⟨⟨A9, c9, rfl, h9, l9, y9⟩, hL, S, hS, hB⟩
    refine ⟨_, rfl, ⟨A9, c9, by rw [htl], by rw [htl]; exact h9, by rw [htl]; exact l9, y9⟩, hL, S.filter (fun k => decide (k < w.heap.size)), fun k hk => ?_, ?_⟩
    · have hk2 := List.mem_filter.1 hk
      have hlt : k < w.heap.size := by simpa using hk2.2
      refine ⟨(hS k hk2.1).1, (hS k hk2.1).2.imp id ?_⟩
      rintro ⟨cs, fr, hc⟩
      exact ⟨cs, fr, (b.block k hlt).symm.trans hc⟩
    · exact ⟨hB.os.trans b.os, hB.tape.trans b.tape, hB.output.trans b.output, Nat.le_trans b.size hB.size, fun k hk hnk => (hB.block k (Nat.lt_of_lt_of_le hk b.size) (fun hS => hnk (List.mem_filter.2 ⟨hS, by simpa using hk⟩))).trans (b.block k hk)⟩
  replace htx := htx.later b4
  rename_i K1 hK1
  refine wp_region_vals [7, 8] (SMaL D l d gl g4 us cs (strOfNums tx)) (JCl w0 (fun v w' => AddRes w B gl 186 (tokL ms.length 32) ts (ms ++ [⟨q, tx⟩]) v w')) (by kernel_rfl) (by kernel_rfl) (by kernel_rfl) (by kernel_rfl) (by kernel_rfl) (JCl.start _ _ _) ?obs1 ?he1
  case obs1 =>
    refine ⟨?_, ?_, ?_, ?_, ?_, ?_, ?_, ?_, ?_, trivial⟩
    · exact .inl ⟨by kernel_rfl, fun L a1 w1 n h => ⟨_, rfl, run_move (.tmp 0) rfl (h.var n 0 (by kernel_rfl))⟩⟩
    · refine .inl ⟨by kernel_rfl, fun L a1 w1 n h => ⟨.pointer (some ⟨gl, 0, none⟩), rfl, ?_⟩⟩
      have e0 : a1.eval (.tmp 7) = _ := h.dep n 0 7 (by kernel_rfl) rfl
      unfold execOp
      simp only [e0]
      go_simp
    · refine .inl ⟨by kernel_rfl, fun L a1 w1 n h => ⟨.pointer (some ⟨gl, 1, none⟩), rfl, ?_⟩⟩
      have e0 : a1.eval (.tmp 8) = _ := h.dep n 1 8 (by kernel_rfl) rfl
      unfold execOp
      simp only [e0]
      go_simp
    · exact .inl ⟨by kernel_rfl, fun L a1 w1 n h => ⟨_, rfl, run_loadRow 24 (.tmp 4) g4 24 _ _ rfl (h.var n 4 (by kernel_rfl)) (Row.later r4 (h.inv.1 ((bits_at rfl).trans (n.later (by kernel_rfl) : L.getD 7 false = false)))) Tryz.underlying24 rfl husz.out⟩⟩
    · exact .inl ⟨by kernel_rfl, fun L a1 w1 n h => ⟨_, rfl, run_move (.tmp 2) rfl (h.var n 2 (by kernel_rfl))⟩⟩
    · exact .inl ⟨by kernel_rfl, fun L a1 w1 n h => ⟨_, rfl, run_convS 25 9 5 (.tmp 11) rfl (h.dep n 4 11 (by kernel_rfl) rfl) ((htx).later (h.inv.1 ((bits_at rfl).trans (n.later (by kernel_rfl) : L.getD 7 false = false)))) Tryz.underlying25 Tryz.underlying5 Tryz.underlying9⟩⟩
    · refine .inl ⟨by kernel_rfl, fun L a1 w1 n h => ⟨.agg cs.toArray, rfl, ?_⟩⟩
      have e0 : a1.eval (.tmp 10) = _ := h.dep n 3 10 (by kernel_rfl) rfl
      have e1 : a1.eval (.tmp 12) = _ := h.dep n 5 12 (by kernel_rfl) rfl
      exact run_buildX 186 [(0, .tmp 10), (1, .tmp 12)] rfl _ (by simp only [List.map_cons, List.map_nil, e0, e1]) _ hbl.out
    · refine .inr fun L a1 w1 n h K hK => ?_
      have no9 : L.getD 7 false = false := n.not_yet
      have no10 : L.getD 8 false = false := n.later (by kernel_rfl)
      have b1 := h.inv.1 ((bits_at rfl).trans no9)
      have y0 : a1.eval (.tmp 9) = .pointer (some ⟨gl, 1, none⟩) := h.dep n 2 9 (by kernel_rfl) rfl
      have y1 : a1.eval (.tmp 13) = .agg cs.toArray := h.dep n 6 13 (by kernel_rfl) rfl
      refine st_call 123 _ _ #[.pointer (some ⟨gl, 1, none⟩), .agg cs.toArray] rfl Tryz.call123 ?_ (HAdd w1 b1) ?_
      · simp only [List.map_toArray, List.map_cons, List.map_nil, y0, y1]
      · rintro e wq ⟨v, rfl, hN⟩
        exact ⟨_, rfl, hK _ wq trivial ⟨fun h0 => absurd (show true = false from h0) (by decide), fun _ => hN, fun h0 => absurd (no10.symm.trans h0) (by decide)⟩⟩
    · refine .inr fun L a1 w1 n h K hK => ?_
      have yes9 : L.getD 7 false = true := n.dep (by kernel_rfl)
      have hN := h.inv.2.1 ((bits_at rfl).trans yes9)
      obtain ⟨v, hv⟩ : ∃ v, a1.eval (.tmp 14) = v := ⟨_, rfl⟩
      unfold Oper.wp
      rw [run_assign (.tmp 14) rfl hv]
      exact hK v w1 trivial ⟨fun h0 => absurd (yes9.symm.trans h0) (by decide), fun _ => hN, fun _ => hv.symm⟩
  case he1 =>
    intro V w9 hV hJ
    have hE : V 8 = V 7 := hJ.2.2 rfl
    have hN : AddRes w B gl 186 (tokL ms.length 32) ts (ms ++ [⟨q, tx⟩]) (V 7) w9 := hJ.2.1 rfl
    rw [← hE] at hN
    clear hV hJ
    simp only [putOps, List.setIfInBounds_toArray, List.set_cons_succ, List.set_cons_zero, Nat.reduceAdd]
    refine hK1 _ _ ?_
    go_wp2_with fail
    go_ret
    exact ⟨_, rfl, hN⟩
end Go.Proofs.YtooooncmjhcdbaaGreatDoor

/-
  The box: entries compared. Own work.
-/
namespace Go.Proofs.YtooooncmjhcdbaaGreatDoor
open Go.RowKit
set_option maxRecDepth 100000 in
theorem eqIdD (k : Nat) (q q' : Kid) (w : World) : (Op.equalIn (k + 2) 24 (.agg #[.int .i64 q.a, .int .i64 q.b, .int .i64 q.c, .int .i64 q.d, .int .i64 q.e, .int .i64 q.f]) (.agg #[.int .i64 q'.a, .int .i64 q'.b, .int .i64 q'.c, .int .i64 q'.d, .int .i64 q'.e, .int .i64 q'.f])).run Tryz.prog w = .ok (decide (q.l = q'.l)) w := by
  rw [show k + 2 = (k + 1) + 1 from rfl, run_equalIn_struct w (k + 1) _ _ _ Tryz.underlying24 (by kernel_rfl)]
  have he : ∀ (x y : Int) (w : World), (Op.equalIn (k + 1) 3 (.int .i64 x) (.int .i64 y)).run Tryz.prog w = .ok (x == y) w := fun x y w => run_equalIn_int w k _ .i64 .i64 x y Tryz.underlying3
  obtain ⟨a, b, c, d, e, f⟩ := q
  obtain ⟨a', b', c', d', e', f'⟩ := q'
  go_simp
  by_cases h0 : a = a'
  · by_cases h1 : b = b'
    · by_cases h2 : c = c'
      · by_cases h3 : d = d'
        · by_cases h4 : e = e'
          · by_cases h5 : f = f' <;> simp [h0, h1, h2, h3, h4, h5]
          · simp [h0, h1, h2, h3, h4]
        · simp [h0, h1, h2, h3]
      · simp [h0, h1, h2]
    · simp [h0, h1]
  · simp [h0]
/-- Bytes are the same just when the strings of them are. -/
theorem str_same {xs ys : List Int} (hx : IsBy xs) (hy : IsBy ys) : (strOfNums xs).toList = (strOfNums ys).toList ↔ xs = ys := by
  rw [Lib.strOfNums_toList, Lib.strOfNums_toList]
  refine ⟨fun h => ?_, fun h => by rw [h]⟩
  have hl : xs.length = ys.length := by have := congrArg List.length h; rwa [Lib.bytesOf_length, Lib.bytesOf_length] at this
  refine List.ext_getElem hl fun i h1 h2 => ?_
  have h3 := congrArg (fun l => l[i]?) h
  simp only [Lib.bytesOf, List.getElem?_map, List.getElem?_eq_getElem h1, List.getElem?_eq_getElem h2, Option.map_some, Option.some.injEq] at h3
  have a := hx _ (List.getElem_mem h1)
  have b := hy _ (List.getElem_mem h2)
  have h4 := congrArg UInt8.toNat h3
  simp at h4
  omega
set_option maxRecDepth 100000 in
theorem eqUse (q q' : Kid) (n n' : Int) (w : World) : (Op.equalIn 10000 72 (.agg (vk .i64 (useL q n)).toArray) (.agg (vk .i64 (useL q' n')).toArray)).run Tryz.prog w = .ok (decide (q.l = q'.l ∧ n = n')) w := by
  rw [show (10000 : Nat) = 9999 + 1 from rfl, run_equalIn_struct w 9999 _ _ _ Tryz.underlying72 (by kernel_rfl)]
  have he9 : ∀ (x y : Int) (w : World), (Op.equalIn 9999 3 (.int .i64 x) (.int .i64 y)).run Tryz.prog w = .ok (x == y) w := fun x y w => run_equalIn_int w 9998 _ .i64 .i64 x y Tryz.underlying3
  have he8 : ∀ (x y : Int) (w : World), (Op.equalIn 9998 3 (.int .i64 x) (.int .i64 y)).run Tryz.prog w = .ok (x == y) w := fun x y w => run_equalIn_int w 9997 _ .i64 .i64 x y Tryz.underlying3
  obtain ⟨a, b, c, d, e, f⟩ := q
  obtain ⟨a', b', c', d', e', f'⟩ := q'
  go_simp
  simp only [vk, useL, List.map_append, List.map_cons, List.map_nil, List.cons_append, List.nil_append, List.getElem?_cons_zero, List.getElem?_cons_succ, Sem.run_pure, Result.andThen_ok, he8, he9]
  by_cases h0 : a = a'
  · by_cases h1 : b = b'
    · by_cases h2 : c = c'
      · by_cases h3 : d = d'
        · by_cases h4 : e = e'
          · by_cases h5 : f = f'
            · by_cases h6 : n = n' <;> simp [h0, h1, h2, h3, h4, h5, h6]
            · simp [h0, h1, h2, h3, h4, h5]
          · simp [h0, h1, h2, h3, h4]
        · simp [h0, h1, h2, h3]
      · simp [h0, h1, h2]
    · simp [h0, h1]
  · simp [h0]
set_option maxRecDepth 100000 in
theorem eqMEn (s s' : MEn) (hs : IsBy s.tx) (hs' : IsBy s'.tx) (w : World) : (Op.equalIn 10000 186 (.agg s.cells.toArray) (.agg s'.cells.toArray)).run Tryz.prog w = .ok (decide (s.q.l = s'.q.l ∧ s.tx = s'.tx)) w := by
  rw [show (10000 : Nat) = 9999 + 1 from rfl, run_equalIn_struct w 9999 _ _ _ Tryz.underlying186 (by kernel_rfl)]
  have he9 : ∀ (x y : ByteArray) (w : World), (Op.equalIn 9999 9 (.string x) (.string y)).run Tryz.prog w = .ok (x.toList == y.toList) w := fun x y w => run_equalIn_string w 9998 _ x y Tryz.underlying9
  have he8 : ∀ (x y : Int) (w : World), (Op.equalIn 9998 3 (.int .i64 x) (.int .i64 y)).run Tryz.prog w = .ok (x == y) w := fun x y w => run_equalIn_int w 9997 _ .i64 .i64 x y Tryz.underlying3
  obtain ⟨⟨a, b, c, d, e, f⟩, tx⟩ := s
  obtain ⟨⟨a', b', c', d', e', f'⟩, tx'⟩ := s'
  have hx := str_same hs hs'
  have hd : ((strOfNums tx).toList == (strOfNums tx').toList) = decide (tx = tx') := by rw [Bool.eq_iff_iff]; simp only [beq_iff_eq, decide_eq_true_eq]; exact hx
  go_simp
  by_cases h0 : a = a'
  · by_cases h1 : b = b'
    · by_cases h2 : c = c'
      · by_cases h3 : d = d'
        · by_cases h4 : e = e'
          · by_cases h5 : f = f'
            · by_cases h6 : tx = tx' <;> simp [h0, h1, h2, h3, h4, h5, h6]
            · simp [h0, h1, h2, h3, h4, h5]
          · simp [h0, h1, h2, h3, h4]
        · simp [h0, h1, h2, h3]
      · simp [h0, h1, h2]
    · simp [h0, h1]
  · simp [h0]
end Go.Proofs.YtooooncmjhcdbaaGreatDoor

/-
  The box: the ledgers check: contract. Own work.
-/
namespace Go.Proofs.YtooooncmjhcdbaaGreatDoor
open Go.RowKit
theorem fdM_mem {ms : List MEn} {bs : List Int} {s : MEn} (h : fdM ms bs = some s) : s ∈ ms := by
  unfold fdM at h
  split at h
  · cases h
  · obtain ⟨a, ha, hb⟩ := Option.bind_eq_some_iff.1 h
    split at hb
    · injection hb with hb; subst hb; exact List.mem_of_getElem? ha
    · cases hb
theorem fdS_mem {ms : List SEn} {bs : List Int} {s : SEn} (h : fdS ms bs = some s) : s ∈ ms := by
  unfold fdS at h
  split at h
  · cases h
  · obtain ⟨a, ha, hb⟩ := Option.bind_eq_some_iff.1 h
    split at hb
    · injection hb with hb; subst hb; exact List.mem_of_getElem? ha
    · cases hb
theorem wg_run {P : Program} {ops : Array Oper} {rest : List Oper} {o : Oper} {a : Act} {w : World} {Q : Exit → Act → World → Prop} (g' : Nat) (b : Bool) (d' : Nat) (hg : o.guard = some (g', b)) (hd' : (ops[g']?).bind (·.dst) = some d') (hv : a.tmps[d']? = some (.bool b)) (v : Value) (hr : (execOp a.eval o).run P w = .ok (.value v) w) (hk : wpList P ops Q rest (a.put o.dst v) w) : wpList P ops Q (o :: rest) a w :=
  wpList_guarded g' b d' hg hd' hv fun K hK => by
    unfold Oper.wp
    rw [hr]
    exact hK _ _ hk
/-- Whether a mark is a text's, by what was marked. -/
def chM (ms : List MEn) (q : Kid) (tx bs : List Int) : Bool := match fdM ms bs with | some s => decide (s.q.l = q.l ∧ s.tx = tx) | none => false
set_option maxRecDepth 100000 in
set_option maxHeartbeats 600000 in
theorem lcheck_any (w : World) (B gl : Nat) (ts : List SEn) (ms : List MEn) (q : Kid) (D A : Option Addr) (l d m c : Nat) (tx bs : List Int) (h : LedAt w B gl ts ms) (hn : ms.length ≤ 10000) (hmb : ∀ s ∈ ms, IsBy s.tx)
    (htx : Bs w w.heap.size D l tx) (htb : IsBy tx) (hbs : Bs w w.heap.size A m bs) (hby : IsBy bs) (hm : m ≤ 1000000) :
    Calls Tryz.prog 118 #[.pointer (some ⟨gl, 0, none⟩), .agg (vk .i64 q.l).toArray, .slice D l d, .slice A m c] w fun e w' => e = .returned (.bool (chM ms q tx bs)) ∧ Below w.heap.size w w' := by
  obtain ⟨ie, hie, hiz, his, hib⟩ := meI
  have hz0 : (Tryz.prog.info? 186).map (fun i => i.zero) = some (some (.agg (zMEn.cells).toArray)) := by rw [hie]; exact congrArg some hiz
  clear hie hiz his hib ie
  have husz := hide (szKid q)
  have hbl := hide (bUseM q tx)
  obtain ⟨us, hus⟩ : ∃ us, us = vk .i64 q.l := ⟨_, rfl⟩
  have hus2 : vk .i64 [q.a, q.b, q.c, q.d, q.e, q.f] = us := hus.symm
  rw [hus2] at hbl
  rw [← hus] at husz ⊢
  clear hus hus2
  obtain ⟨r, hr⟩ : ∃ r, r = chM ms q tx bs := ⟨_, rfl⟩
  rw [← hr]
  unfold chM at hr
  have Hr := hide hr
  clear hr
  go_enter Tryz.func118, Tryz.ntmps118
  go_wp2_with (first
    | (with_reducible refine wl_box rfl 24 _ (.agg us.toArray) us rfl rfl rfl ?_; intro g5 w0 r5 p5 l5 b5))
  refine (findM_any w0 B gl ts ms A m c bs (h.later b5) hn (hbs.later b5) hby hm).mono ?_
  rintro e w1 ⟨rfl, b1⟩
  have B1 := b5.trans (b1.mono b5.size)
  have r5a := r5.later b1
  replace htx := htx.later B1
  cases hf : fdM ms bs with
  | none =>
    have hr : r = false := by rw [Hr.out, hf]
    subst hr
    have hzf := hide (szMEn zMEn)
    have hone := hide (one_MEn zMEn)
    have hg : ((none : Option MEn).getD zMEn) = zMEn := rfl
    rw [hg]
    clear hg hf
    generalize zMEn.cells = zc at *
    go_wp2_with (first
      | (with_reducible refine wl_alloc (o := ⟨some 9, _, _, _, _, _⟩) rfl 186 _ zc rfl hz0 rfl ?_; intro g9 w2 r9 p9 l9 b9)
      | (with_reducible refine wl_store_row rfl 186 (.tmp 9) (.tmp 17) g9 186 _ zc rfl rfl rfl r9 hzf.out rfl hone.out ?_; intro w3 r9b o9))
    go_ret
    exact ⟨rfl, B1.trans ((b9.trans (o9.below p9)).mono B1.size)⟩
  | some s =>
    have hsm := fdM_mem hf
    have hE := fun w => eqMEn s ⟨q, tx⟩ (hmb s hsm) htb w
    have hzf := hide (szMEn s)
    have hone := hide (one_MEn s)
    have hlc := hide (show zMEn.cells.length = s.cells.length from rfl)
    have hg : ((some s : Option MEn).getD zMEn) = s := rfl
    rw [hg]
    dsimp only at hE
    have hf0 := hf
    clear hg hf hsm
    have hok : r = decide (s.q.l = q.l ∧ s.tx = tx) := by rw [Hr.out, hf0]
    rw [← hok] at hE
    clear hok hf0 Hr
    generalize s.cells = cs at *
    generalize zMEn.cells = zc at *
    generalize MEn.cells ⟨q, tx⟩ = ds at *
    replace hE := hE
    go_wp2_with (first
      | (with_reducible refine wl_alloc (o := ⟨some 9, _, _, _, _, _⟩) rfl 186 _ zc rfl hz0 rfl ?_; intro g9 w2 r9 p9 l9 b9; have r5b := r5a.later b9)
      | (with_reducible refine wl_store_row rfl 186 (.tmp 9) (.tmp 17) g9 186 _ cs rfl rfl rfl r9 hzf.out hlc.out hone.out ?_; intro w3 r9b o9; have r5c := r5b.only o9 (by have := r5a.lt; omega); have h3 := htx.later (b9.trans (o9.below p9)))
      | (with_reducible refine wg_load_row 1 true 20 rfl rfl rfl 186 (.tmp 9) g9 186 cs _ rfl rfl r9b Tryz.underlying186 rfl hzf.out ?_)
      | (with_reducible refine wg_load_row 1 true 20 rfl rfl rfl 24 (.tmp 5) g5 24 us _ rfl rfl r5c Tryz.underlying24 rfl husz.out ?_)
      | (with_reducible refine wg_run (o := ⟨some 24, _, _, _, _, _⟩) 1 true 20 rfl rfl rfl (.string (strOfNums tx)) (run_convS 25 9 5 (.tmp 23) rfl rfl h3 Tryz.underlying25 Tryz.underlying5 Tryz.underlying9) ?_)
      | (refine wg_run (o := ⟨some 25, _, _, _, _, _⟩) 1 true 20 rfl rfl rfl (.agg ds.toArray) (run_buildX 186 [(0, .tmp 22), (1, .tmp 24)] rfl [(0, .agg us.toArray), (1, .string (strOfNums tx))] rfl ds hbl.out) ?_)
      | (refine wg_run (o := ⟨some 26, _, _, _, _, _⟩) 1 true 20 rfl rfl rfl (.bool r) (run_eqlS' (.tmp 21) (.tmp 25) rfl hE rfl rfl (by kernel_rfl)) ?_))
    go_ret
    exact ⟨rfl, B1.trans ((b9.trans (o9.below p9)).mono B1.size)⟩
end Go.Proofs.YtooooncmjhcdbaaGreatDoor
