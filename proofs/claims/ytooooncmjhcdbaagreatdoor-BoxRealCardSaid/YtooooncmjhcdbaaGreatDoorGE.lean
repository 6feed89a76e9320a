/-
  Several own texts in one: BoxS, BoxT, BoxU, BoxV, BoxW, BoxX. Own work.
-/
import Derived.Laws.BitsAllLaws
import Derived.Test.YtooooncmjhcdbaaGreatDoorGD
import Derived.Test.YtooooncmjhcdbaaGreatDoorGK
import Derived.Test.YtooooncmjhcdbaaGreatDoorGA
set_option linter.unusedVariables false
set_option linter.unusedSimpArgs false
/-
  A box that no call made: each call. Own work.
-/
namespace Go.Proofs.YtooooncmjhcdbaaGreatDoor
open Go.RowKit Go.Maps Go.ChangeMaps
set_option maxRecDepth 100000 in
set_option maxHeartbeats 1000000 in
theorem noSeal (w : World) (p : Option Addr) (q : Kid) (nn : Int) (A E : Option Addr) (m c l d : Nat) (h : NoBox w p) :
    Calls Tryz.prog 10 #[.pointer p, .agg (vk .i64 q.l).toArray, .int .i64 nn, .slice A m c, .slice E l d] w fun e w' => e = .returned (.tuple #[.slice none 0 0, .int .i64 2]) ∧ Below w.heap.size w w' := by
  have hbu := hide (bUse q nn)
  have hidz := hide (szKid q)
  have husz := hide (szUse q nn)
  have hzl := hide (show (vk .i64 [0, 0, 0, 0, 0, 0, 0]).length = (vk .i64 (useL q nn)).length from rfl)
  have hone := hide (one_vk .i64 (useL q nn))
  have hz0 := zUse
  have HRef := fun w1 (hb : Below w.heap.size w w1) => refuse_no w1 p q nn (h.later hb)
  obtain ⟨us, hus⟩ : ∃ us, us = vk .i64 (useL q nn) := ⟨_, rfl⟩
  obtain ⟨ids, hids⟩ : ∃ ids, ids = vk .i64 q.l := ⟨_, rfl⟩
  rw [← hus] at hbu husz hzl hone HRef
  rw [← hids] at hbu hidz ⊢
  clear hus hids
  generalize vk .i64 [0, 0, 0, 0, 0, 0, 0] = zu at *
  go_enter Tryz.func10, Tryz.ntmps10
  go_wp2_with (first
    | (with_reducible refine wl_box rfl 24 _ (.agg ids.toArray) ids rfl rfl rfl ?_; intro g6 w1 r6 p6 l6 b6)
    | (with_reducible refine wl_load_row (o := ⟨some 14, _, _, _, _, _⟩) rfl 24 (.tmp 6) g6 24 ids _ rfl rfl r6 Tryz.underlying24 rfl hidz.out ?_)
    | (with_reducible refine wl_build rfl 72 [(0, .tmp 14), (1, .tmp 15)] rfl [(0, .agg ids.toArray), (1, .int .i64 nn)] rfl us hbu.out ?_)
    | (with_reducible refine wl_alloc (o := ⟨some 12, _, _, _, _, _⟩) rfl 72 _ zu rfl hz0 rfl ?_; intro g12 w2 r12 p12 l12 b12)
    | (with_reducible refine wl_store_row rfl 72 (.tmp 12) (.tmp 16) g12 72 _ us rfl rfl rfl r12 husz.out hzl.out hone.out ?_; intro w3 r12b o12)
    | (with_reducible refine wl_load_row (o := ⟨some 18, _, _, _, _, _⟩) rfl 72 (.tmp 12) g12 72 us _ rfl rfl r12b Tryz.underlying72 rfl husz.out ?_))
  have B2 := b6.trans (b12.mono b6.size)
  have B3 := B2.trans (o12.below (by have := b6.size; omega))
  refine (HRef w3 B3).mono ?_
  rintro e w4 ⟨rfl, b4⟩
  have B4 := B3.trans (b4.mono B3.size)
  go_wp2_with fail
  go_ret2
  exact ⟨rfl, B4⟩
set_option maxRecDepth 100000 in
set_option maxHeartbeats 1000000 in
theorem noOpen (w : World) (p : Option Addr) (q : Kid) (nn : Int) (A E : Option Addr) (m c l d : Nat) (h : NoBox w p) :
    Calls Tryz.prog 12 #[.pointer p, .agg (vk .i64 q.l).toArray, .int .i64 nn, .slice A m c, .slice E l d] w fun e w' => e = .returned (.tuple #[.slice none 0 0, .int .i64 2]) ∧ Below w.heap.size w w' := by
  have hbu := hide (bUse q nn)
  have hidz := hide (szKid q)
  have husz := hide (szUse q nn)
  have hzl := hide (show (vk .i64 [0, 0, 0, 0, 0, 0, 0]).length = (vk .i64 (useL q nn)).length from rfl)
  have hone := hide (one_vk .i64 (useL q nn))
  have hz0 := zUse
  have HRef := fun w1 (hb : Below w.heap.size w w1) => refuse_no w1 p q nn (h.later hb)
  obtain ⟨us, hus⟩ : ∃ us, us = vk .i64 (useL q nn) := ⟨_, rfl⟩
  obtain ⟨ids, hids⟩ : ∃ ids, ids = vk .i64 q.l := ⟨_, rfl⟩
  rw [← hus] at hbu husz hzl hone HRef
  rw [← hids] at hbu hidz ⊢
  clear hus hids
  generalize vk .i64 [0, 0, 0, 0, 0, 0, 0] = zu at *
  go_enter Tryz.func12, Tryz.ntmps12
  go_wp2_with (first
    | (with_reducible refine wl_box rfl 24 _ (.agg ids.toArray) ids rfl rfl rfl ?_; intro g6 w1 r6 p6 l6 b6)
    | (with_reducible refine wl_load_row (o := ⟨some 14, _, _, _, _, _⟩) rfl 24 (.tmp 6) g6 24 ids _ rfl rfl r6 Tryz.underlying24 rfl hidz.out ?_)
    | (with_reducible refine wl_build rfl 72 [(0, .tmp 14), (1, .tmp 15)] rfl [(0, .agg ids.toArray), (1, .int .i64 nn)] rfl us hbu.out ?_)
    | (with_reducible refine wl_alloc (o := ⟨some 12, _, _, _, _, _⟩) rfl 72 _ zu rfl hz0 rfl ?_; intro g12 w2 r12 p12 l12 b12)
    | (with_reducible refine wl_store_row rfl 72 (.tmp 12) (.tmp 16) g12 72 _ us rfl rfl rfl r12 husz.out hzl.out hone.out ?_; intro w3 r12b o12)
    | (with_reducible refine wl_load_row (o := ⟨some 18, _, _, _, _, _⟩) rfl 72 (.tmp 12) g12 72 us _ rfl rfl r12b Tryz.underlying72 rfl husz.out ?_))
  have B2 := b6.trans (b12.mono b6.size)
  have B3 := B2.trans (o12.below (by have := b6.size; omega))
  refine (HRef w3 B3).mono ?_
  rintro e w4 ⟨rfl, b4⟩
  have B4 := B3.trans (b4.mono B3.size)
  go_wp2_with fail
  go_ret2
  exact ⟨rfl, B4⟩
set_option maxRecDepth 100000 in
theorem noMark (w : World) (p : Option Addr) (q : Kid) (E : Option Addr) (l d : Nat) (h : NoBox w p) :
    Calls Tryz.prog 14 #[.pointer p, .agg (vk .i64 q.l).toArray, .slice E l d] w fun e w' => e = .returned (.tuple #[.slice none 0 0, .int .i64 2]) ∧ Below w.heap.size w w' := by
  have hbu := hide (bUse0 q)
  have hidz := hide (szKid q)
  have HRef := fun w1 (hb : Below w.heap.size w w1) => refuse_no w1 p q 0 (h.later hb)
  obtain ⟨us, hus⟩ : ∃ us, us = vk .i64 (useL q 0) := ⟨_, rfl⟩
  obtain ⟨ids, hids⟩ : ∃ ids, ids = vk .i64 q.l := ⟨_, rfl⟩
  rw [← hus] at hbu HRef
  rw [← hids] at hbu hidz ⊢
  clear hus hids
  go_enter Tryz.func14, Tryz.ntmps14
  go_wp2_with (first
    | (with_reducible refine wl_box rfl 24 _ (.agg ids.toArray) ids rfl rfl rfl ?_; intro g4 w1 r4 p4 l4 b4)
    | (with_reducible refine wl_load_row (o := ⟨some 10, _, _, _, _, _⟩) rfl 24 (.tmp 4) g4 24 ids _ rfl rfl r4 Tryz.underlying24 rfl hidz.out ?_)
    | (with_reducible refine wl_build rfl 72 [(0, .tmp 10)] rfl [(0, .agg ids.toArray)] rfl us hbu.out ?_))
  refine (HRef w1 b4).mono ?_
  rintro e w4 ⟨rfl, b5⟩
  go_wp2_with fail
  go_ret2
  exact ⟨rfl, b4.trans (b5.mono b4.size)⟩
def SChO (p : Option Addr) (g5 : Nat) (us ids : List Value) (opn : Nat) (v : Value) : Prop :=
  match opn with
  | 0 => v = .pointer p
  | 1 => v = .agg ids.toArray
  | 2 => v = .agg us.toArray
  | 3 => v = .int .i64 2
  | 4 | 5 | 14 | 15 => v = .bool false
  | 6 | 7 | 8 | 9 | 10 | 11 | 12 | 13 => v = undef
  | _ => True

set_option maxRecDepth 100000 in
theorem noCheck (w : World) (p : Option Addr) (q : Kid) (E A : Option Addr) (l d m c : Nat) (h : NoBox w p) :
    Calls Tryz.prog 16 #[.pointer p, .agg (vk .i64 q.l).toArray, .slice E l d, .slice A m c] w fun e w' => e = .returned (.bool false) ∧ Below w.heap.size w w' := by
  have hbu := hide (bUse0 q)
  have hidz := hide (szKid q)
  have HRef0 := fun w1 (hb : Below w.heap.size w w1) => refuse_no w1 p q 0 (h.later hb)
  obtain ⟨us, hus⟩ : ∃ us, us = vk .i64 (useL q 0) := ⟨_, rfl⟩
  obtain ⟨ids, hids⟩ : ∃ ids, ids = vk .i64 q.l := ⟨_, rfl⟩
  rw [← hus] at hbu HRef0
  rw [← hids] at hbu hidz ⊢
  clear hus hids h
  go_enter Tryz.func16, Tryz.ntmps16
  go_wp2_with (first
    | (with_reducible refine wl_box rfl 24 _ (.agg ids.toArray) ids rfl rfl rfl ?_; intro g5 w5 r5 p5 l5 b5))
  have HRef := fun w1 (hb : Below w5.heap.size w5 w1) => HRef0 w1 (b5.trans (hb.mono b5.size))
  refine wp_region_valsS [3] (SChO p g5 us ids) (fun _ _ w1 => Below w5.heap.size w5 w1) (by kernel_rfl) (by kernel_rfl) (by kernel_rfl) (by kernel_rfl) ((Below.refl _ _).drew) ?obs1 ?he1
  case obs1 =>
    refine ⟨?_, ?_, ?_, ?_, ?_, ?_, ?_, ?_, ?_, ?_, ?_, ?_, ?_, ?_, ?_, ?_, trivial⟩
    · refine .inl ⟨.inl rfl, ?_⟩
      exact .inl ⟨by kernel_rfl, fun L a1 w1 n h => ⟨_, rfl, run_move (.tmp 0) rfl (h.var n 0 (by kernel_rfl))⟩⟩
    · refine .inl ⟨.inl rfl, ?_⟩
      exact .inl ⟨by kernel_rfl, fun L a1 w1 n h => ⟨_, rfl, run_loadRow 24 (.tmp 5) g5 24 _ _ rfl (h.var n 5 (by kernel_rfl)) (Row.later r5 h.inv) Tryz.underlying24 rfl hidz.out⟩⟩
    · refine .inl ⟨.inl rfl, ?_⟩
      refine .inl ⟨by kernel_rfl, fun L a1 w1 n h => ⟨.agg us.toArray, rfl, ?_⟩⟩
      have e0 : a1.eval (.tmp 10) = _ := h.dep n 1 10 (by kernel_rfl) rfl
      exact run_buildX 72 [(0, .tmp 10)] rfl _ (by simp only [List.map_cons, List.map_nil, e0]) _ hbu.out
    · refine .inl ⟨.inl rfl, ?_⟩
      refine .inr fun L a1 w1 n h K hK => ?_
      have e0 : a1.eval (.tmp 9) = .pointer p := h.dep n 0 9 (by kernel_rfl) rfl
      have e1 : a1.eval (.tmp 11) = .agg us.toArray := h.dep n 2 11 (by kernel_rfl) rfl
      refine st_call 25 _ _ #[.pointer p, .agg us.toArray] rfl Tryz.call25 ?_ (HRef w1 h.inv) ?_
      · simp only [List.map_toArray, List.map_cons, List.map_nil, e0, e1]
      · rintro e w3 ⟨rfl, b9⟩
        exact ⟨_, rfl, hK _ w3 rfl (h.inv.trans (b9.mono h.inv.size))⟩
    · refine .inl ⟨.inl rfl, ?_⟩
      exact .inl ⟨by kernel_rfl, fun L a1 w1 n h => ⟨_, rfl, run_eqlI (.tmp 12) (.const (.int .i64 0)) rfl (h.dep n 3 12 (by kernel_rfl) rfl) rfl (by decide)⟩⟩
    · refine .inl ⟨.inl rfl, ?_⟩
      exact .inl ⟨by kernel_rfl, fun L a1 w1 n h => ⟨_, rfl, run_move (.tmp 13) rfl (h.dep n 4 13 (by kernel_rfl) rfl)⟩⟩
    · exact .inr ⟨⟨5, true, 14, rfl, by kernel_rfl, rfl, by simp, fun v h => by rw [show v = .bool false from h]; first | exact ne_tf | exact ne_ft | exact ne_undef _⟩, by kernel_rfl, rfl⟩
    · exact .inr ⟨⟨5, true, 14, rfl, by kernel_rfl, rfl, by simp, fun v h => by rw [show v = .bool false from h]; first | exact ne_tf | exact ne_ft | exact ne_undef _⟩, by kernel_rfl, rfl⟩
    · exact .inr ⟨⟨5, true, 14, rfl, by kernel_rfl, rfl, by simp, fun v h => by rw [show v = .bool false from h]; first | exact ne_tf | exact ne_ft | exact ne_undef _⟩, by kernel_rfl, rfl⟩
    · exact .inr ⟨⟨5, true, 14, rfl, by kernel_rfl, rfl, by simp, fun v h => by rw [show v = .bool false from h]; first | exact ne_tf | exact ne_ft | exact ne_undef _⟩, by kernel_rfl, rfl⟩
    · exact .inr ⟨⟨5, true, 14, rfl, by kernel_rfl, rfl, by simp, fun v h => by rw [show v = .bool false from h]; first | exact ne_tf | exact ne_ft | exact ne_undef _⟩, by kernel_rfl, rfl⟩
    · exact .inr ⟨⟨5, true, 14, rfl, by kernel_rfl, rfl, by simp, fun v h => by rw [show v = .bool false from h]; first | exact ne_tf | exact ne_ft | exact ne_undef _⟩, by kernel_rfl, rfl⟩
    · exact .inr ⟨⟨5, true, 14, rfl, by kernel_rfl, rfl, by simp, fun v h => by rw [show v = .bool false from h]; first | exact ne_tf | exact ne_ft | exact ne_undef _⟩, by kernel_rfl, rfl⟩
    · exact .inr ⟨⟨5, true, 14, rfl, by kernel_rfl, rfl, by simp, fun v h => by rw [show v = .bool false from h]; first | exact ne_tf | exact ne_ft | exact ne_undef _⟩, by kernel_rfl, rfl⟩
    · refine .inl ⟨.inl rfl, ?_⟩
      exact .inl ⟨by kernel_rfl, fun L a1 w1 n h => ⟨_, rfl, run_pickF (.tmp 14) _ _ rfl (h.dep n 5 14 (by kernel_rfl) rfl) rfl⟩⟩
    · refine .inl ⟨.inl rfl, ?_⟩
      exact .inl ⟨by kernel_rfl, fun L a1 w1 n h => ⟨_, rfl, run_assign (.tmp 23) rfl (h.dep n 14 23 (by kernel_rfl) rfl)⟩⟩
  case he1 =>
    intro V w7 hV hJ
    have b7 : Below w5.heap.size w5 w7 := hJ
    have hE : V 15 = .bool false := hV 15 _ rfl
    clear hV hJ
    simp only [putOps, List.setIfInBounds_toArray, List.set_cons_succ, List.set_cons_zero, Nat.reduceAdd]
    rw [hE]
    go_wp2_with fail
    go_ret
    exact ⟨rfl, b5.trans (b7.mono b5.size)⟩
set_option maxRecDepth 100000 in
theorem noSealed (w : World) (p : Option Addr) (h : NoBox w p) : Calls Tryz.prog 21 #[.pointer p] w fun e w' => e = .returned (.int .i64 0) ∧ Below w.heap.size w w' := by
  have HM := made_no w p h
  clear h
  go_enter Tryz.func21, Tryz.ntmps21
  go_wp2_with fail
  refine HM.mono ?_
  rintro e w2 ⟨rfl, rfl⟩
  go_wp2_with fail
  go_ret
  exact ⟨rfl, Below.refl _ _⟩
set_option maxRecDepth 100000 in
theorem noRepeats (w : World) (p : Option Addr) (h : NoBox w p) : Calls Tryz.prog 22 #[.pointer p] w fun e w' => e = .returned (.int .i64 0) ∧ Below w.heap.size w w' := by
  have HM := made_no w p h
  clear h
  go_enter Tryz.func22, Tryz.ntmps22
  go_wp2_with fail
  refine HM.mono ?_
  rintro e w2 ⟨rfl, rfl⟩
  go_wp2_with fail
  go_ret
  exact ⟨rfl, Below.refl _ _⟩
end Go.Proofs.YtooooncmjhcdbaaGreatDoor

/-
  The law BoxNobody: contract. Own work.
-/
namespace Go.Proofs.YtooooncmjhcdbaaGreatDoor
open Go.RowKit Go.Maps Go.ChangeMaps
/-- An act that came in. -/
structure BAct where
  k : Int
  q : Kid
  n : Int
  A : Option Addr
  m : Nat
  c : Nat
  E : Option Addr
  l : Nat
  d : Nat
  at_ : Int
  by_ : Int
  ad : List Int
  tx : List Int
abbrev BAct.cells (a : BAct) : List Value := [.int .u8 a.k, .int .i64 a.q.a, .int .i64 a.q.b, .int .i64 a.q.c, .int .i64 a.q.d, .int .i64 a.q.e, .int .i64 a.q.f, .int .i64 a.n, .slice a.A a.m a.c, .slice a.E a.l a.d, .int .u8 a.at_, .int .u8 a.by_]
abbrev BAct.rest (a : BAct) : List Value := [.int .i64 a.n, .slice a.A a.m a.c, .slice a.E a.l a.d, .int .u8 a.at_, .int .u8 a.by_]
theorem run_len0 {P : Program} {w : World} {a : Act} {o : Oper} (T e : Nat) (hu : P.underlying T = some (.slice e)) (x : Operand) (ho : o.op = .call { callee := .builtin .len, args := #[x], argTypes := #[T] }) (hx : a.eval x = .slice none 0 0) : (execOp a.eval o).run P w = .ok (.value (.int .i64 0)) w := run_lenSl2 T e hu x ho hx
theorem run_add0 {P : Program} {w : World} {a : Act} {o : Oper} {t u : Nat} (x y : Operand) (ho : o.op = .binOp .add t x y u) (hx : a.eval x = .int .i64 0) (hy : a.eval y = .int .i64 0) : (execOp a.eval o).run P w = .ok (.value (.int .i64 0)) w := by
  unfold execOp
  simp only [ho, hx, hy]
  go_simp
  rfl
theorem pb_info : ∃ i, Tryz.prog.info? 30 = some i ∧ i.zero = some (.pointer none) ∧ i.size = 1 := by
  have h : (Tryz.prog.info? 30).map (fun i => (i.zero, i.size, i.bytes)) = some (some (.pointer none), 1, 8) := by kernel_rfl
  obtain ⟨i, h1, h2, h3, _⟩ := info_parts h
  exact ⟨i, h1, h2, h3⟩
theorem bBox0 : Tryz.prog.built 54 [] = some ([.nilIface, .int .i64 0, .map none] : List Value).toArray := by kernel_rfl
def SNb5 (gs g1 i : Nat) (ids : List Value) (p A E : Option Addr) (m c l d : Nat) (nn : Int) (opn : Nat) (v : Value) : Prop :=
  match opn with
  | 0 => v = .slice (some ⟨gs, 0, none⟩) 2 2
  | 1 => v = .int .i64 (i : Int)
  | 2 => v = .pointer (some ⟨gs, i, none⟩)
  | 3 => v = .pointer p
  | 4 => v = .pointer (some ⟨g1, 1, none⟩)
  | 5 => v = .agg ids.toArray
  | 6 => v = .pointer (some ⟨g1, 7, none⟩)
  | 7 => v = .int .i64 nn
  | 8 => v = .pointer (some ⟨g1, 8, none⟩)
  | 9 => v = .slice A m c
  | 10 => v = .pointer (some ⟨g1, 9, none⟩)
  | 11 => v = .slice E l d
  | 12 | 13 => v = .tuple #[.slice none 0 0, .int .i64 2]
  | 14 | 16 => v = .slice none 0 0
  | 15 | 17 => v = .int .i64 2
  | _ => True
def SNb6 (gs g1 i : Nat) (ids : List Value) (p A E : Option Addr) (m c l d : Nat) (nn : Int) (opn : Nat) (v : Value) : Prop :=
  match opn with
  | 0 => v = .slice (some ⟨gs, 0, none⟩) 2 2
  | 1 => v = .int .i64 (i : Int)
  | 2 => v = .pointer (some ⟨gs, i, none⟩)
  | 3 => v = .pointer p
  | 4 => v = .pointer (some ⟨g1, 1, none⟩)
  | 5 => v = .agg ids.toArray
  | 6 => v = .pointer (some ⟨g1, 7, none⟩)
  | 7 => v = .int .i64 nn
  | 8 => v = .pointer (some ⟨g1, 8, none⟩)
  | 9 => v = .slice A m c
  | 10 => v = .pointer (some ⟨g1, 9, none⟩)
  | 11 => v = .slice E l d
  | 12 | 13 => v = .tuple #[.slice none 0 0, .int .i64 2]
  | 14 | 16 => v = .slice none 0 0
  | 15 | 17 => v = .int .i64 2
  | _ => True
def SNb7 (gs g1 i : Nat) (ids : List Value) (p A E : Option Addr) (m c l d : Nat) (nn : Int) (opn : Nat) (v : Value) : Prop :=
  match opn with
  | 0 => v = .slice (some ⟨gs, 0, none⟩) 2 2
  | 1 => v = .int .i64 (i : Int)
  | 2 => v = .pointer (some ⟨gs, i, none⟩)
  | 3 => v = .pointer p
  | 4 => v = .pointer (some ⟨g1, 1, none⟩)
  | 5 => v = .agg ids.toArray
  | 6 => v = .pointer (some ⟨g1, 9, none⟩)
  | 7 => v = .slice E l d
  | 8 | 9 => v = .tuple #[.slice none 0 0, .int .i64 2]
  | 10 | 12 => v = .slice none 0 0
  | 11 | 13 => v = .int .i64 2
  | _ => True
def SNb8 (gs g1 i : Nat) (ids : List Value) (p A E : Option Addr) (m c l d : Nat) (nn : Int) (opn : Nat) (v : Value) : Prop :=
  match opn with
  | 0 | 2 | 5 => v = .slice none 0 0
  | 1 | 3 | 4 | 6 | 7 | 12 | 13 | 18 | 19 => v = .int .i64 0
  | 8 | 14 | 34 => v = .slice (some ⟨gs, 0, none⟩) 2 2
  | 9 | 15 | 35 => v = .int .i64 (i : Int)
  | 10 | 16 | 36 => v = .pointer (some ⟨gs, i, none⟩)
  | 11 | 17 | 37 => v = .pointer p
  | 20 | 21 | 23 | 24 | 25 | 27 | 28 | 29 | 31 | 32 | 33 | 44 | 45 => v = .bool false
  | 22 | 26 | 30 => v = .int .i64 2
  | 38 => v = .pointer (some ⟨g1, 1, none⟩)
  | 39 => v = .agg ids.toArray
  | 40 => v = .pointer (some ⟨g1, 9, none⟩)
  | 41 => v = .slice E l d
  | 42 => v = .pointer (some ⟨g1, 8, none⟩)
  | 43 => v = .slice A m c
  | _ => True

set_option maxRecDepth 100000 in
set_option maxHeartbeats 4000000 in
theorem boxNobody_any (a : BAct) (w : World) (hT : TabK w) : Calls Tryz.prog 6 #[.agg a.cells.toArray] w fun e w' => e = .returned (.bool true) ∧ Below w.heap.size w w' := by
  have bc := bBox0
  obtain ⟨ip, hip, hpz, hps⟩ := pb_info
  obtain ⟨kd, q, nn, A, m, c, E, l, d, at_, by_, ad, tx⟩ := a
  have hidz := hide (szKid q)
  have hTw := hide hT
  have h7 : Hid ((BAct.cells ⟨kd, q, nn, A, m, c, E, l, d, at_, by_, ad, tx⟩)[7]? = some (.int .i64 nn)) := hide rfl
  have h8 : Hid ((BAct.cells ⟨kd, q, nn, A, m, c, E, l, d, at_, by_, ad, tx⟩)[8]? = some (.slice A m c)) := hide rfl
  have h9 : Hid ((BAct.cells ⟨kd, q, nn, A, m, c, E, l, d, at_, by_, ad, tx⟩)[9]? = some (.slice E l d)) := hide rfl
  have hs : Hid ((BAct.cells ⟨kd, q, nn, A, m, c, E, l, d, at_, by_, ad, tx⟩) = [.int .u8 kd] ++ (vk .i64 q.l ++ BAct.rest ⟨kd, q, nn, A, m, c, E, l, d, at_, by_, ad, tx⟩)) := hide rfl
  generalize BAct.cells ⟨kd, q, nn, A, m, c, E, l, d, at_, by_, ad, tx⟩ = cs at *
  generalize BAct.rest ⟨kd, q, nn, A, m, c, E, l, d, at_, by_, ad, tx⟩ = rest at *
  obtain ⟨ids, hids⟩ : ∃ ids, ids = vk .i64 q.l := ⟨_, rfl⟩
  rw [← hids] at hidz hs
  have Hids := hide hids.symm
  clear hids
  go_enter Tryz.func6, Tryz.ntmps6
  go_wp2_with (first
    | (with_reducible refine wl_box (o := ⟨some 1, _, _, _, _, _⟩) rfl 27 (.tmp 0) _ cs rfl rfl rfl ?_; intro g1 w1 r1 q1 l1 b1)
    | ((with_reducible refine wl_build rfl 54 _ rfl _ ?hv _ bc ?hk); case hv => rfl)
    | (with_reducible refine wl_box (o := ⟨some 12, _, _, _, _, _⟩) rfl 54 (.tmp 11) _ [.nilIface, .int .i64 0, .map none] rfl rfl rfl ?_; intro g2 w2 r2 q2 l2 b2; have r1 := Row.later r1 b2)
    | (with_reducible refine wl_build2P rfl 55 (.const (.pointer none)) (.tmp 12) rfl 30 ip (.pointer none) (.pointer none) (.pointer (some ⟨g2, 0, none⟩)) Tryz.underlying55 hip hpz hps rfl rfl rfl rfl rfl ?_; intro gs w3 rs q3 l3 b3; have r1 := Row.later r1 b3; have r2 := Row.later r2 b3))
  have B3 := (b1.trans (b2.mono b1.size)).trans (b3.mono (b1.trans (b2.mono b1.size)).size)
  go_loopw [4] (fun iv wr => ∃ i : Nat, i ≤ 2 ∧ iv = .int .i64 i ∧ Row wr 27 g1 cs ∧ BxRow wr g2 .nilIface 0 (.map none) ∧ Row wr 30 gs [.pointer none, .pointer (some ⟨g2, 0, none⟩)] ∧ Below w.heap.size w wr) (fun iv _ => 2 - (intOf iv).toNat)
  case atStart => exact ⟨0, by omega, rfl, r1, r2, rs, B3⟩
  case round =>
    clear r1 r2 rs
    obtain ⟨i, hi2, rfl, r1, r2, rs, hB⟩ := hrel
    by_cases hi : i < 2
    · obtain ⟨p, hu0, hv⟩ : ∃ p, [Value.pointer none, .pointer (some ⟨g2, 0, none⟩)][i]? = some (.pointer p) ∧ NoBox wr p := by
        match i, hi with
        | 0, _ => exact ⟨_, rfl, .inl rfl⟩
        | 1, _ => exact ⟨_, rfl, .inr ⟨g2, rfl, r2⟩⟩
      have rA : Row wr 27 g1 ([.int .u8 kd] ++ (ids ++ rest)) := by rw [← hs.out]; exact r1
      go_wp2_with fail
      rename_i K5 hK5
      refine wp_region_vals [12] (SNb5 gs g1 i ids p A E m c l d nn) (fun _ _ wz => Below wr.heap.size wr wz) (by kernel_rfl) (by kernel_rfl) (by kernel_rfl) (by kernel_rfl) (by kernel_rfl) ((Below.refl _ _).drew) ?obs5 ?he5
      case obs5 =>
        refine ⟨?_, ?_, ?_, ?_, ?_, ?_, ?_, ?_, ?_, ?_, ?_, ?_, ?_, ?_, ?_, ?_, ?_, ?_, trivial⟩
        · exact .inl ⟨by kernel_rfl, fun L a1 w1 n h => ⟨_, rfl, run_move (.tmp 3) rfl (h.var n 3 (by kernel_rfl))⟩⟩
        · exact .inl ⟨by kernel_rfl, fun L a1 w1 n h => ⟨_, rfl, run_move (.tmp 4) rfl (h.var n 4 (by kernel_rfl))⟩⟩
        · exact .inl ⟨by kernel_rfl, fun L a1 w1 n h => ⟨_, rfl, run_indexSl0 55 (.tmp 21) (.tmp 22) 30 gs 2 2 i rfl Tryz.underlying55 Tryz.sizeOf30 (h.dep n 0 21 (by kernel_rfl) rfl) (h.dep n 1 22 (by kernel_rfl) rfl) hi⟩⟩
        · exact .inl ⟨by kernel_rfl, fun L a1 w1 n h => ⟨_, rfl, run_loadA 30 (.tmp 23) ⟨gs, i, none⟩ rfl Tryz.isAgg30 (h.dep n 2 23 (by kernel_rfl) rfl) ((Row.later rs h.inv).cell hu0)⟩⟩
        · refine .inl ⟨by kernel_rfl, fun L a1 w1 n h => ⟨.pointer (some ⟨g1, 1, none⟩), rfl, ?_⟩⟩
          have e0 : a1.eval (.tmp 1) = _ := h.var n 1 (by kernel_rfl)
          unfold execOp
          simp only [e0]
          go_simp
        · exact .inl ⟨by kernel_rfl, fun L a1 w1 n h => ⟨_, rfl, run_loadP 24 (.tmp 25) g1 1 27 [.int .u8 kd] ids rest _ rfl (h.dep n 4 25 (by kernel_rfl) rfl) (Row.later rA h.inv) rfl Tryz.underlying24 rfl hidz.out⟩⟩
        · refine .inl ⟨by kernel_rfl, fun L a1 w1 n h => ⟨.pointer (some ⟨g1, 7, none⟩), rfl, ?_⟩⟩
          have e0 : a1.eval (.tmp 1) = _ := h.var n 1 (by kernel_rfl)
          unfold execOp
          simp only [e0]
          go_simp
        · exact .inl ⟨by kernel_rfl, fun L a1 w1 n h => ⟨_, rfl, run_loadA 3 (.tmp 27) ⟨g1, 7, none⟩ rfl Tryz.isAgg3 (h.dep n 6 27 (by kernel_rfl) rfl) ((Row.later r1 h.inv).cell h7.out)⟩⟩
        · refine .inl ⟨by kernel_rfl, fun L a1 w1 n h => ⟨.pointer (some ⟨g1, 8, none⟩), rfl, ?_⟩⟩
          have e0 : a1.eval (.tmp 1) = _ := h.var n 1 (by kernel_rfl)
          unfold execOp
          simp only [e0]
          go_simp
        · exact .inl ⟨by kernel_rfl, fun L a1 w1 n h => ⟨_, rfl, run_loadA 25 (.tmp 29) ⟨g1, 8, none⟩ rfl Tryz.isAgg25 (h.dep n 8 29 (by kernel_rfl) rfl) ((Row.later r1 h.inv).cell h8.out)⟩⟩
        · refine .inl ⟨by kernel_rfl, fun L a1 w1 n h => ⟨.pointer (some ⟨g1, 9, none⟩), rfl, ?_⟩⟩
          have e0 : a1.eval (.tmp 1) = _ := h.var n 1 (by kernel_rfl)
          unfold execOp
          simp only [e0]
          go_simp
        · exact .inl ⟨by kernel_rfl, fun L a1 w1 n h => ⟨_, rfl, run_loadA 25 (.tmp 31) ⟨g1, 9, none⟩ rfl Tryz.isAgg25 (h.dep n 10 31 (by kernel_rfl) rfl) ((Row.later r1 h.inv).cell h9.out)⟩⟩
        · refine .inr fun L a1 w1 n h K hK => ?_
          have e0 : a1.eval (.tmp 24) = .pointer p := h.dep n 3 24 (by kernel_rfl) rfl
          have e1 : a1.eval (.tmp 26) = .agg ids.toArray := h.dep n 5 26 (by kernel_rfl) rfl
          have e2 : a1.eval (.tmp 28) = .int .i64 nn := h.dep n 7 28 (by kernel_rfl) rfl
          have e3 : a1.eval (.tmp 30) = .slice A m c := h.dep n 9 30 (by kernel_rfl) rfl
          have e4 : a1.eval (.tmp 32) = .slice E l d := h.dep n 11 32 (by kernel_rfl) rfl
          refine st_call 10 _ _ #[.pointer p, .agg ids.toArray, .int .i64 nn, .slice A m c, .slice E l d] rfl Tryz.call10 ?_ (Hids.out ▸ noSeal w1 p q nn A E m c l d (hv.later h.inv)) ?_
          · simp only [List.map_toArray, List.map_cons, List.map_nil, e0, e1, e2, e3, e4]
          · rintro e w3 ⟨rfl, b9⟩
            exact ⟨_, rfl, hK _ w3 rfl (h.inv.trans (b9.mono h.inv.size))⟩
        · exact .inl ⟨by kernel_rfl, fun L a1 w1 n h => ⟨_, rfl, run_move (.tmp 33) rfl (h.dep n 12 33 (by kernel_rfl) rfl)⟩⟩
        · exact .inl ⟨by kernel_rfl, fun L a1 w1 n h => ⟨_, rfl, run_extractA (.tmp 20) 0 _ rfl (h.dep n 13 20 (by kernel_rfl) rfl) rfl⟩⟩
        · exact .inl ⟨by kernel_rfl, fun L a1 w1 n h => ⟨_, rfl, run_extractA (.tmp 20) 1 _ rfl (h.dep n 13 20 (by kernel_rfl) rfl) rfl⟩⟩
        · exact .inl ⟨by kernel_rfl, fun L a1 w1 n h => ⟨_, rfl, run_assign (.tmp 34) rfl (h.dep n 14 34 (by kernel_rfl) rfl)⟩⟩
        · exact .inl ⟨by kernel_rfl, fun L a1 w1 n h => ⟨_, rfl, run_assign (.tmp 35) rfl (h.dep n 15 35 (by kernel_rfl) rfl)⟩⟩
      case he5 =>
      intro V w5 hV hJ
      have b5 : Below wr.heap.size wr w5 := hJ
      have z50 : V 16 = .slice none 0 0 := hV 16 _ rfl
      have z51 : V 17 = .int .i64 2 := hV 17 _ rfl
      have rA := Row.later rA b5
      have r1 := Row.later r1 b5
      have r2 := Row.later r2 b5
      have rs := Row.later rs b5
      have hv := hv.later b5
      have hB := hB.trans (b5.mono hB.size)
      clear hV hJ
      simp only [putOps, List.setIfInBounds_toArray, List.set_cons_succ, List.set_cons_zero, Nat.reduceAdd]
      rw [z50, z51]
      clear z50 z51
      refine hK5 _ _ ?_
      go_wp2_with fail
      rename_i K6 hK6
      refine wp_region_vals [12] (SNb6 gs g1 i ids p A E m c l d nn) (fun _ _ wz => Below w5.heap.size w5 wz) (by kernel_rfl) (by kernel_rfl) (by kernel_rfl) (by kernel_rfl) (by kernel_rfl) ((Below.refl _ _).drew) ?obs6 ?he6
      case obs6 =>
        refine ⟨?_, ?_, ?_, ?_, ?_, ?_, ?_, ?_, ?_, ?_, ?_, ?_, ?_, ?_, ?_, ?_, ?_, ?_, trivial⟩
        · exact .inl ⟨by kernel_rfl, fun L a1 w1 n h => ⟨_, rfl, run_move (.tmp 3) rfl (h.var n 3 (by kernel_rfl))⟩⟩
        · exact .inl ⟨by kernel_rfl, fun L a1 w1 n h => ⟨_, rfl, run_move (.tmp 4) rfl (h.var n 4 (by kernel_rfl))⟩⟩
        · exact .inl ⟨by kernel_rfl, fun L a1 w1 n h => ⟨_, rfl, run_indexSl0 55 (.tmp 37) (.tmp 38) 30 gs 2 2 i rfl Tryz.underlying55 Tryz.sizeOf30 (h.dep n 0 37 (by kernel_rfl) rfl) (h.dep n 1 38 (by kernel_rfl) rfl) hi⟩⟩
        · exact .inl ⟨by kernel_rfl, fun L a1 w1 n h => ⟨_, rfl, run_loadA 30 (.tmp 39) ⟨gs, i, none⟩ rfl Tryz.isAgg30 (h.dep n 2 39 (by kernel_rfl) rfl) ((Row.later rs h.inv).cell hu0)⟩⟩
        · refine .inl ⟨by kernel_rfl, fun L a1 w1 n h => ⟨.pointer (some ⟨g1, 1, none⟩), rfl, ?_⟩⟩
          have e0 : a1.eval (.tmp 1) = _ := h.var n 1 (by kernel_rfl)
          unfold execOp
          simp only [e0]
          go_simp
        · exact .inl ⟨by kernel_rfl, fun L a1 w1 n h => ⟨_, rfl, run_loadP 24 (.tmp 41) g1 1 27 [.int .u8 kd] ids rest _ rfl (h.dep n 4 41 (by kernel_rfl) rfl) (Row.later rA h.inv) rfl Tryz.underlying24 rfl hidz.out⟩⟩
        · refine .inl ⟨by kernel_rfl, fun L a1 w1 n h => ⟨.pointer (some ⟨g1, 7, none⟩), rfl, ?_⟩⟩
          have e0 : a1.eval (.tmp 1) = _ := h.var n 1 (by kernel_rfl)
          unfold execOp
          simp only [e0]
          go_simp
        · exact .inl ⟨by kernel_rfl, fun L a1 w1 n h => ⟨_, rfl, run_loadA 3 (.tmp 43) ⟨g1, 7, none⟩ rfl Tryz.isAgg3 (h.dep n 6 43 (by kernel_rfl) rfl) ((Row.later r1 h.inv).cell h7.out)⟩⟩
        · refine .inl ⟨by kernel_rfl, fun L a1 w1 n h => ⟨.pointer (some ⟨g1, 8, none⟩), rfl, ?_⟩⟩
          have e0 : a1.eval (.tmp 1) = _ := h.var n 1 (by kernel_rfl)
          unfold execOp
          simp only [e0]
          go_simp
        · exact .inl ⟨by kernel_rfl, fun L a1 w1 n h => ⟨_, rfl, run_loadA 25 (.tmp 45) ⟨g1, 8, none⟩ rfl Tryz.isAgg25 (h.dep n 8 45 (by kernel_rfl) rfl) ((Row.later r1 h.inv).cell h8.out)⟩⟩
        · refine .inl ⟨by kernel_rfl, fun L a1 w1 n h => ⟨.pointer (some ⟨g1, 9, none⟩), rfl, ?_⟩⟩
          have e0 : a1.eval (.tmp 1) = _ := h.var n 1 (by kernel_rfl)
          unfold execOp
          simp only [e0]
          go_simp
        · exact .inl ⟨by kernel_rfl, fun L a1 w1 n h => ⟨_, rfl, run_loadA 25 (.tmp 47) ⟨g1, 9, none⟩ rfl Tryz.isAgg25 (h.dep n 10 47 (by kernel_rfl) rfl) ((Row.later r1 h.inv).cell h9.out)⟩⟩
        · refine .inr fun L a1 w1 n h K hK => ?_
          have e0 : a1.eval (.tmp 40) = .pointer p := h.dep n 3 40 (by kernel_rfl) rfl
          have e1 : a1.eval (.tmp 42) = .agg ids.toArray := h.dep n 5 42 (by kernel_rfl) rfl
          have e2 : a1.eval (.tmp 44) = .int .i64 nn := h.dep n 7 44 (by kernel_rfl) rfl
          have e3 : a1.eval (.tmp 46) = .slice A m c := h.dep n 9 46 (by kernel_rfl) rfl
          have e4 : a1.eval (.tmp 48) = .slice E l d := h.dep n 11 48 (by kernel_rfl) rfl
          refine st_call 12 _ _ #[.pointer p, .agg ids.toArray, .int .i64 nn, .slice A m c, .slice E l d] rfl Tryz.call12 ?_ (Hids.out ▸ noOpen w1 p q nn A E m c l d (hv.later h.inv)) ?_
          · simp only [List.map_toArray, List.map_cons, List.map_nil, e0, e1, e2, e3, e4]
          · rintro e w3 ⟨rfl, b9⟩
            exact ⟨_, rfl, hK _ w3 rfl (h.inv.trans (b9.mono h.inv.size))⟩
        · exact .inl ⟨by kernel_rfl, fun L a1 w1 n h => ⟨_, rfl, run_move (.tmp 49) rfl (h.dep n 12 49 (by kernel_rfl) rfl)⟩⟩
        · exact .inl ⟨by kernel_rfl, fun L a1 w1 n h => ⟨_, rfl, run_extractA (.tmp 36) 0 _ rfl (h.dep n 13 36 (by kernel_rfl) rfl) rfl⟩⟩
        · exact .inl ⟨by kernel_rfl, fun L a1 w1 n h => ⟨_, rfl, run_extractA (.tmp 36) 1 _ rfl (h.dep n 13 36 (by kernel_rfl) rfl) rfl⟩⟩
        · exact .inl ⟨by kernel_rfl, fun L a1 w1 n h => ⟨_, rfl, run_assign (.tmp 50) rfl (h.dep n 14 50 (by kernel_rfl) rfl)⟩⟩
        · exact .inl ⟨by kernel_rfl, fun L a1 w1 n h => ⟨_, rfl, run_assign (.tmp 51) rfl (h.dep n 15 51 (by kernel_rfl) rfl)⟩⟩
      case he6 =>
      intro V w6 hV hJ
      have b6 : Below w5.heap.size w5 w6 := hJ
      have z60 : V 16 = .slice none 0 0 := hV 16 _ rfl
      have z61 : V 17 = .int .i64 2 := hV 17 _ rfl
      have rA := Row.later rA b6
      have r1 := Row.later r1 b6
      have r2 := Row.later r2 b6
      have rs := Row.later rs b6
      have hv := hv.later b6
      have hB := hB.trans (b6.mono hB.size)
      clear hV hJ
      simp only [putOps, List.setIfInBounds_toArray, List.set_cons_succ, List.set_cons_zero, Nat.reduceAdd]
      rw [z60, z61]
      clear z60 z61
      refine hK6 _ _ ?_
      go_wp2_with fail
      rename_i K7 hK7
      refine wp_region_vals [8] (SNb7 gs g1 i ids p A E m c l d nn) (fun _ _ wz => Below w6.heap.size w6 wz) (by kernel_rfl) (by kernel_rfl) (by kernel_rfl) (by kernel_rfl) (by kernel_rfl) ((Below.refl _ _).drew) ?obs7 ?he7
      case obs7 =>
        refine ⟨?_, ?_, ?_, ?_, ?_, ?_, ?_, ?_, ?_, ?_, ?_, ?_, ?_, ?_, trivial⟩
        · exact .inl ⟨by kernel_rfl, fun L a1 w1 n h => ⟨_, rfl, run_move (.tmp 3) rfl (h.var n 3 (by kernel_rfl))⟩⟩
        · exact .inl ⟨by kernel_rfl, fun L a1 w1 n h => ⟨_, rfl, run_move (.tmp 4) rfl (h.var n 4 (by kernel_rfl))⟩⟩
        · exact .inl ⟨by kernel_rfl, fun L a1 w1 n h => ⟨_, rfl, run_indexSl0 55 (.tmp 53) (.tmp 54) 30 gs 2 2 i rfl Tryz.underlying55 Tryz.sizeOf30 (h.dep n 0 53 (by kernel_rfl) rfl) (h.dep n 1 54 (by kernel_rfl) rfl) hi⟩⟩
        · exact .inl ⟨by kernel_rfl, fun L a1 w1 n h => ⟨_, rfl, run_loadA 30 (.tmp 55) ⟨gs, i, none⟩ rfl Tryz.isAgg30 (h.dep n 2 55 (by kernel_rfl) rfl) ((Row.later rs h.inv).cell hu0)⟩⟩
        · refine .inl ⟨by kernel_rfl, fun L a1 w1 n h => ⟨.pointer (some ⟨g1, 1, none⟩), rfl, ?_⟩⟩
          have e0 : a1.eval (.tmp 1) = _ := h.var n 1 (by kernel_rfl)
          unfold execOp
          simp only [e0]
          go_simp
        · exact .inl ⟨by kernel_rfl, fun L a1 w1 n h => ⟨_, rfl, run_loadP 24 (.tmp 57) g1 1 27 [.int .u8 kd] ids rest _ rfl (h.dep n 4 57 (by kernel_rfl) rfl) (Row.later rA h.inv) rfl Tryz.underlying24 rfl hidz.out⟩⟩
        · refine .inl ⟨by kernel_rfl, fun L a1 w1 n h => ⟨.pointer (some ⟨g1, 9, none⟩), rfl, ?_⟩⟩
          have e0 : a1.eval (.tmp 1) = _ := h.var n 1 (by kernel_rfl)
          unfold execOp
          simp only [e0]
          go_simp
        · exact .inl ⟨by kernel_rfl, fun L a1 w1 n h => ⟨_, rfl, run_loadA 25 (.tmp 59) ⟨g1, 9, none⟩ rfl Tryz.isAgg25 (h.dep n 6 59 (by kernel_rfl) rfl) ((Row.later r1 h.inv).cell h9.out)⟩⟩
        · refine .inr fun L a1 w1 n h K hK => ?_
          have e0 : a1.eval (.tmp 56) = .pointer p := h.dep n 3 56 (by kernel_rfl) rfl
          have e1 : a1.eval (.tmp 58) = .agg ids.toArray := h.dep n 5 58 (by kernel_rfl) rfl
          have e2 : a1.eval (.tmp 60) = .slice E l d := h.dep n 7 60 (by kernel_rfl) rfl
          refine st_call 14 _ _ #[.pointer p, .agg ids.toArray, .slice E l d] rfl Tryz.call14 ?_ (Hids.out ▸ noMark w1 p q E l d (hv.later h.inv)) ?_
          · simp only [List.map_toArray, List.map_cons, List.map_nil, e0, e1, e2]
          · rintro e w3 ⟨rfl, b9⟩
            exact ⟨_, rfl, hK _ w3 rfl (h.inv.trans (b9.mono h.inv.size))⟩
        · exact .inl ⟨by kernel_rfl, fun L a1 w1 n h => ⟨_, rfl, run_move (.tmp 61) rfl (h.dep n 8 61 (by kernel_rfl) rfl)⟩⟩
        · exact .inl ⟨by kernel_rfl, fun L a1 w1 n h => ⟨_, rfl, run_extractA (.tmp 52) 0 _ rfl (h.dep n 9 52 (by kernel_rfl) rfl) rfl⟩⟩
        · exact .inl ⟨by kernel_rfl, fun L a1 w1 n h => ⟨_, rfl, run_extractA (.tmp 52) 1 _ rfl (h.dep n 9 52 (by kernel_rfl) rfl) rfl⟩⟩
        · exact .inl ⟨by kernel_rfl, fun L a1 w1 n h => ⟨_, rfl, run_assign (.tmp 62) rfl (h.dep n 10 62 (by kernel_rfl) rfl)⟩⟩
        · exact .inl ⟨by kernel_rfl, fun L a1 w1 n h => ⟨_, rfl, run_assign (.tmp 63) rfl (h.dep n 11 63 (by kernel_rfl) rfl)⟩⟩
      case he7 =>
      intro V w7 hV hJ
      have b7 : Below w6.heap.size w6 w7 := hJ
      have z70 : V 12 = .slice none 0 0 := hV 12 _ rfl
      have z71 : V 13 = .int .i64 2 := hV 13 _ rfl
      have rA := Row.later rA b7
      have r1 := Row.later r1 b7
      have r2 := Row.later r2 b7
      have rs := Row.later rs b7
      have hv := hv.later b7
      have hB := hB.trans (b7.mono hB.size)
      clear hV hJ
      simp only [putOps, List.setIfInBounds_toArray, List.set_cons_succ, List.set_cons_zero, Nat.reduceAdd]
      rw [z70, z71]
      clear z70 z71
      refine hK7 _ _ ?_
      go_wp2_with fail
      rename_i K8 hK8
      refine wp_region_valsG [12, 18, 44] (SNb8 gs g1 i ids p A E m c l d nn) (fun _ _ wz => Below w7.heap.size w7 wz) (by kernel_rfl) (by kernel_rfl) (by kernel_rfl) (by kernel_rfl) ((Below.refl _ _).drew) ?obs8 ?he8
      case obs8 =>
        refine ⟨?_, ?_, ?_, ?_, ?_, ?_, ?_, ?_, ?_, ?_, ?_, ?_, ?_, ?_, ?_, ?_, ?_, ?_, ?_, ?_, ?_, ?_, ?_, ?_, ?_, ?_, ?_, ?_, ?_, ?_, ?_, ?_, ?_, ?_, ?_, ?_, ?_, ?_, ?_, ?_, ?_, ?_, ?_, ?_, ?_, ?_, trivial⟩
        · refine ⟨.inl rfl, ?_⟩
          exact .inl ⟨by kernel_rfl, fun L a1 w1 n h => ⟨_, rfl, run_move (.tmp 5) rfl (h.var n 5 (by kernel_rfl))⟩⟩
        · refine ⟨.inl rfl, ?_⟩
          exact .inl ⟨by kernel_rfl, fun L a1 w1 n h => ⟨_, rfl, run_len0 25 5 Tryz.underlying25 (.tmp 64) rfl (h.dep n 0 64 (by kernel_rfl) rfl)⟩⟩
        · refine ⟨.inl rfl, ?_⟩
          exact .inl ⟨by kernel_rfl, fun L a1 w1 n h => ⟨_, rfl, run_move (.tmp 7) rfl (h.var n 7 (by kernel_rfl))⟩⟩
        · refine ⟨.inl rfl, ?_⟩
          exact .inl ⟨by kernel_rfl, fun L a1 w1 n h => ⟨_, rfl, run_len0 25 5 Tryz.underlying25 (.tmp 66) rfl (h.dep n 2 66 (by kernel_rfl) rfl)⟩⟩
        · refine ⟨.inl rfl, ?_⟩
          exact .inl ⟨by kernel_rfl, fun L a1 w1 n h => ⟨_, rfl, run_add0 (.tmp 65) (.tmp 67) rfl (h.dep n 1 65 (by kernel_rfl) rfl) (h.dep n 3 67 (by kernel_rfl) rfl)⟩⟩
        · refine ⟨.inl rfl, ?_⟩
          exact .inl ⟨by kernel_rfl, fun L a1 w1 n h => ⟨_, rfl, run_move (.tmp 9) rfl (h.var n 9 (by kernel_rfl))⟩⟩
        · refine ⟨.inl rfl, ?_⟩
          exact .inl ⟨by kernel_rfl, fun L a1 w1 n h => ⟨_, rfl, run_len0 25 5 Tryz.underlying25 (.tmp 69) rfl (h.dep n 5 69 (by kernel_rfl) rfl)⟩⟩
        · refine ⟨.inl rfl, ?_⟩
          exact .inl ⟨by kernel_rfl, fun L a1 w1 n h => ⟨_, rfl, run_add0 (.tmp 68) (.tmp 70) rfl (h.dep n 4 68 (by kernel_rfl) rfl) (h.dep n 6 70 (by kernel_rfl) rfl)⟩⟩
        · refine ⟨.inl rfl, ?_⟩
          exact .inl ⟨by kernel_rfl, fun L a1 w1 n h => ⟨_, rfl, run_move (.tmp 3) rfl (h.var n 3 (by kernel_rfl))⟩⟩
        · refine ⟨.inl rfl, ?_⟩
          exact .inl ⟨by kernel_rfl, fun L a1 w1 n h => ⟨_, rfl, run_move (.tmp 4) rfl (h.var n 4 (by kernel_rfl))⟩⟩
        · refine ⟨.inl rfl, ?_⟩
          exact .inl ⟨by kernel_rfl, fun L a1 w1 n h => ⟨_, rfl, run_indexSl0 55 (.tmp 72) (.tmp 73) 30 gs 2 2 i rfl Tryz.underlying55 Tryz.sizeOf30 (h.dep n 8 72 (by kernel_rfl) rfl) (h.dep n 9 73 (by kernel_rfl) rfl) hi⟩⟩
        · refine ⟨.inl rfl, ?_⟩
          exact .inl ⟨by kernel_rfl, fun L a1 w1 n h => ⟨_, rfl, run_loadA 30 (.tmp 74) ⟨gs, i, none⟩ rfl Tryz.isAgg30 (h.dep n 10 74 (by kernel_rfl) rfl) ((Row.later rs h.inv).cell hu0)⟩⟩
        · refine ⟨.inl rfl, ?_⟩
          refine .inr fun L a1 w1 n h K hK => ?_
          have e0 : a1.eval (.tmp 75) = .pointer p := h.dep n 11 75 (by kernel_rfl) rfl
          refine st_call 21 _ _ #[.pointer p] rfl Tryz.call21 ?_ (noSealed w1 p (hv.later h.inv)) ?_
          · simp only [List.map_toArray, List.map_cons, List.map_nil, e0]
          · rintro e w3 ⟨rfl, b9⟩
            exact ⟨_, rfl, hK _ w3 rfl (h.inv.trans (b9.mono h.inv.size))⟩
        · refine ⟨.inl rfl, ?_⟩
          exact .inl ⟨by kernel_rfl, fun L a1 w1 n h => ⟨_, rfl, run_add0 (.tmp 71) (.tmp 76) rfl (h.dep n 7 71 (by kernel_rfl) rfl) (h.dep n 12 76 (by kernel_rfl) rfl)⟩⟩
        · refine ⟨.inl rfl, ?_⟩
          exact .inl ⟨by kernel_rfl, fun L a1 w1 n h => ⟨_, rfl, run_move (.tmp 3) rfl (h.var n 3 (by kernel_rfl))⟩⟩
        · refine ⟨.inl rfl, ?_⟩
          exact .inl ⟨by kernel_rfl, fun L a1 w1 n h => ⟨_, rfl, run_move (.tmp 4) rfl (h.var n 4 (by kernel_rfl))⟩⟩
        · refine ⟨.inl rfl, ?_⟩
          exact .inl ⟨by kernel_rfl, fun L a1 w1 n h => ⟨_, rfl, run_indexSl0 55 (.tmp 78) (.tmp 79) 30 gs 2 2 i rfl Tryz.underlying55 Tryz.sizeOf30 (h.dep n 14 78 (by kernel_rfl) rfl) (h.dep n 15 79 (by kernel_rfl) rfl) hi⟩⟩
        · refine ⟨.inl rfl, ?_⟩
          exact .inl ⟨by kernel_rfl, fun L a1 w1 n h => ⟨_, rfl, run_loadA 30 (.tmp 80) ⟨gs, i, none⟩ rfl Tryz.isAgg30 (h.dep n 16 80 (by kernel_rfl) rfl) ((Row.later rs h.inv).cell hu0)⟩⟩
        · refine ⟨.inl rfl, ?_⟩
          refine .inr fun L a1 w1 n h K hK => ?_
          have e0 : a1.eval (.tmp 81) = .pointer p := h.dep n 17 81 (by kernel_rfl) rfl
          refine st_call 22 _ _ #[.pointer p] rfl Tryz.call22 ?_ (noRepeats w1 p (hv.later h.inv)) ?_
          · simp only [List.map_toArray, List.map_cons, List.map_nil, e0]
          · rintro e w3 ⟨rfl, b9⟩
            exact ⟨_, rfl, hK _ w3 rfl (h.inv.trans (b9.mono h.inv.size))⟩
        · refine ⟨.inl rfl, ?_⟩
          exact .inl ⟨by kernel_rfl, fun L a1 w1 n h => ⟨_, rfl, run_add0 (.tmp 77) (.tmp 82) rfl (h.dep n 13 77 (by kernel_rfl) rfl) (h.dep n 18 82 (by kernel_rfl) rfl)⟩⟩
        · refine ⟨.inl rfl, ?_⟩
          exact .inl ⟨by kernel_rfl, fun L a1 w1 n h => ⟨_, rfl, run_neqI (.tmp 83) (.const (.int .i64 0)) rfl (h.dep n 19 83 (by kernel_rfl) rfl) rfl (by decide)⟩⟩
        · refine ⟨.inl rfl, ?_⟩
          exact .inl ⟨by kernel_rfl, fun L a1 w1 n h => ⟨_, rfl, run_move (.tmp 84) rfl (h.dep n 20 84 (by kernel_rfl) rfl)⟩⟩
        · refine ⟨.inr ⟨21, false, 85, rfl, by kernel_rfl, rfl, by simp, fun v h => h⟩, ?_⟩
          exact .inl ⟨by kernel_rfl, fun L a1 w1 n h => ⟨_, rfl, run_move (.tmp 6) rfl (h.var n 6 (by kernel_rfl))⟩⟩
        · refine ⟨.inr ⟨21, false, 85, rfl, by kernel_rfl, rfl, by simp, fun v h => h⟩, ?_⟩
          exact .inl ⟨by kernel_rfl, fun L a1 w1 n h => ⟨_, rfl, run_neqI (.tmp 86) (.const (.int .i64 2)) rfl (h.dep n 22 86 (by kernel_rfl) rfl) rfl (by decide)⟩⟩
        · refine ⟨.inl rfl, ?_⟩
          exact .inl ⟨by kernel_rfl, fun L a1 w1 n h => ⟨_, rfl, run_pickF (.tmp 85) _ _ rfl (h.dep n 21 85 (by kernel_rfl) rfl) (h.dep n 23 87 (by kernel_rfl) rfl)⟩⟩
        · refine ⟨.inl rfl, ?_⟩
          exact .inl ⟨by kernel_rfl, fun L a1 w1 n h => ⟨_, rfl, run_move (.tmp 88) rfl (h.dep n 24 88 (by kernel_rfl) rfl)⟩⟩
        · refine ⟨.inr ⟨25, false, 89, rfl, by kernel_rfl, rfl, by simp, fun v h => h⟩, ?_⟩
          exact .inl ⟨by kernel_rfl, fun L a1 w1 n h => ⟨_, rfl, run_move (.tmp 8) rfl (h.var n 8 (by kernel_rfl))⟩⟩
        · refine ⟨.inr ⟨25, false, 89, rfl, by kernel_rfl, rfl, by simp, fun v h => h⟩, ?_⟩
          exact .inl ⟨by kernel_rfl, fun L a1 w1 n h => ⟨_, rfl, run_neqI (.tmp 90) (.const (.int .i64 2)) rfl (h.dep n 26 90 (by kernel_rfl) rfl) rfl (by decide)⟩⟩
        · refine ⟨.inl rfl, ?_⟩
          exact .inl ⟨by kernel_rfl, fun L a1 w1 n h => ⟨_, rfl, run_pickF (.tmp 89) _ _ rfl (h.dep n 25 89 (by kernel_rfl) rfl) (h.dep n 27 91 (by kernel_rfl) rfl)⟩⟩
        · refine ⟨.inl rfl, ?_⟩
          exact .inl ⟨by kernel_rfl, fun L a1 w1 n h => ⟨_, rfl, run_move (.tmp 92) rfl (h.dep n 28 92 (by kernel_rfl) rfl)⟩⟩
        · refine ⟨.inr ⟨29, false, 93, rfl, by kernel_rfl, rfl, by simp, fun v h => h⟩, ?_⟩
          exact .inl ⟨by kernel_rfl, fun L a1 w1 n h => ⟨_, rfl, run_move (.tmp 10) rfl (h.var n 10 (by kernel_rfl))⟩⟩
        · refine ⟨.inr ⟨29, false, 93, rfl, by kernel_rfl, rfl, by simp, fun v h => h⟩, ?_⟩
          exact .inl ⟨by kernel_rfl, fun L a1 w1 n h => ⟨_, rfl, run_neqI (.tmp 94) (.const (.int .i64 2)) rfl (h.dep n 30 94 (by kernel_rfl) rfl) rfl (by decide)⟩⟩
        · refine ⟨.inl rfl, ?_⟩
          exact .inl ⟨by kernel_rfl, fun L a1 w1 n h => ⟨_, rfl, run_pickF (.tmp 93) _ _ rfl (h.dep n 29 93 (by kernel_rfl) rfl) (h.dep n 31 95 (by kernel_rfl) rfl)⟩⟩
        · refine ⟨.inl rfl, ?_⟩
          exact .inl ⟨by kernel_rfl, fun L a1 w1 n h => ⟨_, rfl, run_move (.tmp 96) rfl (h.dep n 32 96 (by kernel_rfl) rfl)⟩⟩
        · refine ⟨.inr ⟨33, false, 97, rfl, by kernel_rfl, rfl, by simp, fun v h => h⟩, ?_⟩
          exact .inl ⟨by kernel_rfl, fun L a1 w1 n h => ⟨_, rfl, run_move (.tmp 3) rfl (h.var n 3 (by kernel_rfl))⟩⟩
        · refine ⟨.inr ⟨33, false, 97, rfl, by kernel_rfl, rfl, by simp, fun v h => h⟩, ?_⟩
          exact .inl ⟨by kernel_rfl, fun L a1 w1 n h => ⟨_, rfl, run_move (.tmp 4) rfl (h.var n 4 (by kernel_rfl))⟩⟩
        · refine ⟨.inr ⟨33, false, 97, rfl, by kernel_rfl, rfl, by simp, fun v h => h⟩, ?_⟩
          exact .inl ⟨by kernel_rfl, fun L a1 w1 n h => ⟨_, rfl, run_indexSl0 55 (.tmp 98) (.tmp 99) 30 gs 2 2 i rfl Tryz.underlying55 Tryz.sizeOf30 (h.dep n 34 98 (by kernel_rfl) rfl) (h.dep n 35 99 (by kernel_rfl) rfl) hi⟩⟩
        · refine ⟨.inr ⟨33, false, 97, rfl, by kernel_rfl, rfl, by simp, fun v h => h⟩, ?_⟩
          exact .inl ⟨by kernel_rfl, fun L a1 w1 n h => ⟨_, rfl, run_loadA 30 (.tmp 100) ⟨gs, i, none⟩ rfl Tryz.isAgg30 (h.dep n 36 100 (by kernel_rfl) rfl) ((Row.later rs h.inv).cell hu0)⟩⟩
        · refine ⟨.inr ⟨33, false, 97, rfl, by kernel_rfl, rfl, by simp, fun v h => h⟩, ?_⟩
          refine .inl ⟨by kernel_rfl, fun L a1 w1 n h => ⟨.pointer (some ⟨g1, 1, none⟩), rfl, ?_⟩⟩
          have e0 : a1.eval (.tmp 1) = _ := h.var n 1 (by kernel_rfl)
          unfold execOp
          simp only [e0]
          go_simp
        · refine ⟨.inr ⟨33, false, 97, rfl, by kernel_rfl, rfl, by simp, fun v h => h⟩, ?_⟩
          exact .inl ⟨by kernel_rfl, fun L a1 w1 n h => ⟨_, rfl, run_loadP 24 (.tmp 102) g1 1 27 [.int .u8 kd] ids rest _ rfl (h.dep n 38 102 (by kernel_rfl) rfl) (Row.later rA h.inv) rfl Tryz.underlying24 rfl hidz.out⟩⟩
        · refine ⟨.inr ⟨33, false, 97, rfl, by kernel_rfl, rfl, by simp, fun v h => h⟩, ?_⟩
          refine .inl ⟨by kernel_rfl, fun L a1 w1 n h => ⟨.pointer (some ⟨g1, 9, none⟩), rfl, ?_⟩⟩
          have e0 : a1.eval (.tmp 1) = _ := h.var n 1 (by kernel_rfl)
          unfold execOp
          simp only [e0]
          go_simp
        · refine ⟨.inr ⟨33, false, 97, rfl, by kernel_rfl, rfl, by simp, fun v h => h⟩, ?_⟩
          exact .inl ⟨by kernel_rfl, fun L a1 w1 n h => ⟨_, rfl, run_loadA 25 (.tmp 104) ⟨g1, 9, none⟩ rfl Tryz.isAgg25 (h.dep n 40 104 (by kernel_rfl) rfl) ((Row.later r1 h.inv).cell h9.out)⟩⟩
        · refine ⟨.inr ⟨33, false, 97, rfl, by kernel_rfl, rfl, by simp, fun v h => h⟩, ?_⟩
          refine .inl ⟨by kernel_rfl, fun L a1 w1 n h => ⟨.pointer (some ⟨g1, 8, none⟩), rfl, ?_⟩⟩
          have e0 : a1.eval (.tmp 1) = _ := h.var n 1 (by kernel_rfl)
          unfold execOp
          simp only [e0]
          go_simp
        · refine ⟨.inr ⟨33, false, 97, rfl, by kernel_rfl, rfl, by simp, fun v h => h⟩, ?_⟩
          exact .inl ⟨by kernel_rfl, fun L a1 w1 n h => ⟨_, rfl, run_loadA 25 (.tmp 106) ⟨g1, 8, none⟩ rfl Tryz.isAgg25 (h.dep n 42 106 (by kernel_rfl) rfl) ((Row.later r1 h.inv).cell h8.out)⟩⟩
        · refine ⟨.inr ⟨33, false, 97, rfl, by kernel_rfl, rfl, by simp, fun v h => h⟩, ?_⟩
          refine .inr fun L a1 w1 n h K hK => ?_
          have e0 : a1.eval (.tmp 101) = .pointer p := h.dep n 37 101 (by kernel_rfl) rfl
          have e1 : a1.eval (.tmp 103) = .agg ids.toArray := h.dep n 39 103 (by kernel_rfl) rfl
          have e2 : a1.eval (.tmp 105) = .slice E l d := h.dep n 41 105 (by kernel_rfl) rfl
          have e3 : a1.eval (.tmp 107) = .slice A m c := h.dep n 43 107 (by kernel_rfl) rfl
          refine st_call 16 _ _ #[.pointer p, .agg ids.toArray, .slice E l d, .slice A m c] rfl Tryz.call16 ?_ (Hids.out ▸ noCheck w1 p q E A l d m c (hv.later h.inv)) ?_
          · simp only [List.map_toArray, List.map_cons, List.map_nil, e0, e1, e2, e3]
          · rintro e w3 ⟨rfl, b9⟩
            exact ⟨_, rfl, hK _ w3 rfl (h.inv.trans (b9.mono h.inv.size))⟩
        · refine ⟨.inl rfl, ?_⟩
          exact .inl ⟨by kernel_rfl, fun L a1 w1 n h => ⟨_, rfl, run_pickF (.tmp 97) _ _ rfl (h.dep n 33 97 (by kernel_rfl) rfl) (h.dep n 44 108 (by kernel_rfl) rfl)⟩⟩
      case he8 =>
      intro V w8 hV hJ
      have b8 : Below w7.heap.size w7 w8 := hJ
      have z80 : V 45 = .bool false := hV 45 _ rfl
      have rA := Row.later rA b8
      have r1 := Row.later r1 b8
      have r2 := Row.later r2 b8
      have rs := Row.later rs b8
      have hv := hv.later b8
      have hB := hB.trans (b8.mono hB.size)
      clear hV hJ
      simp only [putOps, List.setIfInBounds_toArray, List.set_cons_succ, List.set_cons_zero, Nat.reduceAdd]
      rw [z80]
      clear z80
      refine hK8 _ _ ?_
      go_wp2
      go_roundw
      case rel => exact ⟨i + 1, by omega, by go_num, r1, r2, rs, hB⟩
      case measure => simp [intOf]; omega
    · obtain rfl : i = 2 := by omega
      go_wp2_with fail
      refine (bawake_any wr (hTw.out.later hB)).mono ?_
      rintro en w6 ⟨rfl, b6⟩
      go_wp2_with fail
      go_ret
      exact ⟨rfl, hB.trans (b6.mono hB.size)⟩
end Go.Proofs.YtooooncmjhcdbaaGreatDoor

/-
  From the readings of the box laws' arguments to the walks' words: an act; acts. Own work.
-/
namespace Go.Proofs.YtooooncmjhcdbaaGreatDoor
open Go.RowKit Go.Maps Go.ChangeMaps Go.ChangeShapes Go.WideShapes
/-- What is known of an act that came in. -/
structure BOk (w : World) (B : Nat) (a : BAct) : Prop where
  had : Bs w B a.A a.m a.ad
  hadb : IsBy a.ad
  htx : Bs w B a.E a.l a.tx
  htxb : IsBy a.tx
  hmc : a.m ≤ a.c
  hld : a.l ≤ a.d
  hq : ∀ x ∈ a.q.l, isI x
  hn : isI a.n
  hat : 0 ≤ a.at_ ∧ a.at_ < 256
  hby : 0 ≤ a.by_ ∧ a.by_ < 256
section
variable {H : Type} {enc : TypeId × Value → H} {w : World} {spare : Nat → Bool} {held : Bool}
instance : Inhabited BAct := ⟨⟨0, ⟨0, 0, 0, 0, 0, 0⟩, 0, none, 0, 0, none, 0, 0, 0, 0, [], []⟩⟩
/-- A field of a struct that was read. -/
theorem field_at {n off k : Nat} {t : TypeId} {fs : Array Field} {cs : List Value} {xs : List (DataW H × List MemPlace)} (hlen : xs.length = fs.size)
    (hf : ∀ (i : Nat) (f : Field), fs[i]? = some f → DataW.trod enc Tryz.prog w 0 spare held n f.type ((cs.drop f.offset).take (Tryz.prog.cellsOf f.type)) = xs[i]?)
    (i : Nat) (hi : fs[i]?.map (fun f => (f.offset, f.type)) = some (off, t)) (h1 : Tryz.prog.cellsOf t = k) : ∃ x, DataW.trod enc Tryz.prog w 0 spare held n t ((cs.drop off).take k) = some x := by
  obtain ⟨f, hfi, hft⟩ := Option.map_eq_some_iff.1 hi
  injection hft with h2 h3
  have hlt : i < xs.length := by rw [hlen]; exact (Array.getElem?_eq_some_iff.1 hfi).1
  have h := hf i f hfi
  rw [h2, h3, h1, List.getElem?_eq_getElem hlt] at h
  exact ⟨_, h⟩
theorem field_one {n off : Nat} {t : TypeId} {fs : Array Field} {cs : List Value} {xs : List (DataW H × List MemPlace)} (hlen : xs.length = fs.size)
    (hf : ∀ (i : Nat) (f : Field), fs[i]? = some f → DataW.trod enc Tryz.prog w 0 spare held n f.type ((cs.drop f.offset).take (Tryz.prog.cellsOf f.type)) = xs[i]?)
    (i : Nat) (hi : fs[i]?.map (fun f => (f.offset, f.type)) = some (off, t)) (h1 : Tryz.prog.cellsOf t = 1) (ho : off < cs.length) : ∃ v x, cs[off]? = some v ∧ DataW.trod enc Tryz.prog w 0 spare held n t [v] = some x := by
  obtain ⟨x, h⟩ := field_at hlen hf i hi h1
  have e : (cs.drop off).take 1 = [cs[off]] := by
    rw [List.drop_eq_getElem_cons ho]; rfl
  rw [e] at h
  exact ⟨_, _, List.getElem?_eq_getElem ho, h⟩
theorem one_of {α : Type} {l : List α} {k : Nat} {v : α} (h : (l.drop k).take 1 = [v]) : l[k]? = some v := by
  have := congrArg (fun x => x[0]?) h
  simpa [List.getElem?_take, List.getElem?_drop] using this
set_option maxRecDepth 100000 in
/-- An act, as it was read. -/
theorem open_bact {fuel : Nat} {cs : List Value} {x : DataW H × List MemPlace} (h : DataW.trod enc Tryz.prog w 0 spare held fuel 27 cs = some x) : ∃ q : BAct, cs = q.cells ∧ BOk w w.heap.size q := by
  obtain ⟨xs, n, _, rfl, hl, hlen, hf⟩ := DataW.trod_struct (fs := Tryz.prog.fieldsOf 27) Tryz.underlying27 h
  rw [show Tryz.prog.cellsOf 27 = 12 by kernel_rfl] at hl
  obtain ⟨v0, x0, g0, h0⟩ := field_one hlen hf 0 (show (Tryz.prog.fieldsOf 27)[0]?.map (fun f => (f.offset, f.type)) = some (0, 5) by kernel_rfl) (by kernel_rfl) (by omega)
  obtain ⟨x1, h1⟩ := field_at hlen hf 1 (show (Tryz.prog.fieldsOf 27)[1]?.map (fun f => (f.offset, f.type)) = some (1, 24) by kernel_rfl) (show _ = 6 by kernel_rfl)
  obtain ⟨v2, x2, g2, h2⟩ := field_one hlen hf 2 (show (Tryz.prog.fieldsOf 27)[2]?.map (fun f => (f.offset, f.type)) = some (7, 3) by kernel_rfl) (by kernel_rfl) (by omega)
  obtain ⟨v3, x3, g3, h3⟩ := field_one hlen hf 3 (show (Tryz.prog.fieldsOf 27)[3]?.map (fun f => (f.offset, f.type)) = some (8, 25) by kernel_rfl) (by kernel_rfl) (by omega)
  obtain ⟨v4, x4, g4, h4⟩ := field_one hlen hf 4 (show (Tryz.prog.fieldsOf 27)[4]?.map (fun f => (f.offset, f.type)) = some (9, 25) by kernel_rfl) (by kernel_rfl) (by omega)
  obtain ⟨v5, x5, g5, h5⟩ := field_one hlen hf 5 (show (Tryz.prog.fieldsOf 27)[5]?.map (fun f => (f.offset, f.type)) = some (10, 5) by kernel_rfl) (by kernel_rfl) (by omega)
  obtain ⟨v6, x6, g6, h6⟩ := field_one hlen hf 6 (show (Tryz.prog.fieldsOf 27)[6]?.map (fun f => (f.offset, f.type)) = some (11, 5) by kernel_rfl) (by kernel_rfl) (by omega)
  obtain ⟨k, e0, _, hk⟩ := DataW.trod_int Tryz.underlying5 h0
  obtain ⟨a, b, c, d, e, f, e1, i1, i2, i3, i4, i5, i6⟩ := open_id h1
  obtain ⟨z, e2, _, hz⟩ := DataW.trod_int Tryz.underlying3 h2
  obtain ⟨A, m, cc, ys, e3, hb3, hy3, hc3, _⟩ := trod_bs Tryz.underlying25 Tryz.underlying5 (by kernel_rfl) h3
  obtain ⟨E, l, dd, zs, e4, hb4, hy4, hc4, _⟩ := trod_bs Tryz.underlying25 Tryz.underlying5 (by kernel_rfl) h4
  obtain ⟨k5, e5, _, hk5⟩ := DataW.trod_int Tryz.underlying5 h5
  obtain ⟨k6, e6, _, hk6⟩ := DataW.trod_int Tryz.underlying5 h6
  refine ⟨⟨k, ⟨a, b, c, d, e, f⟩, z, A, m, cc, E, l, dd, k5, k6, ys, zs⟩, ?_, ⟨hb3, hy3, hb4, hy4, hc3, hc4, fun x hx => ?_, wf_i64 hz, ?_, ?_⟩⟩
  · simp only [List.cons.injEq, and_true] at e0 e2 e3 e4 e5 e6
    subst e0 e2 e3 e4 e5 e6
    have g1 : ∀ j, j < 6 → cs[1 + j]? = (vk .i64 [a, b, c, d, e, f])[j]? := fun j hj => by
      rw [← e1, List.getElem?_take, if_pos hj, List.getElem?_drop]
    have p0 := g1 0 (by decide)
    have p1 := g1 1 (by decide)
    have p2 := g1 2 (by decide)
    have p3 := g1 3 (by decide)
    have p4 := g1 4 (by decide)
    have p5 := g1 5 (by decide)
    match cs, hl with
    | [u0, u1, u2, u3, u4, u5, u6, u7, u8, u9, u10, u11], _ =>
      have r0 : u1 = .int .i64 a := Option.some.inj p0
      have r1 : u2 = .int .i64 b := Option.some.inj p1
      have r2 : u3 = .int .i64 c := Option.some.inj p2
      have r3 : u4 = .int .i64 d := Option.some.inj p3
      have r4 : u5 = .int .i64 e := Option.some.inj p4
      have r5 : u6 = .int .i64 f := Option.some.inj p5
      simp at g0 g2 g3 g4 g5 g6
      rw [g0, g2, g3, g4, g5, g6, r0, r1, r2, r3, r4, r5]
  · simp at hx
    rcases hx with rfl | rfl | rfl | rfl | rfl | rfl <;> assumption
  · show 0 ≤ k5 ∧ k5 < 256
    have := bounds_u8 hk5
    omega
  · show 0 ≤ k6 ∧ k6 < 256
    have := bounds_u8 hk6
    omega
theorem open_bact' {fuel : Nat} {v : Value} {x : DataW H × List MemPlace} (h : DataW.trod enc Tryz.prog w 0 spare held fuel 27 v.cells.toList = some x) : ∃ q : BAct, v.cells.toList = q.cells ∧ BOk w w.heap.size q := open_bact h
/-- Acts in a row. -/
def BActs (w : World) (B : Nat) (A : Option Addr) (n : Nat) (f : Nat → BAct) : Prop :=
  0 < n → ∃ b off, A = some ⟨b, off, none⟩ ∧ b < B ∧ ∀ j, j < n → (∀ i v, (f j).cells[i]? = some v → w.cell? ⟨b, off + j * 12 + i, none⟩ = some v) ∧ BOk w B (f j)
set_option maxRecDepth 100000 in
/-- Acts that came in. -/
theorem trod_bacts {A : Option Addr} {n c : Nat} {d : DataW H} {p : List MemPlace} (h : DataW.Trod enc Tryz.prog w 0 spare held 22 (.slice A n c) d p) :
    ∃ f : Nat → BAct, BActs w w.heap.size A n f := by
  obtain ⟨fuel, hf⟩ := h
  rcases Go.Deep.open_slice Tryz.underlying22 hf with ⟨hcs, _⟩ | ⟨a, len, cap, m, k, D, Pl, hcs, _, hl, hm, hmm, _, hx⟩
  · simp [Value.cells] at hcs
    obtain ⟨rfl, rfl, rfl⟩ := hcs
    exact ⟨fun _ => default, fun h => absurd h (by omega)⟩
  · simp [Value.cells] at hcs
    obtain ⟨rfl, rfl, rfl⟩ := hcs
    have hnm : n ≤ m := by rw [hmm]; split <;> omega
    have key : ∀ i, i < n → ∃ q : BAct, (∀ j v, q.cells[j]? = some v → w.cell? ((a.add (i * 12)).add j) = some v) ∧ BOk w w.heap.size q := by
      intro i hi
      obtain ⟨cs', h1, h2⟩ := hx i (by omega)
      rw [show Tryz.prog.cellsOf 27 = 12 by kernel_rfl] at h1
      obtain ⟨_, hlen, hat⟩ := World.cells?_some h1
      obtain ⟨q, rfl, hb⟩ := open_bact h2
      refine ⟨q, fun j v hj => ?_, hb⟩
      have hj6 := (List.getElem?_eq_some_iff.1 hj).1
      have := hat j hj6
      rw [this]
      exact hj
    obtain ⟨q, hq⟩ := Go.Deep.choose_lt (α := BAct) key
    refine ⟨q, fun h0 => ?_⟩
    obtain ⟨b, off, spot⟩ := a
    have hc0 := (hq 0 h0).1 0 _ rfl
    have hspot : spot = none := by simpa [Addr.add] using World.cell?_spot hc0
    subst hspot
    refine ⟨b, off, rfl, ?_, fun j hj => ?_⟩
    · have := block_lt_of_cell hc0
      simpa [Addr.add] using this
    · obtain ⟨h1, hb⟩ := hq j hj
      refine ⟨fun i v hv => ?_, hb⟩
      have := h1 i v hv
      rw [addr_plain, addr_plain] at this
      exact this
end
end Go.Proofs.YtooooncmjhcdbaaGreatDoor

/-
  The box's laws: regions that turn memory once; what was told; few; pick. Own work.
-/
namespace Go.Proofs.YtooooncmjhcdbaaGreatDoor
open Go.RowKit Go.Maps Go.ChangeMaps
/-! ### A region whose first of the few turns memory; all others leave it -/
def JTu (w0 : World) (R : World → World → Prop) (E : List Nat) (F : Nat → Value → World → Prop) (bs : List Bool) (vs : List Value) (w : World) : Prop :=
  R w0 w ∧ (bs.getD 0 false = false → Below w0.heap.size w0 w) ∧ ∀ k j, E[k]? = some j → bs.getD k false = true → F j (vs.getD k undef) w
section
variable {P : Program} {l : List Oper} {t0 : Array Value} {ds0 : List Deferred} {Sv : Nat → Value → Prop} {E : List Nat} {w0 : World} {R : World → World → Prop} {F : Nat → Value → World → Prop} {L : Array Bool} {a : Act} {w w' : World} {i : Nat} {o : Oper}
theorem JTu.start (vs : List Value) (hR : R w0 w0.drew) : JTu w0 R E F (E.map fun _ => false) vs w0.drew := by
  refine ⟨hR, fun _ => (Below.refl _ _).drew, fun k j hk hx => ?_⟩
  simp [List.getD, List.getElem?_map, hk] at hx
theorem JTu.get (h : Mid l t0 ds0 Sv E (JTu w0 R E F) L a w) (n : Now l i o L) (j d : Nat) (hb : depB l i j = true) (hE : E.contains j = true) (hd : (l[j]?).bind (·.dst) = some d) : F j (a.tmps.getD d undef) w := by
  obtain ⟨k, hk⟩ := List.getElem?_of_mem (List.contains_iff_mem.1 hE)
  have := h.inv.2.2 k j hk (by simp only [bitsOf, List.getD, List.getElem?_map, hk, Option.map_some, Option.getD_some]; exact n.dep hb)
  simpa [slotsOf, List.getD, List.getElem?_map, hk, slotOf, hd] using this
/-- An operation without an effect, of a value that hangs on the few's. -/
theorem JTu.run {Q : Exit → Act → World → Prop} {K : Act → World → Prop} (h : Mid l t0 ds0 Sv E (JTu w0 R E F) L a w) (n : Now l i o L)
    (hK : ∀ v w', Sv i v → JTu w0 R E F (E.map fun j => if j = i then true else L.getD j false) (E.map fun j => if j = i then (if o.dst = none then undef else v) else slotOf l j a.tmps) w' → K (a.put o.dst v) w')
    (d : Nat) (hd : o.dst = some d) (v : Value) (hrun : (execOp a.eval o).run P w = .ok (.value v) w) (hS : Sv i v) (hF : F i v w) (j0 : Nat) (h0 : E[0]? = some j0) (hne : j0 ≠ i) : o.wp P a w K Q := by
  unfold Oper.wp
  rw [hrun]
  refine hK v w hS ⟨h.inv.1, fun hx => h.inv.2.1 ?_, fun k j hk hx => ?_⟩
  · simp only [bitsOf, List.getD, List.getElem?_map, h0, Option.map_some, Option.getD_some, if_neg hne] at hx ⊢
    exact hx
  · have h1 := h.inv.2.2 k j hk
    simp only [bitsOf, slotsOf, List.getD, List.getElem?_map, hk, Option.map_some, Option.getD_some] at h1 hx ⊢
    by_cases e : j = i
    · rw [if_pos e, e, hd, if_neg (by simp)]; exact hF
    · rw [if_neg e] at hx ⊢
      exact h1 hx
/-- The call that turns memory. -/
theorem JTu.call {Q : Exit → Act → World → Prop} {K : Act → World → Prop} (h : Mid l t0 ds0 Sv E (JTu w0 R E F) L a w) (n : Now l i o L) (hR : ∀ {x y z : World}, R x y → R y z → R x z)
    (hK : ∀ v w', Sv i v → JTu w0 R E F (E.map fun j => if j = i then true else L.getD j false) (E.map fun j => if j = i then (if o.dst = none then undef else v) else slotOf l j a.tmps) w' → K (a.put o.dst v) w')
    (h0 : E[0]? = some i) (hno : (E.all fun j => j == i || laterB l i j) = true)
    (d : Nat) (hd : o.dst = some d) (f : FuncId) (args : Array Operand) (ats : Array TypeId) (vals : Array Value) (ho : o.op = .call { callee := .value (.func f), args := args, argTypes := ats })
    (hf : ∀ (xs : Array Value) (w : World), (callFunc f xs).run P w = .ok (.enter f xs) w) (hv : args.map a.eval = vals)
    {Rt : Ending → World → Prop} (hc : Calls P f vals w Rt) (hr : ∀ e w', Rt e w' → ∃ v, e = .returned v ∧ Sv i v ∧ F i v w' ∧ R w w') : o.wp P a w K Q :=
  st_call f args ats vals ho hf hv hc fun e w' hRt => by
    obtain ⟨v, he, hS, hF, hRR⟩ := hr e w' hRt
    refine ⟨v, he, hK v w' hS ⟨hR h.inv.1 hRR, fun hx => ?_, fun k j hk hx => ?_⟩⟩
    · simp [List.getD, List.getElem?_map, h0] at hx
    · simp only [List.getD, List.getElem?_map, hk, Option.map_some, Option.getD_some] at hx ⊢
      by_cases e : j = i
      · rw [if_pos e, e, hd, if_neg (by simp)]; exact hF
      · rw [if_neg e] at hx
        have := List.all_eq_true.1 hno j (List.mem_of_getElem? hk)
        simp [e] at this
        rw [n.later this] at hx
        cases hx
theorem JTu.last {V : Nat → Value} (h : JTu w0 R E F (E.map fun _ => true) (E.map (lastOf l V)) w) (j d : Nat) (hE : E.contains j = true) (hd : (l[j]?).bind (·.dst) = some d) : F j (V j) w := by
  obtain ⟨k, hk⟩ := List.getElem?_of_mem (List.contains_iff_mem.1 hE)
  have := h.2.2 k j hk (by simp only [List.getD, List.getElem?_map, hk, Option.map_some, Option.getD_some])
  simpa [List.getD, List.getElem?_map, hk, lastOf, hd] using this
end
/-! ### What was told -/
/-- Bytes that were told. -/
def TldV (w : World) (v : Value) (xs : List Int) : Prop := ∃ A c, v = .slice A xs.length c ∧ Bs w w.heap.size A xs.length xs ∧ TyB w A
theorem TldV.later {w w' : World} {v : Value} {xs : List Int} (h : TldV w v xs) (hb : Below w.heap.size w w') : TldV w' v xs := by
  obtain ⟨A, c, e, h1, h2⟩ := h
  exact ⟨A, c, e, h1.later hb, h2.later hb⟩
theorem TldV.turn {B : Nat} {w w' : World} {v : Value} {xs : List Int} (h : TldV w v xs) (hb : TurnB B w w') : TldV w' v xs := by
  obtain ⟨A, c, e, h1, h2⟩ := h
  exact ⟨A, c, e, (hb.bs h1 h2).1, (hb.bs h1 h2).2⟩
theorem TldV.grown {B : Nat} {w w' : World} {v r : Value} {n : Nat} {xs : List Int} {vs : List Value} (h : TldV w v xs) (hg : w.grownBy w' r.ownBlock) (ho : w.ownsRow B 25 1 r n vs) : TldV w' v xs := by
  obtain ⟨A, c, e, h1, h2⟩ := h
  have hne : ∀ (k : Nat) (cs : Array Value) (fr : Nat × Nat), w.heap[k]? = some (.cells cs 5 fr) → r.ownBlock ≠ some k := fun k cs fr hc hk => by
    rcases ho.2 with ⟨rfl, _⟩ | ⟨g, cap, cur, rfl, _, hg, _⟩
    · cases hk
    · injection hk with hk
      subst hk
      have := hg.symm.trans hc
      simp at this
  have hq : ∀ (k : Nat) (cs : Array Value) (fr : Nat × Nat), w.heap[k]? = some (.cells cs 5 fr) → w'.heap[k]? = w.heap[k]? := fun k cs fr hc => hg.block k (Array.getElem?_eq_some_iff.1 hc).1 (Ne.symm (hne k cs fr hc))
  refine ⟨A, c, e, ⟨rfl, fun h0 => ?_⟩, fun p hp => ?_⟩
  · obtain ⟨b, o, eA, hl, hc⟩ := h1.2 h0
    obtain ⟨cs, fr, hcs⟩ := h2 _ eA
    refine ⟨b, o, eA, Nat.lt_of_lt_of_le hl hg.size, fun j hj => ?_⟩
    have := hc j hj
    unfold World.cell? at this ⊢
    have e2 := hq b cs fr hcs
    dsimp only at this ⊢
    rw [e2]
    exact this
  · obtain ⟨cs, fr, hc⟩ := h2 p hp
    exact ⟨cs, fr, (hq _ _ _ hc).trans hc⟩
/-- A list of bytes that were told, a row of the law's own. -/
def Told (w : World) (B : Nat) (v : Value) (xss : List (List Int)) : Prop := ∃ vs : List Value, w.ownsRow B 25 1 v xss.length vs ∧ ∀ (i : Nat) (xs : List Int), xss[i]? = some xs → ∃ u : Value, vs[i]? = some u ∧ TldV w u xs
theorem Told.nil (w : World) (B : Nat) : Told w B (.slice none 0 0) [] := ⟨[], ⟨by simp, .inl ⟨rfl, rfl⟩⟩, fun i xs h => by simp at h⟩
theorem own_later {w w' : World} {B e size n : Nat} {v : Value} {xs : List Value} (h : w.ownsRow B e size v n xs) (hb : Below w.heap.size w w') : w'.ownsRow B e size v n xs := own_at h fun k hk => hb.block k (h.lt k hk).2
theorem own_turn {B B' : Nat} {w w' : World} {e size n : Nat} {v : Value} {xs : List Value} (h : w.ownsRow B' e size v n xs) (hb : TurnB B w w') (he : ¬ BoxTy e) : w'.ownsRow B' e size v n xs := by
  obtain ⟨S, hS, hb⟩ := hb
  refine own_at h fun k hk => hb.block k (h.lt k hk).2 fun hkS => ?_
  rcases h.2 with ⟨rfl, _⟩ | ⟨g, cap, cur, rfl, _, hg, _⟩
  · cases hk
  · injection hk with hk
    subst hk
    exact he ((hS _ hkS).2 _ _ _ hg)
theorem notBoxTy : ¬ BoxTy 25 := by unfold BoxTy; decide
theorem notBoxTyA : ¬ BoxTy 27 := by unfold BoxTy; decide
theorem Told.later {w w' : World} {B : Nat} {v : Value} {xss : List (List Int)} (h : Told w B v xss) (hb : Below w.heap.size w w') : Told w' B v xss := by
  obtain ⟨vs, h1, h2⟩ := h
  exact ⟨vs, own_later h1 hb, fun i xs hx => let ⟨u, hu, ht⟩ := h2 i xs hx; ⟨u, hu, ht.later hb⟩⟩
theorem Told.turn {B : Nat} {w w' : World} {v : Value} {xss : List (List Int)} (h : Told w B v xss) (hb : TurnB B w w') : Told w' B v xss := by
  obtain ⟨vs, h1, h2⟩ := h
  exact ⟨vs, own_turn h1 hb notBoxTy, fun i xs hx => let ⟨u, hu, ht⟩ := h2 i xs hx; ⟨u, hu, ht.turn hb⟩⟩
/-- An element of what was told. -/
theorem Told.at {w : World} {B : Nat} {v : Value} {xss : List (List Int)} (h : Told w B v xss) {i : Nat} {xs : List Int} (hx : xss[i]? = some xs) : ∃ g c u, v = .slice (some ⟨g, 0, none⟩) xss.length c ∧ w.cell? ⟨g, i, none⟩ = some u ∧ TldV w u xs := by
  obtain ⟨vs, h1, h2⟩ := h
  obtain ⟨u, hu, ht⟩ := h2 i xs hx
  obtain ⟨g, cap, e, hc⟩ := own_cellB h1 hu
  exact ⟨g, cap, u, e, hc, ht⟩
/-! ### few -/
/-- Few and short. -/
def BAct.few (a : BAct) : Prop := a.m ≤ 300 ∧ a.l ≤ 300
def FewB (m : Nat) (f : Nat → BAct) (nn : Int) (e : Ending) : Prop := ∃ b, e = .returned (.bool b) ∧ (b = true → (m : Int) ≤ nn ∧ ∀ j, j < m → (f j).few)
/-- The cells of acts in a row. -/
def ActC (w : World) (A : Option Addr) (n : Nat) (f : Nat → BAct) : Prop :=
  0 < n → ∃ b off, A = some ⟨b, off, none⟩ ∧ ∀ j, j < n → ∀ i v, (f j).cells[i]? = some v → w.cell? ⟨b, off + j * 12 + i, none⟩ = some v
theorem BActs.c {w : World} {B : Nat} {A : Option Addr} {n : Nat} {f : Nat → BAct} (h : BActs w B A n f) : ActC w A n f := fun h0 => by
  obtain ⟨b, off, e, _, hc⟩ := h h0
  exact ⟨b, off, e, fun j hj => (hc j hj).1⟩
set_option maxRecDepth 100000 in
theorem few_any (w : World) (A : Option Addr) (m c : Nat) (f : Nat → BAct) (nn : Int) (h : ActC w A m f) (hnn : nn ≤ 60) : Calls Tryz.prog 7 #[.slice A m c, .int .i64 nn] w fun e w' => FewB m f nn e ∧ w = w' := by
  by_cases hlong : nn < (m : Int)
  · have hd : decide (nn < (m : Int)) = true := by simp; omega
    go_enter Tryz.func7, Tryz.ntmps7
    go_wp2_with fail
    go_ret
    exact ⟨⟨false, rfl, fun h => by cases h⟩, rfl⟩
  · have hd : decide (nn < (m : Int)) = false := by simp; omega
    have hm : m ≤ 60 := by omega
    have hm2 : (m : Int) ≤ nn := by omega
    have HM := hide hm2
    have H := hide h
    clear h hlong hm2
    go_enter Tryz.func7, Tryz.ntmps7
    go_wp2_with fail
    clear hnn
    go_loopw [5] (fun iv wr => ∃ (i : Nat), i ≤ m ∧ iv = .int .i64 i ∧ wr = w ∧ ∀ j, j < i → (f j).few) (fun iv _ => m - (intOf iv).toNat)
    case atStart => exact ⟨0, by omega, rfl, rfl, fun j hj => absurd hj (by omega)⟩
    case round =>
      obtain ⟨i, him, rfl, rfl, hs⟩ := hrel
      have HS := hide hs
      clear hs
      by_cases hi : i < m
      · obtain ⟨bb, oo, rfl, hcc⟩ := H.out (by omega)
        have hcell := hcc i hi
        clear hcc
        have c8 := hcell 8 _ rfl
        have c9 := hcell 9 _ rfl
        clear hcell
        generalize hq : f i = q at c8 c9
        have HQ := hide hq
        clear hq
        by_cases h1 : (300 : Int) < (q.m : Int)
        · have d1 : decide ((300 : Int) < (q.m : Int)) = true := by simp; omega
          go_wp2_with fail
          go_ret
          exact ⟨⟨false, rfl, fun h => by cases h⟩, rfl⟩
        · have d1 : decide ((300 : Int) < (q.m : Int)) = false := by simp; omega
          by_cases h2 : (300 : Int) < (q.l : Int)
          · have d2 : decide ((300 : Int) < (q.l : Int)) = true := by simp; omega
            go_wp2_with fail
            go_ret
            exact ⟨⟨false, rfl, fun h => by cases h⟩, rfl⟩
          · have d2 : decide ((300 : Int) < (q.l : Int)) = false := by simp; omega
            go_wp2_with fail
            go_roundw
            case rel => exact ⟨i + 1, by omega, by go_num, by first | rfl | trivial, fun j hj => by
              by_cases hji : j = i
              · rw [hji, HQ.out]; exact ⟨by omega, by omega⟩
              · exact HS.out j (by omega)⟩
            case measure => simp [intOf]; omega
      · obtain rfl : i = m := by omega
        go_wp2_with fail
        go_ret
        exact ⟨⟨true, rfl, fun _ => ⟨HM.out, HS.out⟩⟩, rfl⟩
/-! ### pick -/
theorem xor_byB {x y : Int} (hx : 0 ≤ x ∧ x < 256) (hy : 0 ≤ y ∧ y < 256) : 0 ≤ bits .xor .u8 x y ∧ bits .xor .u8 x y < 256 := by
  rw [u8_xor x y hx.1 hx.2 hy.1 hy.2]
  have := Nat.xor_lt_two_pow (x := x.toNat) (y := y.toNat) (n := 8) (by omega) (by omega)
  omega
set_option maxRecDepth 100000 in
/-- A copy is a row of its own. -/
theorem cloneB (A : Option Addr) (n c : Nat) (xs : List Int) (w : World) (h : Bs w w.heap.size A n xs) (hn : n ≤ 140737488355328) :
    Calls Tryz.prog 24 #[.slice A n c] w fun e w' => ∃ A' c', e = .returned (.slice A' n c') ∧ w'.ownsRow w.heap.size 5 1 (.slice A' n c') n (bv xs) ∧ Below w.heap.size w w' := by
  have q : ∀ (w : World) (a : Option Addr) (n c n' c' : Nat), (binOp .eql 25 (.slice a n c) (.slice none n' c')).run Tryz.prog w = .ok (.bool a.isNone) w := fun w a n c n' c' => Lib.run_eql_slice_nil w _ _ a n c n' c' Tryz.underlying25
  obtain ⟨i0, hi, hz, hsz, hby⟩ := u8_info
  rcases A with _ | ad
  · have h0 : n = 0 := by
      rcases Nat.eq_zero_or_pos n with h0 | h0
      · exact h0
      · obtain ⟨_, _, h, _⟩ := h.2 h0; cases h
    subst h0
    obtain rfl : xs = [] := List.eq_nil_of_length_eq_zero h.1
    go_enter Tryz.func24, Tryz.ntmps24
    go_wp2
    go_ret
    exact ⟨none, 0, rfl, World.ownsRow_nil _ _ _ _, Below.refl _ _⟩
  · have hown := World.ownsRow_lit (base := w.heap.size) (e := 5) (size := 1) w #[] 0 (Nat.le_refl _) (by simp) rfl
    go_enter Tryz.func24, Tryz.ntmps24
    go_wp2_with (at_builtin; refine wpList_append_bs rfl (.tmp 5) (.tmp 6) _ rfl w.heap.size 5 i0 Tryz.underlying25 hi hz hsz hby (.slice (some ⟨w.heap.size, 0, none⟩) 0 0) 0 [] rfl hown w.heap.size (some ad) n c xs rfl (h.below ((Below.refl _ _).alloc (Nat.le_refl _) _)) (by omega) (by simp) ?_; intro v1 w1 hown1 hg1)
    go_ret
    have hb := grown_below ((Below.refl _ _).alloc (Nat.le_refl _) _) hown (Nat.le_refl _) hg1
    rw [Nat.zero_add, List.nil_append] at hown1
    rcases hown1.2 with ⟨rfl, h0⟩ | ⟨g, cap, cur, rfl, _⟩
    · subst h0; exact ⟨none, 0, rfl, hown1, hb⟩
    · exact ⟨some ⟨g, 0, none⟩, cap, rfl, hown1, hb⟩
end Go.Proofs.YtooooncmjhcdbaaGreatDoor

/-
  The box's laws: pick. Own work.
-/
namespace Go.Proofs.YtooooncmjhcdbaaGreatDoor
open Go.RowKit Go.Maps Go.ChangeMaps
theorem bs_up {w : World} {B n : Nat} {A : Option Addr} {xs : List Int} (h : Bs w B A n xs) (hB : B ≤ w.heap.size) : Bs w w.heap.size A n xs :=
  ⟨h.1, fun h0 => let ⟨b, o, e, hl, hc⟩ := h.2 h0; ⟨b, o, e, Nat.lt_of_lt_of_le hl hB, hc⟩⟩
theorem run_xor8 {P : Program} {w : World} {a : Act} {o : Oper} {t u : Nat} {m n : Int} (x y : Operand) (ho : o.op = .binOp .xor t x y u) (hx : a.eval x = .int .u8 m) (hy : a.eval y = .int .u8 n) : (execOp a.eval o).run P w = .ok (.value (.int .u8 (bits .xor .u8 m n))) w := by
  unfold execOp
  simp only [ho, hx, hy]
  go_simp
theorem pick_mod (at_ : Int) (n : Nat) (hn : 0 < n) (h : 0 ≤ at_ ∧ at_ < 256) : ∃ j : Nat, at_.tmod (n : Int) = (j : Int) ∧ j < n := by
  have h1 := Int.tmod_eq_emod_of_nonneg (b := (n : Int)) h.1
  have h2 := Int.emod_nonneg at_ (show (n : Int) ≠ 0 by omega)
  have h3 := Int.emod_lt_of_pos at_ (show (0 : Int) < (n : Int) by omega)
  exact ⟨(at_.tmod (n : Int)).toNat, by rw [h1]; omega, by rw [h1]; omega⟩
theorem szU8 : (Tryz.prog.info? 5).map (·.size) = some 1 := by kernel_rfl
def SPck (gc g3 q cc : Nat) (x by_ : Int) (opn : Nat) (v : Value) : Prop :=
  match opn with
  | 0 | 1 => v = .slice (some ⟨gc, 0, none⟩) (q + 1) cc
  | 2 => v = .int .i64 ((q + 1 : Nat) : Int)
  | 3 => v = .int .i64 (q : Int)
  | 4 | 9 => v = .pointer (some ⟨gc, q, none⟩)
  | 5 => v = .int .u8 x
  | 6 => v = .pointer (some ⟨g3, 11, none⟩)
  | 7 => v = .int .u8 by_
  | 8 => v = .int .u8 (bits .xor .u8 x by_)
  | _ => True

set_option maxRecDepth 100000 in
set_option maxHeartbeats 2000000 in
theorem pick_any (w : World) (B : Nat) (tv : Value) (xss : List (List Int)) (a : BAct) (h : Told w B tv xss) (hl : xss.length ≤ 14) (hx : ∀ xs ∈ xss, xs.length ≤ 400 ∧ IsBy xs) (ha : BOk w w.heap.size a) (hl2 : a.l ≤ 300) :
    Calls Tryz.prog 11 #[tv, .agg a.cells.toArray] w fun e w' => ∃ A c hs, e = .returned (.slice A hs.length c) ∧ Bs w' w'.heap.size A hs.length hs ∧ IsBy hs ∧ hs.length ≤ 400 ∧ Below w.heap.size w w' := by
  obtain ⟨htx, htxb, hat, hby⟩ := (⟨ha.htx, ha.htxb, ha.hat, ha.hby⟩ : _ ∧ _ ∧ _ ∧ _)
  clear ha
  obtain ⟨kd, ⟨q1, q2, q3, q4, q5, q6⟩, nn, A, m, c, E, l, d, at_, by_, ad, tx⟩ := a
  dsimp only at htx htxb hat hby hl2 ⊢
  have h11 : (BAct.cells ⟨kd, ⟨q1, q2, q3, q4, q5, q6⟩, nn, A, m, c, E, l, d, at_, by_, ad, tx⟩)[11]? = some (.int .u8 by_) := rfl
  have h10 : (BAct.cells ⟨kd, ⟨q1, q2, q3, q4, q5, q6⟩, nn, A, m, c, E, l, d, at_, by_, ad, tx⟩)[10]? = some (.int .u8 at_) := rfl
  have h9 : (BAct.cells ⟨kd, ⟨q1, q2, q3, q4, q5, q6⟩, nn, A, m, c, E, l, d, at_, by_, ad, tx⟩)[9]? = some (.slice E l d) := rfl
  have hcl : (BAct.cells ⟨kd, ⟨q1, q2, q3, q4, q5, q6⟩, nn, A, m, c, E, l, d, at_, by_, ad, tx⟩).toArray = (BAct.cells ⟨kd, ⟨q1, q2, q3, q4, q5, q6⟩, nn, A, m, c, E, l, d, at_, by_, ad, tx⟩).toArray := rfl
  generalize BAct.cells ⟨kd, ⟨q1, q2, q3, q4, q5, q6⟩, nn, A, m, c, E, l, d, at_, by_, ad, tx⟩ = cs at *
  clear hcl
  have H10 := hide h10
  have H9 := hide h9
  have H11 := hide h11
  clear h9 h10 h11
  rcases Nat.eq_zero_or_pos xss.length with h0 | h0
  · obtain ⟨vs, hown, _⟩ := h
    obtain ⟨T, tc, rfl⟩ := own_slB hown
    rw [h0]
    clear hx hown h0 hl
    go_enter Tryz.func11, Tryz.ntmps11
    go_wp2_with (first
      | (with_reducible refine wl_box rfl 27 _ (.agg cs.toArray) cs rfl rfl rfl ?_; intro g3 w1 r3 p3 l3 b3; have c9 := r3.cell H9.out))
    go_ret
    refine ⟨E, d, tx, by rw [htx.1]; rfl, by rw [htx.1]; exact htx.later b3, htxb, by rw [htx.1]; omega, b3⟩
  · obtain ⟨j, hP, hj⟩ := pick_mod at_ xss.length h0 hat
    obtain ⟨g, tc, u, rfl, hcell, A1, c1, rfl, hb1, ht1⟩ := h.at (List.getElem?_eq_getElem hj)
    obtain ⟨hxl, hxb⟩ := hx _ (List.getElem_mem hj)
    generalize xss[j] = xs at *
    clear hx h ht1
    generalize hnl : xss.length = nl at *
    clear hnl
    have hjI : (j : Int) < (nl : Int) := by omega
    have hnI : ¬ (nl : Int) = 0 := by omega
    have hn0 : ¬ nl = 0 := by omega
    have hnp : (0 : Int) < (nl : Int) := by omega
    have hnm : (nl : Int) ≤ 14 := by omega
    go_enter Tryz.func11, Tryz.ntmps11
    go_wp2_with (first
      | (with_reducible refine wl_box rfl 27 _ (.agg cs.toArray) cs rfl rfl rfl ?_; intro g3 w1 r3 p3 l3 b3; have c10 := r3.cell H10.out; have hcell := (b3.cell (p := ⟨g, j, none⟩) (block_lt_of_cell hcell)).trans hcell))
    refine (cloneB A1 xs.length c1 xs w1 (hb1.later b3) (by omega)).mono ?_
    rintro e w2 ⟨A2, c2, rfl, own2, b2⟩
    have B2 := b3.trans (b2.mono b3.size)
    have r3 := r3.later b2
    rcases Nat.eq_zero_or_pos xs.length with hz | hz
    · rw [hz] at own2 ⊢
      have hnil : xs = [] := List.eq_nil_of_length_eq_zero hz
      go_wp2_with fail
      go_ret
      exact ⟨A2, c2, [], rfl, ⟨rfl, fun h => absurd h (by decide)⟩, (fun _ h => by cases h), by decide, B2⟩
    · obtain ⟨q, hq⟩ : ∃ q, xs.length = q + 1 := ⟨xs.length - 1, by omega⟩
      rw [hq] at own2 ⊢
      obtain ⟨gc, cap, cur, hv, hgB, hg, hmc, hcm, hsz, htk⟩ := own2.2.resolve_left (by rintro ⟨_, h0⟩; omega)
      injection hv with hv1 hv2 hv3
      subst hv1
      subst hv3
      rw [Nat.mul_one] at htk hsz
      have rc : Row w2 5 gc cur.toList := by unfold Row; rw [hg]
      have hcL : cur.toList.length = c2 := by simpa using hsz
      have hqL : q < cur.toList.length := by omega
      obtain ⟨x, hxe⟩ : ∃ x, x = xs.getD q 0 := ⟨_, rfl⟩
      have hx0 : 0 ≤ x ∧ x < 256 := by
        rw [hxe, List.getD, List.getElem?_eq_getElem (show q < xs.length by omega)]
        exact hxb _ (by simp)
      have hcq : cur.toList[q]? = some (.int .u8 x) := by
        have e : (cur.toList.take (q + 1))[q]? = (bv xs)[q]? := by rw [htk]
        rw [List.getElem?_take, if_pos (Nat.lt_succ_self q)] at e
        rw [e, hxe]
        simp [bv, List.getD, List.getElem?_eq_getElem (show q < xs.length by omega)]
      have hgp : (0 : Int) < ((q + 1 : Nat) : Int) := by omega
      have hqI : (q : Int) ≤ 1000000 := by omega
      have h11 := H11.out
      have htk2 := hide htk
      have Hxe := hide hxe
      clear hxe htk hg own2 hsz
      generalize cur.toList = L0 at *
      have Hq := hide hq
      clear hq
      go_wp2_with fail
      rename_i K1 hK1
      refine wp_region_vals [10] (SPck gc g3 q c2 x by_) (JOne w2 (fun wq => Row wq 5 gc (L0.set q (.int .u8 (bits .xor .u8 x by_))) ∧ ∃ w1, Below w2.heap.size w2 w1 ∧ Only gc w1 wq)) (by kernel_rfl) (by kernel_rfl) (by kernel_rfl) (by kernel_rfl) (by kernel_rfl) (JOne.start _ _ _) ?obs1 ?he1
      case obs1 =>
        refine ⟨?_, ?_, ?_, ?_, ?_, ?_, ?_, ?_, ?_, ?_, ?_, trivial⟩
        · exact .inl ⟨by kernel_rfl, fun L a1 w1 n h => ⟨_, rfl, run_move (.tmp 5) rfl (h.var n 5 (by kernel_rfl))⟩⟩
        · exact .inl ⟨by kernel_rfl, fun L a1 w1 n h => ⟨_, rfl, run_move (.tmp 5) rfl (h.var n 5 (by kernel_rfl))⟩⟩
        · exact .inl ⟨by kernel_rfl, fun L a1 w1 n h => ⟨_, rfl, run_lenSl2 25 5 Tryz.underlying25 (.tmp 25) rfl (h.dep n 1 25 (by kernel_rfl) rfl)⟩⟩
        · exact .inl ⟨by kernel_rfl, fun L a1 w1 n h => ⟨_, rfl, run_sub1 (.tmp 26) rfl (h.dep n 2 26 (by kernel_rfl) rfl) hqI⟩⟩
        · exact .inl ⟨by kernel_rfl, fun L a1 w1 n h => ⟨_, rfl, run_indexSl0 25 (.tmp 24) (.tmp 27) 5 gc (q + 1) c2 q rfl Tryz.underlying25 Tryz.sizeOf5 (h.dep n 0 24 (by kernel_rfl) rfl) (h.dep n 3 27 (by kernel_rfl) rfl) (Nat.lt_succ_self q)⟩⟩
        · exact .inl ⟨by kernel_rfl, fun L a1 w1 n h => ⟨_, rfl, run_loadA 5 (.tmp 28) ⟨gc, q, none⟩ rfl Tryz.isAgg5 (h.dep n 4 28 (by kernel_rfl) rfl) ((Row.later rc (h.inv.1 ((bits_at rfl).trans (n.later (by kernel_rfl) : L.getD 10 false = false)))).cell hcq)⟩⟩
        · refine .inl ⟨by kernel_rfl, fun L a1 w1 n h => ⟨.pointer (some ⟨g3, 11, none⟩), rfl, ?_⟩⟩
          have e0 : a1.eval (.tmp 3) = _ := h.var n 3 (by kernel_rfl)
          unfold execOp
          simp only [e0]
          go_simp
        · exact .inl ⟨by kernel_rfl, fun L a1 w1 n h => ⟨_, rfl, run_loadA 5 (.tmp 30) ⟨g3, 11, none⟩ rfl Tryz.isAgg5 (h.dep n 6 30 (by kernel_rfl) rfl) ((Row.later r3 (h.inv.1 ((bits_at rfl).trans (n.later (by kernel_rfl) : L.getD 10 false = false)))).cell (j := 11) h11)⟩⟩
        · exact .inl ⟨by kernel_rfl, fun L a1 w1 n h => ⟨_, rfl, run_xor8 (.tmp 29) (.tmp 31) rfl (h.dep n 5 29 (by kernel_rfl) rfl) (h.dep n 7 31 (by kernel_rfl) rfl)⟩⟩
        · exact .inl ⟨by kernel_rfl, fun L a1 w1 n h => ⟨_, rfl, run_indexSl0 25 (.tmp 24) (.tmp 27) 5 gc (q + 1) c2 q rfl Tryz.underlying25 Tryz.sizeOf5 (h.dep n 0 24 (by kernel_rfl) rfl) (h.dep n 3 27 (by kernel_rfl) rfl) (Nat.lt_succ_self q)⟩⟩
        · refine .inr fun L a1 w1 n h K hK => ?_
          have no6 : L.getD 10 false = false := n.not_yet
          have b1 := h.inv.1 ((bits_at rfl).trans no6)
          have y0 : a1.eval (.tmp 33) = .pointer (some ⟨gc, q, none⟩) := h.dep n 9 33 (by kernel_rfl) rfl
          have y1 : a1.eval (.tmp 32) = .int .u8 (bits .xor .u8 x by_) := h.dep n 8 32 (by kernel_rfl) rfl
          refine st_store 5 (.tmp 33) (.tmp 32) gc q 5 _ (.int .u8 (bits .xor .u8 x by_)) rfl szU8 y0 y1 (Row.later rc b1) hqL rfl ?_
          intro wq rq oq
          exact hK undef wq trivial ⟨fun h0 => absurd (show true = false from h0) (by decide), fun _ => ⟨rq, w1, b1, oq⟩⟩
      case he1 =>
        intro V w6 hV hJ
        obtain ⟨rq, w6a, b6a, o6⟩ := hJ.2 rfl
        clear hV hJ
        simp only [putOps, List.setIfInBounds_toArray, List.set_cons_succ, List.set_cons_zero, Nat.reduceAdd]
        refine hK1 _ _ ?_
        go_wp2_with fail
        go_ret
        have hy := xor_byB hx0 hby
        have hlen : (xs.set q (bits .xor .u8 x by_)).length = q + 1 := by rw [List.length_set]; exact Hq.out
        have hB6 : Below w.heap.size w w6 := B2.trans ((b6a.mono (Nat.le_refl _)).mono B2.size |>.trans (o6.below (Nat.le_trans (Nat.le_trans b3.size (Nat.le_refl _)) hgB)))
        refine ⟨some ⟨gc, 0, none⟩, c2, xs.set q (bits .xor .u8 x by_), by rw [hlen]; rfl, ⟨rfl, fun _ => ⟨gc, 0, rfl, rq.lt, fun j hj => ?_⟩⟩, fun y hy2 => ?_, by rw [hlen]; have := Hq.out; omega, hB6⟩
        · rw [Nat.zero_add]
          have e : ((L0.set q (.int .u8 (bits .xor .u8 x by_))).take (q + 1))[j]? = (bv (xs.set q (bits .xor .u8 x by_)))[j]? := by
            rw [← bv_set, ← htk2.out, List.take_set]
          rw [List.getElem?_take, if_pos (by omega)] at e
          refine rq.cell ?_
          rw [e]
          clear e hB6 hy hlen
          generalize xs.set q (bits .xor .u8 x by_) = ys at *
          simp [bv, List.getD, List.getElem?_eq_getElem hj]
        · rcases List.mem_or_eq_of_mem_set hy2 with h1 | h1
          · exact hxb y h1
          · rw [h1]; exact hy
end Go.Proofs.YtooooncmjhcdbaaGreatDoor

/-
  The laws of what an ideal box opens and finds right: their own words. Own work.
-/
namespace Go.Proofs.YtooooncmjhcdbaaGreatDoor
open Go.RowKit Go.Maps Go.ChangeMaps
theorem run_indexSn {P : Program} {w : World} {a : Act} {o : Oper} (t : TypeId) (x y : Operand) (e : TypeId) (b off len cap i n : Nat)
    (ho : o.op = .indexAddr t x y) (hu : P.underlying t = some (.slice e)) (hs : ∀ w, (sizeOf e).run P w = .ok n w) (hx : a.eval x = .slice (some ⟨b, off, none⟩) len cap) (hy : a.eval y = .int .i64 i) (hi : i < len) :
    (execOp a.eval o).run P w = .ok (.value (.pointer (some ⟨b, off + i * n, none⟩))) w := by
  unfold execOp
  simp only [ho, hx, hy]
  go_simp
theorem run_loadC {P : Program} {o : Oper} {a : Act} {w : World} (ty : TypeId) (x : Operand) (g off : Nat) (M : List Value) (d : TypeDesc) (ho : o.op = .load ty x) (hx : a.eval x = .pointer (some ⟨g, off, none⟩)) (h : ∀ j v, M[j]? = some v → w.cell? ⟨g, off + j, none⟩ = some v)
    (hu : P.underlying ty = some d) (hd : (match d with | .struct _ | .array _ _ => true | _ => false) = true) (hi : (P.info? ty).map (·.size) = some M.length) : (execOp a.eval o).run P w = .ok (.value (.agg M.toArray)) w := by
  unfold execOp
  simp only [ho, hx, Instr.loadAt, Instr.sureAddr, Sem.run_bind, Sem.run_pure, Result.andThen_ok, run_loadVar_cells ty g off M d h hu hd hi]
/-- Bytes are the same just when they read so. -/
theorem beq_by {xs ys : List Int} (hx : IsBy xs) (hy : IsBy ys) : (Lib.bytesOf xs == Lib.bytesOf ys) = decide (xs = ys) := by
  have h := str_same hx hy
  rw [Lib.strOfNums_toList, Lib.strOfNums_toList] at h
  rw [Bool.eq_iff_iff]
  simp only [beq_iff_eq, decide_eq_true_eq]
  exact h
/-! ### Seal and Mark, once more: what they tell as one -/
def slX (ts : List SEn) (q : Kid) (nn : Int) (tx : List Int) : List Int := if okU q nn = true then tokL ts.length (tx.length + 16) else []
def slT (ts : List SEn) (q : Kid) (nn : Int) (ad tx : List Int) : List SEn := if okU q nn = true then ts ++ [⟨q, nn, ad, tx⟩] else ts
def slK (q : Kid) (nn : Int) : Int := if okU q nn = true then 0 else 1
def mkX (ms : List MEn) (q : Kid) : List Int := if okU q 0 = true then tokL ms.length 32 else []
def mkT (ms : List MEn) (q : Kid) (tx : List Int) : List MEn := if okU q 0 = true then ms ++ [⟨q, tx⟩] else ms
theorem TldV.nil (w : World) : TldV w (.slice none 0 0) [] := ⟨none, 0, rfl, Bs.nil_, fun p hp => by cases hp⟩
theorem SealRes.v {w w' : World} {B g gl b : Nat} {D : DU} {ts : List SEn} {ms : List MEn} {q : Kid} {nn : Int} {ad tx : List Int} {e : Ending} (h : SealRes w B g gl b D ts ms q nn ad tx e w') (hX : BxI w B g gl b D ts ms) :
    ∃ u, e = .returned (.tuple #[u, .int .i64 (slK q nn)]) ∧ TldV w' u (slX ts q nn tx) ∧ (∃ D', BxI w' B g gl b D' (slT ts q nn ad tx) ms) ∧ TurnB B w w' := by
  unfold SealRes at h
  unfold slK slX slT
  by_cases hk : okU q nn = true
  · simp only [if_pos hk] at h ⊢
    obtain ⟨A9, c9, kl, rfl, h1, h2, h3, h4, h5⟩ := h
    have hl : (tokL ts.length (tx.length + 16)).length = tx.length + 16 := tokL_len (by omega)
    exact ⟨_, rfl, ⟨A9, c9, by rw [hl], by rw [hl]; exact h1, h3⟩, ⟨_, h4⟩, h5⟩
  · simp only [if_neg hk] at h ⊢
    obtain ⟨rfl, hb⟩ := h
    exact ⟨_, rfl, TldV.nil _, ⟨D, hX.later hb⟩, TurnB.of hb⟩
theorem MarkRes.v {w w' : World} {B g gl b : Nat} {D : DU} {ts : List SEn} {ms : List MEn} {q : Kid} {tx : List Int} {e : Ending} (h : MarkRes w B g gl b D ts ms q tx e w') (hX : BxI w B g gl b D ts ms) :
    ∃ u, e = .returned (.tuple #[u, .int .i64 (slK q 0)]) ∧ TldV w' u (mkX ms q) ∧ (∃ D', BxI w' B g gl b D' ts (mkT ms q tx)) ∧ TurnB B w w' := by
  unfold MarkRes at h
  unfold slK mkX mkT
  by_cases hk : okU q 0 = true
  · simp only [if_pos hk] at h ⊢
    obtain ⟨A9, c9, rfl, h1, h2, h3, h4, h5⟩ := h
    have hl : (tokL ms.length 32).length = 32 := tokL_len (by omega)
    exact ⟨_, rfl, ⟨A9, c9, by rw [hl], by rw [hl]; exact h1, h3⟩, ⟨_, h4⟩, h5⟩
  · simp only [if_neg hk] at h ⊢
    obtain ⟨rfl, hb⟩ := h
    exact ⟨_, rfl, TldV.nil _, ⟨D, hX.later hb⟩, TurnB.of hb⟩
/-! ### What is opened was sealed -/
theorem fdS_at {ts : List SEn} {bs : List Int} {s : SEn} (h : fdS ts bs = some s) : ∃ j, ts[j]? = some s ∧ bs = tokL j (s.tx.length + 16) := by
  unfold fdS at h
  split at h
  · cases h
  · obtain ⟨a, ha, hb⟩ := Option.bind_eq_some_iff.1 h
    split at hb
    · next he => injection hb with hb; subst hb; exact ⟨_, ha, he⟩
    · cases hb
theorem fdM_at {ts : List MEn} {bs : List Int} {s : MEn} (h : fdM ts bs = some s) : ∃ j, ts[j]? = some s ∧ bs = tokL j 32 := by
  unfold fdM at h
  split at h
  · cases h
  · obtain ⟨a, ha, hb⟩ := Option.bind_eq_some_iff.1 h
    split at hb
    · next he => injection hb with hb; subst hb; exact ⟨_, ha, he⟩
    · cases hb
theorem opn_ok {ts : List SEn} {q : Kid} {nn : Int} {ad bs : List Int} {l : Nat} (h : opnE q nn l (opT ts q nn ad bs) = 0) :
    ∃ j s, ts[j]? = some s ∧ s.q.l = q.l ∧ s.n = nn ∧ s.ad = ad ∧ bs = tokL j (s.tx.length + 16) ∧ opnX q nn l (opT ts q nn ad bs) = s.tx := by
  unfold opnE at h
  unfold opnX
  split at h
  · next hk =>
    rw [if_pos hk]
    split at h
    · cases h
    · next hl =>
      rw [if_neg hl]
      split at h
      · next hs =>
        unfold opT at hs ⊢
        cases hf : fdS ts bs with
        | none => rw [hf] at hs; cases hs
        | some s =>
          rw [hf] at hs
          dsimp only at hs ⊢
          split at hs
          · next hc =>
            rw [if_pos hc]
            obtain ⟨j, hj, hb⟩ := fdS_at hf
            exact ⟨j, s, hj, hc.1.1, hc.1.2, hc.2, hb, rfl⟩
          · cases hs
      · cases h
  · cases h
theorem opn_no {q : Kid} {nn : Int} {l : Nat} {r : Option (List Int)} (h : opnE q nn l r ≠ 0) : opnX q nn l r = [] := by
  unfold opnE at h
  unfold opnX
  split at h
  · next hk =>
    rw [if_pos hk]
    split at h
    · next hl => rw [if_pos hl]
    · next hl =>
      rw [if_neg hl]
      cases r with
      | none => rfl
      | some x => simp at h
  · next hk => rw [if_neg hk]
/-! ### A box stays while other rows turn -/
theorem BxI.buts {S : List Nat} {w w' : World} {B g gl b : Nat} {D : DU} {ts : List SEn} {ms : List MEn} (h : BxI w B g gl b D ts ms) (hb : ButS S w w') (hS : ∀ k ∈ S, ∃ cs t fr, w.heap[k]? = some (.cells cs t fr) ∧ ¬ BoxTy t) : BxI w' B g gl b D ts ms := by
  have hq : ∀ k t cs fr, w.heap[k]? = some (.cells cs t fr) → BoxTy t → k ∉ S := fun k t cs fr hc ht hk => by
    obtain ⟨cs', t', fr', hc', ht'⟩ := hS k hk
    have := hc.symm.trans hc'
    simp at this
    exact ht' (this.2.1 ▸ ht)
  have ho : ∀ {e n size v xs}, w.ownsRow B e size v n xs → BoxTy e → w'.ownsRow B e size v n xs := fun {e n size v xs} ho he => own_at ho fun k hk => by
    refine hb.block k (ho.lt k hk).2 ?_
    rcases ho.2 with ⟨rfl, _⟩ | ⟨gg, cap, cur, rfl, _, hc, _⟩
    · cases hk
    · injection hk with hk
      subst hk
      exact hq _ _ _ _ hc he
  obtain ⟨⟨v1, v2, q1, q2, q3⟩, q4, q5⟩ := h.led
  refine ⟨Row.butS h.row hb (hq _ _ _ _ h.row (.inl rfl)), ⟨⟨v1, v2, q1.butS hb (hq _ _ _ _ q1 (.inr (.inl rfl))), ho q2 (.inr (.inr (.inl rfl))), ho q3 (.inr (.inr (.inr rfl)))⟩, q4, Nat.le_trans q5 hb.size⟩, h.map.butS hb fun hk => ?_, h.lo, h.sz⟩
  obtain ⟨es, clock, he⟩ := h.map.isMap
  obtain ⟨cs', t', fr', hc', ht'⟩ := hS b hk
  rw [he] at hc'
  cases hc'
theorem own_typed {w : World} {B e size n : Nat} {v : Value} {xs : List Value} (h : w.ownsRow B e size v n xs) : ∀ k ∈ v.ownBlock.toList, ∃ cs fr, w.heap[k]? = some (.cells cs e fr) := by
  intro k hk
  have hk2 : v.ownBlock = some k := by simpa [Option.mem_toList] using hk
  rcases h.2 with ⟨rfl, _⟩ | ⟨gg, cap, cur, rfl, _, hc, _⟩
  · cases hk2
  · injection hk2 with hk2
    subst hk2
    exact ⟨_, _, hc⟩
theorem Told.push {w w' : World} {B : Nat} {tv v' u : Value} {xss : List (List Int)} {xs : List Int} {vs : List Value} (ho : w.ownsRow B 25 1 tv xss.length vs) (h2 : ∀ (i : Nat) (xs : List Int), xss[i]? = some xs → ∃ u : Value, vs[i]? = some u ∧ TldV w u xs) (hu : TldV w u xs)
    (ho' : w'.ownsRow B 25 1 v' (xss.length + 1) (vs ++ [u])) (hg : w.grownBy w' tv.ownBlock) : Told w' B v' (xss ++ [xs]) := by
  have hvl : vs.length = xss.length := by have := ho.1; omega
  refine ⟨vs ++ [u], by rw [List.length_append]; exact ho', fun i ys hi => ?_⟩
  by_cases h : i < xss.length
  · rw [List.getElem?_append_left h] at hi
    obtain ⟨z, hz, ht⟩ := h2 i ys hi
    exact ⟨z, by rw [List.getElem?_append_left (by omega)]; exact hz, ht.grown hg ho⟩
  · rw [List.getElem?_append_right (by omega)] at hi
    have h0 : i - xss.length = 0 := by
      have := (List.getElem?_eq_some_iff.1 hi).1
      simp at this
      omega
    rw [h0] at hi
    simp at hi
    subst hi
    exact ⟨u, by rw [List.getElem?_append_right (by omega), hvl, h0]; rfl, hu.grown hg ho⟩
theorem BOk.below {w w' : World} {B : Nat} {a : BAct} (h : BOk w B a) (hb : Below B w w') : BOk w' B a :=
  ⟨h.had.below hb, h.hadb, h.htx.below hb, h.htxb, h.hmc, h.hld, h.hq, h.hn, h.hat, h.hby⟩
theorem BActs.below {w w' : World} {B n : Nat} {A : Option Addr} {f : Nat → BAct} (h : BActs w B A n f) (hb : Below B w w') : BActs w' B A n f := fun h0 => by
  obtain ⟨b, off, e, hl, hc⟩ := h h0
  exact ⟨b, off, e, hl, fun j hj => ⟨fun i v hv => (hb.cell (p := ⟨b, off + j * 12 + i, none⟩) hl).trans ((hc j hj).1 i v hv), (hc j hj).2.below hb⟩⟩
/-- The first loop's words: sealing. -/
structure LpF (w wr : World) (g gl b g3 : Nat) (cs : List Value) (f : Nat → BAct) (i : Nat) (tv : Value) (xss : List (List Int)) (ts : List SEn) (D : DU) : Prop where
  box : BxI wr w.heap.size g gl b D ts []
  told : Told wr w.heap.size tv xss
  len : xss.length = i
  tl : ts.length ≤ i
  act : Row wr 27 g3 cs
  bel : Below w.heap.size w wr
  good : ∀ s ∈ ts, s.tx.length ≤ 300 ∧ IsBy s.tx ∧ IsBy s.ad
  xg : ∀ xs ∈ xss, xs.length ≤ 400 ∧ IsBy xs
  rel : ∀ (j : Nat) (s : SEn), ts[j]? = some s → ∃ k, k < i ∧ (f k).q.l = s.q.l ∧ (f k).n = s.n ∧ (f k).ad = s.ad ∧ (f k).tx = s.tx ∧ xss[k]? = some (tokL j (s.tx.length + 16))
theorem LpF.step {w wr w8 w5 w6 : World} {g gl b g3 i : Nat} {cs : List Value} {f : Nat → BAct} {tv v' u : Value} {xss : List (List Int)} {ts : List SEn} {D D8 : DU} {vs : List Value} (h : LpF w wr g gl b g3 cs f i tv xss ts D) (hf : (f i).few) (hok : BOk wr w.heap.size (f i))
    (hT : TurnB w.heap.size wr w8) (hX : BxI w8 w.heap.size g gl b D8 (slT ts (f i).q (f i).n (f i).ad (f i).tx) []) (hu : TldV w8 u (slX ts (f i).q (f i).n (f i).tx)) (b5 : Below w8.heap.size w8 w5)
    (ho : w5.ownsRow w.heap.size 25 1 tv xss.length vs) (h2 : ∀ (i : Nat) (xs : List Int), xss[i]? = some xs → ∃ u : Value, vs[i]? = some u ∧ TldV w5 u xs)
    (ho' : w6.ownsRow w.heap.size 25 1 v' (xss.length + 1) (vs ++ [u])) (hg : w5.grownBy w6 tv.ownBlock) : LpF w w6 g gl b g3 cs f (i + 1) v' (xss ++ [slX ts (f i).q (f i).n (f i).tx]) (slT ts (f i).q (f i).n (f i).ad (f i).tx) D8 := by
  have hB6 : ButS tv.ownBlock.toList w5 w6 := ButS.grown hg fun k hk => by simp [hk]
  have hty := own_typed ho
  have hlo : ∀ k ∈ tv.ownBlock.toList, w.heap.size ≤ k := fun k hk => (ho.lt k (by simpa [Option.mem_toList] using hk)).1
  have hBr := h.bel.size
  have bel8 : Below w.heap.size w w8 := h.bel.trans (hT.below hBr)
  have bel5 : Below w.heap.size w w5 := bel8.trans (b5.mono bel8.size)
  have hXl : (slX ts (f i).q (f i).n (f i).tx).length ≤ 400 ∧ IsBy (slX ts (f i).q (f i).n (f i).tx) := by
    unfold slX
    split
    · rw [tokL_len (by omega)]
      have := hf.2
      have := hok.htx.1
      exact ⟨by omega, tokL_by _ _⟩
    · exact ⟨by simp, fun x hx => by cases hx⟩
  refine ⟨(hX.later b5).buts hB6 fun k hk => ?_, Told.push ho h2 (hu.later b5) ho' hg, by rw [List.length_append, h.len]; rfl, ?_, ?_, bel5.trans (hB6.below hlo bel5.size), ?_, ?_, ?_⟩
  · obtain ⟨cs, fr, hc⟩ := hty k hk
    exact ⟨cs, _, fr, hc, notBoxTy⟩
  · unfold slT
    split
    · rw [List.length_append]; have := h.tl; simp; omega
    · have := h.tl; omega
  · refine Row.butS (Row.later (hT.row h.act notBoxTyA) b5) hB6 fun hk => ?_
    obtain ⟨cs, fr, hc⟩ := hty _ hk
    have := (Row.later (hT.row h.act notBoxTyA) b5).symm.trans hc
    simp at this
  · unfold slT
    split
    · intro s hs
      rcases List.mem_append.1 hs with hs | hs
      · exact h.good s hs
      · obtain rfl : s = ⟨(f i).q, (f i).n, (f i).ad, (f i).tx⟩ := by simpa using hs
        exact ⟨by show (f i).tx.length ≤ 300; have := hf.2; have := hok.htx.1; omega, hok.htxb, hok.hadb⟩
    · exact h.good
  · intro xs hx
    rcases List.mem_append.1 hx with hx | hx
    · exact h.xg xs hx
    · obtain rfl : xs = _ := by simpa using hx
      exact hXl
  · have old : ∀ (j : Nat) (s : SEn), ts[j]? = some s → ∃ k, k < i + 1 ∧ (f k).q.l = s.q.l ∧ (f k).n = s.n ∧ (f k).ad = s.ad ∧ (f k).tx = s.tx ∧ (xss ++ [slX ts (f i).q (f i).n (f i).tx])[k]? = some (tokL j (s.tx.length + 16)) := fun j s hj => by
      obtain ⟨k, hk, r1, r2, r3, r4, r5⟩ := h.rel j s hj
      exact ⟨k, by omega, r1, r2, r3, r4, by rw [List.getElem?_append_left (by rw [h.len]; exact hk)]; exact r5⟩
    by_cases hk : okU (f i).q (f i).n = true
    · have e1 : slT ts (f i).q (f i).n (f i).ad (f i).tx = ts ++ [⟨(f i).q, (f i).n, (f i).ad, (f i).tx⟩] := by unfold slT; rw [if_pos hk]
      have e2 : slX ts (f i).q (f i).n (f i).tx = tokL ts.length ((f i).tx.length + 16) := by unfold slX; rw [if_pos hk]
      intro j s hj
      rw [e1] at hj
      by_cases hjt : j < ts.length
      · rw [List.getElem?_append_left hjt] at hj
        exact old j s hj
      · rw [List.getElem?_append_right (by omega)] at hj
        have h0 : j - ts.length = 0 := by
          have := (List.getElem?_eq_some_iff.1 hj).1
          simp at this
          omega
        rw [h0] at hj
        simp at hj
        subst hj
        refine ⟨i, by omega, rfl, rfl, rfl, rfl, ?_⟩
        rw [List.getElem?_append_right (by rw [h.len]; omega), h.len, Nat.sub_self, e2, show j = ts.length by omega]
        rfl
    · have e1 : slT ts (f i).q (f i).n (f i).ad (f i).tx = ts := by unfold slT; rw [if_neg hk]
      rw [e1]
      exact old
end Go.Proofs.YtooooncmjhcdbaaGreatDoor
