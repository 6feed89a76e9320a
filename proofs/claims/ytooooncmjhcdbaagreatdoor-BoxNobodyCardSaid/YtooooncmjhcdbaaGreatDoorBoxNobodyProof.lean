/- Proved: the law BoxNobody (P8.3) answers true and leaves its argument as it read before. For every act; no condition but the tie of the table of keys to the program's text. -/
import Derived.Test.YtooooncmjhcdbaaGreatDoorRows
import Derived.Test.YtooooncmjhcdbaaGreatDoorCards
import Derived.Test.YtooooncmjhcdbaaGreatDoorTie
import Derived.WalkKit
import Derived.ProofKit
import Derived.OpenShut
import Derived.ShutString
import Derived.ChangeOld
import Derived.Below
import Derived.LaidMore
import Derived.Stop.Joined
import Derived.SevenTiedAt
import Derived.Test.YtooooncmjhcdbaaGreatDoorGD
import Derived.Test.YtooooncmjhcdbaaGreatDoorGK
import Derived.Test.YtooooncmjhcdbaaGreatDoorGA
set_option linter.unusedVariables false
set_option linter.unusedSimpArgs false
/-
  A box that no call made: each call. Own work.
-/
namespace Go.Proofs.YtooooncmjhcdbaaGreatDoor
open Go.RowKit Go.Maps Go.ChangeMaps
set_option maxRecDepth 100000 in
set_option maxHeartbeats 1000000 in
theorem noSeal (w : World) (p : Option Addr) (q : Kid) (nn : Int) (A E : Option Addr) (m c l d : Nat) (h : NoBox w p) :
    Calls Tryz.prog 10 #[.pointer p, .agg (vk .i64 q.l).toArray, .int .i64 nn, .slice A m c, .slice E l d] w fun e w' => e = .returned (.tuple #[.slice none 0 0, .int .i64 2]) ∧ Below w.heap.size w w' := by
  have hbu := hide (bUse q nn)
  have hidz := hide (szKid q)
  have husz := hide (szUse q nn)
  have hzl := hide (show (vk .i64 [0, 0, 0, 0, 0, 0, 0]).length = (vk .i64 (useL q nn)).length from rfl)
  have hone := hide (one_vk .i64 (useL q nn))
  have hz0 := zUse
  have HRef := fun w1 (hb : Below w.heap.size w w1) => refuse_no w1 p q nn (h.later hb)
  obtain ⟨us, hus⟩ : ∃ us, us = vk .i64 (useL q nn) := ⟨_, rfl⟩
  obtain ⟨ids, hids⟩ : ∃ ids, ids = vk .i64 q.l := ⟨_, rfl⟩
  rw [← hus] at hbu husz hzl hone HRef
  rw [← hids] at hbu hidz ⊢
  clear hus hids
  generalize vk .i64 [0, 0, 0, 0, 0, 0, 0] = zu at *
  go_enter Tryz.func10, Tryz.ntmps10
  go_wp2_with (first
    | (with_reducible refine wl_box rfl 24 _ (.agg ids.toArray) ids rfl rfl rfl ?_; intro g6 w1 r6 p6 l6 b6)
    | (with_reducible refine wl_load_row (o := ⟨some 14, _, _, _, _, _⟩) rfl 24 (.tmp 6) g6 24 ids _ rfl rfl r6 Tryz.underlying24 rfl hidz.out ?_)
    | (with_reducible refine wl_build rfl 72 [(0, .tmp 14), (1, .tmp 15)] rfl [(0, .agg ids.toArray), (1, .int .i64 nn)] rfl us hbu.out ?_)
    | (with_reducible refine wl_alloc (o := ⟨some 12, _, _, _, _, _⟩) rfl 72 _ zu rfl hz0 rfl ?_; intro g12 w2 r12 p12 l12 b12)
    | (with_reducible refine wl_store_row rfl 72 (.tmp 12) (.tmp 16) g12 72 _ us rfl rfl rfl r12 husz.out hzl.out hone.out ?_; intro w3 r12b o12)
    | (with_reducible refine wl_load_row (o := ⟨some 18, _, _, _, _, _⟩) rfl 72 (.tmp 12) g12 72 us _ rfl rfl r12b Tryz.underlying72 rfl husz.out ?_))
  have B2 := b6.trans (b12.mono b6.size)
  have B3 := B2.trans (o12.below (by have := b6.size; omega))
  refine (HRef w3 B3).mono ?_
  rintro e w4 ⟨rfl, b4⟩
  have B4 := B3.trans (b4.mono B3.size)
  go_wp2_with fail
  go_ret2
  exact ⟨rfl, B4⟩
set_option maxRecDepth 100000 in
set_option maxHeartbeats 1000000 in
theorem noOpen (w : World) (p : Option Addr) (q : Kid) (nn : Int) (A E : Option Addr) (m c l d : Nat) (h : NoBox w p) :
    Calls Tryz.prog 12 #[.pointer p, .agg (vk .i64 q.l).toArray, .int .i64 nn, .slice A m c, .slice E l d] w fun e w' => e = .returned (.tuple #[.slice none 0 0, .int .i64 2]) ∧ Below w.heap.size w w' := by
  have hbu := hide (bUse q nn)
  have hidz := hide (szKid q)
  have husz := hide (szUse q nn)
  have hzl := hide (show (vk .i64 [0, 0, 0, 0, 0, 0, 0]).length = (vk .i64 (useL q nn)).length from rfl)
  have hone := hide (one_vk .i64 (useL q nn))
  have hz0 := zUse
  have HRef := fun w1 (hb : Below w.heap.size w w1) => refuse_no w1 p q nn (h.later hb)
  obtain ⟨us, hus⟩ : ∃ us, us = vk .i64 (useL q nn) := ⟨_, rfl⟩
  obtain ⟨ids, hids⟩ : ∃ ids, ids = vk .i64 q.l := ⟨_, rfl⟩
  rw [← hus] at hbu husz hzl hone HRef
  rw [← hids] at hbu hidz ⊢
  clear hus hids
  generalize vk .i64 [0, 0, 0, 0, 0, 0, 0] = zu at *
  go_enter Tryz.func12, Tryz.ntmps12
  go_wp2_with (first
    | (with_reducible refine wl_box rfl 24 _ (.agg ids.toArray) ids rfl rfl rfl ?_; intro g6 w1 r6 p6 l6 b6)
    | (with_reducible refine wl_load_row (o := ⟨some 14, _, _, _, _, _⟩) rfl 24 (.tmp 6) g6 24 ids _ rfl rfl r6 Tryz.underlying24 rfl hidz.out ?_)
    | (with_reducible refine wl_build rfl 72 [(0, .tmp 14), (1, .tmp 15)] rfl [(0, .agg ids.toArray), (1, .int .i64 nn)] rfl us hbu.out ?_)
    | (with_reducible refine wl_alloc (o := ⟨some 12, _, _, _, _, _⟩) rfl 72 _ zu rfl hz0 rfl ?_; intro g12 w2 r12 p12 l12 b12)
    | (with_reducible refine wl_store_row rfl 72 (.tmp 12) (.tmp 16) g12 72 _ us rfl rfl rfl r12 husz.out hzl.out hone.out ?_; intro w3 r12b o12)
    | (with_reducible refine wl_load_row (o := ⟨some 18, _, _, _, _, _⟩) rfl 72 (.tmp 12) g12 72 us _ rfl rfl r12b Tryz.underlying72 rfl husz.out ?_))
  have B2 := b6.trans (b12.mono b6.size)
  have B3 := B2.trans (o12.below (by have := b6.size; omega))
  refine (HRef w3 B3).mono ?_
  rintro e w4 ⟨rfl, b4⟩
  have B4 := B3.trans (b4.mono B3.size)
  go_wp2_with fail
  go_ret2
  exact ⟨rfl, B4⟩
set_option maxRecDepth 100000 in
theorem noMark (w : World) (p : Option Addr) (q : Kid) (E : Option Addr) (l d : Nat) (h : NoBox w p) :
    Calls Tryz.prog 14 #[.pointer p, .agg (vk .i64 q.l).toArray, .slice E l d] w fun e w' => e = .returned (.tuple #[.slice none 0 0, .int .i64 2]) ∧ Below w.heap.size w w' := by
  have hbu := hide (bUse0 q)
  have hidz := hide (szKid q)
  have HRef := fun w1 (hb : Below w.heap.size w w1) => refuse_no w1 p q 0 (h.later hb)
  obtain ⟨us, hus⟩ : ∃ us, us = vk .i64 (useL q 0) := ⟨_, rfl⟩
  obtain ⟨ids, hids⟩ : ∃ ids, ids = vk .i64 q.l := ⟨_, rfl⟩
  rw [← hus] at hbu HRef
  rw [← hids] at hbu hidz ⊢
  clear hus hids
  go_enter Tryz.func14, Tryz.ntmps14
  go_wp2_with (first
    | (with_reducible refine wl_box rfl 24 _ (.agg ids.toArray) ids rfl rfl rfl ?_; intro g4 w1 r4 p4 l4 b4)
    | (with_reducible refine wl_load_row (o := ⟨some 10, _, _, _, _, _⟩) rfl 24 (.tmp 4) g4 24 ids _ rfl rfl r4 Tryz.underlying24 rfl hidz.out ?_)
    | (with_reducible refine wl_build rfl 72 [(0, .tmp 10)] rfl [(0, .agg ids.toArray)] rfl us hbu.out ?_))
  refine (HRef w1 b4).mono ?_
  rintro e w4 ⟨rfl, b5⟩
  go_wp2_with fail
  go_ret2
  exact ⟨rfl, b4.trans (b5.mono b4.size)⟩
def SChO (p : Option Addr) (g5 : Nat) (us ids : List Value) (opn : Nat) (v : Value) : Prop :=
  match opn with
  | 0 => v = .pointer p
  | 1 => v = .agg ids.toArray
  | 2 => v = .agg us.toArray
  | 3 => v = .int .i64 2
  | 4 | 5 | 14 | 15 => v = .bool false
  | 6 | 7 | 8 | 9 | 10 | 11 | 12 | 13 => v = undef
  | _ => True

set_option maxRecDepth 100000 in
theorem noCheck (w : World) (p : Option Addr) (q : Kid) (E A : Option Addr) (l d m c : Nat) (h : NoBox w p) :
    Calls Tryz.prog 16 #[.pointer p, .agg (vk .i64 q.l).toArray, .slice E l d, .slice A m c] w fun e w' => e = .returned (.bool false) ∧ Below w.heap.size w w' := by
  have hbu := hide (bUse0 q)
  have hidz := hide (szKid q)
  have HRef0 := fun w1 (hb : Below w.heap.size w w1) => refuse_no w1 p q 0 (h.later hb)
  obtain ⟨us, hus⟩ : ∃ us, us = vk .i64 (useL q 0) := ⟨_, rfl⟩
  obtain ⟨ids, hids⟩ : ∃ ids, ids = vk .i64 q.l := ⟨_, rfl⟩
  rw [← hus] at hbu HRef0
  rw [← hids] at hbu hidz ⊢
  clear hus hids h
  go_enter Tryz.func16, Tryz.ntmps16
  go_wp2_with (first
    | (with_reducible refine wl_box rfl 24 _ (.agg ids.toArray) ids rfl rfl rfl ?_; intro g5 w5 r5 p5 l5 b5))
  have HRef := fun w1 (hb : Below w5.heap.size w5 w1) => HRef0 w1 (b5.trans (hb.mono b5.size))
  refine wp_region_valsS [3] (SChO p g5 us ids) (fun _ _ w1 => Below w5.heap.size w5 w1) (by kernel_rfl) (by kernel_rfl) (by kernel_rfl) (by kernel_rfl) ((Below.refl _ _).drew) ?obs1 ?he1
  case obs1 =>
    refine ⟨?_, ?_, ?_, ?_, ?_, ?_, ?_, ?_, ?_, ?_, ?_, ?_, ?_, ?_, ?_, ?_, trivial⟩
    · refine .inl ⟨.inl rfl, ?_⟩
      exact .inl ⟨by kernel_rfl, fun L a1 w1 n h => ⟨_, rfl, run_move (.tmp 0) rfl (h.var n 0 (by kernel_rfl))⟩⟩
    · refine .inl ⟨.inl rfl, ?_⟩
      exact .inl ⟨by kernel_rfl, fun L a1 w1 n h => ⟨_, rfl, run_loadRow 24 (.tmp 5) g5 24 _ _ rfl (h.var n 5 (by kernel_rfl)) (Row.later r5 h.inv) Tryz.underlying24 rfl hidz.out⟩⟩
    · refine .inl ⟨.inl rfl, ?_⟩
      refine .inl ⟨by kernel_rfl, fun L a1 w1 n h => ⟨.agg us.toArray, rfl, ?_⟩⟩
      have e0 : a1.eval (.tmp 10) = _ := h.dep n 1 10 (by kernel_rfl) rfl
      exact run_buildX 72 [(0, .tmp 10)] rfl _ (by simp only [List.map_cons, List.map_nil, e0]) _ hbu.out
    · refine .inl ⟨.inl rfl, ?_⟩
      refine .inr fun L a1 w1 n h K hK => ?_
      have e0 : a1.eval (.tmp 9) = .pointer p := h.dep n 0 9 (by kernel_rfl) rfl
      have e1 : a1.eval (.tmp 11) = .agg us.toArray := h.dep n 2 11 (by kernel_rfl) rfl
      refine st_call 25 _ _ #[.pointer p, .agg us.toArray] rfl Tryz.call25 ?_ (HRef w1 h.inv) ?_
      · simp only [List.map_toArray, List.map_cons, List.map_nil, e0, e1]
      · rintro e w3 ⟨rfl, b9⟩
        exact ⟨_, rfl, hK _ w3 rfl (h.inv.trans (b9.mono h.inv.size))⟩
    · refine .inl ⟨.inl rfl, ?_⟩
      exact .inl ⟨by kernel_rfl, fun L a1 w1 n h => ⟨_, rfl, run_eqlI (.tmp 12) (.const (.int .i64 0)) rfl (h.dep n 3 12 (by kernel_rfl) rfl) rfl (by decide)⟩⟩
    · refine .inl ⟨.inl rfl, ?_⟩
      exact .inl ⟨by kernel_rfl, fun L a1 w1 n h => ⟨_, rfl, run_move (.tmp 13) rfl (h.dep n 4 13 (by kernel_rfl) rfl)⟩⟩
    · exact .inr ⟨⟨5, true, 14, rfl, by kernel_rfl, rfl, by simp, fun v h => by rw [show v = .bool false from h]; first | exact ne_tf | exact ne_ft | exact ne_undef _⟩, by kernel_rfl, rfl⟩
    · exact .inr ⟨⟨5, true, 14, rfl, by kernel_rfl, rfl, by simp, fun v h => by rw [show v = .bool false from h]; first | exact ne_tf | exact ne_ft | exact ne_undef _⟩, by kernel_rfl, rfl⟩
    · exact .inr ⟨⟨5, true, 14, rfl, by kernel_rfl, rfl, by simp, fun v h => by rw [show v = .bool false from h]; first | exact ne_tf | exact ne_ft | exact ne_undef _⟩, by kernel_rfl, rfl⟩
    · exact .inr ⟨⟨5, true, 14, rfl, by kernel_rfl, rfl, by simp, fun v h => by rw [show v = .bool false from h]; first | exact ne_tf | exact ne_ft | exact ne_undef _⟩, by kernel_rfl, rfl⟩
    · exact .inr ⟨⟨5, true, 14, rfl, by kernel_rfl, rfl, by simp, fun v h => by rw [show v = .bool false from h]; first | exact ne_tf | exact ne_ft | exact ne_undef _⟩, by kernel_rfl, rfl⟩
    · exact .inr ⟨⟨5, true, 14, rfl, by kernel_rfl, rfl, by simp, fun v h => by rw [show v = .bool false from h]; first | exact ne_tf | exact ne_ft | exact ne_undef _⟩, by kernel_rfl, rfl⟩
    · exact .inr ⟨⟨5, true, 14, rfl, by kernel_rfl, rfl, by simp, fun v h => by rw [show v = .bool false from h]; first | exact ne_tf | exact ne_ft | exact ne_undef _⟩, by kernel_rfl, rfl⟩
    · exact .inr ⟨⟨5, true, 14, rfl, by kernel_rfl, rfl, by simp, fun v h => by rw [show v = .bool false from h]; first | exact ne_tf | exact ne_ft | exact ne_undef _⟩, by kernel_rfl, rfl⟩
    · refine .inl ⟨.inl rfl, ?_⟩
      exact .inl ⟨by kernel_rfl, fun L a1 w1 n h => ⟨_, rfl, run_pickF (.tmp 14) _ _ rfl (h.dep n 5 14 (by kernel_rfl) rfl) rfl⟩⟩
    · refine .inl ⟨.inl rfl, ?_⟩
      exact .inl ⟨by kernel_rfl, fun L a1 w1 n h => ⟨_, rfl, run_assign (.tmp 23) rfl (h.dep n 14 23 (by kernel_rfl) rfl)⟩⟩
  case he1 =>
    intro V w7 hV hJ
    have b7 : Below w5.heap.size w5 w7 := hJ
    have hE : V 15 = .bool false := hV 15 _ rfl
    clear hV hJ
    simp only [putOps, List.setIfInBounds_toArray, List.set_cons_succ, List.set_cons_zero, Nat.reduceAdd]
    rw [hE]
    go_wp2_with fail
    go_ret
    exact ⟨rfl, b5.trans (b7.mono b5.size)⟩
set_option maxRecDepth 100000 in
theorem noSealed (w : World) (p : Option Addr) (h : NoBox w p) : Calls Tryz.prog 21 #[.pointer p] w fun e w' => e = .returned (.int .i64 0) ∧ Below w.heap.size w w' := by
  have HM := made_no w p h
  clear h
  go_enter Tryz.func21, Tryz.ntmps21
  go_wp2_with fail
  refine HM.mono ?_
  rintro e w2 ⟨rfl, rfl⟩
  go_wp2_with fail
  go_ret
  exact ⟨rfl, Below.refl _ _⟩
set_option maxRecDepth 100000 in
theorem noRepeats (w : World) (p : Option Addr) (h : NoBox w p) : Calls Tryz.prog 22 #[.pointer p] w fun e w' => e = .returned (.int .i64 0) ∧ Below w.heap.size w w' := by
  have HM := made_no w p h
  clear h
  go_enter Tryz.func22, Tryz.ntmps22
  go_wp2_with fail
  refine HM.mono ?_
  rintro e w2 ⟨rfl, rfl⟩
  go_wp2_with fail
  go_ret
  exact ⟨rfl, Below.refl _ _⟩
end Go.Proofs.YtooooncmjhcdbaaGreatDoor

/-
  The law BoxNobody: contract. Own work.
-/
namespace Go.Proofs.YtooooncmjhcdbaaGreatDoor
open Go.RowKit Go.Maps Go.ChangeMaps
/-- An act that came in. -/
structure BAct where
  k : Int
  q : Kid
  n : Int
  A : Option Addr
  m : Nat
  c : Nat
  E : Option Addr
  l : Nat
  d : Nat
  at_ : Int
  by_ : Int
  ad : List Int
  tx : List Int
abbrev BAct.cells (a : BAct) : List Value := [.int .u8 a.k, .int .i64 a.q.a, .int .i64 a.q.b, .int .i64 a.q.c, .int .i64 a.q.d, .int .i64 a.q.e, .int .i64 a.q.f, .int .i64 a.n, .slice a.A a.m a.c, .slice a.E a.l a.d, .int .u8 a.at_, .int .u8 a.by_]
abbrev BAct.rest (a : BAct) : List Value := [.int .i64 a.n, .slice a.A a.m a.c, .slice a.E a.l a.d, .int .u8 a.at_, .int .u8 a.by_]
theorem run_len0 {P : Program} {w : World} {a : Act} {o : Oper} (T e : Nat) (hu : P.underlying T = some (.slice e)) (x : Operand) (ho : o.op = .call { callee := .builtin .len, args := #[x], argTypes := #[T] }) (hx : a.eval x = .slice none 0 0) : (execOp a.eval o).run P w = .ok (.value (.int .i64 0)) w := run_lenSl2 T e hu x ho hx
theorem run_add0 {P : Program} {w : World} {a : Act} {o : Oper} {t u : Nat} (x y : Operand) (ho : o.op = .binOp .add t x y u) (hx : a.eval x = .int .i64 0) (hy : a.eval y = .int .i64 0) : (execOp a.eval o).run P w = .ok (.value (.int .i64 0)) w := by
  unfold execOp
  simp only [ho, hx, hy]
  go_simp
  rfl
theorem pb_info : ∃ i, Tryz.prog.info? 30 = some i ∧ i.zero = some (.pointer none) ∧ i.size = 1 := by
  have h : (Tryz.prog.info? 30).map (fun i => (i.zero, i.size, i.bytes)) = some (some (.pointer none), 1, 8) := by kernel_rfl
  obtain ⟨i, h1, h2, h3, _⟩ := info_parts h
  exact ⟨i, h1, h2, h3⟩
theorem bBox0 : Tryz.prog.built 54 [] = some ([.nilIface, .int .i64 0, .map none] : List Value).toArray := by kernel_rfl
def SNb5 (gs g1 i : Nat) (ids : List Value) (p A E : Option Addr) (m c l d : Nat) (nn : Int) (opn : Nat) (v : Value) : Prop :=
  match opn with
  | 0 => v = .slice (some ⟨gs, 0, none⟩) 2 2
  | 1 => v = .int .i64 (i : Int)
  | 2 => v = .pointer (some ⟨gs, i, none⟩)
  | 3 => v = .pointer p
  | 4 => v = .pointer (some ⟨g1, 1, none⟩)
  | 5 => v = .agg ids.toArray
  | 6 => v = .pointer (some ⟨g1, 7, none⟩)
  | 7 => v = .int .i64 nn
  | 8 => v = .pointer (some ⟨g1, 8, none⟩)
  | 9 => v = .slice A m c
  | 10 => v = .pointer (some ⟨g1, 9, none⟩)
  | 11 => v = .slice E l d
  | 12 | 13 => v = .tuple #[.slice none 0 0, .int .i64 2]
  | 14 | 16 => v = .slice none 0 0
  | 15 | 17 => v = .int .i64 2
  | _ => True
def SNb6 (gs g1 i : Nat) (ids : List Value) (p A E : Option Addr) (m c l d : Nat) (nn : Int) (opn : Nat) (v : Value) : Prop :=
  match opn with
  | 0 => v = .slice (some ⟨gs, 0, none⟩) 2 2
  | 1 => v = .int .i64 (i : Int)
  | 2 => v = .pointer (some ⟨gs, i, none⟩)
  | 3 => v = .pointer p
  | 4 => v = .pointer (some ⟨g1, 1, none⟩)
  | 5 => v = .agg ids.toArray
  | 6 => v = .pointer (some ⟨g1, 7, none⟩)
  | 7 => v = .int .i64 nn
  | 8 => v = .pointer (some ⟨g1, 8, none⟩)
  | 9 => v = .slice A m c
  | 10 => v = .pointer (some ⟨g1, 9, none⟩)
  | 11 => v = .slice E l d
  | 12 | 13 => v = .tuple #[.slice none 0 0, .int .i64 2]
  | 14 | 16 => v = .slice none 0 0
  | 15 | 17 => v = .int .i64 2
  | _ => True
def SNb7 (gs g1 i : Nat) (ids : List Value) (p A E : Option Addr) (m c l d : Nat) (nn : Int) (opn : Nat) (v : Value) : Prop :=
  match opn with
  | 0 => v = .slice (some ⟨gs, 0, none⟩) 2 2
  | 1 => v = .int .i64 (i : Int)
  | 2 => v = .pointer (some ⟨gs, i, none⟩)
  | 3 => v = .pointer p
  | 4 => v = .pointer (some ⟨g1, 1, none⟩)
  | 5 => v = .agg ids.toArray
  | 6 => v = .pointer (some ⟨g1, 9, none⟩)
  | 7 => v = .slice E l d
  | 8 | 9 => v = .tuple #[.slice none 0 0, .int .i64 2]
  | 10 | 12 => v = .slice none 0 0
  | 11 | 13 => v = .int .i64 2
  | _ => True
def SNb8 (gs g1 i : Nat) (ids : List Value) (p A E : Option Addr) (m c l d : Nat) (nn : Int) (opn : Nat) (v : Value) : Prop :=
  match opn with
  | 0 | 2 | 5 => v = .slice none 0 0
  | 1 | 3 | 4 | 6 | 7 | 12 | 13 | 18 | 19 => v = .int .i64 0
  | 8 | 14 | 34 => v = .slice (some ⟨gs, 0, none⟩) 2 2
  | 9 | 15 | 35 => v = .int .i64 (i : Int)
  | 10 | 16 | 36 => v = .pointer (some ⟨gs, i, none⟩)
  | 11 | 17 | 37 => v = .pointer p
  | 20 | 21 | 23 | 24 | 25 | 27 | 28 | 29 | 31 | 32 | 33 | 44 | 45 => v = .bool false
  | 22 | 26 | 30 => v = .int .i64 2
  | 38 => v = .pointer (some ⟨g1, 1, none⟩)
  | 39 => v = .agg ids.toArray
  | 40 => v = .pointer (some ⟨g1, 9, none⟩)
  | 41 => v = .slice E l d
  | 42 => v = .pointer (some ⟨g1, 8, none⟩)
  | 43 => v = .slice A m c
  | _ => True

set_option maxRecDepth 100000 in
set_option maxHeartbeats 4000000 in
theorem boxNobody_any (a : BAct) (w : World) (hT : TabK w) : Calls Tryz.prog 6 #[.agg a.cells.toArray] w fun e w' => e = .returned (.bool true) ∧ Below w.heap.size w w' := by
  have bc := bBox0
  obtain ⟨ip, hip, hpz, hps⟩ := pb_info
  obtain ⟨kd, q, nn, A, m, c, E, l, d, at_, by_, ad, tx⟩ := a
  have hidz := hide (szKid q)
  have hTw := hide hT
  have h7 : Hid ((BAct.cells ⟨kd, q, nn, A, m, c, E, l, d, at_, by_, ad, tx⟩)[7]? = some (.int .i64 nn)) := hide rfl
  have h8 : Hid ((BAct.cells ⟨kd, q, nn, A, m, c, E, l, d, at_, by_, ad, tx⟩)[8]? = some (.slice A m c)) := hide rfl
  have h9 : Hid ((BAct.cells ⟨kd, q, nn, A, m, c, E, l, d, at_, by_, ad, tx⟩)[9]? = some (.slice E l d)) := hide rfl
  have hs : Hid ((BAct.cells ⟨kd, q, nn, A, m, c, E, l, d, at_, by_, ad, tx⟩) = [.int .u8 kd] ++ (vk .i64 q.l ++ BAct.rest ⟨kd, q, nn, A, m, c, E, l, d, at_, by_, ad, tx⟩)) := hide rfl
  generalize BAct.cells ⟨kd, q, nn, A, m, c, E, l, d, at_, by_, ad, tx⟩ = cs at *
  generalize BAct.rest ⟨kd, q, nn, A, m, c, E, l, d, at_, by_, ad, tx⟩ = rest at *
  obtain ⟨ids, hids⟩ : ∃ ids, ids = vk .i64 q.l := ⟨_, rfl⟩
  rw [← hids] at hidz hs
  have Hids := hide hids.symm
  clear hids
  go_enter Tryz.func6, Tryz.ntmps6
  go_wp2_with (first
    | (with_reducible refine wl_box (o := ⟨some 1, _, _, _, _, _⟩) rfl 27 (.tmp 0) _ cs rfl rfl rfl ?_; intro g1 w1 r1 q1 l1 b1)
    | ((with_reducible refine wl_build rfl 54 _ rfl _ ?hv _ bc ?hk); case hv => rfl)
    | (with_reducible refine wl_box (o := ⟨some 12, _, _, _, _, _⟩) rfl 54 (.tmp 11) _ [.nilIface, .int .i64 0, .map none] rfl rfl rfl ?_; intro g2 w2 r2 q2 l2 b2; have r1 := Row.later r1 b2)
    | (with_reducible refine wl_build2P rfl 55 (.const (.pointer none)) (.tmp 12) rfl 30 ip (.pointer none) (.pointer none) (.pointer (some ⟨g2, 0, none⟩)) Tryz.underlying55 hip hpz hps rfl rfl rfl rfl rfl ?_; intro gs w3 rs q3 l3 b3; have r1 := Row.later r1 b3; have r2 := Row.later r2 b3))
  have B3 := (b1.trans (b2.mono b1.size)).trans (b3.mono (b1.trans (b2.mono b1.size)).size)
  go_loopw [4] (fun iv wr => ∃ i : Nat, i ≤ 2 ∧ iv = .int .i64 i ∧ Row wr 27 g1 cs ∧ BxRow wr g2 .nilIface 0 (.map none) ∧ Row wr 30 gs [.pointer none, .pointer (some ⟨g2, 0, none⟩)] ∧ Below w.heap.size w wr) (fun iv _ => 2 - (intOf iv).toNat)
  case atStart => exact ⟨0, by omega, rfl, r1, r2, rs, B3⟩
  case round =>
    clear r1 r2 rs
    obtain ⟨i, hi2, rfl, r1, r2, rs, hB⟩ := hrel
    by_cases hi : i < 2
    · obtain ⟨p, hu0, hv⟩ : ∃ p, [Value.pointer none, .pointer (some ⟨g2, 0, none⟩)][i]? = some (.pointer p) ∧ NoBox wr p := by
        match i, hi with
        | 0, _ => exact ⟨_, rfl, .inl rfl⟩
        | 1, _ => exact ⟨_, rfl, .inr ⟨g2, rfl, r2⟩⟩
      have rA : Row wr 27 g1 ([.int .u8 kd] ++ (ids ++ rest)) := by rw [← hs.out]; exact r1
      go_wp2_with fail
      rename_i K5 hK5
      refine wp_region_vals [12] (SNb5 gs g1 i ids p A E m c l d nn) (fun _ _ wz => Below wr.heap.size wr wz) (by kernel_rfl) (by kernel_rfl) (by kernel_rfl) (by kernel_rfl) (by kernel_rfl) ((Below.refl _ _).drew) ?obs5 ?he5
      case obs5 =>
        refine ⟨?_, ?_, ?_, ?_, ?_, ?_, ?_, ?_, ?_, ?_, ?_, ?_, ?_, ?_, ?_, ?_, ?_, ?_, trivial⟩
        · exact .inl ⟨by kernel_rfl, fun L a1 w1 n h => ⟨_, rfl, run_move (.tmp 3) rfl (h.var n 3 (by kernel_rfl))⟩⟩
        · exact .inl ⟨by kernel_rfl, fun L a1 w1 n h => ⟨_, rfl, run_move (.tmp 4) rfl (h.var n 4 (by kernel_rfl))⟩⟩
        · exact .inl ⟨by kernel_rfl, fun L a1 w1 n h => ⟨_, rfl, run_indexSl0 55 (.tmp 21) (.tmp 22) 30 gs 2 2 i rfl Tryz.underlying55 Tryz.sizeOf30 (h.dep n 0 21 (by kernel_rfl) rfl) (h.dep n 1 22 (by kernel_rfl) rfl) hi⟩⟩
        · exact .inl ⟨by kernel_rfl, fun L a1 w1 n h => ⟨_, rfl, run_loadA 30 (.tmp 23) ⟨gs, i, none⟩ rfl Tryz.isAgg30 (h.dep n 2 23 (by kernel_rfl) rfl) ((Row.later rs h.inv).cell hu0)⟩⟩
        · refine .inl ⟨by kernel_rfl, fun L a1 w1 n h => ⟨.pointer (some ⟨g1, 1, none⟩), rfl, ?_⟩⟩
          have e0 : a1.eval (.tmp 1) = _ := h.var n 1 (by kernel_rfl)
          unfold execOp
          simp only [e0]
          go_simp
        · exact .inl ⟨by kernel_rfl, fun L a1 w1 n h => ⟨_, rfl, run_loadP 24 (.tmp 25) g1 1 27 [.int .u8 kd] ids rest _ rfl (h.dep n 4 25 (by kernel_rfl) rfl) (Row.later rA h.inv) rfl Tryz.underlying24 rfl hidz.out⟩⟩
        · refine .inl ⟨by kernel_rfl, fun L a1 w1 n h => ⟨.pointer (some ⟨g1, 7, none⟩), rfl, ?_⟩⟩
          have e0 : a1.eval (.tmp 1) = _ := h.var n 1 (by kernel_rfl)
          unfold execOp
          simp only [e0]
          go_simp
        · exact .inl ⟨by kernel_rfl, fun L a1 w1 n h => ⟨_, rfl, run_loadA 3 (.tmp 27) ⟨g1, 7, none⟩ rfl Tryz.isAgg3 (h.dep n 6 27 (by kernel_rfl) rfl) ((Row.later r1 h.inv).cell h7.out)⟩⟩
        · refine .inl ⟨by kernel_rfl, fun L a1 w1 n h => ⟨.pointer (some ⟨g1, 8, none⟩), rfl, ?_⟩⟩
          have e0 : a1.eval (.tmp 1) = _ := h.var n 1 (by kernel_rfl)
          unfold execOp
          simp only [e0]
          go_simp
        · exact .inl ⟨by kernel_rfl, fun L a1 w1 n h => ⟨_, rfl, run_loadA 25 (.tmp 29) ⟨g1, 8, none⟩ rfl Tryz.isAgg25 (h.dep n 8 29 (by kernel_rfl) rfl) ((Row.later r1 h.inv).cell h8.out)⟩⟩
        · refine .inl ⟨by kernel_rfl, fun L a1 w1 n h => ⟨.pointer (some ⟨g1, 9, none⟩), rfl, ?_⟩⟩
          have e0 : a1.eval (.tmp 1) = _ := h.var n 1 (by kernel_rfl)
          unfold execOp
          simp only [e0]
          go_simp
        · exact .inl ⟨by kernel_rfl, fun L a1 w1 n h => ⟨_, rfl, run_loadA 25 (.tmp 31) ⟨g1, 9, none⟩ rfl Tryz.isAgg25 (h.dep n 10 31 (by kernel_rfl) rfl) ((Row.later r1 h.inv).cell h9.out)⟩⟩
        · refine .inr fun L a1 w1 n h K hK => ?_
          have e0 : a1.eval (.tmp 24) = .pointer p := h.dep n 3 24 (by kernel_rfl) rfl
          have e1 : a1.eval (.tmp 26) = .agg ids.toArray := h.dep n 5 26 (by kernel_rfl) rfl
          have e2 : a1.eval (.tmp 28) = .int .i64 nn := h.dep n 7 28 (by kernel_rfl) rfl
          have e3 : a1.eval (.tmp 30) = .slice A m c := h.dep n 9 30 (by kernel_rfl) rfl
          have e4 : a1.eval (.tmp 32) = .slice E l d := h.dep n 11 32 (by kernel_rfl) rfl
          refine st_call 10 _ _ #[.pointer p, .agg ids.toArray, .int .i64 nn, .slice A m c, .slice E l d] rfl Tryz.call10 ?_ (Hids.out ▸ noSeal w1 p q nn A E m c l d (hv.later h.inv)) ?_
          · simp only [List.map_toArray, List.map_cons, List.map_nil, e0, e1, e2, e3, e4]
          · rintro e w3 ⟨rfl, b9⟩
            exact ⟨_, rfl, hK _ w3 rfl (h.inv.trans (b9.mono h.inv.size))⟩
        · exact .inl ⟨by kernel_rfl, fun L a1 w1 n h => ⟨_, rfl, run_move (.tmp 33) rfl (h.dep n 12 33 (by kernel_rfl) rfl)⟩⟩
        · exact .inl ⟨by kernel_rfl, fun L a1 w1 n h => ⟨_, rfl, run_extractA (.tmp 20) 0 _ rfl (h.dep n 13 20 (by kernel_rfl) rfl) rfl⟩⟩
        · exact .inl ⟨by kernel_rfl, fun L a1 w1 n h => ⟨_, rfl, run_extractA (.tmp 20) 1 _ rfl (h.dep n 13 20 (by kernel_rfl) rfl) rfl⟩⟩
        · exact .inl ⟨by kernel_rfl, fun L a1 w1 n h => ⟨_, rfl, run_assign (.tmp 34) rfl (h.dep n 14 34 (by kernel_rfl) rfl)⟩⟩
        · exact .inl ⟨by kernel_rfl, fun L a1 w1 n h => ⟨_, rfl, run_assign (.tmp 35) rfl (h.dep n 15 35 (by kernel_rfl) rfl)⟩⟩
      case he5 =>
      intro V w5 hV hJ
      have b5 : Below wr.heap.size wr w5 := hJ
      have z50 : V 16 = .slice none 0 0 := hV 16 _ rfl
      have z51 : V 17 = .int .i64 2 := hV 17 _ rfl
      have rA := Row.later rA b5
      have r1 := Row.later r1 b5
      have r2 := Row.later r2 b5
      have rs := Row.later rs b5
      have hv := hv.later b5
      have hB := hB.trans (b5.mono hB.size)
      clear hV hJ
      simp only [putOps, List.setIfInBounds_toArray, List.set_cons_succ, List.set_cons_zero, Nat.reduceAdd]
      rw [z50, z51]
      clear z50 z51
      refine hK5 _ _ ?_
      go_wp2_with fail
      rename_i K6 hK6
      refine wp_region_vals [12] (SNb6 gs g1 i ids p A E m c l d nn) (fun _ _ wz => Below w5.heap.size w5 wz) (by kernel_rfl) (by kernel_rfl) (by kernel_rfl) (by kernel_rfl) (by kernel_rfl) ((Below.refl _ _).drew) ?obs6 ?he6
      case obs6 =>
        refine ⟨?_, ?_, ?_, ?_, ?_, ?_, ?_, ?_, ?_, ?_, ?_, ?_, ?_, ?_, ?_, ?_, ?_, ?_, trivial⟩
        · exact .inl ⟨by kernel_rfl, fun L a1 w1 n h => ⟨_, rfl, run_move (.tmp 3) rfl (h.var n 3 (by kernel_rfl))⟩⟩
        · exact .inl ⟨by kernel_rfl, fun L a1 w1 n h => ⟨_, rfl, run_move (.tmp 4) rfl (h.var n 4 (by kernel_rfl))⟩⟩
        · exact .inl ⟨by kernel_rfl, fun L a1 w1 n h => ⟨_, rfl, run_indexSl0 55 (.tmp 37) (.tmp 38) 30 gs 2 2 i rfl Tryz.underlying55 Tryz.sizeOf30 (h.dep n 0 37 (by kernel_rfl) rfl) (h.dep n 1 38 (by kernel_rfl) rfl) hi⟩⟩
        · exact .inl ⟨by kernel_rfl, fun L a1 w1 n h => ⟨_, rfl, run_loadA 30 (.tmp 39) ⟨gs, i, none⟩ rfl Tryz.isAgg30 (h.dep n 2 39 (by kernel_rfl) rfl) ((Row.later rs h.inv).cell hu0)⟩⟩
        · refine .inl ⟨by kernel_rfl, fun L a1 w1 n h => ⟨.pointer (some ⟨g1, 1, none⟩), rfl, ?_⟩⟩
          have e0 : a1.eval (.tmp 1) = _ := h.var n 1 (by kernel_rfl)
          unfold execOp
          simp only [e0]
          go_simp
        · exact .inl ⟨by kernel_rfl, fun L a1 w1 n h => ⟨_, rfl, run_loadP 24 (.tmp 41) g1 1 27 [.int .u8 kd] ids rest _ rfl (h.dep n 4 41 (by kernel_rfl) rfl) (Row.later rA h.inv) rfl Tryz.underlying24 rfl hidz.out⟩⟩
        · refine .inl ⟨by kernel_rfl, fun L a1 w1 n h => ⟨.pointer (some ⟨g1, 7, none⟩), rfl, ?_⟩⟩
          have e0 : a1.eval (.tmp 1) = _ := h.var n 1 (by kernel_rfl)
          unfold execOp
          simp only [e0]
          go_simp
        · exact .inl ⟨by kernel_rfl, fun L a1 w1 n h => ⟨_, rfl, run_loadA 3 (.tmp 43) ⟨g1, 7, none⟩ rfl Tryz.isAgg3 (h.dep n 6 43 (by kernel_rfl) rfl) ((Row.later r1 h.inv).cell h7.out)⟩⟩
        · refine .inl ⟨by kernel_rfl, fun L a1 w1 n h => ⟨.pointer (some ⟨g1, 8, none⟩), rfl, ?_⟩⟩
          have e0 : a1.eval (.tmp 1) = _ := h.var n 1 (by kernel_rfl)
          unfold execOp
          simp only [e0]
          go_simp
        · exact .inl ⟨by kernel_rfl, fun L a1 w1 n h => ⟨_, rfl, run_loadA 25 (.tmp 45) ⟨g1, 8, none⟩ rfl Tryz.isAgg25 (h.dep n 8 45 (by kernel_rfl) rfl) ((Row.later r1 h.inv).cell h8.out)⟩⟩
        · refine .inl ⟨by kernel_rfl, fun L a1 w1 n h => ⟨.pointer (some ⟨g1, 9, none⟩), rfl, ?_⟩⟩
          have e0 : a1.eval (.tmp 1) = _ := h.var n 1 (by kernel_rfl)
          unfold execOp
          simp only [e0]
          go_simp
        · exact .inl ⟨by kernel_rfl, fun L a1 w1 n h => ⟨_, rfl, run_loadA 25 (.tmp 47) ⟨g1, 9, none⟩ rfl Tryz.isAgg25 (h.dep n 10 47 (by kernel_rfl) rfl) ((Row.later r1 h.inv).cell h9.out)⟩⟩
        · refine .inr fun L a1 w1 n h K hK => ?_
          have e0 : a1.eval (.tmp 40) = .pointer p := h.dep n 3 40 (by kernel_rfl) rfl
          have e1 : a1.eval (.tmp 42) = .agg ids.toArray := h.dep n 5 42 (by kernel_rfl) rfl
          have e2 : a1.eval (.tmp 44) = .int .i64 nn := h.dep n 7 44 (by kernel_rfl) rfl
          have e3 : a1.eval (.tmp 46) = .slice A m c := h.dep n 9 46 (by kernel_rfl) rfl
          have e4 : a1.eval (.tmp 48) = .slice E l d := h.dep n 11 48 (by kernel_rfl) rfl
          refine st_call 12 _ _ #[.pointer p, .agg ids.toArray, .int .i64 nn, .slice A m c, .slice E l d] rfl Tryz.call12 ?_ (Hids.out ▸ noOpen w1 p q nn A E m c l d (hv.later h.inv)) ?_
          · simp only [List.map_toArray, List.map_cons, List.map_nil, e0, e1, e2, e3, e4]
          · rintro e w3 ⟨rfl, b9⟩
            exact ⟨_, rfl, hK _ w3 rfl (h.inv.trans (b9.mono h.inv.size))⟩
        · exact .inl ⟨by kernel_rfl, fun L a1 w1 n h => ⟨_, rfl, run_move (.tmp 49) rfl (h.dep n 12 49 (by kernel_rfl) rfl)⟩⟩
        · exact .inl ⟨by kernel_rfl, fun L a1 w1 n h => ⟨_, rfl, run_extractA (.tmp 36) 0 _ rfl (h.dep n 13 36 (by kernel_rfl) rfl) rfl⟩⟩
        · exact .inl ⟨by kernel_rfl, fun L a1 w1 n h => ⟨_, rfl, run_extractA (.tmp 36) 1 _ rfl (h.dep n 13 36 (by kernel_rfl) rfl) rfl⟩⟩
        · exact .inl ⟨by kernel_rfl, fun L a1 w1 n h => ⟨_, rfl, run_assign (.tmp 50) rfl (h.dep n 14 50 (by kernel_rfl) rfl)⟩⟩
        · exact .inl ⟨by kernel_rfl, fun L a1 w1 n h => ⟨_, rfl, run_assign (.tmp 51) rfl (h.dep n 15 51 (by kernel_rfl) rfl)⟩⟩
      case he6 =>
      intro V w6 hV hJ
      have b6 : Below w5.heap.size w5 w6 := hJ
      have z60 : V 16 = .slice none 0 0 := hV 16 _ rfl
      have z61 : V 17 = .int .i64 2 := hV 17 _ rfl
      have rA := Row.later rA b6
      have r1 := Row.later r1 b6
      have r2 := Row.later r2 b6
      have rs := Row.later rs b6
      have hv := hv.later b6
      have hB := hB.trans (b6.mono hB.size)
      clear hV hJ
      simp only [putOps, List.setIfInBounds_toArray, List.set_cons_succ, List.set_cons_zero, Nat.reduceAdd]
      rw [z60, z61]
      clear z60 z61
      refine hK6 _ _ ?_
      go_wp2_with fail
      rename_i K7 hK7
      refine wp_region_vals [8] (SNb7 gs g1 i ids p A E m c l d nn) (fun _ _ wz => Below w6.heap.size w6 wz) (by kernel_rfl) (by kernel_rfl) (by kernel_rfl) (by kernel_rfl) (by kernel_rfl) ((Below.refl _ _).drew) ?obs7 ?he7
      case obs7 =>
        refine ⟨?_, ?_, ?_, ?_, ?_, ?_, ?_, ?_, ?_, ?_, ?_, ?_, ?_, ?_, trivial⟩
        · exact .inl ⟨by kernel_rfl, fun L a1 w1 n h => ⟨_, rfl, run_move (.tmp 3) rfl (h.var n 3 (by kernel_rfl))⟩⟩
        · exact .inl ⟨by kernel_rfl, fun L a1 w1 n h => ⟨_, rfl, run_move (.tmp 4) rfl (h.var n 4 (by kernel_rfl))⟩⟩
        · exact .inl ⟨by kernel_rfl, fun L a1 w1 n h => ⟨_, rfl, run_indexSl0 55 (.tmp 53) (.tmp 54) 30 gs 2 2 i rfl Tryz.underlying55 Tryz.sizeOf30 (h.dep n 0 53 (by kernel_rfl) rfl) (h.dep n 1 54 (by kernel_rfl) rfl) hi⟩⟩
        · exact .inl ⟨by kernel_rfl, fun L a1 w1 n h => ⟨_, rfl, run_loadA 30 (.tmp 55) ⟨gs, i, none⟩ rfl Tryz.isAgg30 (h.dep n 2 55 (by kernel_rfl) rfl) ((Row.later rs h.inv).cell hu0)⟩⟩
        · refine .inl ⟨by kernel_rfl, fun L a1 w1 n h => ⟨.pointer (some ⟨g1, 1, none⟩), rfl, ?_⟩⟩
          have e0 : a1.eval (.tmp 1) = _ := h.var n 1 (by kernel_rfl)
          unfold execOp
          simp only [e0]
          go_simp
        · exact .inl ⟨by kernel_rfl, fun L a1 w1 n h => ⟨_, rfl, run_loadP 24 (.tmp 57) g1 1 27 [.int .u8 kd] ids rest _ rfl (h.dep n 4 57 (by kernel_rfl) rfl) (Row.later rA h.inv) rfl Tryz.underlying24 rfl hidz.out⟩⟩
        · refine .inl ⟨by kernel_rfl, fun L a1 w1 n h => ⟨.pointer (some ⟨g1, 9, none⟩), rfl, ?_⟩⟩
          have e0 : a1.eval (.tmp 1) = _ := h.var n 1 (by kernel_rfl)
          unfold execOp
          simp only [e0]
          go_simp
        · exact .inl ⟨by kernel_rfl, fun L a1 w1 n h => ⟨_, rfl, run_loadA 25 (.tmp 59) ⟨g1, 9, none⟩ rfl Tryz.isAgg25 (h.dep n 6 59 (by kernel_rfl) rfl) ((Row.later r1 h.inv).cell h9.out)⟩⟩
        · refine .inr fun L a1 w1 n h K hK => ?_
          have e0 : a1.eval (.tmp 56) = .pointer p := h.dep n 3 56 (by kernel_rfl) rfl
          have e1 : a1.eval (.tmp 58) = .agg ids.toArray := h.dep n 5 58 (by kernel_rfl) rfl
          have e2 : a1.eval (.tmp 60) = .slice E l d := h.dep n 7 60 (by kernel_rfl) rfl
          refine st_call 14 _ _ #[.pointer p, .agg ids.toArray, .slice E l d] rfl Tryz.call14 ?_ (Hids.out ▸ noMark w1 p q E l d (hv.later h.inv)) ?_
          · simp only [List.map_toArray, List.map_cons, List.map_nil, e0, e1, e2]
          · rintro e w3 ⟨rfl, b9⟩
            exact ⟨_, rfl, hK _ w3 rfl (h.inv.trans (b9.mono h.inv.size))⟩
        · exact .inl ⟨by kernel_rfl, fun L a1 w1 n h => ⟨_, rfl, run_move (.tmp 61) rfl (h.dep n 8 61 (by kernel_rfl) rfl)⟩⟩
        · exact .inl ⟨by kernel_rfl, fun L a1 w1 n h => ⟨_, rfl, run_extractA (.tmp 52) 0 _ rfl (h.dep n 9 52 (by kernel_rfl) rfl) rfl⟩⟩
        · exact .inl ⟨by kernel_rfl, fun L a1 w1 n h => ⟨_, rfl, run_extractA (.tmp 52) 1 _ rfl (h.dep n 9 52 (by kernel_rfl) rfl) rfl⟩⟩
        · exact .inl ⟨by kernel_rfl, fun L a1 w1 n h => ⟨_, rfl, run_assign (.tmp 62) rfl (h.dep n 10 62 (by kernel_rfl) rfl)⟩⟩
        · exact .inl ⟨by kernel_rfl, fun L a1 w1 n h => ⟨_, rfl, run_assign (.tmp 63) rfl (h.dep n 11 63 (by kernel_rfl) rfl)⟩⟩
      case he7 =>
      intro V w7 hV hJ
      have b7 : Below w6.heap.size w6 w7 := hJ
      have z70 : V 12 = .slice none 0 0 := hV 12 _ rfl
      have z71 : V 13 = .int .i64 2 := hV 13 _ rfl
      have rA := Row.later rA b7
      have r1 := Row.later r1 b7
      have r2 := Row.later r2 b7
      have rs := Row.later rs b7
      have hv := hv.later b7
      have hB := hB.trans (b7.mono hB.size)
      clear hV hJ
      simp only [putOps, List.setIfInBounds_toArray, List.set_cons_succ, List.set_cons_zero, Nat.reduceAdd]
      rw [z70, z71]
      clear z70 z71
      refine hK7 _ _ ?_
      go_wp2_with fail
      rename_i K8 hK8
      refine wp_region_valsG [12, 18, 44] (SNb8 gs g1 i ids p A E m c l d nn) (fun _ _ wz => Below w7.heap.size w7 wz) (by kernel_rfl) (by kernel_rfl) (by kernel_rfl) (by kernel_rfl) ((Below.refl _ _).drew) ?obs8 ?he8
      case obs8 =>
        refine ⟨?_, ?_, ?_, ?_, ?_, ?_, ?_, ?_, ?_, ?_, ?_, ?_, ?_, ?_, ?_, ?_, ?_, ?_, ?_, ?_, ?_, ?_, ?_, ?_, ?_, ?_, ?_, ?_, ?_, ?_, ?_, ?_, ?_, ?_, ?_, ?_, ?_, ?_, ?_, ?_, ?_, ?_, ?_, ?_, ?_, ?_, trivial⟩
        · refine ⟨.inl rfl, ?_⟩
          exact .inl ⟨by kernel_rfl, fun L a1 w1 n h => ⟨_, rfl, run_move (.tmp 5) rfl (h.var n 5 (by kernel_rfl))⟩⟩
        · refine ⟨.inl rfl, ?_⟩
          exact .inl ⟨by kernel_rfl, fun L a1 w1 n h => ⟨_, rfl, run_len0 25 5 Tryz.underlying25 (.tmp 64) rfl (h.dep n 0 64 (by kernel_rfl) rfl)⟩⟩
        · refine ⟨.inl rfl, ?_⟩
          exact .inl ⟨by kernel_rfl, fun L a1 w1 n h => ⟨_, rfl, run_move (.tmp 7) rfl (h.var n 7 (by kernel_rfl))⟩⟩
        · refine ⟨.inl rfl, ?_⟩
          exact .inl ⟨by kernel_rfl, fun L a1 w1 n h => ⟨_, rfl, run_len0 25 5 Tryz.underlying25 (.tmp 66) rfl (h.dep n 2 66 (by kernel_rfl) rfl)⟩⟩
        · refine ⟨.inl rfl, ?_⟩
          exact .inl ⟨by kernel_rfl, fun L a1 w1 n h => ⟨_, rfl, run_add0 (.tmp 65) (.tmp 67) rfl (h.dep n 1 65 (by kernel_rfl) rfl) (h.dep n 3 67 (by kernel_rfl) rfl)⟩⟩
        · refine ⟨.inl rfl, ?_⟩
          exact .inl ⟨by kernel_rfl, fun L a1 w1 n h => ⟨_, rfl, run_move (.tmp 9) rfl (h.var n 9 (by kernel_rfl))⟩⟩
        · refine ⟨.inl rfl, ?_⟩
          exact .inl ⟨by kernel_rfl, fun L a1 w1 n h => ⟨_, rfl, run_len0 25 5 Tryz.underlying25 (.tmp 69) rfl (h.dep n 5 69 (by kernel_rfl) rfl)⟩⟩
        · refine ⟨.inl rfl, ?_⟩
          exact .inl ⟨by kernel_rfl, fun L a1 w1 n h => ⟨_, rfl, run_add0 (.tmp 68) (.tmp 70) rfl (h.dep n 4 68 (by kernel_rfl) rfl) (h.dep n 6 70 (by kernel_rfl) rfl)⟩⟩
        · refine ⟨.inl rfl, ?_⟩
          exact .inl ⟨by kernel_rfl, fun L a1 w1 n h => ⟨_, rfl, run_move (.tmp 3) rfl (h.var n 3 (by kernel_rfl))⟩⟩
        · refine ⟨.inl rfl, ?_⟩
          exact .inl ⟨by kernel_rfl, fun L a1 w1 n h => ⟨_, rfl, run_move (.tmp 4) rfl (h.var n 4 (by kernel_rfl))⟩⟩
        · refine ⟨.inl rfl, ?_⟩
          exact .inl ⟨by kernel_rfl, fun L a1 w1 n h => ⟨_, rfl, run_indexSl0 55 (.tmp 72) (.tmp 73) 30 gs 2 2 i rfl Tryz.underlying55 Tryz.sizeOf30 (h.dep n 8 72 (by kernel_rfl) rfl) (h.dep n 9 73 (by kernel_rfl) rfl) hi⟩⟩
        · refine ⟨.inl rfl, ?_⟩
          exact .inl ⟨by kernel_rfl, fun L a1 w1 n h => ⟨_, rfl, run_loadA 30 (.tmp 74) ⟨gs, i, none⟩ rfl Tryz.isAgg30 (h.dep n 10 74 (by kernel_rfl) rfl) ((Row.later rs h.inv).cell hu0)⟩⟩
        · refine ⟨.inl rfl, ?_⟩
          refine .inr fun L a1 w1 n h K hK => ?_
          have e0 : a1.eval (.tmp 75) = .pointer p := h.dep n 11 75 (by kernel_rfl) rfl
          refine st_call 21 _ _ #[.pointer p] rfl Tryz.call21 ?_ (noSealed w1 p (hv.later h.inv)) ?_
          · simp only [List.map_toArray, List.map_cons, List.map_nil, e0]
          · rintro e w3 ⟨rfl, b9⟩
            exact ⟨_, rfl, hK _ w3 rfl (h.inv.trans (b9.mono h.inv.size))⟩
        · refine ⟨.inl rfl, ?_⟩
          exact .inl ⟨by kernel_rfl, fun L a1 w1 n h => ⟨_, rfl, run_add0 (.tmp 71) (.tmp 76) rfl (h.dep n 7 71 (by kernel_rfl) rfl) (h.dep n 12 76 (by kernel_rfl) rfl)⟩⟩
        · refine ⟨.inl rfl, ?_⟩
          exact .inl ⟨by kernel_rfl, fun L a1 w1 n h => ⟨_, rfl, run_move (.tmp 3) rfl (h.var n 3 (by kernel_rfl))⟩⟩
        · refine ⟨.inl rfl, ?_⟩
          exact .inl ⟨by kernel_rfl, fun L a1 w1 n h => ⟨_, rfl, run_move (.tmp 4) rfl (h.var n 4 (by kernel_rfl))⟩⟩
        · refine ⟨.inl rfl, ?_⟩
          exact .inl ⟨by kernel_rfl, fun L a1 w1 n h => ⟨_, rfl, run_indexSl0 55 (.tmp 78) (.tmp 79) 30 gs 2 2 i rfl Tryz.underlying55 Tryz.sizeOf30 (h.dep n 14 78 (by kernel_rfl) rfl) (h.dep n 15 79 (by kernel_rfl) rfl) hi⟩⟩
        · refine ⟨.inl rfl, ?_⟩
          exact .inl ⟨by kernel_rfl, fun L a1 w1 n h => ⟨_, rfl, run_loadA 30 (.tmp 80) ⟨gs, i, none⟩ rfl Tryz.isAgg30 (h.dep n 16 80 (by kernel_rfl) rfl) ((Row.later rs h.inv).cell hu0)⟩⟩
        · refine ⟨.inl rfl, ?_⟩
          refine .inr fun L a1 w1 n h K hK => ?_
          have e0 : a1.eval (.tmp 81) = .pointer p := h.dep n 17 81 (by kernel_rfl) rfl
          refine st_call 22 _ _ #[.pointer p] rfl Tryz.call22 ?_ (noRepeats w1 p (hv.later h.inv)) ?_
          · simp only [List.map_toArray, List.map_cons, List.map_nil, e0]
          · rintro e w3 ⟨rfl, b9⟩
            exact ⟨_, rfl, hK _ w3 rfl (h.inv.trans (b9.mono h.inv.size))⟩
        · refine ⟨.inl rfl, ?_⟩
          exact .inl ⟨by kernel_rfl, fun L a1 w1 n h => ⟨_, rfl, run_add0 (.tmp 77) (.tmp 82) rfl (h.dep n 13 77 (by kernel_rfl) rfl) (h.dep n 18 82 (by kernel_rfl) rfl)⟩⟩
        · refine ⟨.inl rfl, ?_⟩
          exact .inl ⟨by kernel_rfl, fun L a1 w1 n h => ⟨_, rfl, run_neqI (.tmp 83) (.const (.int .i64 0)) rfl (h.dep n 19 83 (by kernel_rfl) rfl) rfl (by decide)⟩⟩
        · refine ⟨.inl rfl, ?_⟩
          exact .inl ⟨by kernel_rfl, fun L a1 w1 n h => ⟨_, rfl, run_move (.tmp 84) rfl (h.dep n 20 84 (by kernel_rfl) rfl)⟩⟩
        · refine ⟨.inr ⟨21, false, 85, rfl, by kernel_rfl, rfl, by simp, fun v h => h⟩, ?_⟩
          exact .inl ⟨by kernel_rfl, fun L a1 w1 n h => ⟨_, rfl, run_move (.tmp 6) rfl (h.var n 6 (by kernel_rfl))⟩⟩
        · refine ⟨.inr ⟨21, false, 85, rfl, by kernel_rfl, rfl, by simp, fun v h => h⟩, ?_⟩
          exact .inl ⟨by kernel_rfl, fun L a1 w1 n h => ⟨_, rfl, run_neqI (.tmp 86) (.const (.int .i64 2)) rfl (h.dep n 22 86 (by kernel_rfl) rfl) rfl (by decide)⟩⟩
        · refine ⟨.inl rfl, ?_⟩
          exact .inl ⟨by kernel_rfl, fun L a1 w1 n h => ⟨_, rfl, run_pickF (.tmp 85) _ _ rfl (h.dep n 21 85 (by kernel_rfl) rfl) (h.dep n 23 87 (by kernel_rfl) rfl)⟩⟩
        · refine ⟨.inl rfl, ?_⟩
          exact .inl ⟨by kernel_rfl, fun L a1 w1 n h => ⟨_, rfl, run_move (.tmp 88) rfl (h.dep n 24 88 (by kernel_rfl) rfl)⟩⟩
        · refine ⟨.inr ⟨25, false, 89, rfl, by kernel_rfl, rfl, by simp, fun v h => h⟩, ?_⟩
          exact .inl ⟨by kernel_rfl, fun L a1 w1 n h => ⟨_, rfl, run_move (.tmp 8) rfl (h.var n 8 (by kernel_rfl))⟩⟩
        · refine ⟨.inr ⟨25, false, 89, rfl, by kernel_rfl, rfl, by simp, fun v h => h⟩, ?_⟩
          exact .inl ⟨by kernel_rfl, fun L a1 w1 n h => ⟨_, rfl, run_neqI (.tmp 90) (.const (.int .i64 2)) rfl (h.dep n 26 90 (by kernel_rfl) rfl) rfl (by decide)⟩⟩
        · refine ⟨.inl rfl, ?_⟩
          exact .inl ⟨by kernel_rfl, fun L a1 w1 n h => ⟨_, rfl, run_pickF (.tmp 89) _ _ rfl (h.dep n 25 89 (by kernel_rfl) rfl) (h.dep n 27 91 (by kernel_rfl) rfl)⟩⟩
        · refine ⟨.inl rfl, ?_⟩
          exact .inl ⟨by kernel_rfl, fun L a1 w1 n h => ⟨_, rfl, run_move (.tmp 92) rfl (h.dep n 28 92 (by kernel_rfl) rfl)⟩⟩
        · refine ⟨.inr ⟨29, false, 93, rfl, by kernel_rfl, rfl, by simp, fun v h => h⟩, ?_⟩
          exact .inl ⟨by kernel_rfl, fun L a1 w1 n h => ⟨_, rfl, run_move (.tmp 10) rfl (h.var n 10 (by kernel_rfl))⟩⟩
        · refine ⟨.inr ⟨29, false, 93, rfl, by kernel_rfl, rfl, by simp, fun v h => h⟩, ?_⟩
          exact .inl ⟨by kernel_rfl, fun L a1 w1 n h => ⟨_, rfl, run_neqI (.tmp 94) (.const (.int .i64 2)) rfl (h.dep n 30 94 (by kernel_rfl) rfl) rfl (by decide)⟩⟩
        · refine ⟨.inl rfl, ?_⟩
          exact .inl ⟨by kernel_rfl, fun L a1 w1 n h => ⟨_, rfl, run_pickF (.tmp 93) _ _ rfl (h.dep n 29 93 (by kernel_rfl) rfl) (h.dep n 31 95 (by kernel_rfl) rfl)⟩⟩
        · refine ⟨.inl rfl, ?_⟩
          exact .inl ⟨by kernel_rfl, fun L a1 w1 n h => ⟨_, rfl, run_move (.tmp 96) rfl (h.dep n 32 96 (by kernel_rfl) rfl)⟩⟩
        · refine ⟨.inr ⟨33, false, 97, rfl, by kernel_rfl, rfl, by simp, fun v h => h⟩, ?_⟩
          exact .inl ⟨by kernel_rfl, fun L a1 w1 n h => ⟨_, rfl, run_move (.tmp 3) rfl (h.var n 3 (by kernel_rfl))⟩⟩
        · refine ⟨.inr ⟨33, false, 97, rfl, by kernel_rfl, rfl, by simp, fun v h => h⟩, ?_⟩
          exact .inl ⟨by kernel_rfl, fun L a1 w1 n h => ⟨_, rfl, run_move (.tmp 4) rfl (h.var n 4 (by kernel_rfl))⟩⟩
        · refine ⟨.inr ⟨33, false, 97, rfl, by kernel_rfl, rfl, by simp, fun v h => h⟩, ?_⟩
          exact .inl ⟨by kernel_rfl, fun L a1 w1 n h => ⟨_, rfl, run_indexSl0 55 (.tmp 98) (.tmp 99) 30 gs 2 2 i rfl Tryz.underlying55 Tryz.sizeOf30 (h.dep n 34 98 (by kernel_rfl) rfl) (h.dep n 35 99 (by kernel_rfl) rfl) hi⟩⟩
        · refine ⟨.inr ⟨33, false, 97, rfl, by kernel_rfl, rfl, by simp, fun v h => h⟩, ?_⟩
          exact .inl ⟨by kernel_rfl, fun L a1 w1 n h => ⟨_, rfl, run_loadA 30 (.tmp 100) ⟨gs, i, none⟩ rfl Tryz.isAgg30 (h.dep n 36 100 (by kernel_rfl) rfl) ((Row.later rs h.inv).cell hu0)⟩⟩
        · refine ⟨.inr ⟨33, false, 97, rfl, by kernel_rfl, rfl, by simp, fun v h => h⟩, ?_⟩
          refine .inl ⟨by kernel_rfl, fun L a1 w1 n h => ⟨.pointer (some ⟨g1, 1, none⟩), rfl, ?_⟩⟩
          have e0 : a1.eval (.tmp 1) = _ := h.var n 1 (by kernel_rfl)
          unfold execOp
          simp only [e0]
          go_simp
        · refine ⟨.inr ⟨33, false, 97, rfl, by kernel_rfl, rfl, by simp, fun v h => h⟩, ?_⟩
          exact .inl ⟨by kernel_rfl, fun L a1 w1 n h => ⟨_, rfl, run_loadP 24 (.tmp 102) g1 1 27 [.int .u8 kd] ids rest _ rfl (h.dep n 38 102 (by kernel_rfl) rfl) (Row.later rA h.inv) rfl Tryz.underlying24 rfl hidz.out⟩⟩
        · refine ⟨.inr ⟨33, false, 97, rfl, by kernel_rfl, rfl, by simp, fun v h => h⟩, ?_⟩
          refine .inl ⟨by kernel_rfl, fun L a1 w1 n h => ⟨.pointer (some ⟨g1, 9, none⟩), rfl, ?_⟩⟩
          have e0 : a1.eval (.tmp 1) = _ := h.var n 1 (by kernel_rfl)
          unfold execOp
          simp only [e0]
          go_simp
        · refine ⟨.inr ⟨33, false, 97, rfl, by kernel_rfl, rfl, by simp, fun v h => h⟩, ?_⟩
          exact .inl ⟨by kernel_rfl, fun L a1 w1 n h => ⟨_, rfl, run_loadA 25 (.tmp 104) ⟨g1, 9, none⟩ rfl Tryz.isAgg25 (h.dep n 40 104 (by kernel_rfl) rfl) ((Row.later r1 h.inv).cell h9.out)⟩⟩
        · refine ⟨.inr ⟨33, false, 97, rfl, by kernel_rfl, rfl, by simp, fun v h => h⟩, ?_⟩
          refine .inl ⟨by kernel_rfl, fun L a1 w1 n h => ⟨.pointer (some ⟨g1, 8, none⟩), rfl, ?_⟩⟩
          have e0 : a1.eval (.tmp 1) = _ := h.var n 1 (by kernel_rfl)
          unfold execOp
          simp only [e0]
          go_simp
        · refine ⟨.inr ⟨33, false, 97, rfl, by kernel_rfl, rfl, by simp, fun v h => h⟩, ?_⟩
          exact .inl ⟨by kernel_rfl, fun L a1 w1 n h => ⟨_, rfl, run_loadA 25 (.tmp 106) ⟨g1, 8, none⟩ rfl Tryz.isAgg25 (h.dep n 42 106 (by kernel_rfl) rfl) ((Row.later r1 h.inv).cell h8.out)⟩⟩
        · refine ⟨.inr ⟨33, false, 97, rfl, by kernel_rfl, rfl, by simp, fun v h => h⟩, ?_⟩
          refine .inr fun L a1 w1 n h K hK => ?_
          have e0 : a1.eval (.tmp 101) = .pointer p := h.dep n 37 101 (by kernel_rfl) rfl
          have e1 : a1.eval (.tmp 103) = .agg ids.toArray := h.dep n 39 103 (by kernel_rfl) rfl
          have e2 : a1.eval (.tmp 105) = .slice E l d := h.dep n 41 105 (by kernel_rfl) rfl
          have e3 : a1.eval (.tmp 107) = .slice A m c := h.dep n 43 107 (by kernel_rfl) rfl
          refine st_call 16 _ _ #[.pointer p, .agg ids.toArray, .slice E l d, .slice A m c] rfl Tryz.call16 ?_ (Hids.out ▸ noCheck w1 p q E A l d m c (hv.later h.inv)) ?_
          · simp only [List.map_toArray, List.map_cons, List.map_nil, e0, e1, e2, e3]
          · rintro e w3 ⟨rfl, b9⟩
            exact ⟨_, rfl, hK _ w3 rfl (h.inv.trans (b9.mono h.inv.size))⟩
        · refine ⟨.inl rfl, ?_⟩
          exact .inl ⟨by kernel_rfl, fun L a1 w1 n h => ⟨_, rfl, run_pickF (.tmp 97) _ _ rfl (h.dep n 33 97 (by kernel_rfl) rfl) (h.dep n 44 108 (by kernel_rfl) rfl)⟩⟩
      case he8 =>
      intro V w8 hV hJ
      have b8 : Below w7.heap.size w7 w8 := hJ
      have z80 : V 45 = .bool false := hV 45 _ rfl
      have rA := Row.later rA b8
      have r1 := Row.later r1 b8
      have r2 := Row.later r2 b8
      have rs := Row.later rs b8
      have hv := hv.later b8
      have hB := hB.trans (b8.mono hB.size)
      clear hV hJ
      simp only [putOps, List.setIfInBounds_toArray, List.set_cons_succ, List.set_cons_zero, Nat.reduceAdd]
      rw [z80]
      clear z80
      refine hK8 _ _ ?_
      go_wp2
      go_roundw
      case rel => exact ⟨i + 1, by omega, by go_num, r1, r2, rs, hB⟩
      case measure => simp [intOf]; omega
    · obtain rfl : i = 2 := by omega
      go_wp2_with fail
      refine (bawake_any wr (hTw.out.later hB)).mono ?_
      rintro en w6 ⟨rfl, b6⟩
      go_wp2_with fail
      go_ret
      exact ⟨rfl, hB.trans (b6.mono hB.size)⟩
end Go.Proofs.YtooooncmjhcdbaaGreatDoor

/-
  From the readings of the box laws' arguments to the walks' words: an act; acts. Own work.
-/
namespace Go.Proofs.YtooooncmjhcdbaaGreatDoor
open Go.RowKit Go.Maps Go.ChangeMaps Go.ChangeShapes Go.WideShapes
/-- What is known of an act that came in. -/
structure BOk (w : World) (B : Nat) (a : BAct) : Prop where
  had : Bs w B a.A a.m a.ad
  hadb : IsBy a.ad
  htx : Bs w B a.E a.l a.tx
  htxb : IsBy a.tx
  hmc : a.m ≤ a.c
  hld : a.l ≤ a.d
  hq : ∀ x ∈ a.q.l, isI x
  hn : isI a.n
  hat : 0 ≤ a.at_ ∧ a.at_ < 256
  hby : 0 ≤ a.by_ ∧ a.by_ < 256
section
variable {H : Type} {enc : TypeId × Value → H} {w : World} {spare : Nat → Bool} {held : Bool}
instance : Inhabited BAct := ⟨⟨0, ⟨0, 0, 0, 0, 0, 0⟩, 0, none, 0, 0, none, 0, 0, 0, 0, [], []⟩⟩
/-- A field of a struct that was read. -/
theorem field_at {n off k : Nat} {t : TypeId} {fs : Array Field} {cs : List Value} {xs : List (DataW H × List MemPlace)} (hlen : xs.length = fs.size)
    (hf : ∀ (i : Nat) (f : Field), fs[i]? = some f → DataW.trod enc Tryz.prog w 0 spare held n f.type ((cs.drop f.offset).take (Tryz.prog.cellsOf f.type)) = xs[i]?)
    (i : Nat) (hi : fs[i]?.map (fun f => (f.offset, f.type)) = some (off, t)) (h1 : Tryz.prog.cellsOf t = k) : ∃ x, DataW.trod enc Tryz.prog w 0 spare held n t ((cs.drop off).take k) = some x := by
  obtain ⟨f, hfi, hft⟩ := Option.map_eq_some_iff.1 hi
  injection hft with h2 h3
  have hlt : i < xs.length := by rw [hlen]; exact (Array.getElem?_eq_some_iff.1 hfi).1
  have h := hf i f hfi
  rw [h2, h3, h1, List.getElem?_eq_getElem hlt] at h
  exact ⟨_, h⟩
theorem field_one {n off : Nat} {t : TypeId} {fs : Array Field} {cs : List Value} {xs : List (DataW H × List MemPlace)} (hlen : xs.length = fs.size)
    (hf : ∀ (i : Nat) (f : Field), fs[i]? = some f → DataW.trod enc Tryz.prog w 0 spare held n f.type ((cs.drop f.offset).take (Tryz.prog.cellsOf f.type)) = xs[i]?)
    (i : Nat) (hi : fs[i]?.map (fun f => (f.offset, f.type)) = some (off, t)) (h1 : Tryz.prog.cellsOf t = 1) (ho : off < cs.length) : ∃ v x, cs[off]? = some v ∧ DataW.trod enc Tryz.prog w 0 spare held n t [v] = some x := by
  obtain ⟨x, h⟩ := field_at hlen hf i hi h1
  have e : (cs.drop off).take 1 = [cs[off]] := by
    rw [List.drop_eq_getElem_cons ho]; rfl
  rw [e] at h
  exact ⟨_, _, List.getElem?_eq_getElem ho, h⟩
theorem one_of {α : Type} {l : List α} {k : Nat} {v : α} (h : (l.drop k).take 1 = [v]) : l[k]? = some v := by
  have := congrArg (fun x => x[0]?) h
  simpa [List.getElem?_take, List.getElem?_drop] using this
set_option maxRecDepth 100000 in
/-- An act, as it was read. -/
theorem open_bact {fuel : Nat} {cs : List Value} {x : DataW H × List MemPlace} (h : DataW.trod enc Tryz.prog w 0 spare held fuel 27 cs = some x) : ∃ q : BAct, cs = q.cells ∧ BOk w w.heap.size q := by
  obtain ⟨xs, n, _, rfl, hl, hlen, hf⟩ := DataW.trod_struct (fs := Tryz.prog.fieldsOf 27) Tryz.underlying27 h
  rw [show Tryz.prog.cellsOf 27 = 12 by kernel_rfl] at hl
  obtain ⟨v0, x0, g0, h0⟩ := field_one hlen hf 0 (show (Tryz.prog.fieldsOf 27)[0]?.map (fun f => (f.offset, f.type)) = some (0, 5) by kernel_rfl) (by kernel_rfl) (by omega)
  obtain ⟨x1, h1⟩ := field_at hlen hf 1 (show (Tryz.prog.fieldsOf 27)[1]?.map (fun f => (f.offset, f.type)) = some (1, 24) by kernel_rfl) (show _ = 6 by kernel_rfl)
  obtain ⟨v2, x2, g2, h2⟩ := field_one hlen hf 2 (show (Tryz.prog.fieldsOf 27)[2]?.map (fun f => (f.offset, f.type)) = some (7, 3) by kernel_rfl) (by kernel_rfl) (by omega)
  obtain ⟨v3, x3, g3, h3⟩ := field_one hlen hf 3 (show (Tryz.prog.fieldsOf 27)[3]?.map (fun f => (f.offset, f.type)) = some (8, 25) by kernel_rfl) (by kernel_rfl) (by omega)
  obtain ⟨v4, x4, g4, h4⟩ := field_one hlen hf 4 (show (Tryz.prog.fieldsOf 27)[4]?.map (fun f => (f.offset, f.type)) = some (9, 25) by kernel_rfl) (by kernel_rfl) (by omega)
  obtain ⟨v5, x5, g5, h5⟩ := field_one hlen hf 5 (show (Tryz.prog.fieldsOf 27)[5]?.map (fun f => (f.offset, f.type)) = some (10, 5) by kernel_rfl) (by kernel_rfl) (by omega)
  obtain ⟨v6, x6, g6, h6⟩ := field_one hlen hf 6 (show (Tryz.prog.fieldsOf 27)[6]?.map (fun f => (f.offset, f.type)) = some (11, 5) by kernel_rfl) (by kernel_rfl) (by omega)
  obtain ⟨k, e0, _, hk⟩ := DataW.trod_int Tryz.underlying5 h0
  obtain ⟨a, b, c, d, e, f, e1, i1, i2, i3, i4, i5, i6⟩ := open_id h1
  obtain ⟨z, e2, _, hz⟩ := DataW.trod_int Tryz.underlying3 h2
  obtain ⟨A, m, cc, ys, e3, hb3, hy3, hc3, _⟩ := trod_bs Tryz.underlying25 Tryz.underlying5 (by kernel_rfl) h3
  obtain ⟨E, l, dd, zs, e4, hb4, hy4, hc4, _⟩ := trod_bs Tryz.underlying25 Tryz.underlying5 (by kernel_rfl) h4
  obtain ⟨k5, e5, _, hk5⟩ := DataW.trod_int Tryz.underlying5 h5
  obtain ⟨k6, e6, _, hk6⟩ := DataW.trod_int Tryz.underlying5 h6
  refine ⟨⟨k, ⟨a, b, c, d, e, f⟩, z, A, m, cc, E, l, dd, k5, k6, ys, zs⟩, ?_, ⟨hb3, hy3, hb4, hy4, hc3, hc4, fun x hx => ?_, wf_i64 hz, ?_, ?_⟩⟩
  · simp only [List.cons.injEq, and_true] at e0 e2 e3 e4 e5 e6
    subst e0 e2 e3 e4 e5 e6
    have g1 : ∀ j, j < 6 → cs[1 + j]? = (vk .i64 [a, b, c, d, e, f])[j]? := fun j hj => by
      rw [← e1, List.getElem?_take, if_pos hj, List.getElem?_drop]
    have p0 := g1 0 (by decide)
    have p1 := g1 1 (by decide)
    have p2 := g1 2 (by decide)
    have p3 := g1 3 (by decide)
    have p4 := g1 4 (by decide)
    have p5 := g1 5 (by decide)
    match cs, hl with
    | [u0, u1, u2, u3, u4, u5, u6, u7, u8, u9, u10, u11], _ =>
      have r0 : u1 = .int .i64 a := Option.some.inj p0
      have r1 : u2 = .int .i64 b := Option.some.inj p1
      have r2 : u3 = .int .i64 c := Option.some.inj p2
      have r3 : u4 = .int .i64 d := Option.some.inj p3
      have r4 : u5 = .int .i64 e := Option.some.inj p4
      have r5 : u6 = .int .i64 f := Option.some.inj p5
      simp at g0 g2 g3 g4 g5 g6
      rw [g0, g2, g3, g4, g5, g6, r0, r1, r2, r3, r4, r5]
  · simp at hx
    rcases hx with rfl | rfl | rfl | rfl | rfl | rfl <;> assumption
  · show 0 ≤ k5 ∧ k5 < 256
    have := bounds_u8 hk5
    omega
  · show 0 ≤ k6 ∧ k6 < 256
    have := bounds_u8 hk6
    omega
theorem open_bact' {fuel : Nat} {v : Value} {x : DataW H × List MemPlace} (h : DataW.trod enc Tryz.prog w 0 spare held fuel 27 v.cells.toList = some x) : ∃ q : BAct, v.cells.toList = q.cells ∧ BOk w w.heap.size q := open_bact h
/-- Acts in a row. -/
def BActs (w : World) (B : Nat) (A : Option Addr) (n : Nat) (f : Nat → BAct) : Prop :=
  0 < n → ∃ b off, A = some ⟨b, off, none⟩ ∧ b < B ∧ ∀ j, j < n → (∀ i v, (f j).cells[i]? = some v → w.cell? ⟨b, off + j * 12 + i, none⟩ = some v) ∧ BOk w B (f j)
set_option maxRecDepth 100000 in
/-- Acts that came in. -/
theorem trod_bacts {A : Option Addr} {n c : Nat} {d : DataW H} {p : List MemPlace} (h : DataW.Trod enc Tryz.prog w 0 spare held 22 (.slice A n c) d p) :
    ∃ f : Nat → BAct, BActs w w.heap.size A n f := by
  obtain ⟨fuel, hf⟩ := h
  rcases Go.Deep.open_slice Tryz.underlying22 hf with ⟨hcs, _⟩ | ⟨a, len, cap, m, k, D, Pl, hcs, _, hl, hm, hmm, _, hx⟩
  · simp [Value.cells] at hcs
    obtain ⟨rfl, rfl, rfl⟩ := hcs
    exact ⟨fun _ => default, fun h => absurd h (by omega)⟩
  · simp [Value.cells] at hcs
    obtain ⟨rfl, rfl, rfl⟩ := hcs
    have hnm : n ≤ m := by rw [hmm]; split <;> omega
    have key : ∀ i, i < n → ∃ q : BAct, (∀ j v, q.cells[j]? = some v → w.cell? ((a.add (i * 12)).add j) = some v) ∧ BOk w w.heap.size q := by
      intro i hi
      obtain ⟨cs', h1, h2⟩ := hx i (by omega)
      rw [show Tryz.prog.cellsOf 27 = 12 by kernel_rfl] at h1
      obtain ⟨_, hlen, hat⟩ := World.cells?_some h1
      obtain ⟨q, rfl, hb⟩ := open_bact h2
      refine ⟨q, fun j v hj => ?_, hb⟩
      have hj6 := (List.getElem?_eq_some_iff.1 hj).1
      have := hat j hj6
      rw [this]
      exact hj
    obtain ⟨q, hq⟩ := Go.Deep.choose_lt (α := BAct) key
    refine ⟨q, fun h0 => ?_⟩
    obtain ⟨b, off, spot⟩ := a
    have hc0 := (hq 0 h0).1 0 _ rfl
    have hspot : spot = none := by simpa [Addr.add] using World.cell?_spot hc0
    subst hspot
    refine ⟨b, off, rfl, ?_, fun j hj => ?_⟩
    · have := block_lt_of_cell hc0
      simpa [Addr.add] using this
    · obtain ⟨h1, hb⟩ := hq j hj
      refine ⟨fun i v hv => ?_, hb⟩
      have := h1 i v hv
      rw [addr_plain, addr_plain] at this
      exact this
end
end Go.Proofs.YtooooncmjhcdbaaGreatDoor

/- Proved: the law BoxNobody (P8.3) answers true and leaves its argument as it read before. For every act; no condition but the tie of the table of keys to the program's text. -/
namespace Go.Proofs.YtooooncmjhcdbaaGreatDoor.boxNobody
open Go.ChangeShapes Go.WideShapes Go.ChangeAt Go.WideMaps Go.WideElems Go.RowKit

theorem own : ownKnob Tryz.prog.godebug = none := by kernel_rfl
theorem laidOut : laidOutB Tryz.prog = true := by kernel_rfl
theorem door_met (os : Os) (args : Array Value) : laidMetH Tryz.prog laidK ((World.doorLaid Tryz.prog 400 os).forCall (fun _ _ => 0) ⟨#[], args, []⟩).memory :=
  laidMetH_of_parts3 (fuel := 8) (laidMet_of_run' 8 (by kernel_rfl) (by kernel_rfl)) (by kernel_rfl) (by kernel_rfl)

set_option maxRecDepth 100000 in
theorem lifted (os : Os) (started : os.Started) (H : Type) (enc : TypeId × Value → H) :
    ReturnsInHanded {} Tryz.checked os 6 .any (fun w args => (Rows.boxNobodySpec.pre enc Tryz.prog Tryz.f6 [] false w args ∧ laidMetH Tryz.prog laidK w) ∧ sizedMet enc Tryz.prog Tryz.f6 (OpenSpec.ofChange Rows.boxNobodySpec) false w args)
      (Rows.boxNobodySpec.post enc Tryz.prog Tryz.f6 false true false false) := by
  refine returnsInHanded_of_change_and (C := Tryz.checked) (X := fun w _ => laidMetH Tryz.prog laidK w) (fun _ _ _ hh h => h.of_heap hh) own started (by kernel_rfl) Tryz.func6
    (ChangeSpec.witness_shaped (enc := enc) (C := Tryz.checked) (os := os) (X := fun w _ => laidMetH Tryz.prog laidK w) false (World.doorLaid Tryz.prog 400 os) #[.agg #[.int .u8 0, .int .i64 0, .int .i64 0, .int .i64 0, .int .i64 0, .int .i64 0, .int .i64 0, .int .i64 0, .slice none 0 0, .slice none 0 0, .int .u8 0, .int .u8 0]] 8 rfl (World.shaped_of_RefB (by kernel_rfl) (by kernel_rfl)) (by kernel_rfl) (by kernel_rfl) (by kernel_rfl) (door_met os _)) ?_
  intro W base args ds gs before hval0 hW _ _ hL _
  have hval : ∀ (j : Nat) t v, Tryz.f6.params[j]? = some t → args[j]? = some v → Value.okWide Tryz.prog W .any base t v := hval0
  have hW' := hW
  obtain ⟨p, q, hA0, hV, rfl, hfz, hnd⟩ := hW
  have hA : DataW.TrodAll enc Tryz.prog W 0 (fun _ => true) true Tryz.f6.params.toList args.toList ds p := hA0
  rw [Tryz.params6] at hA hval
  obtain ⟨v0, vs0, d0, ds0, p0, q0, hargs, rfl, rfl, h0, r0⟩ := trodAll_cons hA
  obtain ⟨rfl, rfl, rfl⟩ := trodAll_nil r0
  obtain rfl : args = #[v0] := by cases args; simp_all
  obtain ⟨rfl, rfl⟩ := trodVars_none hV
  have k0 := h0
  have lt0 : ∀ x ∈ p0, x.block < W.heap.size := by obtain ⟨m, hm⟩ := k0; exact DataW.trod_lt m _ _ _ hm
  clear hA0 hval0
  have hT : TabK W := tabsK_of_laid hL
  obtain ⟨cs, rfl⟩ : ∃ cs : List Value, v0 = .agg cs.toArray := by
    have := hval 0 27 v0 rfl rfl
    obtain ⟨cs, rfl, _⟩ : ∃ cs, v0 = .agg cs ∧ cs.size = Tryz.prog.cellsOf 27 ∧ Row.okWide Tryz.prog W .any base 27 cs := by
      simpa [Value.okWide, Tryz.underlying27] using this
    exact ⟨cs.toList, by simp⟩
  have kk := k0
  obtain ⟨fuel, hf⟩ := kk
  obtain ⟨q, hcs, hok⟩ := open_bact hf
  obtain rfl : cs = q.cells := hcs
  clear hf
  refine (boxNobody_any q W hT).mono fun e W' ⟨he, bel⟩ => ?_
  subst he
  exact ⟨_, rfl, _, _, _, [], _, [], hW', trodAll_mk1 (shut_bool Tryz.underlying4 _), (trodAll_cons_mk (Below.trod laidOut (by kernel_rfl) (of_decide_eq_true (by kernel_rfl)) k0 bel lt0) trodAll_mk0), rfl, bel.frame _, fun h => by cases h⟩

theorem over : Rows.BoxNobodySaid :=
  OpenClaim.holds_of_wide 6 Tryz.f6 rfl rfl rfl rfl rfl rfl rfl ⟨rfl, rfl, rfl, rfl, rfl⟩ rfl rfl rfl rfl rfl (by kernel_rfl) Tryz.func6 (by kernel_rfl)
    (of_decide_eq_true (by kernel_rfl)) (by unfold Func.isWrapper; first | (rw [if_pos (by decide +kernel)]; kernel_rfl) | (rw [if_neg (by decide +kernel)]; exact ⟨rfl, rfl⟩))
    (fun os started H enc _ => lifted os started H enc)

/-- The given statement. -/
theorem proved : Rows.BoxNobodyCardSaid :=
  Claim7.holds_tied_plain_at .later [] [.data] true (true, "a4e521d8f70eca98a07e36a6dd29b496ca03e3ca0ebfd55ad8c0a9911a3e1dd0") false
    over (fun _ h => by cases h) (by kernel_rfl) (fun _ h => by cases h) boxNobody_row_tie rfl ⟨rfl, rfl⟩ (by kernel_rfl) rfl
    (fun f fn hf hfn => by
      obtain rfl : f = 6 := Option.some.inj ((show Tryz.prog.funcNamed "intaglio/intagliolaw08.BoxNobody" = some 6 by kernel_rfl).symm.trans hf) |>.symm
      obtain rfl : fn = Tryz.f6 := (Option.some.inj (Tryz.func6.symm.trans hfn)).symm
      exact ⟨by kernel_rfl, fun j t ht => by
        rw [Tryz.params6] at ht
        have hm : t ∈ [27] := by simpa using Array.mem_of_getElem? ht
        have hall : ([27].all fun u => !Tryz.prog.wantsStandIn u) = true := by kernel_rfl
        exact (show Tryz.prog.wantsStandIn t = false by simpa using List.all_eq_true.1 hall t hm)⟩)
    (by kernel_rfl)
#print axioms proved
end Go.Proofs.YtooooncmjhcdbaaGreatDoor.boxNobody
