/-
  A set's behind: contract. Own work.
-/
import Derived.Test.YtfklfgaomcbchaaZsetK
namespace Go.Proofs.Ytfklfgaomcbchaa
open Go.RowKit Go.Shelf
set_option linter.unusedVariables false
set_option linter.unusedSimpArgs false
theorem run_indexStop0 {w : World} {a : Act} {o : Oper} (x y : Operand) (ps : List Lk) (l : Lk) (ho : o.op = .index 61 x y) (hx : a.eval x = .agg (lksC ps).toArray) (hy : a.eval y = .int .i64 0) (hlen : ps.length = 16) (hl : ps[0]? = some l) :
    (execOp a.eval o).run Try.prog w = .ok (.value (.agg l.cells.toArray)) w := run_indexStop x y ps 0 l ho hx hy hlen hl
/-- The first link's cells in a node's row. -/
theorem nxt0_some {Ls : List Nd} {j : Nat} {m : Nd} (h : Ls[j]? = some m) (h1 : 1 ≤ m.h) : nxt 0 (Ls.drop j) = ⟨some m.g, 1⟩ := by
  obtain ⟨hj, e⟩ := List.getElem?_eq_some_iff.1 h
  rw [List.drop_eq_getElem_cons hj, e]
  show (if 0 < m.h then _ else _) = _
  rw [if_pos (by omega)]
theorem nxt0_none {Ls : List Nd} {j : Nat} (h : Ls.length ≤ j) : nxt 0 (Ls.drop j) = ⟨none, 0⟩ := by
  rw [List.drop_of_length_le h]; rfl
theorem take_more {α : Type} {l : List α} {i : Nat} {x : α} (h : l[i]? = some x) : l.take (i + 1) = l.take i ++ [x] := by
  rw [List.take_add_one, h]; rfl
def SBh6n (f2 : FuncId) (c2 : Array Value) (g8 : Nat) (v7 : Value) (opn : Nat) (v : Value) : Prop :=
  match opn with
  | 0 => v = .pointer none
  | 1 | 2 | 14 => v = .bool false
  | 3 | 4 | 5 | 6 | 7 | 8 | 9 | 10 | 11 | 12 | 13 => v = undef
  | _ => True

def SBh6 (f2 : FuncId) (c2 : Array Value) (g8 gm bm hm k1 i cp7 : Nat) (A7 : Option Addr) (gk0 : Value) (mm : Nm) (ms : Int) (rr : Bool) (opn : Nat) (v : Value) : Prop :=
  match opn with
  | 0 | 4 | 5 | 6 => v = .pointer (some ⟨gm, 0, none⟩)
  | 1 | 2 => v = .bool true
  | 3 => v = .func (.func f2) #[] c2
  | 7 => v = .agg [encStr mm, .int .i64 ms].toArray
  | 8 => v = .pointer (some ⟨g8, 1, none⟩)
  | 9 => v = .int .i64 (k1 : Int)
  | 10 => v = .slice A7 i cp7
  | 11 => v = .int .i64 (i : Int)
  | 12 => v = .int .i64 ((k1 + i : Nat) : Int)
  | 13 | 14 => v = .bool rr
  | _ => True

theorem run_lenSlB {P : Program} {w : World} {a : Act} {o : Oper} (t : TypeId) (x : Operand) (A : Option Addr) (n c : Nat) (ho : o.op = .call { callee := .builtin .len, args := #[x], argTypes := #[t] }) (hu : ∃ e, P.underlying t = some (.slice e)) (hx : a.eval x = .slice A n c) :
    (execOp a.eval o).run P w = .ok (.value (.int .i64 n)) w := by
  obtain ⟨e, hu⟩ := hu
  unfold execOp
  simp only [ho, resolve, invoke, builtin, List.map_toArray, List.map_cons, List.map_nil, hx]
  go_simp
/-- A row of another type stays while this one grows. -/
theorem Row.grownS {w w' : World} {t g T e size n : Nat} {vs : List Value} {v : Value} {xs : List Value} (h : Row w t g vs) (ho : w.ownsRow T e size v n xs) (ht : t ≠ e) (hg : w.grownBy w' v.ownBlock) : Row w' t g vs := by
  refine (hg.block g h.lt (fun hk => ?_)).trans h
  rcases ho.2 with ⟨rfl, _⟩ | ⟨g', cap', cur', rfl, _, hc', _⟩
  · simp [Value.ownBlock] at hk
  · simp [Value.ownBlock] at hk
    subst hk
    have := (show w.heap[g]? = _ from h).symm.trans hc'
    simp at this
    exact ht this.2
set_option maxRecDepth 100000 in
set_option maxHeartbeats 1000000 in
theorem behind_any (w : World) (B gz mb k1 k2 : Nat) (hd : Nd) (Ls : List Nd) (f1 f2 : FuncId) (c1 c2 : Array Value) (hrow : Row w 52 gz [.map (some mb), ptr hd.g]) (hZ : ZAt w B (hd :: Ls) (full Ls)) (hh : hd.h = 16) (hk1 : k1 ≤ Ls.length) (hk2 : k2 ≤ Ls.length) (hl : Ls.length ≤ 1000000)
    (hf1 : ∀ (xs : Array Value) (w : World), (callFunc f1 xs).run Try.prog w = .ok (.enter f1 xs) w)
    (hP1 : ∀ w1, Below w.heap.size w w1 → ∀ (i : Nat) (m : Nd), Ls[i]? = some m → Calls Try.prog f1 (#[m.a.val, .int .i64 (i : Int)] ++ c1) w1 (fun e w2 => e = .returned (.bool (decide (i < k1))) ∧ Below w1.heap.size w1 w2))
    (hf2 : ∀ (xs : Array Value) (w : World), (callFunc f2 xs).run Try.prog w = .ok (.enter f2 xs) w)
    (hP2 : ∀ w1, Below w.heap.size w w1 → ∀ (i : Nat) (m : Nd), Ls[i]? = some m → Calls Try.prog f2 (#[m.a.val, .int .i64 (i : Int)] ++ c2) w1 (fun e w2 => e = .returned (.bool (decide (i < k2))) ∧ Below w1.heap.size w1 w2)) :
    Calls Try.prog 30 #[ptr gz, .func (.func f1) #[] c1, .func (.func f2) #[] c2] w fun e w' => ∃ v, e = .returned v ∧ OwnS w' w.heap.size v (((scs Ls).drop k1).take (k2 - k1)) ∧ Below w.heap.size w w' := by
  obtain ⟨ip, hip, hiz, his, hib⟩ := score_info
  have HMd := fun w1 (hb : Below w.heap.size w w1) => made_any w1 gz mb _ (hrow.later hb)
  have HWk := walk_any w B k1 hd Ls f1 c1 hZ hh hk1 hl hf1 hP1
  have cz1 := hrow.cell (j := 1) rfl
  have Hk := hide hZ
  obtain ⟨nk, hnk⟩ : ∃ nk, (hd :: Ls)[k1]? = some nk := ⟨_, List.getElem?_eq_getElem (by rw [List.length_cons]; omega)⟩
  have hlok := hZ.lo _ _ hnk
  have HMd0 := HMd w (Below.refl _ _)
  clear HMd
  go_enter Try.func30, Try.ntmps30
  go_wp2_with fail
  refine HMd0.mono ?_
  rintro e wA ⟨rfl, rfl⟩
  clear HMd0
  go_wp2_with fail
  refine HWk.mono ?_
  rintro e wB ⟨ps, rfl, hps, hst, bB⟩
  obtain ⟨⟨km, ks⟩, gk, bk, hk⟩ := nk
  have h0 : ps[0]? = some ⟨some gk, (k1 : Int)⟩ := by
    obtain ⟨c0, n0, hp0, hN0, hs0⟩ := hst 0 (by omega)
    have e0 : c0 = k1 := hs0.low (by rw [List.length_cons]; omega) fun j m hj => (hZ.lo j m hj).2.2.1
    rw [e0] at hp0 hN0
    have e1 : (⟨⟨km, ks⟩, gk, bk, hk⟩ : Nd) = n0 := Option.some.inj (hnk.symm.trans hN0)
    rw [hp0, ← e1]
  have hl0 : (lksC ((List.range hk).map (full Ls k1)))[0]? = some (.pointer ((nxt 0 (Ls.drop k1)).to.map fun g => ⟨g, 0, none⟩)) := lks_cell0 _ _ hlok.2.2.1
  have hkp := hide (show 0 < hk from hlok.2.2.1)
  replace hl0 := hide hl0
  replace h0 := hide h0
  replace hps := hide hps
  obtain ⟨X0, hX0⟩ : ∃ X0, X0 = (nxt 0 (Ls.drop k1)).to := ⟨_, rfl⟩
  rw [← hX0] at hl0
  replace hX0 := hide hX0
  clear hst hlok HWk hZ
  go_wp2_with (first
    | (with_reducible refine wl_run (o := ⟨some 19, _, _, _, _, _⟩) rfl (.agg #[ptr gk, .int .i64 (k1 : Int)]) (run_indexStop0 (.tmp 18) _ ps ⟨some gk, (k1 : Int)⟩ rfl rfl rfl hps.out h0.out) ?_)
    | (with_reducible refine wl_alloc (o := ⟨some 8, _, _, _, _, _⟩) rfl 60 _ [.pointer none, .int .i64 0] rfl rfl rfl ?_; intro g8 w7 r7 p7 l7 b7)
    | (with_reducible refine wl_store_row (o := ⟨none, .store 60 (.tmp 8) (.tmp 19), _, _, _, _⟩) rfl 60 (.tmp 8) (.tmp 19) g8 60 _ [ptr gk, .int .i64 (k1 : Int)] rfl rfl rfl r7 (szStop _ _) rfl (by simp [Value.oneCell']) ?_; intro w8 r8 o8; have B8 := bB.trans ((b7.trans (o8.below p7)).mono bB.size); have c80 := r8.cell (j := 0) rfl; have ck2 := ((Hk.out.later B8).node _ _ hnk).cell (j := 2) rfl; have cl0 := ((Hk.out.later B8).link _ _ hnk).cell hl0.out)
    | (with_reducible refine wl_run (o := ⟨some 25, _, _, _, _, _⟩) rfl (.pointer (some ⟨bk, 0, none⟩)) (run_indexSlZ 65 (.tmp 24) _ 70 2 bk 0 hk hk rfl Try.underlying65 Try.sizeOf70 rfl rfl hkp.out) ?_))
  have lo8 : w.heap.size ≤ g8 := Nat.le_trans bB.size p7
  clear c80 ck2 cl0 cz1 hrow b7 o8 p7 l7 r7
  go_loopw [7, 9] (fun vv pv wr => ∃ i : Nat, k1 + i ≤ Ls.length ∧ (i = 0 ∨ k1 + i ≤ k2) ∧ OwnS wr w.heap.size vv (((scs Ls).drop k1).take i) ∧ pv = .pointer ((nxt 0 (Ls.drop (k1 + i))).to.map fun g => ⟨g, 0, none⟩) ∧ Row wr 60 g8 [ptr gk, .int .i64 (k1 : Int)] ∧ Below w.heap.size w wr) (fun vv _ _ => 1000000 - (match vv with | .slice _ n _ => n | _ => 0))
  case atStart => exact ⟨0, by omega, .inl rfl, World.ownsRow_nil _ _ _ _, by rw [hX0.out]; rfl, r8, B8⟩
  case round =>
    clear r8 B8 hX0
    obtain ⟨i, hi, hik, own, rfl, r8, BW⟩ := hrel
    have hlen : (((scs Ls).drop k1).take i).length = i := by rw [List.length_take, List.length_drop, List.length_map]; omega
    obtain ⟨A7, cp7, rfl⟩ : ∃ A7 cp7, u7 = .slice A7 i cp7 := by
      rcases own.2 with ⟨rfl, h0⟩ | ⟨g, cap, cur, e, _⟩
      · exact ⟨none, 0, by rw [hlen] at h0; rw [h0]⟩
      · exact ⟨some ⟨g, 0, none⟩, cap, by rw [e, hlen]⟩
    have hwb := BW.size
    by_cases hend : k1 + i = Ls.length
    · rw [nxt0_none (by omega)]
      go_wp2_with fail
      rename_i K6 hK6
      refine wp_region_valsS [] (SBh6n f2 c2 g8 (.slice A7 i cp7)) (fun _ _ wz => Below wr.heap.size wr wz) (by kernel_rfl) (by kernel_rfl) (by kernel_rfl) (by kernel_rfl) ((Below.refl _ _).drew) ?obsn ?hen
      case obsn =>
        refine ⟨?_, ?_, ?_, ?_, ?_, ?_, ?_, ?_, ?_, ?_, ?_, ?_, ?_, ?_, ?_, trivial⟩
        · refine .inl ⟨.inl rfl, ?_⟩
          exact .inl ⟨by kernel_rfl, fun L a1 w1 n h => ⟨_, rfl, run_move (.tmp 9) rfl (h.var n 9 (by kernel_rfl))⟩⟩
        · refine .inl ⟨.inl rfl, ?_⟩
          refine .inl ⟨by kernel_rfl, fun L a1 w1 n h => ⟨.bool false, rfl, ?_⟩⟩
          have e0 : a1.eval (.tmp 28) = _ := h.dep n 0 28 (by kernel_rfl) rfl
          unfold execOp
          simp only [e0]
          go_simp
        · refine .inl ⟨.inl rfl, ?_⟩
          exact .inl ⟨by kernel_rfl, fun L a1 w1 n h => ⟨_, rfl, run_move (.tmp 29) rfl (h.dep n 1 29 (by kernel_rfl) rfl)⟩⟩
        · exact .inr ⟨⟨2, true, 30, rfl, by kernel_rfl, rfl, by simp, fun v h => by rw [show v = .bool false from h]; first | exact ne_tf | exact ne_ft | exact ne_undef _⟩, by kernel_rfl, rfl⟩
        · exact .inr ⟨⟨2, true, 30, rfl, by kernel_rfl, rfl, by simp, fun v h => by rw [show v = .bool false from h]; first | exact ne_tf | exact ne_ft | exact ne_undef _⟩, by kernel_rfl, rfl⟩
        · exact .inr ⟨⟨2, true, 30, rfl, by kernel_rfl, rfl, by simp, fun v h => by rw [show v = .bool false from h]; first | exact ne_tf | exact ne_ft | exact ne_undef _⟩, by kernel_rfl, rfl⟩
        · exact .inr ⟨⟨2, true, 30, rfl, by kernel_rfl, rfl, by simp, fun v h => by rw [show v = .bool false from h]; first | exact ne_tf | exact ne_ft | exact ne_undef _⟩, by kernel_rfl, rfl⟩
        · exact .inr ⟨⟨2, true, 30, rfl, by kernel_rfl, rfl, by simp, fun v h => by rw [show v = .bool false from h]; first | exact ne_tf | exact ne_ft | exact ne_undef _⟩, by kernel_rfl, rfl⟩
        · exact .inr ⟨⟨2, true, 30, rfl, by kernel_rfl, rfl, by simp, fun v h => by rw [show v = .bool false from h]; first | exact ne_tf | exact ne_ft | exact ne_undef _⟩, by kernel_rfl, rfl⟩
        · exact .inr ⟨⟨2, true, 30, rfl, by kernel_rfl, rfl, by simp, fun v h => by rw [show v = .bool false from h]; first | exact ne_tf | exact ne_ft | exact ne_undef _⟩, by kernel_rfl, rfl⟩
        · exact .inr ⟨⟨2, true, 30, rfl, by kernel_rfl, rfl, by simp, fun v h => by rw [show v = .bool false from h]; first | exact ne_tf | exact ne_ft | exact ne_undef _⟩, by kernel_rfl, rfl⟩
        · exact .inr ⟨⟨2, true, 30, rfl, by kernel_rfl, rfl, by simp, fun v h => by rw [show v = .bool false from h]; first | exact ne_tf | exact ne_ft | exact ne_undef _⟩, by kernel_rfl, rfl⟩
        · exact .inr ⟨⟨2, true, 30, rfl, by kernel_rfl, rfl, by simp, fun v h => by rw [show v = .bool false from h]; first | exact ne_tf | exact ne_ft | exact ne_undef _⟩, by kernel_rfl, rfl⟩
        · exact .inr ⟨⟨2, true, 30, rfl, by kernel_rfl, rfl, by simp, fun v h => by rw [show v = .bool false from h]; first | exact ne_tf | exact ne_ft | exact ne_undef _⟩, by kernel_rfl, rfl⟩
        · refine .inl ⟨.inl rfl, ?_⟩
          exact .inl ⟨by kernel_rfl, fun L a1 w1 n h => ⟨_, rfl, run_pickF (.tmp 30) _ _ rfl (h.dep n 2 30 (by kernel_rfl) rfl) rfl⟩⟩
      case hen =>
        intro V w11 hV hJ
        have b11 : Below wr.heap.size wr w11 := hJ
        have hE : V 14 = .bool false := hV 14 _ rfl
        clear hV hJ
        simp only [putOps, List.setIfInBounds_toArray, List.set_cons_succ, List.set_cons_zero, Nat.reduceAdd]
        rw [hE]
        refine hK6 _ _ ?_
        have own9 := own_later own b11
        go_wp2_with fail
        go_ret
        have e9 : k2 - k1 = i := by omega
        exact ⟨_, rfl, by rw [e9]; exact own9, BW.trans (b11.mono hwb)⟩
    · have hlt : k1 + i < Ls.length := by omega
      obtain ⟨m, hm⟩ : ∃ m, Ls[k1 + i]? = some m := ⟨_, List.getElem?_eq_getElem hlt⟩
      have hmN : (hd :: Ls)[k1 + i + 1]? = some m := by rw [List.getElem?_cons_succ]; exact hm
      have hz := Hk.out.later BW
      have hmh := (hz.lo _ _ hmN).2.2.1
      have rm := hz.node _ _ hmN
      have rlm := (hz.link _ _ hmN).cell (lks_cell0 (full Ls (k1 + i + 1)) m.h hmh)
      rw [nxt0_some hm hmh]
      obtain ⟨⟨mm, ms⟩, gm, bm, hm2⟩ := m
      have hz1 := hide (show IntKind.i64.wrap ((k1 : Int) + (i : Int)) = ((k1 + i : Nat) : Int) from wrap_id (by omega) (by omega) (by omega))
      obtain ⟨rr, hrr⟩ : ∃ rr, rr = decide (k1 + i < k2) := ⟨_, rfl⟩
      have HC : ∀ w1, Below wr.heap.size wr w1 → Calls Try.prog f2 (#[.agg #[encStr mm, .int .i64 ms], .int .i64 ((k1 + i : Nat) : Int)] ++ c2) w1 (fun e w2 => e = .returned (.bool rr) ∧ Below w1.heap.size w1 w2) := by
        intro w1 hb
        rw [hrr]
        have H9 := hP2 w1 (BW.trans (hb.mono hwb)) (k1 + i) ⟨⟨mm, ms⟩, gm, bm, hm2⟩ hm
        exact H9
      replace hrr := hide hrr
      have hm9 : (((scs Ls).drop k1))[i]? = some ⟨mm, ms⟩ := by rw [List.getElem?_drop, List.getElem?_map, hm]; rfl
      have htm := hide (take_more hm9)
      replace hm9 := hide hm9
      replace hm := hide hm
      replace hmN := hide hmN
      have hmhp := hide (show 0 < hm2 from hmh)
      obtain ⟨Xn, hXn⟩ : ∃ Xn, Xn = (nxt 0 (Ls.drop (k1 + i + 1))).to := ⟨_, rfl⟩
      rw [show (full Ls (k1 + i + 1) 0).to = Xn from hXn.symm] at rlm
      replace hXn := hide hXn
      have hHP2 := hide hP2
      clear hP2
      go_wp2_with fail
      rename_i K6 hK6
      refine wp_region_valsG [13] (SBh6 f2 c2 g8 gm bm hm2 k1 i cp7 A7 (ptr gk) mm ms rr) (fun _ _ wz => Below wr.heap.size wr wz) (by kernel_rfl) (by kernel_rfl) (by kernel_rfl) (by kernel_rfl) ((Below.refl _ _).drew) ?obs8 ?he8
      case obs8 =>
        refine ⟨?_, ?_, ?_, ?_, ?_, ?_, ?_, ?_, ?_, ?_, ?_, ?_, ?_, ?_, ?_, trivial⟩
        · refine ⟨.inl rfl, ?_⟩
          exact .inl ⟨by kernel_rfl, fun L a1 w1 n h => ⟨_, rfl, run_move (.tmp 9) rfl (h.var n 9 (by kernel_rfl))⟩⟩
        · refine ⟨.inl rfl, ?_⟩
          refine .inl ⟨by kernel_rfl, fun L a1 w1 n h => ⟨.bool true, rfl, ?_⟩⟩
          have e0 : a1.eval (.tmp 28) = _ := h.dep n 0 28 (by kernel_rfl) rfl
          unfold execOp
          simp only [e0]
          go_simp
        · refine ⟨.inl rfl, ?_⟩
          exact .inl ⟨by kernel_rfl, fun L a1 w1 n h => ⟨_, rfl, run_move (.tmp 29) rfl (h.dep n 1 29 (by kernel_rfl) rfl)⟩⟩
        · refine ⟨.inr ⟨2, true, 30, rfl, by kernel_rfl, rfl, by simp, fun v h => h⟩, ?_⟩
          exact .inl ⟨by kernel_rfl, fun L a1 w1 n h => ⟨_, rfl, run_move (.tmp 2) rfl (h.var n 2 (by kernel_rfl))⟩⟩
        · refine ⟨.inr ⟨2, true, 30, rfl, by kernel_rfl, rfl, by simp, fun v h => h⟩, ?_⟩
          exact .inl ⟨by kernel_rfl, fun L a1 w1 n h => ⟨_, rfl, run_move (.tmp 9) rfl (h.var n 9 (by kernel_rfl))⟩⟩
        · refine ⟨.inr ⟨2, true, 30, rfl, by kernel_rfl, rfl, by simp, fun v h => h⟩, ?_⟩
          refine .inl ⟨by kernel_rfl, fun L a1 w1 n h => ⟨.pointer (some ⟨gm, 0, none⟩), rfl, ?_⟩⟩
          have e0 : a1.eval (.tmp 32) = _ := h.dep n 4 32 (by kernel_rfl) rfl
          unfold execOp
          simp only [e0]
          go_simp
        · refine ⟨.inr ⟨2, true, 30, rfl, by kernel_rfl, rfl, by simp, fun v h => h⟩, ?_⟩
          refine .inl ⟨by kernel_rfl, fun L a1 w1 n h => ⟨.pointer (some ⟨gm, 0, none⟩), rfl, ?_⟩⟩
          have e0 : a1.eval (.tmp 33) = _ := h.dep n 5 33 (by kernel_rfl) rfl
          unfold execOp
          simp only [e0]
          go_simp
        · refine ⟨.inr ⟨2, true, 30, rfl, by kernel_rfl, rfl, by simp, fun v h => h⟩, ?_⟩
          exact .inl ⟨by kernel_rfl, fun L a1 w1 n h => ⟨_, rfl, run_loadP 35 (.tmp 34) gm 0 67 [] [encStr mm, .int .i64 ms] [.slice (some ⟨bm, 0, none⟩) hm2 hm2] _ rfl (h.dep n 6 34 (by kernel_rfl) rfl) (Row.later rm h.inv) rfl Try.underlying35 rfl (szSc ⟨mm, ms⟩)⟩⟩
        · refine ⟨.inr ⟨2, true, 30, rfl, by kernel_rfl, rfl, by simp, fun v h => h⟩, ?_⟩
          refine .inl ⟨by kernel_rfl, fun L a1 w1 n h => ⟨.pointer (some ⟨g8, 1, none⟩), rfl, ?_⟩⟩
          have e0 : a1.eval (.tmp 8) = _ := h.var n 8 (by kernel_rfl)
          unfold execOp
          simp only [e0]
          go_simp
        · refine ⟨.inr ⟨2, true, 30, rfl, by kernel_rfl, rfl, by simp, fun v h => h⟩, ?_⟩
          exact .inl ⟨by kernel_rfl, fun L a1 w1 n h => ⟨_, rfl, run_loadA 3 (.tmp 36) ⟨g8, 1, none⟩ rfl Try.isAgg3 (h.dep n 8 36 (by kernel_rfl) rfl) ((Row.later r8 h.inv).cell (j := 1) (v := .int .i64 (k1 : Int)) rfl)⟩⟩
        · refine ⟨.inr ⟨2, true, 30, rfl, by kernel_rfl, rfl, by simp, fun v h => h⟩, ?_⟩
          exact .inl ⟨by kernel_rfl, fun L a1 w1 n h => ⟨_, rfl, run_move (.tmp 7) rfl (h.var n 7 (by kernel_rfl))⟩⟩
        · refine ⟨.inr ⟨2, true, 30, rfl, by kernel_rfl, rfl, by simp, fun v h => h⟩, ?_⟩
          exact .inl ⟨by kernel_rfl, fun L a1 w1 n h => ⟨_, rfl, run_lenSlB 26 (.tmp 38) A7 i cp7 rfl ⟨_, Try.underlying26⟩ (h.dep n 10 38 (by kernel_rfl) rfl)⟩⟩
        · refine ⟨.inr ⟨2, true, 30, rfl, by kernel_rfl, rfl, by simp, fun v h => h⟩, ?_⟩
          exact .inl ⟨by kernel_rfl, fun L a1 w1 n h => ⟨_, rfl, run_addZ (.tmp 37) (.tmp 39) rfl (h.dep n 9 37 (by kernel_rfl) rfl) (h.dep n 11 39 (by kernel_rfl) rfl) hz1.out⟩⟩
        · refine ⟨.inr ⟨2, true, 30, rfl, by kernel_rfl, rfl, by simp, fun v h => h⟩, ?_⟩
          refine .inr fun L a1 w1 n h K hK => ?_
          have y0 : a1.eval (.tmp 35) = .agg #[encStr mm, .int .i64 ms] := h.dep n 7 35 (by kernel_rfl) rfl
          have y1 : a1.eval (.tmp 40) = .int .i64 ((k1 + i : Nat) : Int) := h.dep n 12 40 (by kernel_rfl) rfl
          have y2 : a1.eval (.tmp 31) = .func (.func f2) #[] c2 := h.dep n 3 31 (by kernel_rfl) rfl
          refine st_callF2 f2 (.tmp 31) (.tmp 35) (.tmp 40) _ _ (.agg #[encStr mm, .int .i64 ms]) (.int .i64 ((k1 + i : Nat) : Int)) c2 rfl y2 y0 y1 hf2 (HC w1 h.inv) ?_
          rintro e w3 ⟨rfl, b9⟩
          exact ⟨_, rfl, hK _ w3 rfl (h.inv.trans (b9.mono h.inv.size))⟩
        · refine ⟨.inl rfl, ?_⟩
          exact .inl ⟨by kernel_rfl, fun L a1 w1 n h => ⟨_, rfl, run_pickT (.tmp 30) _ _ rfl (h.dep n 2 30 (by kernel_rfl) rfl) (h.dep n 13 41 (by kernel_rfl) rfl)⟩⟩
      case he8 =>
        intro V w11 hV hJ
        have b11 : Below wr.heap.size wr w11 := hJ
        have hE : V 14 = .bool rr := hV 14 _ rfl
        clear hV hJ
        simp only [putOps, List.setIfInBounds_toArray, List.set_cons_succ, List.set_cons_zero, Nat.reduceAdd]
        rw [hE]
        refine hK6 _ _ ?_
        have own9 := own_later own b11
        have B11 := BW.trans (b11.mono hwb)
        cases rr with
        | false =>
          go_wp2_with fail
          go_ret
          have hnl : ¬ k1 + i < k2 := by have := hrr.out; simpa using this.symm
          have e9 : k2 - k1 = i := by omega
          exact ⟨_, rfl, by rw [e9]; exact own9, B11⟩
        | true =>
          have hnl : k1 + i < k2 := by have := hrr.out; simpa using this.symm
          have r8b := r8.later b11
          have rmb : Row w11 67 gm ([] ++ ([encStr mm, .int .i64 ms] ++ [.slice (some ⟨bm, 0, none⟩) hm2 hm2])) := rm.later b11
          have hlb : w11.cell? ⟨bm, 0, none⟩ = some (.pointer (Xn.map fun g => ⟨g, 0, none⟩)) := by
            have h1 := ((Hk.out.later B11).link _ _ hmN.out).cell (lks_cell0 (full Ls (k1 + i + 1)) hm2 hmh)
            rw [h1, hXn.out]
          have hnl2 := hide hnl
          have hma : i + 1 ≤ maxLen := by simp only [maxLen]; omega
          have hmb : (i + 1) * 24 ≤ 140737488355328 := by omega
          have hwb2 := B11.size
          have h02 : 0 < 2 := by decide
          clear hnl hE HC r8 rm rlm
          go_wp2_with (first
            | (with_reducible refine wl_load_part (o := ⟨some 54, _, _, _, _, _⟩) rfl 35 (.tmp 53) gm 0 67 [] [encStr mm, .int .i64 ms] [.slice (some ⟨bm, 0, none⟩) hm2 hm2] _ rfl rfl rmb rfl Try.underlying35 rfl (szSc ⟨mm, ms⟩) ?_)
            | ((with_reducible refine wl_build1B (o := ⟨some 55, _, _, _, _, _⟩) rfl 26 (.tmp 54) rfl 35 ip _ [encStr mm, .int .i64 ms] 2 Try.underlying26 hip hiz rfl his rfl h02 (by decide) rfl ?_); intro g6 w6 r6 p6 l6 b6; have own6 := own_later own9 b6; have hwb6 := Nat.le_trans hwb2 b6.size)
            | ((at_builtin; with_reducible refine wl_append_at (o := ⟨some 56, _, _, _, _, _⟩) rfl (.tmp 50) (.tmp 55) 26 rfl w.heap.size 35 ip _ 2 24 Try.underlying26 hip hiz his hib rfl h02 (.slice A7 i cp7) _ _ rfl own6 ⟨g6, 0, none⟩ 1 1 [encStr mm, .int .i64 ms] rfl rfl (row_src r6) (by simp [Value.oneCell']) (by rw [hlen]; exact hma) (by rw [hlen]; exact hmb) hwb6 ?_); intro v7 w7 own7 gr7 at7; have B7 : Below w.heap.size w w7 := (B11.trans (b6.mono hwb2)).grown gr7 hwb6 (fun k hk => (own6.lt k hk).1); have z7 := Hk.out.later B7; have cn7 := (z7.node _ _ hmN.out).cell (j := 2) rfl; have cl7 := ((z7.link _ _ hmN.out).cell (lks_cell0 (full Ls (k1 + i + 1)) hm2 hmhp.out)); rw [show (full Ls (k1 + i + 1) 0).to = Xn from hXn.out.symm] at cl7)
            | (with_reducible refine wl_run (o := ⟨some 47, _, _, _, _, _⟩) rfl (.pointer (some ⟨bm, 0, none⟩)) (run_indexSlZ 65 (.tmp 46) _ 70 2 bm 0 hm2 hm2 rfl Try.underlying65 Try.sizeOf70 rfl rfl hmhp.out) ?_))
          go_roundw
          case rel =>
            refine ⟨i + 1, by omega, .inr (by have := hnl2.out; omega), ?_, by rw [hXn.out]; rfl, (r8b.later b6).grownS own6 (by decide) gr7, B7⟩
            rw [htm.out]
            rw [OwnS, scsC_app, List.length_append]
            exact own7
          case measure =>
            rcases own7.2 with ⟨e, h0⟩ | ⟨g, cap, cur, e, _⟩
            · omega
            · rw [e, hlen]
              show 1000000 - (i + 1) < 1000000 - i
              omega
end Go.Proofs.Ytfklfgaomcbchaa
