/-
  Several own texts in one: ValPa, ValPb, ValPc, ValPd, ValPe, ValPf, ValPg, ValPh. Own work.
-/
import Derived.Test.YtpbkejmffddelaaGreatGI
set_option linter.unusedVariables false
set_option linter.unusedSimpArgs false
/-
  Values of all kinds: what a call on one may turn; tables: get, put, cut. Own work.
-/
namespace Go.Proofs.YtpbkejmffddelaaGreat
open Go.RowKit Go.Shelf Go.Maps
/-- Types of plain data. -/
abbrev PlainT (t : TypeId) : Prop := t = 87 ∨ t = 9 ∨ t = 99 ∨ t = 26 ∨ t = 54
/-- What was there of plain data stays. -/
structure Trn (w w' : World) : Prop where
  os : w'.os = w.os
  tape : w'.tape = w.tape
  output : w'.output = w.output
  size : w.heap.size ≤ w'.heap.size
  keep : ∀ (k : Nat) (cs : Array Value) (t : TypeId) (fr : Nat × Nat), w.heap[k]? = some (Obj.cells cs t fr) → PlainT t → w'.heap[k]? = w.heap[k]?
section
variable {w w' a b c : World} {g : Nat}
theorem Trn.refl (w : World) : Trn w w := ⟨rfl, rfl, rfl, Nat.le_refl _, fun _ _ _ _ _ _ => rfl⟩
theorem Trn.trans (h : Trn a b) (k : Trn b c) : Trn a c := ⟨k.os.trans h.os, k.tape.trans h.tape, k.output.trans h.output, Nat.le_trans h.size k.size, fun i cs t fr hi ht => by
  have h1 := h.keep i cs t fr hi ht
  exact (k.keep i cs t fr (h1.trans hi) ht).trans h1⟩
theorem Trn.of (h : Below w.heap.size w w') : Trn w w' := ⟨h.os, h.tape, h.output, h.size, fun k cs t fr hk _ => h.block k (Array.getElem?_eq_some_iff.1 hk).1⟩
theorem Trn.butz {S : List Nat} (h : ButZ S w w') (hS : ∀ g ∈ S, ∀ (cs : Array Value) (t : TypeId) (fr : Nat × Nat), w.heap[g]? = some (Obj.cells cs t fr) → ¬ PlainT t) : Trn w w' :=
  ⟨h.os, h.tape, h.output, h.size, fun k cs t fr hk ht => h.block k (Array.getElem?_eq_some_iff.1 hk).1 (fun e => hS k e cs t fr hk ht)⟩
theorem Trn.but (h : But g w w') (hS : ∀ (cs : Array Value) (t : TypeId) (fr : Nat × Nat), w.heap[g]? = some (Obj.cells cs t fr) → ¬ PlainT t) : Trn w w' :=
  ⟨h.os, h.tape, h.output, h.size, fun k cs t fr hk ht => h.block k (Array.getElem?_eq_some_iff.1 hk).1 (fun e => hS cs t fr (e ▸ hk) ht)⟩
theorem Trn.own {B e size n : Nat} {v : Value} {xs : List Value} (h : w.ownsRow B e size v n xs) (t : Trn w w') (he : PlainT e) : w'.ownsRow B e size v n xs := by
  refine ⟨h.1, ?_⟩
  rcases h.2 with h2 | ⟨g, cap, cur, hv, hg, hh, r⟩
  · exact .inl h2
  · exact .inr ⟨g, cap, cur, hv, hg, (t.keep g _ _ _ hh he).trans hh, r⟩
theorem Trn.row {t g : Nat} {vs : List Value} (h : Row w t g vs) (k : Trn w w') (ht : PlainT t) : Row w' t g vs := (k.keep g _ _ _ h ht).trans h
theorem below_of_grP {B e size n : Nat} {v : Value} {xs : List Value} (gr : w.grownBy w' v.ownBlock) (o : w.ownsRow B e size v n xs) (hB : B ≤ w.heap.size) : Below B w w' :=
  ⟨gr.os, gr.tape, gr.output, gr.size, fun k hk => gr.block k (Nat.lt_of_lt_of_le hk hB) (fun hkv => by have := (o.lt k hkv.symm).1; omega)⟩
/-- A map's block is none of them. -/
theorem map_notplain {mb : Nat} {es : Ents} (h : MapAt w mb es) : ∀ (cs : Array Value) (t : TypeId) (fr : Nat × Nat), w.heap[mb]? = some (Obj.cells cs t fr) → ¬ PlainT t := fun cs t fr hk _ => by
  obtain ⟨es, clock, hb, _⟩ := h
  rw [hb] at hk
  cases hk
theorem row_notplain {t g : Nat} {vs : List Value} (h : Row w t g vs) (ht : ¬ PlainT t) : ∀ (cs : Array Value) (t' : TypeId) (fr : Nat × Nat), w.heap[g]? = some (Obj.cells cs t' fr) → ¬ PlainT t' := fun cs t' fr hk hp => by
  have := (show w.heap[g]? = _ from h).symm.trans hk
  simp at this
  exact ht (this.2.1 ▸ hp)
end
theorem wl_build0P {P : Program} {ops : Array Oper} {rest : List Oper} {o : Oper} {a : Act} {w : World} {Q : Exit → Act → World → Prop} (hgd : o.guard = none) (t : TypeId) (ho : o.op = .buildSlice t 0 #[]) (e : TypeId) (i : TypeInfo) (ht : P.underlying t = some (.slice e)) (hi : P.info? e = some i) (hsz : i.size = 1)
    (hk : ∀ v w', w'.ownsRow w.heap.size e 1 v 0 [] → Below w.heap.size w w' → wpList P ops Q rest (a.put o.dst v) w') : wpList P ops Q (o :: rest) a w :=
  wpList_plain hgd fun K hK => st_build0 t ho e i ht hi hsz fun v w' h1 h2 => hK _ _ (hk v w' h1 h2)
theorem atU {es : Ents} (hp : ∀ p ∈ es, p.2 = zU) (f : Nm) : (atE es f).getD zU = zU := by
  cases h : atE es f with
  | none => rfl
  | some v => exact hp _ (atE_mem h)
set_option maxRecDepth 100000 in
set_option maxHeartbeats 1000000 in
theorem cutP_any (w : World) (mb : Nat) (es : Ents) (f : Nm) (hm : MapAt w mb es) (hp : PrE es) (hf : f.length ≤ maxLen) :
    Calls Tryz.prog 94 #[.agg #[.map (some mb)], encStr f] w fun e w' => e = .returned (.bool (atE es f).isSome) ∧ MapAt w' mb (delE es f) ∧ But mb w w' := by
  obtain ⟨q, hq⟩ := hp.at f
  obtain ⟨b, hb⟩ : ∃ b, (atE es f).isSome = b := ⟨_, rfl⟩
  have h1 := onePr q; have hsz := szPr q
  have hmb := hm.lt
  rw [hb]
  replace hm := hide hm
  replace hq := hide hq
  replace hb := hide hb
  clear hp
  go_enter Tryz.func94, Tryz.ntmps94
  go_wp2_with (first
    | ((with_reducible refine wl_box (o := ⟨some 2, _, _, _, _, _⟩) rfl 66 (.tmp 0) _ [.map (some mb)] rfl rfl rfl ?_); intro g3 w3 r3 p3 l3 b3; have m3 := hide (hm.out.later b3); have c0 := r3.cell (j := 0) rfl)
    | (with_reducible refine wl_lookEP (o := ⟨some 11, _, _, _, _, _⟩) rfl (.tmp 9) (.tmp 10) f mb es q.v b hq.out hb.out rfl rfl rfl m3.out hf ?_)
    | ((with_reducible refine wl_alloc (o := ⟨some 5, _, _, _, _, _⟩) rfl 87 _ [encStr [], encStr []] rfl zeroPr rfl ?_); intro g7 w6 r6 p6 l6 b6)
    | ((with_reducible refine wl_store_row rfl 87 (.tmp 5) (.tmp 12) g7 87 _ q.cells rfl rfl rfl r6 hsz rfl h1 ?_); intro w7 r7 o7; have b7 := b6.trans ((o7.below p6).mono (Nat.le_refl _)); have B7 := b3.trans (b7.mono b3.size); have r37 := r3.later b7; have m7 := hide (m3.out.later b7); have c7 := r37.cell (j := 0) rfl)
    | ((with_reducible refine wl_delP rfl (.tmp 15) (.tmp 16) f mb es rfl rfl rfl m7.out hf ?_); intro w8 m8 o8))
  go_ret
  exact ⟨rfl, m8, (But.of B7 mb).trans (But.only o8)⟩

set_option maxRecDepth 100000 in
set_option maxHeartbeats 1000000 in
theorem cutU_any (w : World) (mb : Nat) (es : Ents) (f : Nm) (hm : MapAt w mb es) (hp : ∀ p ∈ es, p.2 = zU) (hf : f.length ≤ maxLen) :
    Calls Tryz.prog 96 #[.agg #[.map (some mb)], encStr f] w fun e w' => e = .returned (.bool (atE es f).isSome) ∧ MapAt w' mb (delE es f) ∧ But mb w w' := by
  have hq : (atE es f).getD zU = zU := atU hp f
  obtain ⟨b, hb⟩ : ∃ b, (atE es f).isSome = b := ⟨_, rfl⟩
  have hsz := szEU; have h1 := oneEU
  have hmb := hm.lt
  rw [hb]
  replace hm := hide hm
  replace hq := hide hq
  replace hb := hide hb
  clear hp
  go_enter Tryz.func96, Tryz.ntmps96
  go_wp2_with (first
    | ((with_reducible refine wl_box (o := ⟨some 2, _, _, _, _, _⟩) rfl 69 (.tmp 0) _ [.map (some mb)] rfl rfl rfl ?_); intro g3 w3 r3 p3 l3 b3; have m3 := hide (hm.out.later b3); have c0 := r3.cell (j := 0) rfl)
    | (with_reducible refine wl_lookEU (o := ⟨some 11, _, _, _, _, _⟩) rfl (.tmp 9) (.tmp 10) f mb es zU b hq.out hb.out rfl rfl rfl m3.out hf ?_)
    | ((with_reducible refine wl_alloc (o := ⟨some 5, _, _, _, _, _⟩) rfl 113 _ [] rfl zeroEU rfl ?_); intro g7 w6 r6 p6 l6 b6)
    | ((with_reducible refine wl_store_row rfl 113 (.tmp 5) (.tmp 12) g7 113 _ [] rfl rfl rfl r6 hsz rfl h1 ?_); intro w7 r7 o7; have b7 := b6.trans ((o7.below p6).mono (Nat.le_refl _)); have B7 := b3.trans (b7.mono b3.size); have r37 := r3.later b7; have m7 := hide (m3.out.later b7); have c7 := r37.cell (j := 0) rfl)
    | ((with_reducible refine wl_delU rfl (.tmp 15) (.tmp 16) f mb es rfl rfl rfl m7.out hf ?_); intro w8 m8 o8))
  go_ret
  exact ⟨rfl, m8, (But.of B7 mb).trans (But.only o8)⟩

set_option maxRecDepth 100000 in
set_option maxHeartbeats 1000000 in
theorem getU_any (w : World) (mb : Nat) (es : Ents) (f : Nm) (hm : MapAt w mb es) (hp : ∀ p ∈ es, p.2 = zU) (hf : f.length ≤ maxLen) :
    Calls Tryz.prog 97 #[.agg #[.map (some mb)], encStr f] w fun e w' => e = .returned (.tuple #[zU, .bool (atE es f).isSome]) ∧ Below w.heap.size w w' := by
  have hq : (atE es f).getD zU = zU := atU hp f
  obtain ⟨b, hb⟩ : ∃ b, (atE es f).isSome = b := ⟨_, rfl⟩
  have h1 := oneEU
  have hsz := szEU
  rw [hb]
  replace hm := hide hm
  replace hq := hide hq
  replace hb := hide hb
  clear hp
  go_enter Tryz.func97, Tryz.ntmps97
  go_wp2_with (first
    | ((with_reducible refine wl_box (o := ⟨some 2, _, _, _, _, _⟩) rfl 69 (.tmp 0) _ [.map (some mb)] rfl rfl rfl ?_); intro g3 w3 r3 p3 l3 b3)
    | ((with_reducible refine wl_alloc (o := ⟨some 4, _, _, _, _, _⟩) rfl 113 _ [] rfl zeroEU rfl ?_); intro g4 w4 r4 p4 l4 b4; have r34 := r3.later b4; have B4 := b3.trans (b4.mono b3.size); have m4 := hide (hm.out.later B4); have c0 := r34.cell (j := 0) rfl)
    | (with_reducible refine wl_lookEU (o := ⟨some 12, _, _, _, _, _⟩) rfl (.tmp 10) (.tmp 11) f mb es zU b hq.out hb.out rfl rfl rfl m4.out hf ?_)
    | ((with_reducible refine wl_alloc (o := ⟨some 6, _, _, _, _, _⟩) rfl 113 _ [] rfl zeroEU rfl ?_); intro g7 w6 r6 p6 l6 b6)
    | ((with_reducible refine wl_store_row rfl 113 (.tmp 6) (.tmp 13) g7 113 _ [] rfl rfl rfl r6 hsz rfl h1 ?_); intro w7 r7 o7; have b7 := b6.trans ((o7.below p6).mono (Nat.le_refl _)); have B7 := B4.trans (b7.mono B4.size); have r47 := r4.later b7)
    | (with_reducible refine wl_load_row (o := ⟨some 15, _, _, _, _, _⟩) rfl 113 (.tmp 6) g7 113 [] _ rfl rfl r7 Tryz.underlying113 rfl hsz ?_)
    | ((with_reducible refine wl_store_row rfl 113 (.tmp 4) (.tmp 15) g4 113 _ [] rfl rfl rfl r47 hsz rfl h1 ?_); intro w8 r8 o8; have B8 := B7.trans ((o8.below (Nat.le_trans b3.size p4)).mono (Nat.le_refl _))))
  refine bodyPost_ret (v := .tuple #[zU, .bool b]) ?_ rfl ⟨rfl, B8⟩
  exact results_rt2 Tryz.results97 _ _ g4 113 _ _ _ rfl r8 Tryz.underlying113 rfl hsz rfl
set_option maxRecDepth 100000 in
set_option maxHeartbeats 1000000 in
theorem putU_any (w : World) (mb : Nat) (es : Ents) (f : Nm) (hm : MapAt w mb es) (hp : ∀ p ∈ es, p.2 = zU) (hf : f.length ≤ maxLen) (hl : es.length < maxLen) :
    Calls Tryz.prog 95 #[.agg #[.map (some mb)], encStr f, zU] w fun e w' => e = .returned (.bool (!(atE es f).isSome)) ∧ MapAt w' mb (putE es f zU) ∧ But mb w w' := by
  have hq : (atE es f).getD zU = zU := atU hp f
  obtain ⟨b, hb⟩ : ∃ b, (atE es f).isSome = b := ⟨_, rfl⟩
  have h1 := oneEU
  have hsz := szEU
  have hmb := hm.lt
  rw [hb]
  replace hm := hide hm
  replace hq := hide hq
  replace hb := hide hb
  clear hp
  go_enter Tryz.func95, Tryz.ntmps95
  go_wp2_with (first
    | ((with_reducible refine wl_box (o := ⟨some 3, _, _, _, _, _⟩) rfl 69 (.tmp 0) _ [.map (some mb)] rfl rfl rfl ?_); intro g3 w3 r3 p3 l3 b3)
    | ((with_reducible refine wl_box (o := ⟨some 5, _, _, _, _, _⟩) rfl 113 (.tmp 2) _ [] rfl rfl rfl ?_); intro g5 w5 r5 p5 l5 b5; have r35 := r3.later b5; have B5 := b3.trans (b5.mono b3.size); have m5 := hide (hm.out.later B5); have c0 := r35.cell (j := 0) rfl)
    | (with_reducible refine wl_lookEU (o := ⟨some 13, _, _, _, _, _⟩) rfl (.tmp 11) (.tmp 12) f mb es zU b hq.out hb.out rfl rfl rfl m5.out hf ?_)
    | ((with_reducible refine wl_alloc (o := ⟨some 7, _, _, _, _, _⟩) rfl 113 _ [] rfl zeroEU rfl ?_); intro g7 w6 r6 p6 l6 b6)
    | ((with_reducible refine wl_store_row rfl 113 (.tmp 7) (.tmp 14) g7 113 _ [] rfl rfl rfl r6 hsz rfl h1 ?_); intro w7 r7 o7; have b7 := b6.trans ((o7.below p6).mono (Nat.le_refl _)); have B7 := B5.trans (b7.mono B5.size); have r37 := r35.later b7; have r57 := r5.later b7; have m7 := hide (m5.out.later b7); have c7 := r37.cell (j := 0) rfl)
    | (with_reducible refine wl_load_row (o := ⟨some 19, _, _, _, _, _⟩) rfl 113 (.tmp 5) g5 113 [] _ rfl rfl r57 Tryz.underlying113 rfl hsz ?_)
    | ((with_reducible refine wl_putU rfl (.tmp 17) (.tmp 18) (.tmp 19) f zU mb es rfl rfl rfl rfl m7.out hf hl ?_); intro w8 m8 o8))
  go_ret
  exact ⟨rfl, m8, (But.of B7 mb).trans (But.only o8)⟩
theorem zeroTU : (Tryz.prog.info? 69).map (fun i => i.zero) = some (some (.agg [Value.map none].toArray)) := by kernel_rfl
theorem builtTU (mb : Option Nat) : Tryz.prog.built 69 [(0, .map mb)] = some [Value.map mb].toArray := by kernel_rfl
set_option maxRecDepth 100000 in
theorem newTableU_any (w : World) : Calls Tryz.prog 66 #[] w fun e w' => ∃ mb, e = .returned (.agg #[.map (some mb)]) ∧ MapAt w' mb [] ∧ w.heap.size ≤ mb ∧ Below w.heap.size w w' := by
  go_enter Tryz.func66, Tryz.ntmps66
  go_wp2_with (first
    | ((with_reducible refine wl_alloc (o := ⟨some 0, _, _, _, _, _⟩) rfl 69 _ [.map none] rfl zeroTU rfl ?_); intro g2 w2 r2 p2 l2 b2)
    | ((with_reducible refine wl_makeMapU (o := ⟨some 1, _, _, _, _, _⟩) rfl rfl ?_); intro mb w3 m3 p3 b3; have r23 := r2.later b3; have hb := builtTU (some mb))
    | (with_reducible refine wl_build (o := ⟨some 2, _, _, _, _, _⟩) rfl 69 [(0, .tmp 1)] rfl [(0, .map (some mb))] rfl [.map (some mb)] hb ?_)
    | ((with_reducible refine wl_store_row rfl 69 (.tmp 0) (.tmp 2) g2 69 _ [.map (some mb)] rfl rfl rfl r23 (by kernel_rfl) rfl (by simp [Value.oneCell']) ?_); intro w4 r4 o4))
  have hne : mb ≠ g2 := by have := r2.lt; omega
  refine bodyPost_ret (v := .agg #[.map (some mb)]) ?_ rfl ⟨mb, rfl, m3.only o4 hne, Nat.le_trans b2.size p3, (b2.trans (b3.mono b2.size)) |>.trans ((o4.below p2).mono (Nat.le_refl _))⟩
  exact results_cell_row Tryz.results66 _ _ g2 69 _ (0, 0) _ rfl r4 Tryz.underlying69 rfl (by kernel_rfl)
end Go.Proofs.YtpbkejmffddelaaGreat

/-
  Values of all kinds: their parts; lists of texts handed on. Own work.
-/
namespace Go.Proofs.YtpbkejmffddelaaGreat
open Go.RowKit Go.Shelf Go.Maps
set_option maxRecDepth 100000 in
theorem eqNilS (ad : Addr) (n c : Nat) (w : World) : (binOp .eql 23 (.slice (some ad) n c) (.slice none 0 0)).run Tryz.prog w = .ok (.bool false) w := by kernel_rfl
set_option maxRecDepth 100000 in
set_option maxHeartbeats 1000000 in
theorem cloneS_any (w : World) (v : Value) (l : List Nm) (h : SlV cS 1 w w.heap.size v l) (hv : v = nilS ∨ ∃ ad n c, v = .slice (some ad) n c) (hl : l.length ≤ 1000000) :
    Calls Tryz.prog 85 #[v] w fun e w' => ∃ v', e = .returned v' ∧ OwnW w' w.heap.size v' l ∧ Below w.heap.size w w' := by
  rcases hv with rfl | ⟨ad, n, c, rfl⟩
  · have hl0 : l = [] := by
      obtain ⟨A, c, e, _⟩ := h
      injection e with e1 e2 e3
      exact List.eq_nil_of_length_eq_zero e2.symm
    subst hl0
    exact (clone0_any w).mono fun e w' ⟨he, hw⟩ => ⟨_, he, World.ownsRow_nil _ _ _ _, by rw [← hw]; exact Below.refl _ _⟩
  · obtain ⟨A', c', e, hs⟩ := h
    injection e with e1 e2 e3
    subst e1 e2 e3
    obtain ⟨iw, hiw, hzw, hsw, hbw⟩ := wordI
    have hsrc : ∀ ad', some ad = some ad' → ∀ j u, (l.map encStr)[j]? = some u → w.cell? (ad'.add j) = some u := by
      intro ad' he j u hu
      injection he with he
      subst he
      have hj : j < l.length := by have := (List.getElem?_eq_some_iff.1 hu).1; simpa using this
      obtain ⟨g, off, eA, hg, hc⟩ := hs (by omega)
      injection eA with eA
      subst eA
      rw [List.getElem?_map, List.getElem?_eq_getElem hj] at hu
      have := hc j l[j] (List.getElem?_eq_getElem hj) 0 (encStr l[j]) rfl
      rw [addr_plain]
      rw [Nat.mul_one, Nat.add_zero] at this
      rw [this]
      exact hu
    have hone : ∀ u ∈ l.map encStr, u.oneCell' = true := by
      intro u hu
      obtain ⟨x, _, rfl⟩ := List.mem_map.1 hu
      rfl
    have hlen : (l.map encStr).length = l.length * 1 := by simp
    have hm1 : 0 + l.length ≤ maxLen := by simp only [maxLen]; omega
    have hm2 : (0 + l.length) * 16 ≤ 140737488355328 := by omega
    replace hsrc := hide hsrc
    replace hs := hide hs
    replace hlen := hide hlen
    have hnil := eqNilS ad l.length c
    go_enter Tryz.func85, Tryz.ntmps85
    go_wp2_with (first
      | ((with_reducible refine wl_build0P (o := ⟨some 5, _, _, _, _, _⟩) rfl 23 rfl 9 iw Tryz.underlying23 hiw hsw ?_); intro v3 w3 own3 b3; have src3 : ∀ ad', some ad = some ad' → ∀ j u, (l.map encStr)[j]? = some u → w3.cell? (ad'.add j) = some u := fun ad' he j u hu => (b3.cell (p := ad'.add j) (block_lt_of_cell (hsrc.out ad' he j u hu))).trans (hsrc.out ad' he j u hu))
      | ((at_builtin; with_reducible refine wl_append_src (o := ⟨some 7, _, _, _, _, _⟩) rfl (.tmp 5) (.tmp 6) 23 rfl w.heap.size 9 iw _ 1 16 Tryz.underlying23 hiw hzw hsw hbw rfl (by decide) v3 0 [] rfl own3 (some ad) l.length c (l.map encStr) rfl hlen.out (fun h => nomatch h) src3 hone hm1 hm2 b3.size ?_); intro v4 w4 own4 gr4))
    go_ret
    refine ⟨v4, rfl, ?_, b3.trans ((below_of_grP gr4 own3 b3.size))⟩
    show w4.ownsRow w.heap.size 9 1 v4 l.length (l.map encStr)
    have := own4
    rw [Nat.zero_add, List.nil_append] at this
    exact this
end Go.Proofs.YtpbkejmffddelaaGreat

/-
  Values of all kinds: their parts; how many elements one has. Own work.
-/
namespace Go.Proofs.YtpbkejmffddelaaGreat
open Go.RowKit Go.Shelf Go.Maps
/-- Elements of a set as a table of nothing. -/
def uE (us : List Nm) : Ents := us.map fun n => (n, zU)
theorem uE_z (us : List Nm) : ∀ p ∈ uE us, p.2 = zU := by
  intro p hp
  obtain ⟨n, _, rfl⟩ := List.mem_map.1 hp
  rfl
theorem uE_len (us : List Nm) : (uE us).length = us.length := by simp [uE]
theorem uE_names (us : List Nm) : (uE us).map (·.1) = us := by
  rw [uE, List.map_map]
  exact List.map_id us
/-- A hash's table, or none. -/
def PH (w : World) (B : Nat) (hm : Option Nat) (ps : List Pr) : Prop := (hm = none ∧ ps = []) ∨ ∃ mb, hm = some mb ∧ B ≤ mb ∧ MapAt w mb (hE ps)
/-- A set's table, or none. -/
def PU (w : World) (B : Nat) (sm : Option Nat) (us : List Nm) : Prop := (sm = none ∧ us = []) ∨ ∃ mb, sm = some mb ∧ B ≤ mb ∧ MapAt w mb (uE us)
/-- A sorted set, or none. -/
def PZ (w : World) (B : Nat) (zp : Value) (ss : List Sc) : Prop := (zp = nilP ∧ ss = []) ∨ ∃ gz mb hd Ls, zp = ptr gz ∧ ZSet w B gz mb hd Ls ∧ scs Ls = ss
section
variable {w w' : World} {B : Nat} {hm sm : Option Nat} {zp : Value} {ps : List Pr} {us : List Nm} {ss : List Sc}
theorem PH.later (h : PH w B hm ps) (hb : Below w.heap.size w w') : PH w' B hm ps := h.imp id fun ⟨mb, e, h1, h2⟩ => ⟨mb, e, h1, h2.later hb⟩
theorem PU.later (h : PU w B sm us) (hb : Below w.heap.size w w') : PU w' B sm us := h.imp id fun ⟨mb, e, h1, h2⟩ => ⟨mb, e, h1, h2.later hb⟩
theorem PZ.later (h : PZ w B zp ss) (hb : Below w.heap.size w w') : PZ w' B zp ss := h.imp id fun ⟨gz, mb, hd, Ls, e, h1, h2⟩ => ⟨gz, mb, hd, Ls, e, h1.later hb, h2⟩
theorem lenP_c (h : PH w B hm ps) : Calls Tryz.prog 98 #[.agg #[.map hm]] w fun e w' => e = .returned (.int .i64 ps.length) ∧ Below w.heap.size w w' := by
  rcases h with ⟨rfl, rfl⟩ | ⟨mb, rfl, _, hm⟩
  · exact lenP_no w
  · have := lenP_any w mb _ hm
    rw [hE_len] at this
    exact this
theorem lenU_c (h : PU w B sm us) : Calls Tryz.prog 99 #[.agg #[.map sm]] w fun e w' => e = .returned (.int .i64 us.length) ∧ Below w.heap.size w w' := by
  rcases h with ⟨rfl, rfl⟩ | ⟨mb, rfl, _, hm⟩
  · exact lenU_no w
  · have := lenU_any w mb _ hm
    rw [uE_len] at this
    exact this
theorem zlen_c (h : PZ w B zp ss) : Calls Tryz.prog 90 #[zp] w fun e w' => e = .returned (.int .i64 ss.length) ∧ w = w' := by
  rcases h with ⟨rfl, rfl⟩ | ⟨gz, mb, hd, Ls, rfl, hz, rfl⟩
  · exact len_no w nilP (.inl rfl)
  · have := len_any w B gz mb hd Ls hz
    rw [show (scs Ls).length = Ls.length from List.length_map ..]
    exact this
theorem zrange_c (h : PZ w B zp ss) (hl : ss.length ≤ 1000000) : Calls Tryz.prog 89 #[zp, .int .i64 0, .int .i64 (ss.length : Int)] w fun e w' => ∃ v, e = .returned v ∧ OwnS w' w.heap.size v ss ∧ Below w.heap.size w w' := by
  rcases h with ⟨rfl, rfl⟩ | ⟨gz, mb, hd, Ls, rfl, hz, rfl⟩
  · exact (range_nos w nilP 0 0 (.inl rfl)).mono fun e w' ⟨he, hb⟩ => ⟨_, he, World.ownsRow_nil _ _ _ _, hb⟩
  · have hln : (scs Ls).length = Ls.length := List.length_map ..
    have := range_any w B gz mb hd Ls 0 ((scs Ls).length : Int) hz (by rw [← hln]; exact hl)
    rw [hln] at this ⊢
    have e : ((scs Ls).drop (min (0 : Int).toNat Ls.length)).take (min ((Ls.length : Int)).toNat Ls.length - min (0 : Int).toNat Ls.length) = scs Ls := by
      rw [show min (0 : Int).toNat Ls.length = 0 by simp, Int.toNat_natCast, Nat.min_self, List.drop_zero, Nat.sub_zero, ← hln, List.take_length]
    rw [e] at this
    exact this
end
def SLnA (g3 n2 n3 n4 n5 c3 : Nat) (A0 : Option Addr) (hm sm : Option Nat) (zp : Value) (t : Nm) (opn : Nat) (v : Value) : Prop :=
  match opn with
  | 0 => v = .pointer (some ⟨g3, 1, none⟩)
  | 1 => v = encStr t
  | 2 => v = .int .i64 (t.length : Int)
  | 3 => v = .pointer (some ⟨g3, 2, none⟩)
  | 4 => v = .agg [.map hm].toArray
  | 5 => v = .int .i64 (n2 : Int)
  | 6 => v = .int .i64 ((t.length : Int) + n2)
  | 7 => v = .pointer (some ⟨g3, 3, none⟩)
  | 8 => v = .slice A0 n3 c3
  | 9 => v = .int .i64 (n3 : Int)
  | 10 => v = .int .i64 ((t.length : Int) + n2 + n3)
  | 11 => v = .pointer (some ⟨g3, 4, none⟩)
  | 12 => v = .agg [.map sm].toArray
  | 13 => v = .int .i64 (n4 : Int)
  | 14 => v = .int .i64 ((t.length : Int) + n2 + n3 + n4)
  | 15 => v = .pointer (some ⟨g3, 5, none⟩)
  | 16 => v = zp
  | 17 => v = .int .i64 (n5 : Int)
  | 18 | 19 => v = .int .i64 ((t.length : Int) + n2 + n3 + n4 + n5)
  | _ => True

set_option maxRecDepth 100000 in
set_option maxHeartbeats 1000000 in
theorem len_p (w : World) (B gv : Nat) (k : Int) (t : Nm) (hm sm : Option Nat) (lv zp : Value) (ps : List Pr) (ls us : List Nm) (ss : List Sc) (hV : VRow w gv k t hm lv sm zp) (hP : PH w B hm ps) (hL : OwnW w B lv ls) (hU : PU w B sm us) (hZ : PZ w B zp ss)
    (h0 : t.length ≤ 1000000) (h2 : ps.length ≤ 1000000) (h3 : ls.length ≤ 1000000) (h4 : us.length ≤ 1000000) (h5 : ss.length ≤ 1000000) :
    Calls Tryz.prog 35 #[ptr gv] w fun e w' => e = .returned (.int .i64 ((t.length : Int) + ps.length + ls.length + us.length + ss.length)) ∧ Below w.heap.size w w' := by
  have hsz := szVv k t hm lv sm zp
  have h1 := hide hV.one
  obtain ⟨A0, c3, hlv, _⟩ : ∃ A c, lv = .slice A ls.length c ∧ ls.length ≤ c := by
    rcases hL.2 with ⟨rfl, h0⟩ | ⟨g, cap, cur, rfl, _, _, hc, _⟩
    · exact ⟨none, 0, by rw [h0], by omega⟩
    · exact ⟨_, _, rfl, hc⟩
  subst hlv
  obtain ⟨n2, hn2⟩ : ∃ n2, n2 = ps.length := ⟨_, rfl⟩
  obtain ⟨n3, hn3⟩ : ∃ n3, n3 = ls.length := ⟨_, rfl⟩
  obtain ⟨n4, hn4⟩ : ∃ n4, n4 = us.length := ⟨_, rfl⟩
  obtain ⟨n5, hn5⟩ : ∃ n5, n5 = ss.length := ⟨_, rfl⟩
  have hlP : ∀ wz : World, PH wz B hm ps → Calls Tryz.prog 98 #[.agg #[.map hm]] wz fun e w' => e = .returned (.int .i64 (n2 : Int)) ∧ Below wz.heap.size wz w' := fun wz h => by rw [hn2]; exact lenP_c h
  have hlU : ∀ wz : World, PU wz B sm us → Calls Tryz.prog 99 #[.agg #[.map sm]] wz fun e w' => e = .returned (.int .i64 (n4 : Int)) ∧ Below wz.heap.size wz w' := fun wz h => by rw [hn4]; exact lenU_c h
  have hlZ : ∀ wz : World, PZ wz B zp ss → Calls Tryz.prog 90 #[zp] wz fun e w' => e = .returned (.int .i64 (n5 : Int)) ∧ wz = w' := fun wz h => by rw [hn5]; exact zlen_c h
  have ha1 := hide (show IntKind.i64.wrap ((t.length : Int) + n2) = (t.length : Int) + n2 from wrap_id rfl (by omega) (by omega))
  have ha2 := hide (show IntKind.i64.wrap ((t.length : Int) + n2 + n3) = (t.length : Int) + n2 + n3 from wrap_id rfl (by omega) (by omega))
  have ha3 := hide (show IntKind.i64.wrap ((t.length : Int) + n2 + n3 + n4) = (t.length : Int) + n2 + n3 + n4 from wrap_id rfl (by omega) (by omega))
  have ha4 := hide (show IntKind.i64.wrap ((t.length : Int) + n2 + n3 + n4 + n5) = (t.length : Int) + n2 + n3 + n4 + n5 from wrap_id rfl (by omega) (by omega))
  rw [← hn3] at h1 hsz hV
  rw [← hn2, ← hn3, ← hn4, ← hn5]
  clear h0 h2 h3 h4 h5 hL hn2 hn3 hn4 hn5
  replace hlP := hide hlP
  replace hlU := hide hlU
  replace hlZ := hide hlZ
  go_enter Tryz.func35, Tryz.ntmps35
  go_wp2_with fail
  refine (held_any w gv _ _ _ _ _ _ hV).mono ?_
  rintro e w1 ⟨rfl, b1⟩
  go_wp2_with (first
    | ((with_reducible refine wl_alloc (o := ⟨some 3, _, _, _, _, _⟩) rfl 72 _ (vC 0 [] none nilS none nilP) rfl zeroVv rfl ?_); intro g3 w3 r3 p3 l3 b3)
    | ((with_reducible refine wl_store_row rfl 72 (.tmp 3) (.tmp 5) g3 72 _ (vC k t hm (.slice A0 n3 c3) sm zp) rfl rfl rfl r3 hsz rfl h1.out ?_); intro w4 r4 o4; have b4 := b3.trans ((o4.below p3).mono (Nat.le_refl _))))
  have B4 := b1.trans (b4.mono b1.size)
  replace hP := hP.later B4
  replace hU := hU.later B4
  replace hZ := hZ.later B4
  clear r3
  have r3 : Row w4 TV g3 (vC k t hm (.slice A0 n3 c3) sm zp) := r4
  refine wp_region_vals [5, 13, 17] (SLnA g3 n2 n3 n4 n5 c3 A0 hm sm zp t) (fun _ _ wz => Below w4.heap.size w4 wz) (by kernel_rfl) (by kernel_rfl) (by kernel_rfl) (by kernel_rfl) (by kernel_rfl) ((Below.refl _ _).drew) ?obs2 ?he2
  case obs2 =>
    refine ⟨?_, ?_, ?_, ?_, ?_, ?_, ?_, ?_, ?_, ?_, ?_, ?_, ?_, ?_, ?_, ?_, ?_, ?_, ?_, ?_, trivial⟩
    · refine .inl ⟨by kernel_rfl, fun L a1 w1 n h => ⟨.pointer (some ⟨g3, 1, none⟩), rfl, ?_⟩⟩
      have e0 : a1.eval (.tmp 3) = _ := h.var n 3 (by kernel_rfl)
      unfold execOp
      simp only [e0]
      go_simp
    · exact .inl ⟨by kernel_rfl, fun L a1 w1 n h => ⟨_, rfl, run_load1 9 (.tmp 6) g3 1 _ rfl Tryz.isAgg9 (h.dep n 0 6 (by kernel_rfl) rfl) ((r3.later h.inv).cell rfl)⟩⟩
    · exact .inl ⟨by kernel_rfl, fun L a1 w1 n h => ⟨_, rfl, run_lenStr 9 (.tmp 7) _ rfl Tryz.underlying9 (h.dep n 1 7 (by kernel_rfl) rfl)⟩⟩
    · refine .inl ⟨by kernel_rfl, fun L a1 w1 n h => ⟨.pointer (some ⟨g3, 2, none⟩), rfl, ?_⟩⟩
      have e0 : a1.eval (.tmp 3) = _ := h.var n 3 (by kernel_rfl)
      unfold execOp
      simp only [e0]
      go_simp
    · exact .inl ⟨by kernel_rfl, fun L a1 w1 n h => ⟨_, rfl, run_loadP TTP (.tmp 9) g3 2 TV [.int .i64 k, encStr t] [.map hm] [.slice A0 n3 c3, .map sm, zp] _ rfl (h.dep n 3 9 (by kernel_rfl) rfl) (r3.later h.inv) rfl undTP rfl (by kernel_rfl)⟩⟩
    · refine .inr fun L a1 w1 n h K hK => ?_
      have e0 : a1.eval (.tmp 10) = .agg #[.map hm] := h.dep n 4 10 (by kernel_rfl) rfl
      refine st_call 98 _ _ #[.agg #[.map hm]] rfl Tryz.call98 ?_ (hlP.out w1 (hP.later h.inv)) ?_
      · simp only [List.map_toArray, List.map_cons, List.map_nil, e0]
      · rintro e w3 ⟨rfl, b9⟩
        exact ⟨_, rfl, hK _ w3 rfl (h.inv.trans (b9.mono h.inv.size))⟩
    · exact .inl ⟨by kernel_rfl, fun L a1 w1 n h => ⟨_, rfl, run_addZ (.tmp 8) (.tmp 11) rfl (h.dep n 2 8 (by kernel_rfl) rfl) (h.dep n 5 11 (by kernel_rfl) rfl) ha1.out⟩⟩
    · refine .inl ⟨by kernel_rfl, fun L a1 w1 n h => ⟨.pointer (some ⟨g3, 3, none⟩), rfl, ?_⟩⟩
      have e0 : a1.eval (.tmp 3) = _ := h.var n 3 (by kernel_rfl)
      unfold execOp
      simp only [e0]
      go_simp
    · exact .inl ⟨by kernel_rfl, fun L a1 w1 n h => ⟨_, rfl, run_load1 23 (.tmp 13) g3 3 _ rfl Tryz.isAgg23 (h.dep n 7 13 (by kernel_rfl) rfl) ((r3.later h.inv).cell rfl)⟩⟩
    · exact .inl ⟨by kernel_rfl, fun L a1 w1 n h => ⟨_, rfl, run_lenSl 23 (.tmp 14) A0 n3 c3 rfl ⟨_, Tryz.underlying23⟩ (h.dep n 8 14 (by kernel_rfl) rfl)⟩⟩
    · exact .inl ⟨by kernel_rfl, fun L a1 w1 n h => ⟨_, rfl, run_addZ (.tmp 12) (.tmp 15) rfl (h.dep n 6 12 (by kernel_rfl) rfl) (h.dep n 9 15 (by kernel_rfl) rfl) ha2.out⟩⟩
    · refine .inl ⟨by kernel_rfl, fun L a1 w1 n h => ⟨.pointer (some ⟨g3, 4, none⟩), rfl, ?_⟩⟩
      have e0 : a1.eval (.tmp 3) = _ := h.var n 3 (by kernel_rfl)
      unfold execOp
      simp only [e0]
      go_simp
    · exact .inl ⟨by kernel_rfl, fun L a1 w1 n h => ⟨_, rfl, run_loadP TTU (.tmp 17) g3 4 TV [.int .i64 k, encStr t, .map hm, .slice A0 n3 c3] [.map sm] [zp] _ rfl (h.dep n 11 17 (by kernel_rfl) rfl) (r3.later h.inv) rfl undTU rfl (by kernel_rfl)⟩⟩
    · refine .inr fun L a1 w1 n h K hK => ?_
      have e0 : a1.eval (.tmp 18) = .agg #[.map sm] := h.dep n 12 18 (by kernel_rfl) rfl
      refine st_call 99 _ _ #[.agg #[.map sm]] rfl Tryz.call99 ?_ (hlU.out w1 (hU.later h.inv)) ?_
      · simp only [List.map_toArray, List.map_cons, List.map_nil, e0]
      · rintro e w3 ⟨rfl, b9⟩
        exact ⟨_, rfl, hK _ w3 rfl (h.inv.trans (b9.mono h.inv.size))⟩
    · exact .inl ⟨by kernel_rfl, fun L a1 w1 n h => ⟨_, rfl, run_addZ (.tmp 16) (.tmp 19) rfl (h.dep n 10 16 (by kernel_rfl) rfl) (h.dep n 13 19 (by kernel_rfl) rfl) ha3.out⟩⟩
    · refine .inl ⟨by kernel_rfl, fun L a1 w1 n h => ⟨.pointer (some ⟨g3, 5, none⟩), rfl, ?_⟩⟩
      have e0 : a1.eval (.tmp 3) = _ := h.var n 3 (by kernel_rfl)
      unfold execOp
      simp only [e0]
      go_simp
    · exact .inl ⟨by kernel_rfl, fun L a1 w1 n h => ⟨_, rfl, run_load1 70 (.tmp 21) g3 5 _ rfl Tryz.isAgg70 (h.dep n 15 21 (by kernel_rfl) rfl) ((r3.later h.inv).cell rfl)⟩⟩
    · refine .inr fun L a1 w1 n h K hK => ?_
      have e0 : a1.eval (.tmp 22) = zp := h.dep n 16 22 (by kernel_rfl) rfl
      refine st_call 90 _ _ #[zp] rfl Tryz.call90 ?_ (hlZ.out w1 (hZ.later h.inv)) ?_
      · simp only [List.map_toArray, List.map_cons, List.map_nil, e0]
      · rintro e w3 ⟨rfl, h9⟩
        exact ⟨_, rfl, hK _ w3 rfl (by rw [← h9]; exact h.inv)⟩
    · exact .inl ⟨by kernel_rfl, fun L a1 w1 n h => ⟨_, rfl, run_addZ (.tmp 20) (.tmp 23) rfl (h.dep n 14 20 (by kernel_rfl) rfl) (h.dep n 17 23 (by kernel_rfl) rfl) ha4.out⟩⟩
    · exact .inl ⟨by kernel_rfl, fun L a1 w1 n h => ⟨_, rfl, run_assign (.tmp 24) rfl (h.dep n 18 24 (by kernel_rfl) rfl)⟩⟩
  case he2 =>
    intro V w9 hV hJ
    have b9 : Below w4.heap.size w4 w9 := hJ
    have hE : V 19 = .int .i64 ((t.length : Int) + n2 + n3 + n4 + n5) := hV 19 _ rfl
    clear hV hJ
    simp only [putOps, List.setIfInBounds_toArray, List.set_cons_succ, List.set_cons_zero, Nat.reduceAdd]
    rw [hE]
    go_wp2_with fail
    go_ret
    exact ⟨rfl, B4.trans (b9.mono B4.size)⟩
end Go.Proofs.YtpbkejmffddelaaGreat

/-
  Values of all kinds: what stands by a field, an element, the items. Own work.
-/
namespace Go.Proofs.YtpbkejmffddelaaGreat
open Go.RowKit Go.Shelf Go.Maps
/-- The pair of a field. -/
def prAt (ps : List Pr) (f : Nm) : Option Pr := ps.find? fun p => p.f == f
def pr0 : Pr := ⟨[], []⟩
theorem hE_at (ps : List Pr) (f : Nm) : atE (hE ps) f = (prAt ps f).map Pr.v := by
  unfold atE hE prAt
  rw [List.find?_map, Option.map_map]
  rfl
theorem uE_at (us : List Nm) (f : Nm) : (atE (uE us) f).isSome = decide (f ∈ us) := by
  unfold atE uE
  rw [List.find?_map, Option.map_map, Option.isSome_map]
  rw [Bool.eq_iff_iff, List.find?_isSome, decide_eq_true_eq]
  constructor
  · rintro ⟨x, hx, he⟩
    have : x = f := by simpa using he
    exact this ▸ hx
  · exact fun h => ⟨f, h, by simp⟩
section
variable {w w' : World} {B : Nat} {hm sm : Option Nat} {ps : List Pr} {us : List Nm}
theorem getP_c (h : PH w B hm ps) (f : Nm) (hf : f.length ≤ maxLen) : Calls Tryz.prog 92 #[.agg #[.map hm], encStr f] w fun e w' => e = .returned (.tuple #[.agg ((prAt ps f).getD pr0).cells.toArray, .bool (prAt ps f).isSome]) ∧ Below w.heap.size w w' := by
  rcases h with ⟨rfl, rfl⟩ | ⟨mb, rfl, _, hm⟩
  · exact getP_nil w f hf
  · have := getP_any w mb _ f hm (hE_pr ps) hf
    rw [hE_at] at this
    have e1 : ((prAt ps f).map Pr.v).getD zP = ((prAt ps f).getD pr0).v := by cases prAt ps f <;> rfl
    have e2 : ((prAt ps f).map Pr.v).isSome = (prAt ps f).isSome := by cases prAt ps f <;> rfl
    rw [e1, e2] at this
    exact this
theorem getU_c (h : PU w B sm us) (f : Nm) (hf : f.length ≤ maxLen) : Calls Tryz.prog 97 #[.agg #[.map sm], encStr f] w fun e w' => e = .returned (.tuple #[.agg (#[] : Array Value), .bool (decide (f ∈ us))]) ∧ Below w.heap.size w w' := by
  rcases h with ⟨rfl, rfl⟩ | ⟨mb, rfl, _, hm⟩
  · have := getU_nil w f hf
    rw [show decide (f ∈ ([] : List Nm)) = false by simp]
    exact this
  · have := getU_any w mb _ f hm (uE_z us) hf
    rw [uE_at] at this
    exact this
end
set_option maxRecDepth 100000 in
set_option maxHeartbeats 1000000 in
theorem field_p (w : World) (B gv : Nat) (k : Int) (t : Nm) (hm sm : Option Nat) (lv zp : Value) (ps : List Pr) (f : Nm) (hV : VRow w gv k t hm lv sm zp) (hP : PH w B hm ps) (hf : f.length ≤ maxLen) :
    Calls Tryz.prog 28 #[ptr gv, encStr f] w fun e w' => e = .returned (.tuple #[encStr ((prAt ps f).getD pr0).t, .bool (prAt ps f).isSome]) ∧ Below w.heap.size w w' := by
  obtain ⟨p, hp⟩ : ∃ p, p = (prAt ps f).getD pr0 := ⟨_, rfl⟩
  obtain ⟨b, hb⟩ : ∃ b, b = (prAt ps f).isSome := ⟨_, rfl⟩
  have hG : ∀ wz : World, PH wz B hm ps → Calls Tryz.prog 92 #[.agg #[.map hm], encStr f] wz fun e w' => e = .returned (.tuple #[.agg p.cells.toArray, .bool b]) ∧ Below wz.heap.size wz w' := fun wz h => by rw [hp, hb]; exact getP_c h f hf
  rw [← hp, ← hb]
  have hff := fieldV2 k t hm lv sm zp
  have hone := onePr p
  have hsz := szPr p
  replace hp := hide hp
  replace hb := hide hb
  replace hG := hide hG
  go_enter Tryz.func28, Tryz.ntmps28
  go_wp2_with fail
  refine (held_any w gv _ _ _ _ _ _ hV).mono ?_
  rintro e w1 ⟨rfl, b1⟩
  go_wp2_with fail
  refine (hG.out w1 (hP.later b1)).mono ?_
  rintro e w2 ⟨rfl, b2⟩
  go_wp2_with (first
    | ((with_reducible refine wl_alloc (o := ⟨some 6, _, _, _, _, _⟩) rfl 87 _ [encStr [], encStr []] rfl zeroPr rfl ?_); intro g7 w6 r6 p6 l6 b6)
    | ((with_reducible refine wl_store_row rfl 87 (.tmp 6) (.tmp 14) g7 87 _ p.cells rfl rfl rfl r6 hsz rfl hone ?_); intro w7 r7 o7; have b7 := b6.trans ((o7.below p6).mono (Nat.le_refl _)); have c1 := r7.cell (j := 1) rfl))
  go_ret2
  exact ⟨rfl, (b1.trans (b2.mono b1.size)).trans (b7.mono (b1.trans (b2.mono b1.size)).size)⟩
set_option maxRecDepth 100000 in
set_option maxHeartbeats 1000000 in
theorem has_p (w : World) (B gv : Nat) (k : Int) (t : Nm) (hm sm : Option Nat) (lv zp : Value) (us : List Nm) (f : Nm) (hV : VRow w gv k t hm lv sm zp) (hU : PU w B sm us) (hf : f.length ≤ maxLen) :
    Calls Tryz.prog 33 #[ptr gv, encStr f] w fun e w' => e = .returned (.bool (decide (f ∈ us))) ∧ Below w.heap.size w w' := by
  obtain ⟨b, hb⟩ : ∃ b, b = decide (f ∈ us) := ⟨_, rfl⟩
  have hG : ∀ wz : World, PU wz B sm us → Calls Tryz.prog 97 #[.agg #[.map sm], encStr f] wz fun e w' => e = .returned (.tuple #[.agg (#[] : Array Value), .bool b]) ∧ Below wz.heap.size wz w' := fun wz h => by rw [hb]; exact getU_c h f hf
  rw [← hb]
  have hff := fieldV4 k t hm lv sm zp
  have hone := oneEU
  have hsz := szEU
  replace hb := hide hb
  replace hG := hide hG
  go_enter Tryz.func33, Tryz.ntmps33
  go_wp2_with fail
  refine (held_any w gv _ _ _ _ _ _ hV).mono ?_
  rintro e w1 ⟨rfl, b1⟩
  go_wp2_with fail
  refine (hG.out w1 (hU.later b1)).mono ?_
  rintro e w2 ⟨rfl, b2⟩
  go_wp2_with (first
    | ((with_reducible refine wl_alloc (o := ⟨some 5, _, _, _, _, _⟩) rfl 113 _ [] rfl zeroEU rfl ?_); intro g7 w6 r6 p6 l6 b6)
    | ((with_reducible refine wl_store_row rfl 113 (.tmp 5) (.tmp 13) g7 113 _ [] rfl rfl rfl r6 hsz rfl hone ?_); intro w7 r7 o7; have b7 := b6.trans ((o7.below p6).mono (Nat.le_refl _))))
  go_ret
  exact ⟨rfl, (b1.trans (b2.mono b1.size)).trans (b7.mono (b1.trans (b2.mono b1.size)).size)⟩
theorem own_form {w : World} {B e size n : Nat} {v : Value} {xs : List Value} (h : w.ownsRow B e size v n xs) : v = nilS ∨ ∃ ad n c, v = .slice (some ad) n c := by
  rcases h.2 with ⟨rfl, h0⟩ | ⟨g, cap, cur, rfl, _⟩
  · exact .inl rfl
  · exact .inr ⟨_, _, _, rfl⟩
set_option maxRecDepth 100000 in
set_option maxHeartbeats 1000000 in
theorem items_l (w : World) (B gv : Nat) (k : Int) (t : Nm) (hm sm : Option Nat) (lv zp : Value) (ls : List Nm) (hV : VRow w gv k t hm lv sm zp) (hL : OwnW w B lv ls) (hk : k ≠ 4) (hl : ls.length ≤ 1000000) :
    Calls Tryz.prog 37 #[ptr gv] w fun e w' => ∃ v, e = .returned v ∧ OwnW w' w.heap.size v ls ∧ Below w.heap.size w w' := by
  have hsz := szVv k t hm lv sm zp
  have h1 := hide hV.one
  have e1 : decide (k = 4) = false := decide_eq_false hk
  have f1 : (k == 4) = false := beq_eq_false_iff_ne.2 hk
  have hform := hide (own_form hL)
  go_enter Tryz.func37, Tryz.ntmps37
  go_wp2_with fail
  refine (held_any w gv _ _ _ _ _ _ hV).mono ?_
  rintro e w1 ⟨rfl, b1⟩
  go_wp2_with (first
    | ((with_reducible refine wl_alloc (o := ⟨some 3, _, _, _, _, _⟩) rfl 72 _ (vC 0 [] none nilS none nilP) rfl zeroVv rfl ?_); intro g3 w3 r3 p3 l3 b3)
    | ((with_reducible refine wl_store_row rfl 72 (.tmp 3) (.tmp 5) g3 72 _ (vC k t hm lv sm zp) rfl rfl rfl r3 hsz rfl h1.out ?_); intro w4 r4 o4; have b4 := b3.trans ((o4.below p3).mono (Nat.le_refl _)); have c0 := r4.cell (j := 0) rfl; have c3 := r4.cell (j := 3) rfl))
  have B4 := b1.trans (b4.mono b1.size)
  refine (cloneS_any w4 lv ls (OwnW.slv (own_later hL B4)) hform.out hl).mono ?_
  rintro e w5 ⟨v5, rfl, own5, b5⟩
  go_wp2_with fail
  go_ret
  exact ⟨v5, rfl, own_low own5 B4.size, B4.trans (b5.mono B4.size)⟩
set_option maxRecDepth 100000 in
set_option maxHeartbeats 1000000 in
theorem items_u (w : World) (gv sb B : Nat) (t : Nm) (hm : Option Nat) (lv zp : Value) (us : List Nm) (hV : VRow w gv 4 t hm lv (some sb) zp) (hU : MapAt w sb (uE us)) (hl : us.length ≤ 1000) :
    Calls Tryz.prog 37 #[ptr gv] w fun e w' => ∃ v, e = .returned v ∧ OwnW w' w.heap.size v us ∧ Below w.heap.size w w' := by
  have hsz := szVv 4 t hm lv (some sb) zp
  have h1 := hide hV.one
  go_enter Tryz.func37, Tryz.ntmps37
  go_wp2_with fail
  refine (held_any w gv _ _ _ _ _ _ hV).mono ?_
  rintro e w1 ⟨rfl, b1⟩
  go_wp2_with (first
    | ((with_reducible refine wl_alloc (o := ⟨some 3, _, _, _, _, _⟩) rfl 72 _ (vC 0 [] none nilS none nilP) rfl zeroVv rfl ?_); intro g3 w3 r3 p3 l3 b3)
    | ((with_reducible refine wl_store_row rfl 72 (.tmp 3) (.tmp 5) g3 72 _ (vC 4 t hm lv (some sb) zp) rfl rfl rfl r3 hsz rfl h1.out ?_); intro w4 r4 o4; have b4 := b3.trans ((o4.below p3).mono (Nat.le_refl _)); have c0 := r4.cell (j := 0) rfl; have r4' : Row w4 TV g3 ([.int .i64 4, encStr t, .map hm, lv] ++ ([.map (some sb)] ++ [zp])) := r4)
    | (with_reducible refine wl_load_part (o := ⟨some 10, _, _, _, _, _⟩) rfl 69 (.tmp 9) g3 4 72 [.int .i64 4, encStr t, .map hm, lv] [.map (some sb)] [zp] _ rfl rfl r4' rfl Tryz.underlying69 rfl (by kernel_rfl) ?_))
  have B4 := b1.trans (b4.mono b1.size)
  have HT := textsU_any w4 sb (uE us) (hU.later B4) (by rw [uE_len]; exact hl)
  rw [uE_len, uE_names] at HT
  refine HT.mono ?_
  rintro e w5 ⟨v5, rfl, own5, b5⟩
  go_wp2_with fail
  go_ret
  exact ⟨v5, rfl, own_low own5 B4.size, B4.trans (b5.mono B4.size)⟩
end Go.Proofs.YtpbkejmffddelaaGreat

/-
  Values of all kinds: calls that turn one. Own work.
-/
namespace Go.Proofs.YtpbkejmffddelaaGreat
open Go.RowKit Go.Shelf Go.Maps
/-- A hash without a field; with a text by one. -/
def cutF (ps : List Pr) (f : Nm) : List Pr := ps.filter fun p => !(p.f == f)
def insF (x : Pr) : List Pr → List Pr
  | [] => [x]
  | y :: r => if bytesBefore x.f y.f then x :: y :: r else y :: insF x r
def putF (ps : List Pr) (f t : Nm) : List Pr := insF ⟨f, t⟩ (cutF ps f)
/-- A set without an element; with one. -/
def cutN (us : List Nm) (f : Nm) : List Nm := us.filter fun p => !(p == f)
def insN (x : Nm) : List Nm → List Nm
  | [] => [x]
  | y :: r => if bytesBefore x y then x :: y :: r else y :: insN x r
def putN (us : List Nm) (f : Nm) : List Nm := insN f (cutN us f)
theorem hE_cut (ps : List Pr) (f : Nm) : delE (hE ps) f = hE (cutF ps f) := by
  unfold delE hE cutF
  rw [List.filter_map]
  rfl
theorem uE_cut (us : List Nm) (f : Nm) : delE (uE us) f = uE (cutN us f) := by
  unfold delE uE cutN
  rw [List.filter_map]
  rfl
theorem hE_ins (x : Pr) : ∀ ps : List Pr, insE (x.f, x.v) (hE ps) = hE (insF x ps)
  | [] => rfl
  | y :: r => by
    show insE (x.f, x.v) ((y.f, y.v) :: hE r) = _
    unfold insE insF
    by_cases h : bytesBefore x.f y.f = true
    · simp only [h, if_true]
      rfl
    · have h' : bytesBefore x.f y.f = false := by simpa using h
      simp only [h', Bool.false_eq_true, if_false]
      rw [hE_ins x r]
      rfl
theorem uE_ins (x : Nm) : ∀ us : List Nm, insE (x, zU) (uE us) = uE (insN x us)
  | [] => rfl
  | y :: r => by
    show insE (x, zU) ((y, zU) :: uE r) = _
    unfold insE insN
    by_cases h : bytesBefore x y = true
    · simp only [h, if_true]
      rfl
    · have h' : bytesBefore x y = false := by simpa using h
      simp only [h', Bool.false_eq_true, if_false]
      rw [uE_ins x r]
      rfl
theorem hE_put (ps : List Pr) (f t : Nm) : putE (hE ps) f (Pr.v ⟨f, t⟩) = hE (putF ps f t) := by
  unfold putE putF
  rw [hE_cut]
  exact hE_ins ⟨f, t⟩ _
theorem uE_put (us : List Nm) (f : Nm) : putE (uE us) f zU = uE (putN us f) := by
  unfold putE putN
  rw [uE_cut]
  exact uE_ins f _
theorem hE_some (ps : List Pr) (f : Nm) : (atE (hE ps) f).isSome = (prAt ps f).isSome := by rw [hE_at]; cases prAt ps f <;> rfl
/-- A value of each kind in memory, its blocks from B on. -/
structure V1 (w : World) (B gv : Nat) (t : Nm) : Prop where
  v : VRow w gv 1 t none nilS none nilP
  lo : B ≤ gv
structure V2 (w : World) (B gv mb : Nat) (ps : List Pr) : Prop where
  v : VRow w gv 2 [] (some mb) nilS none nilP
  m : MapAt w mb (hE ps)
  lo : B ≤ gv ∧ B ≤ mb
structure V3 (w : World) (B gv : Nat) (lv : Value) (ls : List Nm) : Prop where
  v : VRow w gv 3 [] none lv none nilP
  l : OwnW w B lv ls
  lo : B ≤ gv
structure V4 (w : World) (B gv sb : Nat) (us : List Nm) : Prop where
  v : VRow w gv 4 [] none nilS (some sb) nilP
  m : MapAt w sb (uE us)
  lo : B ≤ gv ∧ B ≤ sb
structure V5 (w : World) (B gv gz mb : Nat) (hd : Nd) (Ls : List Nd) : Prop where
  v : VRow w gv 5 [] none nilS none (ptr gz)
  z : ZSet w B gz mb hd Ls
  lo : B ≤ gv
theorem V1.later {w w' : World} {B gv : Nat} {t : Nm} (h : V1 w B gv t) (hb : Below w.heap.size w w') : V1 w' B gv t := ⟨h.v.later hb, h.lo⟩
theorem V2.later {w w' : World} {B gv mb : Nat} {ps : List Pr} (h : V2 w B gv mb ps) (hb : Below w.heap.size w w') : V2 w' B gv mb ps := ⟨h.v.later hb, h.m.later hb, h.lo⟩
theorem V3.later {w w' : World} {B gv : Nat} {lv : Value} {ls : List Nm} (h : V3 w B gv lv ls) (hb : Below w.heap.size w w') : V3 w' B gv lv ls := ⟨h.v.later hb, own_later h.l hb, h.lo⟩
theorem V4.later {w w' : World} {B gv sb : Nat} {us : List Nm} (h : V4 w B gv sb us) (hb : Below w.heap.size w w') : V4 w' B gv sb us := ⟨h.v.later hb, h.m.later hb, h.lo⟩
theorem V5.later {w w' : World} {B gv gz mb : Nat} {hd : Nd} {Ls : List Nd} (h : V5 w B gv gz mb hd Ls) (hb : Below w.heap.size w w') : V5 w' B gv gz mb hd Ls := ⟨h.v.later hb, h.z.later hb, h.lo⟩
theorem TV_notplain : ¬ PlainT TV := by decide
/-- What a call on a value may turn. -/
def TrnB (B : Nat) (w w' : World) : Prop := Trn w w' ∧ Below B w w'
theorem TrnB.of {B : Nat} {w w' : World} (h : Below w.heap.size w w') (hB : B ≤ w.heap.size) : TrnB B w w' := ⟨.of h, h.mono hB⟩
theorem TrnB.trans {B : Nat} {a b c : World} (h : TrnB B a b) (k : TrnB B b c) : TrnB B a c := ⟨h.1.trans k.1, h.2.trans k.2⟩
set_option maxRecDepth 100000 in
set_option maxHeartbeats 1000000 in
theorem cutField_2 (w : World) (B gv mb : Nat) (ps : List Pr) (f : Nm) (h : V2 w B gv mb ps) (hf : f.length ≤ maxLen) (hB : B ≤ w.heap.size) :
    Calls Tryz.prog 30 #[ptr gv, encStr f] w fun e w' => e = .returned (.bool (prAt ps f).isSome) ∧ V2 w' B gv mb (cutF ps f) ∧ TrnB B w w' := by
  have hfl := fieldV2 2 [] (some mb) nilS none nilP
  have hne : gv ≠ mb := fun e => (h.m.ne_row h.v.row) e.symm
  go_enter Tryz.func30, Tryz.ntmps30
  go_wp2_with fail
  refine (held_any w gv _ _ _ _ _ _ h.v).mono ?_
  rintro e w1 ⟨rfl, b1⟩
  have h1 := h.later b1
  have HC := cutP_any w1 mb (hE ps) f h1.m (hE_pr ps) hf
  rw [hE_some, hE_cut] at HC
  go_wp2_with fail
  refine HC.mono ?_
  rintro e w2 ⟨rfl, m2, u2⟩
  go_wp2_with fail
  go_ret
  exact ⟨rfl, ⟨⟨h1.v.row.but u2 hne, h1.v.one⟩, m2, h.lo⟩, (TrnB.of b1 hB).trans ⟨.but u2 (map_notplain h1.m), u2.below h.lo.2 (Nat.le_trans hB b1.size)⟩⟩
set_option maxRecDepth 100000 in
set_option maxHeartbeats 1000000 in
theorem cut_4 (w : World) (B gv sb : Nat) (us : List Nm) (f : Nm) (h : V4 w B gv sb us) (hf : f.length ≤ maxLen) (hB : B ≤ w.heap.size) :
    Calls Tryz.prog 32 #[ptr gv, encStr f] w fun e w' => e = .returned (.bool (decide (f ∈ us))) ∧ V4 w' B gv sb (cutN us f) ∧ TrnB B w w' := by
  have hfl := fieldV4 4 [] none nilS (some sb) nilP
  have hne : gv ≠ sb := fun e => (h.m.ne_row h.v.row) e.symm
  go_enter Tryz.func32, Tryz.ntmps32
  go_wp2_with fail
  refine (held_any w gv _ _ _ _ _ _ h.v).mono ?_
  rintro e w1 ⟨rfl, b1⟩
  have h1 := h.later b1
  have HC := cutU_any w1 sb (uE us) f h1.m (uE_z us) hf
  rw [uE_at, uE_cut] at HC
  go_wp2_with fail
  refine HC.mono ?_
  rintro e w2 ⟨rfl, m2, u2⟩
  go_wp2_with fail
  go_ret
  exact ⟨rfl, ⟨⟨h1.v.row.but u2 hne, h1.v.one⟩, m2, h.lo⟩, (TrnB.of b1 hB).trans ⟨.but u2 (map_notplain h1.m), u2.below h.lo.2 (Nat.le_trans hB b1.size)⟩⟩
theorem setField_2 (w : World) (B gv mb : Nat) (ps : List Pr) (f t : Nm) (h : V2 w B gv mb ps) (hf : f.length ≤ maxLen) (hl : ps.length < maxLen) (hB : B ≤ w.heap.size) :
    Calls Tryz.prog 29 #[ptr gv, encStr f, encStr t] w fun e w' => e = .returned (.bool (!(prAt ps f).isSome)) ∧ V2 w' B gv mb (putF ps f t) ∧ TrnB B w w' := by
  have := setField_h w B gv mb (hE ps) f t ⟨h.v, h.m, hE_pr ps, h.lo⟩ hf (by rw [hE_len]; exact hl)
  rw [hE_some, hE_put] at this
  exact this.mono fun e w' ⟨he, hv, hu⟩ => ⟨he, ⟨hv.v, hv.map, hv.lo⟩, .but hu (map_notplain h.m), hu.below h.lo.2 hB⟩
theorem builtE0 : Tryz.prog.built 113 [] = some ([] : List Value).toArray := by kernel_rfl
set_option maxRecDepth 100000 in
set_option maxHeartbeats 1000000 in
theorem add_4 (w : World) (B gv sb : Nat) (us : List Nm) (f : Nm) (h : V4 w B gv sb us) (hf : f.length ≤ maxLen) (hl : us.length < maxLen) (hB : B ≤ w.heap.size) :
    Calls Tryz.prog 31 #[ptr gv, encStr f] w fun e w' => e = .returned (.bool (!decide (f ∈ us))) ∧ V4 w' B gv sb (putN us f) ∧ TrnB B w w' := by
  have hbu := builtE0
  have hne : gv ≠ sb := fun e => (h.m.ne_row h.v.row) e.symm
  go_enter Tryz.func31, Tryz.ntmps31
  go_wp2_with fail
  refine (kind_ev w (ptr gv) _ _ _ _ _ _ (.inr ⟨gv, rfl, h.v⟩)).mono ?_
  rintro e w1 ⟨rfl, b1⟩
  have h1 := h.later b1
  have r1 : Row w1 TV gv ([.int .i64 4, encStr [], .map none, nilS] ++ ([.map (some sb)] ++ [nilP])) := h1.v.row
  have HC := putU_any w1 sb (uE us) f h1.m (uE_z us) hf (by rw [uE_len]; exact hl)
  rw [uE_at, uE_put] at HC
  go_wp2_with (first
    | (with_reducible refine wg_load_part (o := ⟨some 12, _, _, _, _, _⟩) 3 true 8 rfl rfl rfl 69 (.tmp 11) gv 4 72 [.int .i64 4, encStr [], .map none, nilS] [.map (some sb)] [nilP] _ rfl rfl r1 rfl Tryz.underlying69 rfl (by kernel_rfl) ?_)
    | (with_reducible refine wg_build (o := ⟨some 14, _, _, _, _, _⟩) 3 true 8 rfl rfl rfl 113 [] rfl [] rfl [] hbu ?_))
  refine HC.mono ?_
  rintro e w2 ⟨rfl, m2, u2⟩
  go_wp2_with fail
  go_ret
  exact ⟨by first | rfl | (show Ending.returned _ = _; simp), ⟨⟨h1.v.row.but u2 hne, h1.v.one⟩, m2, h.lo⟩, (TrnB.of b1 hB).trans ⟨.but u2 (map_notplain h1.m), u2.below h.lo.2 (Nat.le_trans hB b1.size)⟩⟩
set_option maxRecDepth 100000 in
set_option maxHeartbeats 1000000 in
theorem setText_1 (w : World) (B gv : Nat) (t s : Nm) (h : V1 w B gv t) (hB : B ≤ w.heap.size) :
    Calls Tryz.prog 26 #[ptr gv, encStr s] w fun e w' => e = .returned (.tuple #[]) ∧ V1 w' B gv s ∧ TrnB B w w' := by
  go_enter Tryz.func26, Tryz.ntmps26
  go_wp2_with fail
  refine (kind_ev w (ptr gv) _ _ _ _ _ _ (.inr ⟨gv, rfl, h.v⟩)).mono ?_
  rintro e w1 ⟨rfl, b1⟩
  have h1 := h.later b1
  have r1 := h1.v.row
  go_wp2_with (first
    | ((with_reducible refine wl_store rfl 9 (.tmp 10) (.tmp 8) gv 1 72 (vC 1 t none nilS none nilP) (encStr s) rfl (by kernel_rfl) rfl rfl r1 (by simp) rfl ?_); intro w2 r2 o2; replace r2 : Row w2 TV gv (vC 1 s none nilS none nilP) := r2))
  go_end0
  exact ⟨rfl, ⟨⟨r2, by simp [Value.oneCell', encStr]⟩, h.lo⟩, (TrnB.of b1 hB).trans ⟨.but (But.only o2) (row_notplain h1.v.row TV_notplain), o2.below h.lo⟩⟩
set_option maxRecDepth 100000 in
set_option maxHeartbeats 1000000 in
theorem setItems_3 (w : World) (B gv : Nat) (lv sv : Value) (ls l : List Nm) (h : V3 w B gv lv ls) (hs : SlV cS 1 w w.heap.size sv l) (hform : sv = nilS ∨ ∃ ad n c, sv = .slice (some ad) n c) (hl : l.length ≤ 1000000) (hB : B ≤ w.heap.size) :
    Calls Tryz.prog 27 #[ptr gv, sv] w fun e w' => e = .returned (.tuple #[]) ∧ (∃ lv', V3 w' B gv lv' l) ∧ TrnB B w w' := by
  go_enter Tryz.func27, Tryz.ntmps27
  go_wp2_with fail
  refine (kind_ev w (ptr gv) _ _ _ _ _ _ (.inr ⟨gv, rfl, h.v⟩)).mono ?_
  rintro e w1 ⟨rfl, b1⟩
  have h1 := h.later b1
  replace hform := hide hform
  go_wp2_with fail
  refine (cloneS_any w1 sv l (hs.later b1) hform.out hl).mono ?_
  rintro e w2 ⟨v2, rfl, own2, b2⟩
  have r2 := h1.v.row.later b2
  have one2 := own_one own2
  go_wp2_with (first
    | ((with_reducible refine wl_store rfl 23 (.tmp 14) (.tmp 12) gv 3 72 (vC 3 [] none lv none nilP) v2 rfl (by kernel_rfl) rfl rfl r2 (by simp) one2 ?_); intro w3 r3 o3; replace r3 : Row w3 TV gv (vC 3 [] none v2 none nilP) := r3))
  go_end0
  have own3 : OwnW w3 B v2 l := own_low (Trn.own own2 (.but (But.only o3) (row_notplain r2 TV_notplain)) (.inr (.inl rfl))) (Nat.le_trans hB b1.size)
  exact ⟨rfl, ⟨v2, ⟨r3, by intro u hu; simp only [List.mem_cons, List.not_mem_nil, or_false] at hu; rcases hu with rfl | rfl | rfl | rfl | rfl | rfl <;> first | exact one2 | rfl⟩, own3, h.lo⟩, ((TrnB.of b1 hB).trans (TrnB.of b2 (Nat.le_trans hB b1.size))).trans ⟨.but (But.only o3) (row_notplain r2 TV_notplain), o3.below h.lo⟩⟩
end Go.Proofs.YtpbkejmffddelaaGreat

/-
  Values of all kinds: New; a set's elements. Own work.
-/
namespace Go.Proofs.YtpbkejmffddelaaGreat
open Go.RowKit Go.Shelf Go.Maps
theorem zat_only {w w' : World} {B g : Nat} {N : List Nd} {f : Nat → Nat → Lk} (h : ZAt w B N f) (o : Only g w w') (hg : g < B) : ZAt w' B N f :=
  h.only o fun c n e => by have := h.lo c n e; exact ⟨by omega, by omega⟩
theorem zset_only {w w' : World} {B gz mb g : Nat} {hd : Nd} {Ls : List Nd} (h : ZSet w B gz mb hd Ls) (o : Only g w w') (hg : g < B) : ZSet w' B gz mb hd Ls :=
  ⟨h.row.only o (by have := h.lo.1; omega), by obtain ⟨es, h1, h2, h3⟩ := h.map; exact ⟨es, h1.only o (by have := h.lo.2; omega), h2, h3⟩, zat_only h.z o hg, h.h16, h.rise, h.uniq, h.lo⟩
theorem zset_lo {w : World} {B B' gz mb : Nat} {hd : Nd} {Ls : List Nd} (h : ZSet w B gz mb hd Ls) (hB : B' ≤ B) : ZSet w B' gz mb hd Ls :=
  ⟨h.row, h.map, ⟨h.z.node, h.z.link, fun c n e => by have := h.z.lo c n e; exact ⟨by omega, by omega, this.2.2⟩, h.z.gb, h.z.gg⟩, h.h16, h.rise, h.uniq, Nat.le_trans hB h.lo.1, Nat.le_trans hB h.lo.2⟩
set_option maxRecDepth 100000 in
set_option maxHeartbeats 1000000 in
theorem new1_any (w : World) : Calls Tryz.prog 17 #[.int .i64 1] w fun e w' => ∃ gv, e = .returned (ptr gv) ∧ V1 w' w.heap.size gv [] ∧ Below w.heap.size w w' := by
  have hbu := builtVv 1
  go_enter Tryz.func17, Tryz.ntmps17
  go_wp2_with fail
  refine (isKind_any w 1).mono ?_
  rintro e w1 ⟨rfl, rfl⟩
  rw [show decide ((1 : Int) ≤ 1 ∧ (1 : Int) ≤ 5) = true from rfl]
  go_wp2_with (first
    | (with_reducible refine wl_build (o := ⟨some 8, _, _, _, _, _⟩) rfl 72 [(0, .tmp 7)] rfl [(0, .int .i64 1)] rfl (vC 1 [] none nilS none nilP) hbu ?_)
    | ((with_reducible refine wl_box (o := ⟨some 9, _, _, _, _, _⟩) rfl 72 (.tmp 8) _ (vC 1 [] none nilS none nilP) rfl rfl rfl ?_); intro g3 w3 r3 p3 l3 b3))
  go_ret
  exact ⟨g3, rfl, ⟨⟨r3, one0 _⟩, p3⟩, b3⟩

set_option maxRecDepth 100000 in
set_option maxHeartbeats 1000000 in
theorem new3_any (w : World) : Calls Tryz.prog 17 #[.int .i64 3] w fun e w' => ∃ gv, e = .returned (ptr gv) ∧ V3 w' w.heap.size gv nilS [] ∧ Below w.heap.size w w' := by
  have hbu := builtVv 3
  go_enter Tryz.func17, Tryz.ntmps17
  go_wp2_with fail
  refine (isKind_any w 3).mono ?_
  rintro e w1 ⟨rfl, rfl⟩
  rw [show decide ((1 : Int) ≤ 3 ∧ (3 : Int) ≤ 5) = true from rfl]
  go_wp2_with (first
    | (with_reducible refine wl_build (o := ⟨some 8, _, _, _, _, _⟩) rfl 72 [(0, .tmp 7)] rfl [(0, .int .i64 3)] rfl (vC 3 [] none nilS none nilP) hbu ?_)
    | ((with_reducible refine wl_box (o := ⟨some 9, _, _, _, _, _⟩) rfl 72 (.tmp 8) _ (vC 3 [] none nilS none nilP) rfl rfl rfl ?_); intro g3 w3 r3 p3 l3 b3))
  go_ret
  exact ⟨g3, rfl, ⟨⟨r3, one0 _⟩, World.ownsRow_nil _ _ _ _, p3⟩, b3⟩

set_option maxRecDepth 100000 in
set_option maxHeartbeats 1000000 in
theorem new4_any (w : World) : Calls Tryz.prog 17 #[.int .i64 4] w fun e w' => ∃ gv, e = .returned (ptr gv) ∧ (∃ sb, V4 w' w.heap.size gv sb []) ∧ Below w.heap.size w w' := by
  have hbu := builtVv 4
  go_enter Tryz.func17, Tryz.ntmps17
  go_wp2_with fail
  refine (isKind_any w 4).mono ?_
  rintro e w1 ⟨rfl, rfl⟩
  rw [show decide ((1 : Int) ≤ 4 ∧ (4 : Int) ≤ 5) = true from rfl]
  go_wp2_with (first
    | (with_reducible refine wl_build (o := ⟨some 8, _, _, _, _, _⟩) rfl 72 [(0, .tmp 7)] rfl [(0, .int .i64 4)] rfl (vC 4 [] none nilS none nilP) hbu ?_)
    | ((with_reducible refine wl_box (o := ⟨some 9, _, _, _, _, _⟩) rfl 72 (.tmp 8) _ (vC 4 [] none nilS none nilP) rfl rfl rfl ?_); intro g3 w3 r3 p3 l3 b3))
  refine (newTableU_any w3).mono ?_
  rintro e w4 ⟨mb, rfl, m4, p4, b4⟩
  have r4 : Row w4 TV g3 ([.int .i64 4, encStr [], .map none, nilS] ++ ([.map none] ++ [nilP])) := r3.later b4
  go_wp2_with (first
    | ((with_reducible refine wl_store_part rfl 69 (.tmp 22) (.tmp 20) g3 4 72 [.int .i64 4, encStr [], .map none, nilS] [.map none] [nilP] [.map (some mb)] rfl rfl rfl r4 rfl rfl (by kernel_rfl) (by simp [Value.oneCell']) ?_); intro w5 r5 o5; replace r5 : Row w5 TV g3 (vC 4 [] none nilS (some mb) nilP) := r5))
  have hne : mb ≠ g3 := by have := r3.lt; omega
  go_ret
  exact ⟨g3, rfl, ⟨mb, ⟨r5, by simp [Value.oneCell', encStr]⟩, m4.only o5 hne, p3, Nat.le_trans b3.size p4⟩, (b3.trans (b4.mono b3.size)).trans ((o5.below p3).mono (Nat.le_refl _))⟩

set_option maxRecDepth 100000 in
set_option maxHeartbeats 1000000 in
theorem new5_any (w : World) : Calls Tryz.prog 17 #[.int .i64 5] w fun e w' => ∃ gv, e = .returned (ptr gv) ∧ (∃ gz mb hd, V5 w' w.heap.size gv gz mb hd []) ∧ Below w.heap.size w w' := by
  have hbu := builtVv 5
  go_enter Tryz.func17, Tryz.ntmps17
  go_wp2_with fail
  refine (isKind_any w 5).mono ?_
  rintro e w1 ⟨rfl, rfl⟩
  rw [show decide ((1 : Int) ≤ 5 ∧ (5 : Int) ≤ 5) = true from rfl]
  go_wp2_with (first
    | (with_reducible refine wl_build (o := ⟨some 8, _, _, _, _, _⟩) rfl 72 [(0, .tmp 7)] rfl [(0, .int .i64 5)] rfl (vC 5 [] none nilS none nilP) hbu ?_)
    | ((with_reducible refine wl_box (o := ⟨some 9, _, _, _, _, _⟩) rfl 72 (.tmp 8) _ (vC 5 [] none nilS none nilP) rfl rfl rfl ?_); intro g3 w3 r3 p3 l3 b3))
  refine (new_any w3).mono ?_
  rintro e w4 ⟨gz, mb, hd, rfl, hz, b4⟩
  have r4 := r3.later b4
  go_wp2_with (first
    | ((with_reducible refine wl_store rfl 70 (.tmp 28) (.tmp 26) g3 5 72 (vC 5 [] none nilS none nilP) (ptr gz) rfl (by kernel_rfl) rfl rfl r4 (by simp) rfl ?_); intro w5 r5 o5; replace r5 : Row w5 TV g3 (vC 5 [] none nilS none (ptr gz)) := r5))
  have hz5 : ZSet w5 w3.heap.size gz mb hd [] := zset_only hz o5 r3.lt
  go_ret
  exact ⟨g3, rfl, ⟨gz, mb, hd, ⟨r5, by simp [Value.oneCell', encStr]⟩, zset_lo hz5 b3.size, p3⟩, (b3.trans (b4.mono b3.size)).trans ((o5.below p3).mono (Nat.le_refl _))⟩

set_option maxRecDepth 100000 in
theorem newNo_any (w : World) (k : Int) (hk : ¬ (1 ≤ k ∧ k ≤ 5)) : Calls Tryz.prog 17 #[.int .i64 k] w fun e w' => e = .returned nilP ∧ Below w.heap.size w w' := by
  go_enter Tryz.func17, Tryz.ntmps17
  go_wp2_with fail
  refine (isKind_any w k).mono ?_
  rintro e w1 ⟨rfl, rfl⟩
  rw [decide_eq_false hk]
  go_wp2_with fail
  go_ret
  exact ⟨rfl, Below.refl _ _⟩
end Go.Proofs.YtpbkejmffddelaaGreat

/-
  Values of all kinds: as plain data. Own work.
-/
namespace Go.Proofs.YtpbkejmffddelaaGreat
open Go.RowKit Go.Shelf Go.Maps
/-! ### The few keep facts till the ks-th is done; then R holds -/
def JV (w0 : World) (E : List Nat) (F : Nat → Value → World → Prop) (ks : Nat) (R : List Value → World → Prop) (bs : List Bool) (vs : List Value) (w : World) : Prop :=
  (bs.getD ks false = false → JF w0 E F bs vs w) ∧ (bs.getD ks false = true → R vs w)
section
variable {P : Program} {l : List Oper} {t0 : Array Value} {ds0 : List Deferred} {Sv : Nat → Value → Prop} {E : List Nat} {F : Nat → Value → World → Prop} {L : Array Bool} {a : Act} {w w0 w' : World} {i s ks : Nat} {o : Oper} {R : List Value → World → Prop}
theorem JV.start (vs : List Value) : JV w E F ks R (E.map fun _ => false) vs w.drew := by
  refine ⟨fun _ => JF.start vs, fun h => ?_⟩
  rw [List.getD, List.getElem?_map] at h
  cases hq : E[ks]? <;> rw [hq] at h <;> cases h
theorem JV.down (h : Mid l t0 ds0 Sv E (JV w0 E F ks R) L a w) (no : L.getD s false = false) (hs : E[ks]? = some s) : Mid l t0 ds0 Sv E (JF w0 E F) L a w := by
  have hj := h.inv.1 ((bits_at hs).trans no)
  exact ⟨⟨h.atL.defers, h.atL.size, h.atL.old, trivial, hj, h.atL.spec⟩, hj⟩
theorem JV.cont {K : Act → World → Prop} (hK : ∀ v w', Sv i v → JV w0 E F ks R (E.map fun j => if j = i then true else L.getD j false) (E.map fun j => if j = i then (if o.dst = none then undef else v) else slotOf l j a.tmps) w' → K (a.put o.dst v) w')
    (no : L.getD s false = false) (hs : E[ks]? = some s) (hne : s ≠ i) : ∀ v w', Sv i v → JF w0 E F (E.map fun j => if j = i then true else L.getD j false) (E.map fun j => if j = i then (if o.dst = none then undef else v) else slotOf l j a.tmps) w' → K (a.put o.dst v) w' := by
  intro v w' hS hJ
  refine hK v w' hS ⟨fun _ => hJ, fun h1 => ?_⟩
  simp only [List.getD, List.getElem?_map, hs, Option.map_some, Option.getD_some, if_neg hne] at h1
  have h2 : L.getD s false = true := h1
  rw [no] at h2
  cases h2
theorem JV.done {vs' : List Value} (hs : E[ks]? = some i) (hR : R vs' w') : JV w0 E F ks R (E.map fun j => if j = i then true else L.getD j false) vs' w' := by
  refine ⟨fun h0 => ?_, fun _ => hR⟩
  simp [List.getD, List.getElem?_map, hs] at h0
end
theorem textsP_c {w : World} {B : Nat} {hm : Option Nat} {ps : List Pr} (h : PH w B hm ps) (hl : ps.length ≤ 1000) :
    Calls Tryz.prog 91 #[.agg #[.map hm]] w fun e w' => ∃ v, e = .returned v ∧ w'.ownsRow w.heap.size 9 1 v ps.length ((ps.map Pr.f).map encStr) ∧ Below w.heap.size w w' := by
  rcases h with ⟨rfl, rfl⟩ | ⟨mb, rfl, _, hm⟩
  · exact (textsP_nil w).mono fun e w' ⟨he, hb⟩ => ⟨_, he, World.ownsRow_nil _ _ _ _, hb⟩
  · have := textsP_any w mb (hE ps) hm (by rw [hE_len]; exact hl)
    rw [hE_len, hE_names] at this
    exact this
theorem PH.rise {w : World} {B : Nat} {hm : Option Nat} {ps : List Pr} (h : PH w B hm ps) : riseE (hE ps) := by
  rcases h with ⟨rfl, rfl⟩ | ⟨mb, rfl, _, hm⟩
  · exact List.Pairwise.nil
  · exact hm.rise
theorem prAt_nth {ps : List Pr} (h : riseE (hE ps)) {i : Nat} {q : Pr} (hq : ps[i]? = some q) : prAt ps q.f = some q := by
  have := atE_nth h (p := (q.f, q.v)) (by rw [hE, List.getElem?_map, hq]; rfl)
  rw [hE_at] at this
  cases hp : prAt ps q.f with
  | none => rw [hp] at this; cases this
  | some p =>
    rw [hp] at this
    have e : Pr.v p = Pr.v q := Option.some.inj this
    have e2 : p.cells.toArray = q.cells.toArray := Value.agg.inj e
    have e3 : p.cells = q.cells := by simpa using e2
    simp only [List.cons.injEq, and_true] at e3
    obtain ⟨f1, f2⟩ := e3
    have h1 := encStr_inj f1
    have h2 := encStr_inj f2
    obtain ⟨a, b⟩ := p
    obtain ⟨c, d⟩ := q
    simp only at h1 h2
    subst h1 h2
    rfl
abbrev plV (k : Int) (t : Nm) (vI vR : Value) : List Value := [.int .i64 k, encStr t, nilS, vI, vR]
theorem builtPlV (k : Int) (t : Nm) (A A' : Option Addr) (n c n' c' : Nat) : Tryz.prog.built 26 [(0, .int .i64 k), (1, encStr t), (3, .slice A n c), (4, .slice A' n' c')] = some (plV k t (.slice A n c) (.slice A' n' c')).toArray := builtPl k t A A' n c n' c'
theorem own_sl {w : World} {B e size n : Nat} {v : Value} {xs : List Value} (h : w.ownsRow B e size v n xs) : ∃ A c, v = .slice A n c := by
  rcases h.2 with ⟨rfl, rfl⟩ | ⟨g, cap, cur, rfl, _⟩
  · exact ⟨none, 0, rfl⟩
  · exact ⟨_, _, rfl⟩
def OwWF (B : Nat) (ls : List Nm) (v : Value) (w : World) : Prop := OwnW w B v ls
theorem OwWF.later {B : Nat} {ls : List Nm} {v : Value} {w w' : World} (h : OwWF B ls v w) (hb : Below w.heap.size w w') : OwWF B ls v w' := own_later h hb
def OwSF (B : Nat) (ss : List Sc) (v : Value) (w : World) : Prop := OwnS w B v ss
theorem OwSF.later {B : Nat} {ss : List Sc} {v : Value} {w w' : World} (h : OwSF B ss v w) (hb : Below w.heap.size w w') : OwSF B ss v w' := own_later h hb
def PlnF (B : Nat) (k : Int) (t : Nm) (ls : List Nm) (ss : List Sc) (v : Value) (w : World) : Prop := ∃ vI vR, v = .agg (plV k t vI vR).toArray ∧ OwnW w B vI ls ∧ OwnS w B vR ss
theorem PlnF.later {B : Nat} {k : Int} {t : Nm} {ls : List Nm} {ss : List Sc} {v : Value} {w w' : World} (h : PlnF B k t ls ss v w) (hb : Below w.heap.size w w') : PlnF B k t ls ss v w' := by
  obtain ⟨vI, vR, e, h1, h2⟩ := h
  exact ⟨vI, vR, e, own_later h1 hb, own_later h2 hb⟩
def AlF (B : Nat) (v : Value) (w : World) : Prop := ∃ g, v = ptr g ∧ B ≤ g ∧ Row w 26 g [.int .i64 0, encStr [], nilS, nilS, nilS]
theorem AlF.later {B : Nat} {v : Value} {w w' : World} (h : AlF B v w) (hb : Below w.heap.size w w') : AlF B v w' := by
  obtain ⟨g, e, h1, h2⟩ := h
  exact ⟨g, e, h1, h2.later hb⟩
theorem row_type {w : World} {t t' g : Nat} {vs vs' : List Value} (h : Row w t g vs) (h' : Row w t' g vs') : t = t' := by
  have := (show w.heap[g]? = _ from h).symm.trans h'
  simp at this
  exact this.2
def FPl (B0 B1 : Nat) (k : Int) (t : Nm) (ls : List Nm) (ss : List Sc) (opn : Nat) (v : Value) (w : World) : Prop :=
  match opn with
  | 5 => OwWF B0 ls v w
  | 11 => OwSF B0 ss v w
  | 12 => PlnF B0 k t ls ss v w
  | 13 => AlF B1 v w
  | _ => True
theorem FPl_mono (B0 B1 : Nat) (k : Int) (t : Nm) (ls : List Nm) (ss : List Sc) : ∀ j v w w', FPl B0 B1 k t ls ss j v w → Below w.heap.size w w' → FPl B0 B1 k t ls ss j v w' := by
  intro j v w w' h hb
  unfold FPl at h ⊢
  split at h
  · exact h.later hb
  · exact h.later hb
  · exact h.later hb
  · exact h.later hb
  · trivial

def SPlA (gv g3 n5 : Nat) (k : Int) (t : Nm) (zp : Value) (opn : Nat) (v : Value) : Prop :=
  match opn with
  | 0 => v = .pointer (some ⟨g3, 0, none⟩)
  | 1 => v = .int .i64 k
  | 2 => v = .pointer (some ⟨g3, 1, none⟩)
  | 3 => v = encStr t
  | 4 => v = ptr gv
  | 6 | 8 => v = .pointer (some ⟨g3, 5, none⟩)
  | 7 | 9 => v = zp
  | 10 => v = .int .i64 (n5 : Int)
  | _ => True

set_option maxRecDepth 100000 in
set_option maxHeartbeats 4000000 in
theorem plain_p (w : World) (B gv : Nat) (k : Int) (t : Nm) (hm sm : Option Nat) (lv zp : Value) (ps : List Pr) (ls : List Nm) (ss : List Sc) (hV : VRow w gv k t hm lv sm zp) (hP : PH w B hm ps) (hZ : PZ w B zp ss)
    (HI : ∀ wz, Below w.heap.size w wz → Calls Tryz.prog 37 #[ptr gv] wz fun e w' => ∃ v, e = .returned v ∧ OwnW w' wz.heap.size v ls ∧ Below wz.heap.size wz w')
    (h2 : ps.length ≤ 1000) (h5 : ss.length ≤ 1000000) (hs : ∀ q ∈ ps, q.f.length ≤ maxLen) :
    Calls Tryz.prog 25 #[ptr gv] w fun e w' => ∃ vp vl vs, e = .returned (vlV ⟨k, t, ps, ls, ss⟩ vp vl vs) ∧ OwnP w' w.heap.size vp ps ∧ OwnW w' w.heap.size vl ls ∧ OwnS w' w.heap.size vs ss ∧ Below w.heap.size w w' := by
  obtain ⟨ip, hip, hiz, his, hib⟩ := pairI
  have hsz := szVv k t hm lv sm zp
  have h1 := hide hV.one
  have hrise := hide hP.rise
  have hlI : (ps.length : Int) ≤ 1000 := by omega
  obtain ⟨n5, hn5⟩ : ∃ n5, n5 = ss.length := ⟨_, rfl⟩
  have hlZ : ∀ wz : World, PZ wz B zp ss → Calls Tryz.prog 90 #[zp] wz fun e w' => e = .returned (.int .i64 (n5 : Int)) ∧ wz = w' := fun wz h => by rw [hn5]; exact zlen_c h
  have hrZ : ∀ wz : World, PZ wz B zp ss → Calls Tryz.prog 89 #[zp, .int .i64 0, .int .i64 (n5 : Int)] wz fun e w' => ∃ v, e = .returned v ∧ OwnS w' wz.heap.size v ss ∧ Below wz.heap.size wz w' := fun wz h => by rw [hn5]; exact zrange_c h h5
  replace hlZ := hide hlZ
  replace hrZ := hide hrZ
  replace hn5 := hide hn5
  have HI0 := hide HI
  clear HI
  go_enter Tryz.func25, Tryz.ntmps25
  go_wp2_with (first
    | ((with_reducible refine wl_alloc (o := ⟨some 2, _, _, _, _, _⟩) rfl 26 _ [.int .i64 0, encStr [], nilS, nilS, nilS] rfl zeroVl rfl ?_); intro g2 w1 r2 p2 l2 b2))
  refine (held_any w1 gv _ _ _ _ _ _ (hV.later b2)).mono ?_
  rintro e w2 ⟨rfl, b1⟩
  have B2 := b2.trans (b1.mono b2.size)
  have r22 := r2.later b1
  go_wp2_with (first
    | ((with_reducible refine wl_alloc (o := ⟨some 3, _, _, _, _, _⟩) rfl 72 _ (vC 0 [] none nilS none nilP) rfl zeroVv rfl ?_); intro g3 w3 r3 p3 l3 b3)
    | ((with_reducible refine wl_store_row rfl 72 (.tmp 3) (.tmp 10) g3 72 _ (vC k t hm lv sm zp) rfl rfl rfl r3 hsz rfl h1.out ?_); intro w4 r4 o4; have b4 := b3.trans ((o4.below p3).mono (Nat.le_refl _))))
  rename_i K6 hK6
  have B4 := B2.trans (b4.mono B2.size)
  have r24 := r22.later b4
  have hP0 := hP
  replace hP := hP.later B4
  replace hZ := hZ.later B4
  have r3 := r4
  have HI := hide (fun (wz : World) (hz : Below w4.heap.size w4 wz) => HI0.out wz (B4.trans (hz.mono B4.size)))
  obtain ⟨B0, hB00⟩ : ∃ B0, B0 = w.heap.size := ⟨_, rfl⟩
  have hB0 := hide (show B0 ≤ w4.heap.size by rw [hB00]; exact B4.size)
  replace hB00 := hide hB00
  have hg3lt := r4.lt
  have hg2lt := r24.lt
  refine wp_region_vals [5, 10, 11, 12, 13, 14] (SPlA gv g3 n5 k t zp) (JV w4 [5, 10, 11, 12, 13, 14] (FPl B0 w4.heap.size k t ls ss) 5 (fun vs wz => ∃ g4 vI vR, vs.getD 4 undef = ptr g4 ∧ w4.heap.size ≤ g4 ∧ Row wz 26 g4 (plV k t vI vR) ∧ OwnW wz B0 vI ls ∧ OwnS wz B0 vR ss ∧ Below w4.heap.size w4 wz)) (by kernel_rfl) (by kernel_rfl) (by kernel_rfl) (by kernel_rfl) (by kernel_rfl) (JV.start _) ?obs2 ?he2
  case obs2 =>
    refine ⟨?_, ?_, ?_, ?_, ?_, ?_, ?_, ?_, ?_, ?_, ?_, ?_, ?_, ?_, ?_, trivial⟩
    · refine .inl ⟨by kernel_rfl, fun L a1 w1 n h => ⟨.pointer (some ⟨g3, 0, none⟩), rfl, ?_⟩⟩
      have e0 : a1.eval (.tmp 3) = _ := h.var n 3 (by kernel_rfl)
      unfold execOp
      simp only [e0]
      go_simp
    · exact .inl ⟨by kernel_rfl, fun L a1 w1 n h => ⟨_, rfl, run_load1 3 (.tmp 11) g3 0 _ rfl Tryz.isAgg3 (h.dep n 0 11 (by kernel_rfl) rfl) ((r3.later (h.inv.1 ((bits_at rfl).trans (n.later (by kernel_rfl)))).1).cell rfl)⟩⟩
    · refine .inl ⟨by kernel_rfl, fun L a1 w1 n h => ⟨.pointer (some ⟨g3, 1, none⟩), rfl, ?_⟩⟩
      have e0 : a1.eval (.tmp 3) = _ := h.var n 3 (by kernel_rfl)
      unfold execOp
      simp only [e0]
      go_simp
    · exact .inl ⟨by kernel_rfl, fun L a1 w1 n h => ⟨_, rfl, run_load1 9 (.tmp 13) g3 1 _ rfl Tryz.isAgg9 (h.dep n 2 13 (by kernel_rfl) rfl) ((r3.later (h.inv.1 ((bits_at rfl).trans (n.later (by kernel_rfl)))).1).cell rfl)⟩⟩
    · exact .inl ⟨by kernel_rfl, fun L a1 w1 n h => ⟨_, rfl, run_move (.tmp 0) rfl (h.var n 0 (by kernel_rfl))⟩⟩
    · refine .inr fun L a1 w1 n h K hK => ?_
      have no : L.getD 14 false = false := n.later (by kernel_rfl)
      have hK := JV.cont hK no rfl (by decide)
      have h := JV.down h no rfl
      have e0 : a1.eval (.tmp 15) = ptr gv := h.dep n 4 15 (by kernel_rfl) rfl
      refine JF.call (FPl_mono B0 w4.heap.size k t ls ss) h hK 16 rfl 37 _ _ #[ptr gv] rfl Tryz.call37 ?_ (HI.out w1 h.inv.1) ?_
      · simp only [List.map_toArray, List.map_cons, List.map_nil, e0]
      · rintro e w3 ⟨v9, rfl, ow9, b9⟩
        exact ⟨_, rfl, trivial, own_low ow9 (Nat.le_trans hB0.out h.inv.1.size), b9⟩
    · refine .inl ⟨by kernel_rfl, fun L a1 w1 n h => ⟨.pointer (some ⟨g3, 5, none⟩), rfl, ?_⟩⟩
      have e0 : a1.eval (.tmp 3) = _ := h.var n 3 (by kernel_rfl)
      unfold execOp
      simp only [e0]
      go_simp
    · exact .inl ⟨by kernel_rfl, fun L a1 w1 n h => ⟨_, rfl, run_load1 70 (.tmp 17) g3 5 _ rfl Tryz.isAgg70 (h.dep n 6 17 (by kernel_rfl) rfl) ((r3.later (h.inv.1 ((bits_at rfl).trans (n.later (by kernel_rfl)))).1).cell rfl)⟩⟩
    · refine .inl ⟨by kernel_rfl, fun L a1 w1 n h => ⟨.pointer (some ⟨g3, 5, none⟩), rfl, ?_⟩⟩
      have e0 : a1.eval (.tmp 3) = _ := h.var n 3 (by kernel_rfl)
      unfold execOp
      simp only [e0]
      go_simp
    · exact .inl ⟨by kernel_rfl, fun L a1 w1 n h => ⟨_, rfl, run_load1 70 (.tmp 19) g3 5 _ rfl Tryz.isAgg70 (h.dep n 8 19 (by kernel_rfl) rfl) ((r3.later (h.inv.1 ((bits_at rfl).trans (n.later (by kernel_rfl)))).1).cell rfl)⟩⟩
    · refine .inr fun L a1 w1 n h K hK => ?_
      have no : L.getD 14 false = false := n.later (by kernel_rfl)
      have hK := JV.cont hK no rfl (by decide)
      have h := JV.down h no rfl
      have e0 : a1.eval (.tmp 20) = zp := h.dep n 9 20 (by kernel_rfl) rfl
      refine JF.call (FPl_mono B0 w4.heap.size k t ls ss) h hK 21 rfl 90 _ _ #[zp] rfl Tryz.call90 ?_ (hlZ.out w1 (hZ.later h.inv.1)) ?_
      · simp only [List.map_toArray, List.map_cons, List.map_nil, e0]
      · rintro e w3 ⟨rfl, h9⟩
        exact ⟨_, rfl, rfl, trivial, (by rw [← h9]; exact Below.refl _ _)⟩
    · refine .inr fun L a1 w1 n h K hK => ?_
      have no : L.getD 14 false = false := n.later (by kernel_rfl)
      have hK := JV.cont hK no rfl (by decide)
      have h := JV.down h no rfl
      have e0 : a1.eval (.tmp 18) = zp := h.dep n 7 18 (by kernel_rfl) rfl
      have e2 : a1.eval (.tmp 21) = .int .i64 (n5 : Int) := h.dep n 10 21 (by kernel_rfl) rfl
      refine JF.call (FPl_mono B0 w4.heap.size k t ls ss) h hK 22 rfl 89 _ _ #[zp, .int .i64 0, .int .i64 (n5 : Int)] rfl Tryz.call89 ?_ (hrZ.out w1 (hZ.later h.inv.1)) ?_
      · simp only [List.map_toArray, List.map_cons, List.map_nil, e0, e2]; rfl
      · rintro e w3 ⟨v9, rfl, ow9, b9⟩
        exact ⟨_, rfl, trivial, own_low ow9 (Nat.le_trans hB0.out h.inv.1.size), b9⟩
    · refine .inr fun L a1 w1 n h K hK => ?_
      have no : L.getD 14 false = false := n.later (by kernel_rfl)
      have hK := JV.cont hK no rfl (by decide)
      have h := JV.down h no rfl
      have e0 : a1.eval (.tmp 12) = .int .i64 k := h.dep n 1 12 (by kernel_rfl) rfl
      have e1 : a1.eval (.tmp 14) = encStr t := h.dep n 3 14 (by kernel_rfl) rfl
      have f5 : OwnW w1 B0 (a1.tmps.getD 16 undef) ls := JF.get h n 5 16 (by kernel_rfl) (by kernel_rfl) rfl
      have f11 : OwnS w1 B0 (a1.tmps.getD 22 undef) ss := JF.get h n 11 22 (by kernel_rfl) (by kernel_rfl) rfl
      obtain ⟨Ai, ci, ei⟩ := own_sl f5
      obtain ⟨Ar, cr, er⟩ := own_sl f11
      have e2 : a1.eval (.tmp 16) = .slice Ai ls.length ci := ei
      have e3 : a1.eval (.tmp 22) = .slice Ar ss.length cr := er
      rw [ei] at f5
      rw [er] at f11
      exact JF.run (FPl_mono B0 w4.heap.size k t ls ss) h hK 23 rfl _ (run_buildX 26 [(0, .tmp 12), (1, .tmp 14), (3, .tmp 16), (4, .tmp 22)] rfl [(0, .int .i64 k), (1, encStr t), (3, .slice Ai ls.length ci), (4, .slice Ar ss.length cr)] (by simp only [List.map_cons, List.map_nil, e0, e1, e2, e3]) _ (builtPlV k t Ai Ar _ ci _ cr)) trivial ⟨_, _, rfl, f5, f11⟩
    · refine .inr fun L a1 w1 n h K hK => ?_
      have no : L.getD 14 false = false := n.later (by kernel_rfl)
      have hK := JV.cont hK no rfl (by decide)
      have h := JV.down h no rfl
      refine st_alloc 26 _ _ rfl zeroVl rfl ?_
      intro g7 w3 r7 a7 l7 b7
      exact JF.few (FPl_mono B0 w4.heap.size k t ls ss) h hK 4 rfl _ trivial ⟨g7, rfl, Nat.le_trans h.inv.1.size a7, r7⟩ b7
    · refine .inr fun L a1 w1 n h0 K hK => ?_
      have no : L.getD 14 false = false := n.not_yet
      have h := JV.down h0 no rfl
      obtain ⟨vI, vR, ev, oI, oR⟩ : PlnF B0 k t ls ss (a1.tmps.getD 23 undef) w1 := JF.get h n 12 23 (by kernel_rfl) (by kernel_rfl) rfl
      obtain ⟨g7, eg, hg7, r7⟩ : AlF w4.heap.size (a1.tmps.getD 4 undef) w1 := JF.get h n 13 4 (by kernel_rfl) (by kernel_rfl) rfl
      have onev : ∀ u ∈ plV k t vI vR, u.oneCell' = true := by
        intro u hu
        simp only [List.mem_cons, List.not_mem_nil, or_false] at hu
        rcases hu with rfl | rfl | rfl | rfl | rfl
        · rfl
        · rfl
        · rfl
        · exact own_one oI
        · exact own_one oR
      refine st_store_row 26 (.tmp 4) (.tmp 23) g7 26 _ (plV k t vI vR) rfl eg ev r7 (by kernel_rfl) rfl onev ?_
      intro w3 r3 o3
      exact hK undef w3 trivial (JV.done rfl ⟨g7, vI, vR, eg, hg7, r3, own_at_but oI r7 (by decide) (But.only o3), own_at_but oR r7 (by decide) (But.only o3), h.inv.1.trans (o3.below hg7)⟩)
  case he2 =>
    intro V w5 hV hJ
    obtain ⟨g4, vI, vR, e4, p4, r4, oI, oR, b5⟩ := hJ.2 rfl
    have e4 : V 13 = ptr g4 := e4
    have onevI := own_one oI
    have onevR := own_one oR
    replace onevI := hide onevI
    replace onevR := hide onevR
    clear hV hJ
    simp only [putOps, List.setIfInBounds_toArray, List.set_cons_succ, List.set_cons_zero, Nat.reduceAdd]
    rw [e4]
    refine hK6 _ _ ?_
    have b5' := b5
    have B5 := B4.trans (b5'.mono B4.size)
    have r25 := r24.later b5'
    have r35 : Row w5 TV g3 ([.int .i64 k, encStr t] ++ ([.map hm] ++ [lv, .map sm, zp])) := r3.later b5'
    generalize V 0 = v0
    generalize V 1 = v1
    generalize V 2 = v2
    generalize V 3 = v3
    generalize V 4 = v4
    generalize V 5 = v5
    generalize V 6 = v6
    generalize V 7 = v7
    generalize V 8 = v8
    generalize V 9 = v9
    generalize V 10 = v10
    generalize V 11 = v11
    generalize V 12 = v12
    clear e4 r2 r22 r3 b2 b1 b3 b4 HI HI0
    go_wp2_with (first
      | (with_reducible refine wl_load_part (o := ⟨some 25, _, _, _, _, _⟩) rfl 66 (.tmp 24) g3 2 72 [.int .i64 k, encStr t] [.map hm] [lv, .map sm, zp] _ rfl rfl r35 rfl Tryz.underlying66 rfl (by kernel_rfl) ?_))
    refine (textsP_c (hP.later b5') h2).mono ?_
    rintro e w6 ⟨nv, rfl, own6, b6⟩
    have B6 := B5.trans (b6.mono B5.size)
    have own6 : w6.ownsRow w5.heap.size 9 1 nv (ps.map Pr.f).length ((ps.map Pr.f).map encStr) := by rw [List.length_map]; exact own6
    have sl6 := OwnW.slv own6
    obtain ⟨NA, nc, rfl⟩ := sl6.sl
    have r26 := r25.later b6
    have r36 := r35.later b6
    have r46 := r4.later b6
    have oI6 := own_later oI b6
    have oR6 := own_later oR b6
    have hg4 : w.heap.size ≤ g4 := Nat.le_trans B4.size p4
    have hn34 : g3 ≠ g4 := by omega
    have hn24 : g2 ≠ g4 := by omega
    have r46' := r46
    clear sl6 r4 r25 r35 oI oR
    rw [List.length_map]
    rw [List.length_map] at own6
    go_wp2_with fail
    go_loopw [28] (fun iv wr => ∃ (i : Nat) (ov : Value), i ≤ ps.length ∧ iv = .int .i64 (i : Int) ∧ Row wr 26 g4 [.int .i64 k, encStr t, ov, vI, vR] ∧ OwnP wr w6.heap.size ov (ps.take i) ∧ But g4 w6 wr) (fun iv _ => ps.length - (intOf iv).toNat)
    case atStart => exact ⟨0, nilS, by omega, rfl, r46, World.ownsRow_nil _ _ _ _, But.refl _ _⟩
    case round =>
      clear r46
      obtain ⟨i, ov, hi, rfl, r4, ownP, UW⟩ := hrel
      have hwb := UW.size
      have BW := B6.trans (UW.below hg4 B6.size)
      by_cases hlt : i < ps.length
      · have hltI : (i : Int) < (ps.length : Int) := by omega
        obtain ⟨q, hq⟩ : ∃ q, ps[i]? = some q := ⟨_, List.getElem?_eq_getElem hlt⟩
        have hqn : (ps.map Pr.f)[i]? = some q.f := by rw [List.getElem?_map, hq]; rfl
        have own6' : wr.ownsRow w5.heap.size 9 1 (.slice NA ps.length nc) (ps.map Pr.f).length ((ps.map Pr.f).map encStr) := own_at_but (by rw [List.length_map]; exact own6) r46' (by decide) UW
        obtain ⟨x1, ga, oa, rfl, hga, hca⟩ := (OwnW.slv own6').at hqn
        have q0 := hca 0 _ rfl
        rw [Nat.add_zero, Nat.mul_one] at q0
        have r3w := r36.but UW hn34
        have hmore := hide (take_more hq)
        have hat : prAt ps q.f = some q := prAt_nth hrise.out hq
        have hqs := hide (hs q (List.mem_of_getElem? hq))
        have hPw := hP0.later BW
        have htl : (ps.take i).length = i := by rw [List.length_take]; omega
        have hlt9 := hide hlt
        have szq := szPr q
        have oneq := onePr q
        clear hq hqn own6' x1 hga hca
        go_wp2_with (first
          | (with_reducible refine wl_run (o := ⟨some 30, _, _, _, _, _⟩) rfl (.pointer (some ⟨ga, oa + i * 1, none⟩)) (run_idxO 23 (.tmp 26) (.tmp 28) 9 1 ga oa ps.length nc i rfl Tryz.underlying23 Tryz.sizeOf9 rfl rfl hlt) ?_)
          | (with_reducible refine wl_load_part (o := ⟨some 34, _, _, _, _, _⟩) rfl 66 (.tmp 33) g3 2 72 [.int .i64 k, encStr t] [.map hm] [lv, .map sm, zp] _ rfl rfl r3w rfl Tryz.underlying66 rfl (by kernel_rfl) ?_))
        have HG := getP_c hPw q.f hqs.out
        rw [hat] at HG
        refine HG.mono ?_
        rintro e w7 ⟨rfl, b7⟩
        have r47 := r4.later b7
        have own7 := own_later ownP b7
        have hwb7 := Nat.le_trans hwb b7.size
        have hc4 := r47.cell (j := 2) rfl
        have hm1 : (ps.take i).length + 1 ≤ maxLen := by rw [htl]; simp only [maxLen]; omega
        have hm2 : ((ps.take i).length + 1) * 32 ≤ 140737488355328 := by rw [htl]; omega
        have h02 : 0 < 2 := by decide
        replace htl := hide htl
        clear HG hat q0 ownP r4
        go_wp2_with (first
          | ((with_reducible refine wl_alloc (o := ⟨some 7, _, _, _, _, _⟩) rfl 87 _ [encStr [], encStr []] rfl zeroPr rfl ?_); intro g7 w8 r8 p8 l8 b8)
          | ((with_reducible refine wl_store_row rfl 87 (.tmp 7) (.tmp 37) g7 87 _ q.cells rfl rfl rfl r8 szq rfl oneq ?_); intro w9 r9 o9; have b9 := b8.trans ((o9.below p8).mono (Nat.le_refl _)); have r49 := r47.later b9; have c49 := r49.cell (j := 2) rfl; have own9 := own_later own7 b9)
          | (with_reducible refine wl_load_row (o := ⟨some 41, _, _, _, _, _⟩) rfl 87 (.tmp 7) g7 87 q.cells _ rfl rfl r9 Tryz.underlying87 rfl szq ?_)
          | ((with_reducible refine wl_build1B (o := ⟨some 42, _, _, _, _, _⟩) rfl 22 (.tmp 41) rfl 87 ip _ q.cells 2 Tryz.underlying22 hip hiz rfl his rfl h02 (by decide) rfl ?_); intro g10 w10 r10 p10 l10 b10; have own10 := own_later own9 b10; have r410 := r49.later b10; have hwb10 := Nat.le_trans hwb7 (Nat.le_trans b9.size b10.size))
          | ((at_builtin; with_reducible refine wl_append_at (o := ⟨some 43, _, _, _, _, _⟩) rfl (.tmp 40) (.tmp 42) 22 rfl w6.heap.size 87 ip _ 2 32 Tryz.underlying22 hip hiz his hib rfl h02 ov _ _ rfl own10 ⟨g10, 0, none⟩ 1 1 q.cells rfl rfl (row_src r10) oneq hm1 hm2 hwb10 ?_); intro v11 w11 own11 gr11 at11; have r411 := r410.grownS own10 (by decide) gr11)
          | ((with_reducible refine wl_store rfl 22 (.tmp 44) (.tmp 43) g4 2 26 [.int .i64 k, encStr t, ov, vI, vR] v11 rfl (by kernel_rfl) rfl rfl r411 (by simp) (own_one own11) ?_); intro w12 r12 o12; replace r12 : Row w12 26 g4 [.int .i64 k, encStr t, v11, vI, vR] := r12))
        have own12 : OwnP w12 w6.heap.size v11 (ps.take (i + 1)) := by
          rw [hmore.out, OwnP, List.length_append, prC_app]
          exact own_at_but (own11) r411 (by decide) (But.only o12)
        have U12 : But g4 w6 w12 := ((((UW.trans (But.of b7 g4)).trans (But.of b9 g4)).trans (But.of b10 g4)).grown gr11 (fun k hk => (own10.lt k hk).1)).trans (But.only o12)
        go_roundw
        case rel => exact ⟨i + 1, v11, by have := hlt9.out; omega, by go_num, r12, own12, U12⟩
        case measure => have := hlt9.out; simp [intOf]; omega
      · obtain rfl : i = ps.length := by omega
        rw [List.take_length] at ownP
        have r2w := r26.but UW hn24
        have onev := own_one ownP
        have one5 : ∀ u ∈ [Value.int .i64 k, encStr t, ov, vI, vR], u.oneCell' = true := by
          intro u hu
          simp only [List.mem_cons, List.not_mem_nil, or_false] at hu
          rcases hu with rfl | rfl | rfl | rfl | rfl
          · rfl
          · rfl
          · exact onev
          · exact onevI.out
          · exact onevR.out
        have oIw := own_at_but oI6 r46' (by decide) UW
        have oRw := own_at_but oR6 r46' (by decide) UW
        have U9 : ∀ (wz : World), Only g2 wr wz → OwnP wz w.heap.size ov ps ∧ OwnW wz w.heap.size vI ls ∧ OwnS wz w.heap.size vR ss := fun wz o => ⟨own_low (own_at_but ownP r2w (by decide) (But.only o)) B6.size, by rw [← hB00.out]; exact own_at_but oIw r2w (by decide) (But.only o), by rw [← hB00.out]; exact own_at_but oRw r2w (by decide) (But.only o)⟩
        replace U9 := hide U9
        clear oIw oRw oI6 oR6 ownP own6
        go_wp2_with (first
          | (with_reducible refine wl_load_row (o := ⟨some 46, _, _, _, _, _⟩) rfl 26 (.tmp 4) g4 26 [.int .i64 k, encStr t, ov, vI, vR] _ rfl rfl r4 Tryz.underlying26 rfl (by kernel_rfl) ?_)
          | ((with_reducible refine wl_store_row rfl 26 (.tmp 2) (.tmp 46) g2 26 _ [.int .i64 k, encStr t, ov, vI, vR] rfl rfl rfl r2w (by kernel_rfl) rfl one5 ?_); intro w7 r7 o7))
        obtain ⟨q1, q2, q3⟩ := U9.out _ o7
        refine bodyPost_ret (v := .agg [.int .i64 k, encStr t, ov, vI, vR].toArray) ?_ rfl ⟨ov, vI, vR, rfl, q1, q2, q3, BW.trans ((o7.below p2).mono (Nat.le_refl _))⟩
        exact results_cell_row Tryz.results25 _ _ g2 26 _ (0, 0) _ rfl r7 Tryz.underlying26 rfl (by kernel_rfl)
end Go.Proofs.YtpbkejmffddelaaGreat

/-
  A set's elements given anew. Own work.
-/
namespace Go.Proofs.YtpbkejmffddelaaGreat
open Go.RowKit Go.Shelf Go.Maps
theorem insN_len (x : Nm) : ∀ us : List Nm, (insN x us).length = us.length + 1
  | [] => rfl
  | y :: r => by
    unfold insN
    split
    · rfl
    · rw [List.length_cons, insN_len x r]; rfl
theorem putN_len (us : List Nm) (f : Nm) : (putN us f).length ≤ us.length + 1 := by
  unfold putN
  rw [insN_len]
  have : (cutN us f).length ≤ us.length := List.length_filter_le _ _
  omega
theorem foldN_len : ∀ (l : List Nm) (us : List Nm), (l.foldl putN us).length ≤ us.length + l.length
  | [], us => by simp
  | f :: r, us => by
    have := foldN_len r (putN us f)
    have h2 := putN_len us f
    simp only [List.foldl_cons, List.length_cons]
    omega
theorem foldN_more {l : List Nm} {i : Nat} {f : Nm} (h : l[i]? = some f) : (l.take (i + 1)).foldl putN [] = putN ((l.take i).foldl putN []) f := by
  rw [take_more h, List.foldl_append]
  rfl
set_option maxRecDepth 100000 in
set_option maxHeartbeats 1000000 in
theorem setItems_4 (w : World) (B gv sb : Nat) (sv : Value) (us l : List Nm) (h : V4 w B gv sb us) (hs : SlV cS 1 w B sv l) (hl : l.length ≤ 1000) (hn : ∀ t ∈ l, t.length ≤ maxLen) (hB : B ≤ w.heap.size) :
    Calls Tryz.prog 27 #[ptr gv, sv] w fun e w' => e = .returned (.tuple #[]) ∧ (∃ sb', V4 w' B gv sb' (l.foldl putN [])) ∧ TrnB B w w' := by
  obtain ⟨A0, c0, hsv⟩ := hs.sl
  subst hsv
  have hlI : (l.length : Int) ≤ 1000 := by omega
  go_enter Tryz.func27, Tryz.ntmps27
  go_wp2_with fail
  refine (kind_ev w (ptr gv) _ _ _ _ _ _ (.inr ⟨gv, rfl, h.v⟩)).mono ?_
  rintro e w1 ⟨rfl, b1⟩
  have h1 := h.later b1
  go_wp2_with fail
  refine (newTableU_any w1).mono ?_
  rintro e w2 ⟨mb, rfl, m2, p2, b2⟩
  have r2 : Row w2 TV gv ([.int .i64 4, encStr [], .map none, nilS] ++ ([.map (some sb)] ++ [nilP])) := h1.v.row.later b2
  have B2 : TrnB B w w2 := (TrnB.of b1 hB).trans (TrnB.of b2 (Nat.le_trans hB b1.size))
  go_wp2_with (first
    | ((with_reducible refine wl_store_part rfl 69 (.tmp 20) (.tmp 18) gv 4 72 [.int .i64 4, encStr [], .map none, nilS] [.map (some sb)] [nilP] [.map (some mb)] rfl rfl rfl r2 rfl rfl (by kernel_rfl) (by simp [Value.oneCell']) ?_); intro w3 r3 o3; replace r3 : Row w3 TV gv (vC 4 [] none nilS (some mb) nilP) := r3))
  have hne : mb ≠ gv := by have := h1.v.row.lt; omega
  have B3 : TrnB B w w3 := B2.trans ⟨.but (But.only o3) (row_notplain r2 TV_notplain), o3.below h.lo.1⟩
  have h3 : V4 w3 B gv mb [] := ⟨⟨r3, by simp [Value.oneCell', encStr]⟩, m2.only o3 hne, h.lo.1, Nat.le_trans (Nat.le_trans hB b1.size) p2⟩
  clear r2 r3 h1
  go_loopw [23] (fun iv wr => ∃ i : Nat, i ≤ l.length ∧ iv = .int .i64 (i : Int) ∧ V4 wr B gv mb ((l.take i).foldl putN []) ∧ TrnB B w wr) (fun iv _ => l.length - (intOf iv).toNat)
  case atStart => exact ⟨0, by omega, rfl, h3, B3⟩
  case round =>
    obtain ⟨i, hi, rfl, hV, BW⟩ := hrel
    by_cases hlt : i < l.length
    · have hltI : (i : Int) < (l.length : Int) := by omega
      obtain ⟨f, hf⟩ : ∃ f, l[i]? = some f := ⟨_, List.getElem?_eq_getElem hlt⟩
      obtain ⟨x1, ga, oa, rfl, hga, hca⟩ := (hs.below BW.2).at hf
      have q0 := hca 0 _ rfl
      rw [Nat.add_zero, Nat.mul_one] at q0
      have hfl := hide (hn f (List.mem_of_getElem? hf))
      have hmore := hide (foldN_more hf)
      have hfn := foldN_len (l.take i) []
      have htl : (l.take i).length = i := by rw [List.length_take]; omega
      have hus := hide (show ((l.take i).foldl putN []).length < maxLen by simp only [maxLen]; simp only [List.length_nil] at hfn; omega)
      have hlt9 := hide hlt
      clear hf x1 hga hca hfn htl
      go_wp2_with (first
        | (with_reducible refine wl_run (o := ⟨some 25, _, _, _, _, _⟩) rfl (.pointer (some ⟨ga, oa + i * 1, none⟩)) (run_idxO 23 (.tmp 21) (.tmp 23) 9 1 ga oa l.length c0 i rfl Tryz.underlying23 Tryz.sizeOf9 rfl rfl hlt) ?_))
      refine (add_4 wr B gv mb _ f hV hfl.out hus.out (Nat.le_trans hB BW.2.size)).mono ?_
      rintro e w5 ⟨rfl, hV5, B5⟩
      go_wp2_with fail
      go_roundw
      case rel => exact ⟨i + 1, by have := hlt9.out; omega, by go_num, by rw [hmore.out]; exact hV5, BW.trans B5⟩
      case measure => have := hlt9.out; simp [intOf]; omega
    · obtain rfl : i = l.length := by omega
      rw [List.take_length] at hV
      go_wp2_with fail
      go_end0
      exact ⟨rfl, ⟨mb, hV⟩, BW⟩
end Go.Proofs.YtpbkejmffddelaaGreat
