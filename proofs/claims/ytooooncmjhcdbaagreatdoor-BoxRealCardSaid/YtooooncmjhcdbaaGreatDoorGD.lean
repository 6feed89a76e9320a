/-
  Several own texts in one: BoxK, BoxL, BoxM, BoxN, BoxO, BoxP, BoxQ, BoxR. Own work.
-/
import Derived.Lib.ConvBytes
import Derived.Maps.OwnSet
import Derived.DeepKeys4
import Derived.Test.YtooooncmjhcdbaaGreatDoorGB
set_option linter.unusedVariables false
set_option linter.unusedSimpArgs false
/-
  The box: the ledgers open: contract. Own work.
-/
namespace Go.Proofs.YtooooncmjhcdbaaGreatDoor
open Go.RowKit
theorem run_neqStr {P : Program} {o : Oper} {a : Act} {w : World} {t u : Nat} {s1 s2 : ByteArray} {r : Bool} (x y : Operand) (ho : o.op = .binOp .neq t x y u) (hx : a.eval x = .string s1) (hy : a.eval y = .string s2) (hu : P.underlying t = some .string) (hm : P.eqGuardType P.depth t = false) (hr : (s1.toList == s2.toList) = !r) : (execOp a.eval o).run P w = .ok (.value (.bool r)) w := by
  have hE : ∀ w, (Op.equalIn 10000 t (.string s1) (.string s2)).run P w = .ok (!r) w := fun w => by rw [← hr]; exact run_equalIn_string w 9999 _ s1 s2 hu
  unfold execOp; simp only [ho, hx, hy]; go_simp
/-- Bytes of a string that is no constant: a row of their own. -/
theorem wl_convB {P : Program} {ops : Array Oper} {rest : List Oper} {o : Oper} {a : Act} {w : World} {Q : Exit → Act → World → Prop} (hgd : o.guard = none) (src dst e : TypeId) (x : Operand) (xs : List Int) (ho : o.op = .convert src dst x) (hx : a.eval x = .string (strOfNums xs)) (hb : IsBy xs)
    {u : TypeDesc} (hs : P.underlying src = some u) (hd : P.underlying dst = some (.slice e)) (he : P.underlying e = some (.int .u8)) (hn : xs.length ≤ maxLen)
    (hk : ∀ A c w', Bs w' w'.heap.size A xs.length xs → xs.length ≤ c → (∀ p, A = some p → ∃ cs fr, w'.heap[p.block]? = some (.cells cs e fr)) → Below w.heap.size w w' → wpList P ops Q rest (a.put o.dst (.slice A xs.length c)) w') : wpList P ops Q (o :: rest) a w :=
  wpList_plain hgd fun K hK => by
    have hz : (strOfNums xs).size = xs.length := by
      have := congrArg List.length (Lib.strOfNums_toList xs)
      rw [Lib.toList_data] at this
      simpa [Lib.bytesOf_length] using this
    have hrun := Lib.run_convert_string_bytes (P := P) w src dst e (strOfNums xs) hs hd he
    rw [hz] at hrun
    unfold Oper.wp execOp
    simp only [ho, hx, Sem.run_bind, Sem.run_pure, Result.andThen_ok, hrun]
    refine hK _ _ (hk _ _ _ ⟨rfl, fun _ => ⟨w.heap.size, 0, rfl, by rw [Lib.bytesWorld_size]; omega, fun j hj => ?_⟩⟩ ?_ (fun p hp => by injection hp with hp; subst hp; exact ⟨_, _, Lib.bytesWorld_at_new w e _⟩) ?_)
    · rw [Nat.zero_add, Lib.bytesWorld_cell w e _ j (by rw [hz]; exact hj)]
      have h1 : (strOfNums xs).data.toList = Lib.bytesOf xs := by rw [← Lib.toList_data, Lib.strOfNums_toList]
      rw [h1]
      have hl : j < (Lib.bytesOf xs).length := by rw [Lib.bytesOf_length]; exact hj
      have h2 := hb _ (List.getElem_mem hj)
      simp only [List.getD, List.getElem?_eq_getElem hl, List.getElem?_eq_getElem hj, Option.getD_some]
      simp only [Lib.bytesOf, List.getElem_map]
      congr 1
      simp
      omega
    · exact by have := grownCap_ge w xs.length 0 e; exact this
    · refine ⟨rfl, rfl, rfl, by rw [Lib.bytesWorld_size]; omega, fun k hk => Lib.bytesWorld_at_old w e _ k hk⟩
/-- What is opened, by what was sealed. -/
def opT (ts : List SEn) (q : Kid) (n : Int) (ad bs : List Int) : Option (List Int) := match fdS ts bs with | some s => if (s.q.l = q.l ∧ s.n = n) ∧ s.ad = ad then some s.tx else none | none => none
/-- What Open tells: the text, or an error. -/
def OpRes (er : Int) (r : Option (List Int)) (w : World) (e : Ending) (w' : World) : Prop :=
  match r with
  | some tx => ∃ A c, e = .returned (.tuple #[.slice A tx.length c, .int .i64 0]) ∧ Bs w' w'.heap.size A tx.length tx ∧ tx.length ≤ c ∧ TyB w' A ∧ Below w.heap.size w w'
  | none => e = .returned (.tuple #[.slice none 0 0, .int .i64 er]) ∧ Below w.heap.size w w'
set_option maxRecDepth 100000 in
set_option maxHeartbeats 1200000 in
theorem lopen_any (w : World) (B gl : Nat) (ts : List SEn) (ms : List MEn) (q : Kid) (n : Int) (D A : Option Addr) (l d m c : Nat) (ad bs : List Int) (h : LedAt w B gl ts ms) (hn : ts.length ≤ 10000) (ht : ∀ s ∈ ts, s.tx.length ≤ 100000) (hmb : ∀ s ∈ ts, IsBy s.tx ∧ IsBy s.ad)
    (had : Bs w w.heap.size D l ad) (hadb : IsBy ad) (hbs : Bs w w.heap.size A m bs) (hby : IsBy bs) (hm : m ≤ 1000000) :
    Calls Tryz.prog 120 #[.pointer (some ⟨gl, 0, none⟩), .agg (vk .i64 (useL q n)).toArray, .slice D l d, .slice A m c] w (OpRes 6 (opT ts q n ad bs) w) := by
  obtain ⟨ie, hie, hiz, his, hib⟩ := seI
  have hz0 : (Tryz.prog.info? 191).map (fun i => i.zero) = some (some (.agg (zSEn.cells).toArray)) := by rw [hie]; exact congrArg some hiz
  clear hie hiz his hib ie
  have husz := hide (szUse q n)
  have hEq := fun (s : SEn) w => eqUse s.q q s.n n w
  obtain ⟨us, hus⟩ : ∃ us, us = vk .i64 (useL q n) := ⟨_, rfl⟩
  rw [← hus] at husz ⊢
  replace hEq : ∀ (s : SEn) (w : World), (Op.equalIn 10000 72 (.agg (vk .i64 (useL s.q s.n)).toArray) (.agg us.toArray)).run Tryz.prog w = .ok (decide (s.q.l = q.l ∧ s.n = n)) w := by rw [hus]; exact hEq
  clear hus
  obtain ⟨r, hr⟩ : ∃ r, r = opT ts q n ad bs := ⟨_, rfl⟩
  rw [← hr]
  unfold opT at hr
  have Hr := hide hr
  clear hr
  go_enter Tryz.func120, Tryz.ntmps120
  go_wp2_with (first
    | (with_reducible refine wl_box rfl 72 _ (.agg us.toArray) us rfl rfl rfl ?_; intro g5 w0 r5 p5 l5 b5))
  refine (findS_any w0 B gl ts ms A m c bs (h.later b5) hn ht (hbs.later b5) hby hm).mono ?_
  rintro e w1 ⟨rfl, b1⟩
  have B1 := b5.trans (b1.mono b5.size)
  have r5a := r5.later b1
  replace had := had.later B1
  cases hf : fdS ts bs with
  | none =>
    have hr : r = none := by rw [Hr.out, hf]
    subst hr
    have hzf := hide (szSEn zSEn)
    have hone := hide (one_SEn zSEn)
    have hg : ((none : Option SEn).getD zSEn) = zSEn := rfl
    rw [hg]
    clear hg hf
    generalize zSEn.cells = zc at *
    go_wp2_with (first
      | (with_reducible refine wl_alloc (o := ⟨some 10, _, _, _, _, _⟩) rfl 191 _ zc rfl hz0 rfl ?_; intro g9 w2 r9 p9 l9 b9)
      | (with_reducible refine wl_store_row rfl 191 (.tmp 10) (.tmp 18) g9 191 _ zc rfl rfl rfl r9 hzf.out rfl hone.out ?_; intro w3 r9b o9))
    go_ret2
    exact ⟨rfl, B1.trans ((b9.trans (o9.below p9)).mono B1.size)⟩
  | some s =>
    have hsm := fdS_mem hf
    have hE := fun w => hEq s w
    have hss := str_same (hmb s hsm).2 hadb
    have hcv := (hmb s hsm).1
    have hcl := ht s hsm
    have hzf := hide (szSEn s)
    have hone := hide (one_SEn s)
    have hus2 := hide (szUse s.q s.n)
    have hlc := hide (show zSEn.cells.length = s.cells.length from rfl)
    have hsc : s.cells = [] ++ (vk .i64 (useL s.q s.n) ++ [.string (strOfNums s.ad), .string (strOfNums s.tx)]) := rfl
    have hul : (vk .i64 (useL s.q s.n)).length = 7 := rfl
    have hg : ((some s : Option SEn).getD zSEn) = s := rfl
    rw [hg]
    have hf0 := hf
    clear hg hf hsm hEq
    have hok : r = if (s.q.l = q.l ∧ s.n = n) ∧ s.ad = ad then some s.tx else none := by rw [Hr.out, hf0]
    have Hok := hide hok
    clear hok hf0 Hr
    obtain ⟨ru, hru⟩ : ∃ ru, ru = decide (s.q.l = q.l ∧ s.n = n) := ⟨_, rfl⟩
    rw [← hru] at hE
    have Hru := hide hru
    obtain ⟨ra, hra⟩ : ∃ ra, ra = decide (s.ad = ad) := ⟨_, rfl⟩
    have hsa : ((strOfNums s.ad).toList == (strOfNums ad).toList) = ra := by rw [hra, Bool.eq_iff_iff]; simp only [beq_iff_eq, decide_eq_true_eq]; exact hss
    have Hra := hide hra
    have Hsa := hide hsa
    clear hru hra hsa hss
    have hc7 : s.cells[7]? = some (.string (strOfNums s.ad)) := rfl
    have hc8 : s.cells[8]? = some (.string (strOfNums s.tx)) := rfl
    generalize s.cells = cs at *
    generalize zSEn.cells = zc at *
    generalize vk .i64 (useL s.q s.n) = uc at *
    have Hsc := hide hsc
    have Hc7 := hide hc7
    have Hc8 := hide hc8
    clear hsc hc7 hc8
    cases ru with
    | false =>
      have hr : r = none := by
        have hne : ¬ (s.q.l = q.l ∧ s.n = n) := of_decide_eq_false Hru.out.symm
        rw [Hok.out, if_neg (fun h => hne h.1)]
      subst hr
      go_wp2_with (first
        | (with_reducible refine wl_alloc (o := ⟨some 10, _, _, _, _, _⟩) rfl 191 _ zc rfl hz0 rfl ?_; intro g9 w2 r9 p9 l9 b9; have r5b := r5a.later b9)
        | (with_reducible refine wl_store_row rfl 191 (.tmp 10) (.tmp 18) g9 191 _ cs rfl rfl rfl r9 hzf.out hlc.out hone.out ?_; intro w3 r9b o9; have r5c := r5b.only o9 (by have := r5a.lt; omega); have h3 := had.later (b9.trans (o9.below p9)); have r9c : Row w3 191 g9 ([] ++ (uc ++ [.string (strOfNums s.ad), .string (strOfNums s.tx)])) := (by rw [Hsc.out] at r9b; exact r9b))
        | (with_reducible refine wg_load_part 2 false 22 rfl rfl rfl 72 (.tmp 23) g9 0 191 [] uc [.string (strOfNums s.ad), .string (strOfNums s.tx)] _ rfl rfl r9c rfl Tryz.underlying72 rfl hus2.out ?_)
        | (with_reducible refine wg_load_row 2 false 22 rfl rfl rfl 72 (.tmp 5) g5 72 us _ rfl rfl r5c Tryz.underlying72 rfl husz.out ?_)
        | (refine wg_run (o := ⟨some 26, _, _, _, _, _⟩) 2 false 22 rfl rfl rfl (.bool true) (run_neqS (.tmp 24) (.tmp 25) rfl hE rfl rfl (by kernel_rfl)) ?_))
      go_ret2
      exact ⟨rfl, B1.trans ((b9.trans (o9.below p9)).mono B1.size)⟩
    | true =>
      cases ra with
      | false =>
        have hr : r = none := by
          have hne : ¬ (s.ad = ad) := of_decide_eq_false Hra.out.symm
          rw [Hok.out, if_neg (fun h => hne h.2)]
        subst hr
        go_wp2_with (first
          | (with_reducible refine wl_alloc (o := ⟨some 10, _, _, _, _, _⟩) rfl 191 _ zc rfl hz0 rfl ?_; intro g9 w2 r9 p9 l9 b9; have r5b := r5a.later b9)
          | (with_reducible refine wl_store_row rfl 191 (.tmp 10) (.tmp 18) g9 191 _ cs rfl rfl rfl r9 hzf.out hlc.out hone.out ?_; intro w3 r9b o9; have r5c := r5b.only o9 (by have := r5a.lt; omega); have h3 := had.later (b9.trans (o9.below p9)); have r9c : Row w3 191 g9 ([] ++ (uc ++ [.string (strOfNums s.ad), .string (strOfNums s.tx)])) := (by rw [Hsc.out] at r9b; exact r9b); have c7 := r9b.cell Hc7.out)
          | (with_reducible refine wg_load_part 2 false 22 rfl rfl rfl 72 (.tmp 23) g9 0 191 [] uc [.string (strOfNums s.ad), .string (strOfNums s.tx)] _ rfl rfl r9c rfl Tryz.underlying72 rfl hus2.out ?_)
          | (with_reducible refine wg_load_row 2 false 22 rfl rfl rfl 72 (.tmp 5) g5 72 us _ rfl rfl r5c Tryz.underlying72 rfl husz.out ?_)
          | (refine wg_run (o := ⟨some 26, _, _, _, _, _⟩) 2 false 22 rfl rfl rfl (.bool false) (run_neqS (.tmp 24) (.tmp 25) rfl hE rfl rfl (by kernel_rfl)) ?_)
          | (with_reducible refine wg_run (o := ⟨some 32, _, _, _, _, _⟩) 8 false 28 rfl rfl rfl (.string (strOfNums ad)) (run_convS 25 9 5 (.tmp 31) rfl rfl h3 Tryz.underlying25 Tryz.underlying5 Tryz.underlying9) ?_)
          | (refine wg_run (o := ⟨some 33, _, _, _, _, _⟩) 8 false 28 rfl rfl rfl (.bool true) (run_neqStr (.tmp 30) (.tmp 32) rfl rfl rfl Tryz.underlying9 (by kernel_rfl) Hsa.out) ?_))
        go_ret2
        exact ⟨rfl, B1.trans ((b9.trans (o9.below p9)).mono B1.size)⟩
      | true =>
        have hr : r = some s.tx := by rw [Hok.out, if_pos ⟨of_decide_eq_true Hru.out.symm, of_decide_eq_true Hra.out.symm⟩]
        subst hr
        go_wp2_with (first
          | (with_reducible refine wl_alloc (o := ⟨some 10, _, _, _, _, _⟩) rfl 191 _ zc rfl hz0 rfl ?_; intro g9 w2 r9 p9 l9 b9; have r5b := r5a.later b9)
          | (with_reducible refine wl_store_row rfl 191 (.tmp 10) (.tmp 18) g9 191 _ cs rfl rfl rfl r9 hzf.out hlc.out hone.out ?_; intro w3 r9b o9; have r5c := r5b.only o9 (by have := r5a.lt; omega); have h3 := had.later (b9.trans (o9.below p9)); have r9c : Row w3 191 g9 ([] ++ (uc ++ [.string (strOfNums s.ad), .string (strOfNums s.tx)])) := (by rw [Hsc.out] at r9b; exact r9b); have c7 := r9b.cell Hc7.out; have c8 := r9b.cell Hc8.out)
          | (with_reducible refine wg_load_part 2 false 22 rfl rfl rfl 72 (.tmp 23) g9 0 191 [] uc [.string (strOfNums s.ad), .string (strOfNums s.tx)] _ rfl rfl r9c rfl Tryz.underlying72 rfl hus2.out ?_)
          | (with_reducible refine wg_load_row 2 false 22 rfl rfl rfl 72 (.tmp 5) g5 72 us _ rfl rfl r5c Tryz.underlying72 rfl husz.out ?_)
          | (refine wg_run (o := ⟨some 26, _, _, _, _, _⟩) 2 false 22 rfl rfl rfl (.bool false) (run_neqS (.tmp 24) (.tmp 25) rfl hE rfl rfl (by kernel_rfl)) ?_)
          | (with_reducible refine wg_run (o := ⟨some 32, _, _, _, _, _⟩) 8 false 28 rfl rfl rfl (.string (strOfNums ad)) (run_convS 25 9 5 (.tmp 31) rfl rfl h3 Tryz.underlying25 Tryz.underlying5 Tryz.underlying9) ?_)
          | (refine wg_run (o := ⟨some 33, _, _, _, _, _⟩) 8 false 28 rfl rfl rfl (.bool false) (run_neqStr (.tmp 30) (.tmp 32) rfl rfl rfl Tryz.underlying9 (by kernel_rfl) Hsa.out) ?_)
          | (refine wl_convB (o := ⟨some 37, _, _, _, _, _⟩) rfl 9 25 5 (.tmp 36) s.tx rfl rfl hcv Tryz.underlying9 Tryz.underlying25 Tryz.underlying5 (by unfold maxLen; omega) ?_; intro A9 c9 w4 h4 l4 y4 b4))
        go_ret2
        have B3 := B1.trans ((b9.trans (o9.below p9)).mono B1.size)
        exact ⟨_, _, rfl, h4, l4, y4, B3.trans (b4.mono B3.size)⟩
end Go.Proofs.YtooooncmjhcdbaaGreatDoor

/-
  The box: a map keyed by uses. Own work.
-/
namespace Go.Proofs.YtooooncmjhcdbaaGreatDoor
open Go.RowKit Go.Maps Go.ChangeMaps
theorem keyed_use : Keyed Tryz.prog 72 :=
  Keyed.of_law (deep_law_laid (m := 3) (show laidOutB Tryz.prog = true by kernel_rfl) (by decide) (of_decide_eq_true (by kernel_rfl)) (by kernel_rfl) (by kernel_rfl))
set_option maxRecDepth 100000 in
theorem key_use (q : Kid) (n : Int) (h : ∀ x ∈ useL q n, isI x) : ∃ kl, keyOf Tryz.prog 72 (.agg (vk .i64 (useL q n)).toArray) = some kl := by
  obtain ⟨a, b, c, d, e, f⟩ := q
  have hw : ∀ x, isI x → (Lit.int .i64 x).wf = true := fun x hx => by
    unfold isI at hx
    have h1 : IntKind.i64.min = -9223372036854775808 := by decide
    have h2 : IntKind.i64.max = 9223372036854775807 := by decide
    simp only [Lit.wf, h1, h2, Bool.and_eq_true, decide_eq_true_eq]
    exact hx
  have w1 := hw a (h a (by simp)); have w2 := hw b (h b (by simp)); have w3 := hw c (h c (by simp)); have w4 := hw d (h d (by simp)); have w5 := hw e (h e (by simp)); have w6 := hw f (h f (by simp)); have w7 := hw n (h n (by simp))
  obtain ⟨k, hk⟩ : ∃ k, Tryz.prog.types.size + 1 = k + 3 := ⟨Tryz.prog.types.size - 2, by have : 2 ≤ Tryz.prog.types.size := of_decide_eq_true (by kernel_rfl); omega⟩
  have c1 : Tryz.prog.cellsOf 72 = 7 := by kernel_rfl
  have c2 : Tryz.prog.cellsOf 24 = 6 := by kernel_rfl
  have c3 : Tryz.prog.cellsOf 3 = 1 := by kernel_rfl
  have kt : Tryz.prog.keyType 72 = true := by kernel_rfl
  unfold keyOf
  rw [Tryz.underlying72]
  dsimp only
  rw [if_pos (by simp [kt, Value.formed, Tryz.underlying72, c1, vk, useL]), hk]
  simp [Program.keyLits, Tryz.underlying72, Tryz.underlying24, Tryz.underlying3, c1, c2, c3, Value.cells, w1, w2, w3, w4, w5, w6, w7, vk]
  rw [if_pos (by decide)]
  exact ⟨_, rfl⟩
end Go.Proofs.YtooooncmjhcdbaaGreatDoor

/-
  An ideal box: its map of uses; the box whole; what a call may turn; New, Sealed, Repeats. Own work.
-/
namespace Go.Proofs.YtooooncmjhcdbaaGreatDoor
open Go.RowKit Go.Maps Go.ChangeMaps
def heldU : Value → Option (DataW Value × List MemPlace) := fun v => some (.held v, [])
abbrev DU := DataW Value
/-- Block b is a map of uses. -/
def UMap (w : World) (b : Nat) (D : DU) : Prop := w.ownsMap Tryz.prog 72 heldU b (size D) D
theorem own_exactU {w : World} {b n : Nat} {D : DU} (h : w.ownsMap Tryz.prog 72 heldU b n D) : UMap w b D := by
  obtain ⟨es, clock, hb, F, hs, rfl⟩ := h
  exact ⟨es, clock, hb, F, by simp [size, length_sorted], rfl⟩
section
variable {w w' : World} {b B : Nat} {D : DU}
theorem UMap.lt (h : UMap w b D) : b < w.heap.size := World.ownsMap.lt h
theorem UMap.same (h : UMap w b D) (e : w'.heap[b]? = w.heap[b]?) : UMap w' b D := by
  obtain ⟨es, clock, hb, F, hs, hD⟩ := h
  exact ⟨es, clock, e.trans hb, F, hs, hD⟩
theorem UMap.later (h : UMap w b D) (hb : Below w.heap.size w w') : UMap w' b D := h.same (hb.block b h.lt)
theorem UMap.only {g : Nat} (h : UMap w b D) (ho : Only g w w') (hne : b ≠ g) : UMap w' b D := h.same (ho.block b hne)
theorem UMap.butS {S : List Nat} (h : UMap w b D) (ho : ButS S w w') (hne : b ∉ S) : UMap w' b D := h.same (ho.block b h.lt hne)
theorem UMap.isMap (h : UMap w b D) : ∃ es clock, w.heap[b]? = some (.map es clock) := by
  obtain ⟨es, clock, hb, _⟩ := h
  exact ⟨es, clock, hb⟩
theorem UMap.ne_row {t g : Nat} {vs : List Value} (h : UMap w b D) (hr : Row w t g vs) : b ≠ g := by
  obtain ⟨es, clock, hb⟩ := h.isMap
  intro e
  subst e
  unfold Row at hr
  rw [hb] at hr
  cases hr
theorem UMap.made (w : World) : UMap (w.alloc (.map #[] 0)) w.heap.size (.map []) := World.ownsMap_made w _ _ _
theorem turned_onlyU {g : Nat} (h : w.mapTurned w' g) : Only g w w' := by
  obtain ⟨es, clock, es', clock', hb, rfl⟩ := h
  exact ⟨rfl, rfl, rfl, by simp [ChangeMaps.setBlock], fun k hk => Go.ChangeMaps.heap_setBlock_other hb _ hk⟩
end
section
variable {ops : Array Oper} {rest : List Oper} {o : Oper} {a : Act} {w : World} {Q : Exit → Act → World → Prop} {K : Act → World → Prop} {b : Nat} {D : DU}
theorem st_putU (m x y : Operand) (v key : Value) (kl : Lit) (ho : o.op = .mapUpdate 52 m x y) (hm : a.eval m = .map (some b)) (hx : a.eval x = key) (hkey : keyOf Tryz.prog 72 key = some kl) (hy : a.eval y = v) (h : UMap w b D) (hl : size D < maxLen)
    (hk : ∀ w', UMap w' b (D.put kl (.held v)) → size (D.put kl (.held v)) ≤ size D + 1 → Only b w w' → K (a.put o.dst undef) w') : o.wp Tryz.prog a w K Q := by
  obtain ⟨w', hrun, r1, r2⟩ := World.ownsMap.store h keyed_use Tryz.underlying52 hl hkey (val := v) (d := .held v) (ps := []) rfl
  have r3 := own_exactU r1
  have r4 := World.ownsMap.size_le r1
  unfold Oper.wp
  simp [execOp, ho, hm, hx, hy, hrun, Result.andThen]
  exact hk _ r3 r4 (turned_onlyU r2)
theorem run_lenU (m : Operand) (ho : o.op = .call { callee := .builtin .len, args := #[m], argTypes := #[52] }) (hm : a.eval m = .map (some b)) (h : UMap w b D) :
    (execOp a.eval o).run Tryz.prog w = .ok (.value (.int .i64 (size D : Nat))) w := by
  have := World.ownsMap.len h Tryz.underlying52 o.type
  unfold execOp
  simp [ho, resolve, invoke, builtin, hm, this, Result.andThen]
theorem wl_makeU (hgd : o.guard = none) (ho : o.op = .makeMap 52 none)
    (hk : ∀ b w', UMap w' b (.map []) → w.heap.size ≤ b → Below w.heap.size w w' → wpList Tryz.prog ops Q rest (a.put o.dst (.map (some b))) w') : wpList Tryz.prog ops Q (o :: rest) a w :=
  wpList_plain hgd fun K hK => by
    unfold Oper.wp
    simp [execOp, ho, run_makeMap, Result.andThen]
    exact hK _ _ (hk _ _ (UMap.made w) (Nat.le_refl _) ((Below.refl _ _).alloc (Nat.le_refl _) _))
end
/-- The types of the blocks that a call of an ideal box may turn. -/
def BoxTy (t : TypeId) : Prop := t = 54 ∨ t = 67 ∨ t = 191 ∨ t = 186
/-- What a call of an ideal box may turn. -/
def TurnB (B : Nat) (w w' : World) : Prop := ∃ S, (∀ k ∈ S, B ≤ k ∧ ∀ cs t fr, w.heap[k]? = some (.cells cs t fr) → BoxTy t) ∧ ButS S w w'
section
variable {B : Nat} {w w' w'' : World}
theorem TurnB.of (h : Below w.heap.size w w') : TurnB B w w' := ⟨[], by simp, ButS.of h _⟩
theorem TurnB.trans (h : TurnB B w w') (k : TurnB B w' w'') : TurnB B w w'' := by
  obtain ⟨S, hS, hb⟩ := h
  obtain ⟨S', hS', hb'⟩ := k
  refine ⟨S ++ S'.filter (fun k => decide (k < w.heap.size) && decide (k ∉ S)), fun k hk => ?_, ?_⟩
  · rcases List.mem_append.1 hk with hk | hk
    · exact hS k hk
    · obtain ⟨h1, h2⟩ := List.mem_filter.1 hk
      simp at h2
      refine ⟨(hS' k h1).1, fun cs t fr hc => (hS' k h1).2 cs t fr ((hb.block k h2.1 h2.2).trans hc)⟩
  · refine ⟨hb'.os.trans hb.os, hb'.tape.trans hb.tape, hb'.output.trans hb.output, Nat.le_trans hb.size hb'.size, fun k hk hn => ?_⟩
    have n1 : k ∉ S := fun h => hn (List.mem_append_left _ h)
    rw [← hb.block k hk n1]
    refine hb'.block k (Nat.lt_of_lt_of_le hk hb.size) fun h => hn (List.mem_append_right _ (List.mem_filter.2 ⟨h, ?_⟩))
    simp [hk, n1]
theorem TurnB.row {t g : Nat} {vs : List Value} (h : TurnB B w w') (hr : Row w t g vs) (ht : ¬ BoxTy t) : Row w' t g vs := by
  obtain ⟨S, hS, hb⟩ := h
  exact hr.butS hb fun hk => ht ((hS g hk).2 _ _ _ hr)
theorem TurnB.bs {A : Option Addr} {n : Nat} {xs : List Int} (h : TurnB B w w') (hx : Bs w w.heap.size A n xs) (ht : TyB w A) : Bs w' w'.heap.size A n xs ∧ TyB w' A := by
  obtain ⟨S, hS, hb⟩ := h
  have hq : ∀ p, A = some p → p.block ∉ S := fun p hp hk => by
    obtain ⟨cs, fr, hc⟩ := ht p hp
    have := (hS _ hk).2 _ _ _ hc
    unfold BoxTy at this
    simp at this
  have hq2 : ∀ p, A = some p → w'.heap[p.block]? = w.heap[p.block]? := fun p hp => by
    obtain ⟨cs, fr, hc⟩ := ht p hp
    exact hb.block _ (Array.getElem?_eq_some_iff.1 hc).1 (hq p hp)
  refine ⟨⟨hx.1, fun h0 => ?_⟩, fun p hp => ?_⟩
  · obtain ⟨b, o, e, hl, hc⟩ := hx.2 h0
    refine ⟨b, o, e, Nat.lt_of_lt_of_le hl hb.size, fun j hj => ?_⟩
    have := hc j hj
    unfold World.cell? at this ⊢
    have h2 := hq2 _ e
    dsimp only at h2 this ⊢
    rw [h2]
    exact this
  · obtain ⟨cs, fr, hc⟩ := ht p hp
    exact ⟨cs, fr, (hq2 p hp).trans hc⟩
theorem TurnB.below (h : TurnB B w w') (hB : B ≤ w.heap.size) : Below B w w' := by
  obtain ⟨S, hS, hb⟩ := h
  exact hb.below (fun k hk => (hS k hk).1) hB
theorem TurnB.size (h : TurnB B w w') : w.heap.size ≤ w'.heap.size := by
  obtain ⟨S, hS, hb⟩ := h
  exact hb.size
end
/-- Where a slice lies there are bytes, or it is older than the box. -/
def KpB (w : World) (B n : Nat) (A : Option Addr) : Prop := 0 < n → ∀ p, A = some p → p.block < B ∨ ∃ cs fr, w.heap[p.block]? = some (.cells cs 5 fr)
theorem TyB.kp {w : World} {B n : Nat} {A : Option Addr} (h : TyB w A) : KpB w B n A := fun _ p hp => .inr (h p hp)
theorem KpB.none (w : World) (B n : Nat) : KpB w B n none := fun _ p hp => by cases hp
theorem KpB.old {w w' : World} {B n : Nat} {A : Option Addr} {xs : List Int} (h : Bs w B A n xs) : KpB w' B n A := fun h0 p hp => by
  obtain ⟨b, o, e, hl, _⟩ := h.2 h0
  rw [e] at hp
  injection hp with hp
  subst hp
  exact .inl hl
theorem KpB.later {w w' : World} {B n : Nat} {A : Option Addr} (h : KpB w B n A) (hb : Below w.heap.size w w') : KpB w' B n A := fun h0 p hp => (h h0 p hp).imp id fun ⟨cs, fr, hc⟩ =>
  ⟨cs, fr, (hb.block _ (Array.getElem?_eq_some_iff.1 hc).1).trans hc⟩
theorem TurnB.bsK {B : Nat} {w w' : World} {A : Option Addr} {n : Nat} {xs : List Int} (h : TurnB B w w') (hx : Bs w w.heap.size A n xs) (ht : KpB w B n A) : Bs w' w'.heap.size A n xs ∧ KpB w' B n A := by
  obtain ⟨S, hS, hb⟩ := h
  have hq : 0 < n → ∀ p, A = some p → p.block ∉ S := fun h0 p hp hk => by
    rcases ht h0 p hp with h | ⟨cs, fr, hc⟩
    · have := (hS _ hk).1
      omega
    · have := (hS _ hk).2 _ _ _ hc
      unfold BoxTy at this
      simp at this
  refine ⟨⟨hx.1, fun h0 => ?_⟩, fun h0 p hp => ?_⟩
  · obtain ⟨b, o, e, hl, hc⟩ := hx.2 h0
    refine ⟨b, o, e, Nat.lt_of_lt_of_le hl hb.size, fun j hj => ?_⟩
    have := hc j hj
    unfold World.cell? at this ⊢
    have h2 : w'.heap[b]? = w.heap[b]? := hb.block b hl (hq h0 _ e)
    dsimp only at this ⊢
    rw [h2]
    exact this
  · refine (ht h0 p hp).imp id ?_
    rintro ⟨cs, fr, hc⟩
    exact ⟨cs, fr, (hb.block _ (Array.getElem?_eq_some_iff.1 hc).1 (hq h0 p hp)).trans hc⟩
/-- A handle's kind, when it is ideal. -/
abbrev kdI (gl : Nat) : Value := .iface 59 (.pointer (some ⟨gl, 0, none⟩))
/-- An ideal box whole. -/
structure BxI (w : World) (B g gl b : Nat) (D : DU) (ts : List SEn) (ms : List MEn) : Prop where
  row : BxRow w g (kdI gl) (ts.length : Nat) (.map (some b))
  led : LedAt w B gl ts ms
  map : UMap w b D
  lo : B ≤ g ∧ B ≤ b
  sz : size D ≤ ts.length
theorem BxI.later {w w' : World} {B g gl b : Nat} {D : DU} {ts : List SEn} {ms : List MEn} (h : BxI w B g gl b D ts ms) (hb : Below w.heap.size w w') : BxI w' B g gl b D ts ms :=
  ⟨Row.later h.row hb, h.led.later hb, h.map.later hb, h.lo, h.sz⟩
theorem LedAt.nil {w : World} {B gl : Nat} (h : Row w 67 gl [.slice none 0 0, .slice none 0 0]) (hB : B ≤ gl) (hw : B ≤ w.heap.size) : LedAt w B gl [] [] :=
  ⟨⟨_, _, h, ⟨by simp, .inl ⟨rfl, rfl⟩⟩, ⟨by simp, .inl ⟨rfl, rfl⟩⟩⟩, hB, hw⟩
theorem szBox3 (v1 v2 v3 : Value) : (Tryz.prog.info? 54).map (·.size) = some [v1, v2, v3].length := by kernel_rfl
theorem szKd : (Tryz.prog.info? 51).map (·.size) = some 1 := by kernel_rfl
set_option maxRecDepth 100000 in
theorem new_ideal (w : World) (A : Option Addr) (n c B : Nat) (hB : B ≤ w.heap.size) : Calls Tryz.prog 9 #[.slice A n c, .bool true] w fun e w' =>
    ∃ g gl b, e = .returned (.pointer (some ⟨g, 0, none⟩)) ∧ BxI w' B g gl b (.map []) [] [] ∧ Below w.heap.size w w' := by
  have hb1 : ∀ b, Tryz.prog.built 54 [(2, .map (some b))] = some #[.nilIface, .int .i64 0, .map (some b)] := fun b => by kernel_rfl
  have hb2 : Tryz.prog.built 67 [] = some #[.slice none 0 0, .slice none 0 0] := by kernel_rfl
  go_enter Tryz.func9, Tryz.ntmps9
  go_wp2_with (first
    | (with_reducible refine wl_makeU rfl rfl ?_; intro b w1 hU pb b1)
    | (with_reducible refine wl_build rfl 54 [(2, .tmp 6)] rfl [(2, .map (some b))] rfl [.nilIface, .int .i64 0, .map (some b)] (hb1 b) ?_)
    | (with_reducible refine wl_box (o := ⟨some 8, _, _, _, _, _⟩) rfl 54 _ _ [.nilIface, .int .i64 0, .map (some b)] rfl rfl rfl ?_; intro g w2 r2 p2 l2 b2)
    | (with_reducible refine wl_build rfl 67 [] rfl [] rfl [.slice none 0 0, .slice none 0 0] hb2 ?_)
    | (with_reducible refine wl_box (o := ⟨some 12, _, _, _, _, _⟩) rfl 67 _ _ [.slice none 0 0, .slice none 0 0] rfl rfl rfl ?_; intro gl w3 r3 p3 l3 b3; have r2b := r2.later b3)
    | (with_reducible refine wl_store rfl 51 (.tmp 15) (.tmp 13) g 0 54 _ (kdI gl) rfl szKd rfl rfl r2b (by simp) rfl ?_; intro w4 r4 o4))
  go_ret
  have B2 := b1.trans (b2.mono b1.size)
  have B3 := B2.trans (b3.mono B2.size)
  have s1 := b1.size
  have s2 := b2.size
  have s3 := b3.size
  refine ⟨g, gl, b, rfl, ⟨r4, LedAt.nil (r3.only o4 (by have := r2.lt; omega)) (by omega) (by have := o4.size; omega), ((hU.later b2).later b3).only o4 (by have := hU.lt; omega), ⟨by omega, by omega⟩, Nat.le_refl _⟩, B3.trans (o4.below (by omega))⟩
set_option maxRecDepth 100000 in
theorem sealedI {w : World} {B g gl b : Nat} {D : DU} {ts : List SEn} {ms : List MEn} (h : BxI w B g gl b D ts ms) : Calls Tryz.prog 21 #[.pointer (some ⟨g, 0, none⟩)] w fun e w' => e = .returned (.int .i64 (ts.length : Nat)) ∧ Below w.heap.size w w' := by
  have c1 := Row.cell h.row (j := 1) rfl
  have HM := made_yes w g _ _ _ _ h.row
  clear h
  go_enter Tryz.func21, Tryz.ntmps21
  go_wp2_with fail
  refine HM.mono ?_
  rintro e w2 ⟨rfl, rfl⟩
  go_wp2_with fail
  go_ret
  exact ⟨rfl, Below.refl _ _⟩
theorem run_subI {P : Program} {w : World} {a : Act} {o : Oper} {t u : Nat} {m n : Int} (x y : Operand) (ho : o.op = .binOp .sub t x y u) (hx : a.eval x = .int .i64 m) (hy : a.eval y = .int .i64 n) (h1 : -9223372036854775808 ≤ m - n) (h2 : m - n ≤ 9223372036854775807) : (execOp a.eval o).run P w = .ok (.value (.int .i64 (m - n))) w := by
  unfold execOp
  simp only [ho, hx, hy]
  go_simp
  rw [IntKind.wrap_i64]
  omega
def SRep (g b z y : Nat) (opn : Nat) (v : Value) : Prop :=
  match opn with
  | 0 | 1 | 4 | 5 => v = .pointer (some ⟨g, 0, none⟩)
  | 2 => v = .pointer (some ⟨g, 1, none⟩)
  | 3 => v = .int .i64 (z : Int)
  | 6 => v = .pointer (some ⟨g, 2, none⟩)
  | 7 => v = .map (some b)
  | 8 => v = .int .i64 (y : Int)
  | 9 | 10 => v = .int .i64 ((z : Int) - (y : Int))
  | _ => True

set_option maxRecDepth 100000 in
theorem repeatsI {w : World} {B g gl b : Nat} {D : DU} {ts : List SEn} {ms : List MEn} (h : BxI w B g gl b D ts ms) (hn : ts.length ≤ 10000) : Calls Tryz.prog 22 #[.pointer (some ⟨g, 0, none⟩)] w fun e w' => e = .returned (.int .i64 ((ts.length : Int) - (size D : Int))) ∧ Below w.heap.size w w' := by
  have HM := made_yes w g _ _ _ _ h.row
  have hU0 := h.map
  have hr0 : Row w 54 g [kdI gl, .int .i64 (ts.length : Nat), .map (some b)] := h.row
  have hsz := h.sz
  obtain ⟨z, hz⟩ : ∃ z, z = ts.length := ⟨_, rfl⟩
  obtain ⟨y, hy⟩ : ∃ y, y = size D := ⟨_, rfl⟩
  rw [← hz] at hn hsz hr0 ⊢
  rw [← hy] at hsz ⊢
  have Hy := hide hy
  have hz1 : -9223372036854775808 ≤ (z : Int) - (y : Int) := by omega
  have hz2 : (z : Int) - (y : Int) ≤ 9223372036854775807 := by omega
  clear h hz hy hn hsz
  go_enter Tryz.func22, Tryz.ntmps22
  go_wp2_with fail
  refine HM.mono ?_
  rintro e w0 ⟨rfl, rfl⟩
  have hr := hr0
  have hU := hU0
  go_wp2_with fail
  refine wp_region_vals [] (SRep g b z y) (fun _ _ w1 => Below w.heap.size w w1) (by kernel_rfl) (by kernel_rfl) (by kernel_rfl) (by kernel_rfl) (by kernel_rfl) ((Below.refl _ _).drew) ?obs ?he
  case obs =>
    refine ⟨?_, ?_, ?_, ?_, ?_, ?_, ?_, ?_, ?_, ?_, ?_, trivial⟩
    · exact .inl ⟨by kernel_rfl, fun L a1 w1 n h => ⟨_, rfl, run_move (.tmp 0) rfl (h.var n 0 (by kernel_rfl))⟩⟩
    · refine .inl ⟨by kernel_rfl, fun L a1 w1 n h => ⟨.pointer (some ⟨g, 0, none⟩), rfl, ?_⟩⟩
      have e0 : a1.eval (.tmp 6) = _ := h.dep n 0 6 (by kernel_rfl) rfl
      unfold execOp
      simp only [e0]
      go_simp
    · refine .inl ⟨by kernel_rfl, fun L a1 w1 n h => ⟨.pointer (some ⟨g, 1, none⟩), rfl, ?_⟩⟩
      have e0 : a1.eval (.tmp 7) = _ := h.dep n 1 7 (by kernel_rfl) rfl
      unfold execOp
      simp only [e0]
      go_simp
    · exact .inl ⟨by kernel_rfl, fun L a1 w1 n h => ⟨_, rfl, run_loadA 3 (.tmp 8) ⟨g, 1, none⟩ rfl Tryz.isAgg3 (h.dep n 2 8 (by kernel_rfl) rfl) ((Row.later hr h.inv).cell (j := 1) rfl)⟩⟩
    · exact .inl ⟨by kernel_rfl, fun L a1 w1 n h => ⟨_, rfl, run_move (.tmp 0) rfl (h.var n 0 (by kernel_rfl))⟩⟩
    · refine .inl ⟨by kernel_rfl, fun L a1 w1 n h => ⟨.pointer (some ⟨g, 0, none⟩), rfl, ?_⟩⟩
      have e0 : a1.eval (.tmp 10) = _ := h.dep n 4 10 (by kernel_rfl) rfl
      unfold execOp
      simp only [e0]
      go_simp
    · refine .inl ⟨by kernel_rfl, fun L a1 w1 n h => ⟨.pointer (some ⟨g, 2, none⟩), rfl, ?_⟩⟩
      have e0 : a1.eval (.tmp 11) = _ := h.dep n 5 11 (by kernel_rfl) rfl
      unfold execOp
      simp only [e0]
      go_simp
    · exact .inl ⟨by kernel_rfl, fun L a1 w1 n h => ⟨_, rfl, run_loadA 52 (.tmp 12) ⟨g, 2, none⟩ rfl Tryz.isAgg52 (h.dep n 6 12 (by kernel_rfl) rfl) ((Row.later hr h.inv).cell (j := 2) rfl)⟩⟩
    · exact .inl ⟨by kernel_rfl, fun L a1 w1 n h => ⟨_, rfl, by rw [Hy.out]; exact run_lenU (.tmp 13) rfl (h.dep n 7 13 (by kernel_rfl) rfl) (hU.later h.inv)⟩⟩
    · exact .inl ⟨by kernel_rfl, fun L a1 w1 n h => ⟨_, rfl, run_subI (.tmp 9) (.tmp 14) rfl (h.dep n 3 9 (by kernel_rfl) rfl) (h.dep n 8 14 (by kernel_rfl) rfl) hz1 hz2⟩⟩
    · exact .inl ⟨by kernel_rfl, fun L a1 w1 n h => ⟨_, rfl, run_assign (.tmp 15) rfl (h.dep n 9 15 (by kernel_rfl) rfl)⟩⟩
  case he =>
    intro V w9 hV hJ
    have hB : Below w.heap.size w w9 := hJ
    have hE : V 10 = .int .i64 ((z : Int) - (y : Int)) := hV 10 _ rfl
    clear hV hJ
    simp only [putOps, List.setIfInBounds_toArray, List.set_cons_succ, List.set_cons_zero, Nat.reduceAdd]
    rw [hE]
    go_wp2_with fail
    go_ret
    exact ⟨rfl, hB⟩
end Go.Proofs.YtooooncmjhcdbaaGreatDoor

/-
  An ideal box seals: contract. Own work.
-/
namespace Go.Proofs.YtooooncmjhcdbaaGreatDoor
open Go.RowKit Go.Maps Go.ChangeMaps
/-- What a region with one store keeps. -/
def JOne (w0 : World) (N : World → Prop) (bs : List Bool) (vs : List Value) (w : World) : Prop :=
  (bs.getD 0 false = false → Below w0.heap.size w0 w) ∧ (bs.getD 0 false = true → N w)
theorem JOne.start (w0 : World) (N : World → Prop) (vs : List Value) : JOne w0 N [false] vs w0.drew :=
  ⟨fun _ => (Below.refl _ _).drew, fun h => absurd (show false = true from h) (by decide)⟩
theorem AddRes.ne {w w' : World} {B gl : Nat} {E : TypeId} {bs : List Int} {ts ts0 : List SEn} {ms ms0 : List MEn} {v : Value} (h : AddRes w B gl E bs ts ms v w') (hL : LedAt w B gl ts0 ms0) {k : Nat} (hk : ∀ cs t fr, w.heap[k]? = some (.cells cs t fr) → t ≠ 67 ∧ t ≠ E) (hl : k < w.heap.size) : w'.heap[k]? = w.heap[k]? := by
  obtain ⟨_, _, S, hS, hb⟩ := h
  refine hb.block k hl fun hkS => ?_
  rcases (hS k hkS).2 with rfl | ⟨cs, fr, hc⟩
  · obtain ⟨⟨v1, v2, hr, _⟩, _⟩ := hL
    exact (hk _ _ _ hr).1 rfl
  · exact (hk _ _ _ hc).2 rfl
theorem AddRes.turn {w w' : World} {B gl : Nat} {E : TypeId} {bs : List Int} {ts ts0 : List SEn} {ms ms0 : List MEn} {v : Value} (h : AddRes w B gl E bs ts ms v w') (hL : LedAt w B gl ts0 ms0) (hE : BoxTy E) : TurnB B w w' := by
  obtain ⟨_, _, S, hS, hb⟩ := h
  refine ⟨S, fun k hk => ⟨(hS k hk).1, fun cs t fr hc => ?_⟩, hb⟩
  rcases (hS k hk).2 with rfl | ⟨cs', fr', hc'⟩
  · obtain ⟨⟨v1, v2, hr, _⟩, _⟩ := hL
    have := hr.symm.trans hc
    simp at this
    rw [← this.2.1]
    exact .inr (.inl rfl)
  · have := hc'.symm.trans hc
    simp at this
    rw [← this.2.1]
    exact hE
theorem okU_isI {q : Kid} {n : Int} (h : okU q n = true) : ∀ x ∈ useL q n, isI x := by
  unfold okU Kid.ok okB at h
  simp only [Bool.and_eq_true, decide_eq_true_eq] at h
  intro x hx
  simp at hx
  unfold isI
  omega
theorem bUse (q : Kid) (n : Int) : Tryz.prog.built 72 [(0, .agg (vk .i64 q.l).toArray), (1, .int .i64 n)] = some (vk .i64 (useL q n)).toArray := by kernel_rfl
theorem zUse : (Tryz.prog.info? 72).map (fun i => i.zero) = some (some (.agg (vk .i64 [0, 0, 0, 0, 0, 0, 0]).toArray)) := by kernel_rfl
theorem szInt1 : (Tryz.prog.info? 3).map (·.size) = some 1 := by kernel_rfl
/-- What Seal tells, and leaves. -/
def SealRes (w : World) (B g gl b : Nat) (D : DU) (ts : List SEn) (ms : List MEn) (q : Kid) (nn : Int) (ad tx : List Int) (e : Ending) (w' : World) : Prop :=
  if okU q nn = true then ∃ A9 c9 kl, e = .returned (.tuple #[.slice A9 (tx.length + 16) c9, .int .i64 0]) ∧ Bs w' w'.heap.size A9 (tx.length + 16) (tokL ts.length (tx.length + 16)) ∧ tx.length + 16 ≤ c9 ∧ TyB w' A9 ∧
    BxI w' B g gl b (D.put kl (.held (.agg ([] : List Value).toArray))) (ts ++ [⟨q, nn, ad, tx⟩]) ms ∧ TurnB B w w'
  else e = .returned (.tuple #[.slice none 0 0, .int .i64 1]) ∧ Below w.heap.size w w'
def SSl8 (g g12 b : Nat) (us : List Value) (opn : Nat) (v : Value) : Prop :=
  match opn with
  | 0 | 1 => v = .pointer (some ⟨g, 0, none⟩)
  | 2 => v = .pointer (some ⟨g, 2, none⟩)
  | 3 => v = .map (some b)
  | 4 => v = .agg us.toArray
  | 5 => v = .agg ([] : List Value).toArray
  | _ => True

def SSl9 (g g12 gl : Nat) (us : List Value) (A E : Option Addr) (m c l d : Nat) (opn : Nat) (v : Value) : Prop :=
  match opn with
  | 0 | 1 | 2 => v = .pointer (some ⟨g, 0, none⟩)
  | 3 => v = kdI gl
  | 4 => v = .agg us.toArray
  | 5 => v = .slice A m c
  | 6 => v = .slice E l d
  | 9 => v = .int .i64 0
  | _ => True

theorem mSeal (gl : Nat) : ∀ w, (method (Tryz.prog.types.size + Made.depth) 59 (.pointer (some ⟨gl, 0, none⟩)) "intaglio/box.seal").run Tryz.prog w = .ok (121, .pointer (some ⟨gl, 0, none⟩)) w := fun _ => by kernel_rfl
set_option maxRecDepth 100000 in
set_option maxHeartbeats 2000000 in
theorem sealI (w : World) (B g gl b : Nat) (D : DU) (ts : List SEn) (ms : List MEn) (q : Kid) (nn : Int) (A E : Option Addr) (m c l d : Nat) (ad tx : List Int) (h : BxI w B g gl b D ts ms) (hT : TabK w) (hni : isI nn) (hn : ts.length ≤ 10000) (hm : m ≤ 65536) (hl : l ≤ 65536)
    (had : Bs w w.heap.size A m ad) (htx : Bs w w.heap.size E l tx) (kA : KpB w B m A) (kE : KpB w B l E) :
    Calls Tryz.prog 10 #[.pointer (some ⟨g, 0, none⟩), .agg (vk .i64 q.l).toArray, .int .i64 nn, .slice A m c, .slice E l d] w (SealRes w B g gl b D ts ms q nn ad tx) := by
  have hbu := hide (bUse q nn)
  have hidz := hide (szKid q)
  have husz := hide (szUse q nn)
  have hzl := hide (show (vk .i64 [0, 0, 0, 0, 0, 0, 0]).length = (vk .i64 (useL q nn)).length from rfl)
  have hone := hide (one_vk .i64 (useL q nn))
  have hz0 := zUse
  have hbE : Tryz.prog.built 74 [] = some ([] : List Value).toArray := by kernel_rfl
  have HRef := fun w1 (hb : Below w.heap.size w w1) => refuse_yes w1 g _ _ _ _ q nn (Row.later h.row hb) (hT.later hb) hni
  have hkey := fun (hk : okU q nn = true) => key_use q nn (okU_isI hk)
  have hlt : tx.length = l := htx.1
  have hll := fun w1 (h1 : LedAt w1 B gl ts ms) (had : Bs w1 w1.heap.size A m ad) (htx : Bs w1 w1.heap.size E l tx) => lseal_any w1 B gl ts ms q nn A E m c l d ad tx h1 hn (by omega) had htx
  unfold SealRes
  obtain ⟨us, hus⟩ : ∃ us, us = vk .i64 (useL q nn) := ⟨_, rfl⟩
  obtain ⟨ids, hids⟩ : ∃ ids, ids = vk .i64 q.l := ⟨_, rfl⟩
  rw [← hus] at hbu husz hzl hone HRef hkey hll
  rw [← hids] at hbu hidz ⊢
  clear hus hids
  generalize vk .i64 [0, 0, 0, 0, 0, 0, 0] = zu at *
  have hmI : (m : Int) ≤ 65536 := by omega
  have hlI : (l : Int) ≤ 65536 := by omega
  by_cases hk : okU q nn = true
  case neg =>
    simp only [if_neg hk]
    have hre : refB q nn = 1 := by unfold refB; rw [if_neg hk]
    rw [hre] at HRef
    clear hre hk hkey hll
    go_enter Tryz.func10, Tryz.ntmps10
    go_wp2_with (first
      | (with_reducible refine wl_box rfl 24 _ (.agg ids.toArray) ids rfl rfl rfl ?_; intro g6 w1 r6 p6 l6 b6)
      | (with_reducible refine wl_load_row (o := ⟨some 14, _, _, _, _, _⟩) rfl 24 (.tmp 6) g6 24 ids _ rfl rfl r6 Tryz.underlying24 rfl hidz.out ?_)
      | (with_reducible refine wl_build rfl 72 [(0, .tmp 14), (1, .tmp 15)] rfl [(0, .agg ids.toArray), (1, .int .i64 nn)] rfl us hbu.out ?_)
      | (with_reducible refine wl_alloc (o := ⟨some 12, _, _, _, _, _⟩) rfl 72 _ zu rfl hz0 rfl ?_; intro g12 w2 r12 p12 l12 b12)
      | (with_reducible refine wl_store_row rfl 72 (.tmp 12) (.tmp 16) g12 72 _ us rfl rfl rfl r12 husz.out hzl.out hone.out ?_; intro w3 r12b o12)
      | (with_reducible refine wl_load_row (o := ⟨some 18, _, _, _, _, _⟩) rfl 72 (.tmp 12) g12 72 us _ rfl rfl r12b Tryz.underlying72 rfl husz.out ?_))
    have B2 := b6.trans (b12.mono b6.size)
    have B3 := B2.trans (o12.below (by have := b6.size; omega))
    refine (HRef w3 B3).mono ?_
    rintro e w4 ⟨rfl, b4⟩
    go_wp2_with fail
    go_ret2
    exact ⟨rfl, B3.trans (b4.mono B3.size)⟩
  case pos =>
    simp only [if_pos hk]
    have hre : refB q nn = 0 := by unfold refB; rw [if_pos hk]
    rw [hre] at HRef
    obtain ⟨kl, hkl⟩ := hkey hk
    clear hre hk hkey
    have hrow := hide h.row
    have hled := h.led
    have hmap := h.map
    have hlo := hide h.lo
    have hsz := hide h.sz
    have hsm : size D < maxLen := by have := h.sz; simp only [maxLen]; omega
    have hBw : B ≤ w.heap.size := h.led.lo.2
    have hzI : (ts.length : Int) ≤ 10000 := by omega
    clear h
    go_enter Tryz.func10, Tryz.ntmps10
    go_wp2_with (first
      | (with_reducible refine wl_box rfl 24 _ (.agg ids.toArray) ids rfl rfl rfl ?_; intro g6 w1 r6 p6 l6 b6)
      | (with_reducible refine wl_load_row (o := ⟨some 14, _, _, _, _, _⟩) rfl 24 (.tmp 6) g6 24 ids _ rfl rfl r6 Tryz.underlying24 rfl hidz.out ?_)
      | (with_reducible refine wl_build rfl 72 [(0, .tmp 14), (1, .tmp 15)] rfl [(0, .agg ids.toArray), (1, .int .i64 nn)] rfl us hbu.out ?_)
      | (with_reducible refine wl_alloc (o := ⟨some 12, _, _, _, _, _⟩) rfl 72 _ zu rfl hz0 rfl ?_; intro g12 w2 r12 p12 l12 b12)
      | (with_reducible refine wl_store_row rfl 72 (.tmp 12) (.tmp 16) g12 72 _ us rfl rfl rfl r12 husz.out hzl.out hone.out ?_; intro w3 r12b o12)
      | (with_reducible refine wl_load_row (o := ⟨some 18, _, _, _, _, _⟩) rfl 72 (.tmp 12) g12 72 us _ rfl rfl r12b Tryz.underlying72 rfl husz.out ?_))
    have B2 := b6.trans (b12.mono b6.size)
    have B3 := B2.trans (o12.below (by have := b6.size; omega))
    refine (HRef w3 B3).mono ?_
    rintro e w4 ⟨rfl, b4⟩
    have B4 := B3.trans (b4.mono B3.size)
    have r12c := r12b.later b4
    have row4 : Row w4 54 g [kdI gl, .int .i64 (ts.length : Nat), .map (some b)] := Row.later hrow.out B4
    have c1 := row4.cell (j := 1) rfl
    have hg12 : g ≠ g12 := by have := hrow.out.lt; have := b6.size; omega
    go_wp2_with (first
      | (with_reducible refine wl_store rfl 3 (.tmp 37) (.tmp 35) g 1 54 _ (.int .i64 ((ts.length : Int) + 1)) rfl szInt1 rfl rfl row4 (by simp) rfl ?_; intro w5 row5 o5))
    have hr : Row w5 54 g [kdI gl, .int .i64 ((ts.length : Int) + 1), .map (some b)] := row5
    have r12 := r12c.only o5 (Ne.symm hg12)
    have hU : UMap w5 b D := (hmap.later B4).only o5 ((hmap.later B4).ne_row row4)
    have hL5 : LedAt w5 B gl ts ms := by
      obtain ⟨⟨v1, v2, q1, q2, q3⟩, q4, q5⟩ := hled.later B4
      refine ⟨⟨v1, v2, q1.only o5 (fun e => ?_), own_at q2 fun k hk => o5.block k (own_ne_row q2 row4 (by decide) k hk), own_at q3 fun k hk => o5.block k (own_ne_row q3 row4 (by decide) k hk)⟩, q4, by rw [o5.size]; exact q5⟩
      rw [e] at q1
      have := q1.symm.trans row4
      simp at this
    have T5 : TurnB B w w5 := (TurnB.of B4).trans ⟨[g], fun k hk => by
      obtain rfl : k = g := by simpa using hk
      refine ⟨hlo.out.1, fun cs t fr hc => ?_⟩
      have := row4.symm.trans hc
      simp at this
      rw [← this.2.1]
      exact .inl rfl, ButS.only o5 (by simp)⟩
    have had5 := (T5.bsK had kA).1
    have htx5 := (T5.bsK htx kE).1
    have kA5 := (T5.bsK had kA).2
    have kE5 := (T5.bsK htx kE).2
    clear had htx kA kE
    rename_i K1 hK1
    refine wp_region_vals [6] (SSl8 g g12 b us) (JOne w5 (fun wq => UMap wq b (D.put kl (.held (.agg ([] : List Value).toArray))) ∧ size (D.put kl (.held (.agg ([] : List Value).toArray))) ≤ size D + 1 ∧ ∃ w1, Below w5.heap.size w5 w1 ∧ Only b w1 wq)) (by kernel_rfl) (by kernel_rfl) (by kernel_rfl) (by kernel_rfl) (by kernel_rfl) (JOne.start _ _ _) ?obs1 ?he1
    case obs1 =>
      refine ⟨?_, ?_, ?_, ?_, ?_, ?_, ?_, trivial⟩
      · exact .inl ⟨by kernel_rfl, fun L a1 w1 n h => ⟨_, rfl, run_move (.tmp 0) rfl (h.var n 0 (by kernel_rfl))⟩⟩
      · refine .inl ⟨by kernel_rfl, fun L a1 w1 n h => ⟨.pointer (some ⟨g, 0, none⟩), rfl, ?_⟩⟩
        have e0 : a1.eval (.tmp 38) = _ := h.dep n 0 38 (by kernel_rfl) rfl
        unfold execOp
        simp only [e0]
        go_simp
      · refine .inl ⟨by kernel_rfl, fun L a1 w1 n h => ⟨.pointer (some ⟨g, 2, none⟩), rfl, ?_⟩⟩
        have e0 : a1.eval (.tmp 39) = _ := h.dep n 1 39 (by kernel_rfl) rfl
        unfold execOp
        simp only [e0]
        go_simp
      · exact .inl ⟨by kernel_rfl, fun L a1 w1 n h => ⟨_, rfl, run_loadA 52 (.tmp 40) ⟨g, 2, none⟩ rfl Tryz.isAgg52 (h.dep n 2 40 (by kernel_rfl) rfl) ((Row.later hr (h.inv.1 ((bits_at rfl).trans (n.later (by kernel_rfl) : L.getD 6 false = false)))).cell (j := 2) rfl)⟩⟩
      · exact .inl ⟨by kernel_rfl, fun L a1 w1 n h => ⟨_, rfl, run_loadRow 72 (.tmp 12) g12 72 _ _ rfl (h.var n 12 (by kernel_rfl)) (Row.later r12 (h.inv.1 ((bits_at rfl).trans (n.later (by kernel_rfl) : L.getD 6 false = false)))) Tryz.underlying72 rfl husz.out⟩⟩
      · exact .inl ⟨by kernel_rfl, fun L a1 w1 n h => ⟨_, rfl, run_buildX 74 [] rfl [] rfl [] hbE⟩⟩
      · refine .inr fun L a1 w1 n h K hK => ?_
        have no6 : L.getD 6 false = false := n.not_yet
        have b1 := h.inv.1 ((bits_at rfl).trans no6)
        have y0 : a1.eval (.tmp 41) = .map (some b) := h.dep n 3 41 (by kernel_rfl) rfl
        have y1 : a1.eval (.tmp 42) = .agg us.toArray := h.dep n 4 42 (by kernel_rfl) rfl
        have y2 : a1.eval (.tmp 43) = .agg ([] : List Value).toArray := h.dep n 5 43 (by kernel_rfl) rfl
        refine st_putU (.tmp 41) (.tmp 42) (.tmp 43) (.agg ([] : List Value).toArray) (.agg us.toArray) kl rfl y0 y1 hkl y2 (hU.later b1) hsm ?_
        intro wq hq hsq oq
        exact hK undef wq trivial ⟨fun h0 => absurd (show true = false from h0) (by decide), fun _ => ⟨hq, hsq, w1, b1, oq⟩⟩
    case he1 =>
      intro V w6 hV hJ
      obtain ⟨hU6, hs6, w6a, b6a, o6⟩ := hJ.2 rfl
      clear hV hJ
      have row6 : Row w6 54 g [kdI gl, .int .i64 ((ts.length : Int) + 1), .map (some b)] := (hr.later b6a).only o6 (Ne.symm ((hU.later b6a).ne_row (hr.later b6a)))
      have r12 := (r12.later b6a).only o6 (Ne.symm ((hU.later b6a).ne_row (r12.later b6a)))
      have T6 : TurnB B w6a w6 := by
        refine ⟨[b], fun k hk => ?_, ButS.only o6 (by simp)⟩
        obtain rfl : k = b := by simpa using hk
        refine ⟨hlo.out.2, fun cs t fr hc => ?_⟩
        obtain ⟨es, clock, he⟩ := (hU.later b6a).isMap
        rw [he] at hc
        cases hc
      have hL6 : LedAt w6 B gl ts ms := by
        obtain ⟨⟨v1, v2, q1, q2, q3⟩, q4, q5⟩ := hL5.later b6a
        have hnb : ∀ t e n xs v, w6a.ownsRow B t e v n xs → ∀ k, v.ownBlock = some k → k ≠ b := fun t e n xs v hO k hk hkb => by
          obtain ⟨es, clock, he⟩ := (hU.later b6a).isMap
          rcases hO.2 with ⟨rfl, _⟩ | ⟨gg, cap, cur, rfl, _, hc, _⟩
          · cases hk
          · injection hk with hk
            subst hk
            have hgb : gg = b := hkb
            rw [hgb, he] at hc
            cases hc
        exact ⟨⟨v1, v2, q1.only o6 (Ne.symm ((hU.later b6a).ne_row q1)), own_at q2 fun k hk => o6.block k (hnb _ _ _ _ _ q2 k hk), own_at q3 fun k hk => o6.block k (hnb _ _ _ _ _ q3 k hk)⟩, q4, by rw [o6.size]; exact q5⟩
      have had6 := (T6.bsK (had5.later b6a) (kA5.later b6a)).1
      have htx6 := (T6.bsK (htx5.later b6a) (kE5.later b6a)).1
      have TT := (T5.trans (TurnB.of b6a)).trans T6
      have hHs := hide hs6
      have HU6 := hide hU6
      clear had5 htx5 kA5 kE5 hL5 hU hr hs6 hU6 T5 T6 o6 b6a hmap hled
      have hr9 := row6
      have HSeal : ∀ w1, Below w6.heap.size w6 w1 → Calls Tryz.prog 121 #[.pointer (some ⟨gl, 0, none⟩), .agg us.toArray, .slice A m c, .slice E l d] w1 fun e w' =>
          ∃ v, e = .returned v ∧ ∃ w1', Below w6.heap.size w6 w1' ∧ AddRes w1' B gl 191 (tokL ts.length (tx.length + 16)) (ts ++ [⟨q, nn, ad, tx⟩]) ms v w' := by
        intro w1 b1
        refine (hll w1 (hL6.later b1) (had6.later b1) (htx6.later b1)).mono ?_
        rintro e w' ⟨v, rfl, hN⟩
        exact ⟨v, rfl, w1, b1, hN⟩
      have hmt := mSeal gl
      simp only [putOps, List.setIfInBounds_toArray, List.set_cons_succ, List.set_cons_zero, Nat.reduceAdd]
      refine hK1 _ _ ?_
      go_wp2_with fail
      rename_i K2 hK2
      refine wp_region_vals [7, 8] (SSl9 g g12 gl us A E m c l d) (JCl w6 (fun v w' => ∃ w1', Below w6.heap.size w6 w1' ∧ AddRes w1' B gl 191 (tokL ts.length (tx.length + 16)) (ts ++ [⟨q, nn, ad, tx⟩]) ms v w')) (by kernel_rfl) (by kernel_rfl) (by kernel_rfl) (by kernel_rfl) (by kernel_rfl) (JCl.start _ _ _) ?obs2 ?he2
      case obs2 =>
        refine ⟨?_, ?_, ?_, ?_, ?_, ?_, ?_, ?_, ?_, ?_, trivial⟩
        · exact .inl ⟨by kernel_rfl, fun L a1 w1 n h => ⟨_, rfl, run_move (.tmp 0) rfl (h.var n 0 (by kernel_rfl))⟩⟩
        · refine .inl ⟨by kernel_rfl, fun L a1 w1 n h => ⟨.pointer (some ⟨g, 0, none⟩), rfl, ?_⟩⟩
          have e0 : a1.eval (.tmp 44) = _ := h.dep n 0 44 (by kernel_rfl) rfl
          unfold execOp
          simp only [e0]
          go_simp
        · refine .inl ⟨by kernel_rfl, fun L a1 w1 n h => ⟨.pointer (some ⟨g, 0, none⟩), rfl, ?_⟩⟩
          have e0 : a1.eval (.tmp 45) = _ := h.dep n 1 45 (by kernel_rfl) rfl
          unfold execOp
          simp only [e0]
          go_simp
        · exact .inl ⟨by kernel_rfl, fun L a1 w1 n h => ⟨_, rfl, run_loadA 51 (.tmp 46) ⟨g, 0, none⟩ rfl Tryz.isAgg51 (h.dep n 2 46 (by kernel_rfl) rfl) ((Row.later hr9 (h.inv.1 ((bits_at rfl).trans (n.later (by kernel_rfl) : L.getD 7 false = false)))).cell (j := 0) rfl)⟩⟩
        · exact .inl ⟨by kernel_rfl, fun L a1 w1 n h => ⟨_, rfl, run_loadRow 72 (.tmp 12) g12 72 _ _ rfl (h.var n 12 (by kernel_rfl)) (Row.later r12 (h.inv.1 ((bits_at rfl).trans (n.later (by kernel_rfl) : L.getD 7 false = false)))) Tryz.underlying72 rfl husz.out⟩⟩
        · exact .inl ⟨by kernel_rfl, fun L a1 w1 n h => ⟨_, rfl, run_move (.tmp 3) rfl (h.var n 3 (by kernel_rfl))⟩⟩
        · exact .inl ⟨by kernel_rfl, fun L a1 w1 n h => ⟨_, rfl, run_move (.tmp 4) rfl (h.var n 4 (by kernel_rfl))⟩⟩
        · refine .inr fun L a1 w1 n h K hK => ?_
          have no7 : L.getD 7 false = false := n.not_yet
          have no8 : L.getD 8 false = false := n.later (by kernel_rfl)
          have b1 := h.inv.1 ((bits_at rfl).trans no7)
          have y0 : a1.eval (.tmp 47) = kdI gl := h.dep n 3 47 (by kernel_rfl) rfl
          have y1 : a1.eval (.tmp 48) = .agg us.toArray := h.dep n 4 48 (by kernel_rfl) rfl
          have y2 : a1.eval (.tmp 49) = .slice A m c := h.dep n 5 49 (by kernel_rfl) rfl
          have y3 : a1.eval (.tmp 50) = .slice E l d := h.dep n 6 50 (by kernel_rfl) rfl
          refine st_invoke 59 (.pointer (some ⟨gl, 0, none⟩)) (.pointer (some ⟨gl, 0, none⟩)) 121 (.tmp 47) _ #[.tmp 48, .tmp 49, .tmp 50] _ [.agg us.toArray, .slice A m c, .slice E l d] rfl y0 hmt Tryz.call121 (by simp only [List.map_toArray, List.map_cons, List.map_nil, y1, y2, y3]) (HSeal w1 b1) ?_
          rintro e wq ⟨v, rfl, hN⟩
          exact ⟨_, rfl, hK _ wq trivial ⟨fun h0 => absurd (show true = false from h0) (by decide), fun _ => hN, fun h0 => absurd (no8.symm.trans h0) (by decide)⟩⟩
        · refine .inr fun L a1 w1 n h K hK => ?_
          have yes7 : L.getD 7 false = true := n.dep (by kernel_rfl)
          have hN := h.inv.2.1 ((bits_at rfl).trans yes7)
          obtain ⟨v, hv⟩ : ∃ v, a1.eval (.tmp 51) = v := ⟨_, rfl⟩
          unfold Oper.wp
          rw [run_assign (.tmp 51) rfl hv]
          exact hK v w1 trivial ⟨fun h0 => absurd (yes7.symm.trans h0) (by decide), fun _ => hN, fun _ => hv.symm⟩
        · exact .inl ⟨by kernel_rfl, fun L a1 w1 n h => ⟨_, rfl, run_assign (.const (.int .i64 0)) rfl rfl⟩⟩
      case he2 =>
        intro V2 w7 hV hJ
        have hE1 : V2 8 = V2 7 := hJ.2.2 rfl
        have hE2 : V2 9 = .int .i64 0 := hV 9 _ rfl
        have hN : ∃ w1', Below w6.heap.size w6 w1' ∧ AddRes w1' B gl 191 (tokL ts.length (tx.length + 16)) (ts ++ [⟨q, nn, ad, tx⟩]) ms (V2 7) w7 := hJ.2.1 rfl
        rw [← hE1] at hN
        clear hV hJ hE1
        simp only [putOps, List.setIfInBounds_toArray, List.set_cons_succ, List.set_cons_zero, Nat.reduceAdd]
        rw [hE2]
        refine hK2 _ _ ?_
        obtain ⟨w6b, b6b, hN⟩ := hN
        have hN2 := hN
        obtain ⟨⟨A9, c9, hv9, h9, l9, y9⟩, hL7, _⟩ := hN
        rw [hv9]
        go_wp2_with fail
        go_ret2
        have htl : (tokL ts.length (tx.length + 16)).length = tx.length + 16 := tokL_len (by omega)
        rw [htl] at h9 l9 ⊢
        have hL6b := hL6.later b6b
        have e1 : (((ts ++ [(⟨q, nn, ad, tx⟩ : SEn)]).length : Nat) : Int) = (ts.length : Int) + 1 := by simp
        have hq : ∀ k t vs, Row w6b t k vs → t ≠ 67 → t ≠ 191 → Row w7 t k vs := fun k t vs hr h1 h2 => (hN2.ne hL6b (fun cs t' fr hc => by
          have := hr.symm.trans hc
          simp at this
          rw [← this.2.1]
          exact ⟨h1, h2⟩) hr.lt).trans hr
        refine ⟨A9, c9, kl, rfl, h9, l9, y9, ⟨?_, hL7, ?_, hlo.out, ?_⟩, (TT.trans (TurnB.of b6b)).trans (hN2.turn hL6b (.inr (.inr (.inl rfl))))⟩
        · unfold BxRow
          rw [e1]
          exact hq _ _ _ (row6.later b6b) (by decide) (by decide)
        · have hU := HU6.out.later b6b
          refine hU.same (hN2.ne hL6b (fun cs t' fr hc => ?_) hU.lt)
          obtain ⟨es, clock, he⟩ := hU.isMap
          rw [he] at hc
          cases hc
        · have h1 := hHs.out
          have h2 := hsz.out
          rw [List.length_append]
          simp only [List.length_cons, List.length_nil]
          omega
end Go.Proofs.YtooooncmjhcdbaaGreatDoor

/-
  An ideal box opens: contract. Own work.
-/
namespace Go.Proofs.YtooooncmjhcdbaaGreatDoor
open Go.RowKit Go.Maps Go.ChangeMaps
/-- Bytes and a number. -/
def OpV (xs : List Int) (k : Int) (v : Value) (w : World) : Prop := ∃ A c, v = .tuple #[.slice A xs.length c, .int .i64 k] ∧ Bs w w.heap.size A xs.length xs ∧ xs.length ≤ c ∧ TyB w A
def OpS (xs : List Int) (v : Value) (w : World) : Prop := ∃ A c, v = .slice A xs.length c ∧ Bs w w.heap.size A xs.length xs ∧ xs.length ≤ c ∧ TyB w A
theorem OpV.later {xs : List Int} {k : Int} {v : Value} {w w' : World} (h : OpV xs k v w) (hb : Below w.heap.size w w') : OpV xs k v w' := by
  obtain ⟨A, c, e, h1, h2, h3⟩ := h
  exact ⟨A, c, e, h1.later hb, h2, h3.later hb⟩
theorem OpS.later {xs : List Int} {v : Value} {w w' : World} (h : OpS xs v w) (hb : Below w.heap.size w w') : OpS xs v w' := by
  obtain ⟨A, c, e, h1, h2, h3⟩ := h
  exact ⟨A, c, e, h1.later hb, h2, h3.later hb⟩
theorem OpRes.v {er : Int} {r : Option (List Int)} {w w' : World} {e : Ending} (h : OpRes er r w e w') : ∃ v, e = .returned v ∧ OpV (r.getD []) (if r.isSome then 0 else er) v w' ∧ Below w.heap.size w w' := by
  cases r with
  | some tx =>
    obtain ⟨A, c, rfl, h1, h2, h4, h3⟩ := h
    exact ⟨_, rfl, ⟨A, c, rfl, h1, h2, h4⟩, h3⟩
  | none =>
    obtain ⟨rfl, h3⟩ := h
    exact ⟨_, rfl, ⟨none, 0, rfl, Bs.nil_, Nat.le_refl _, fun p hp => by cases hp⟩, h3⟩
/-- What Open tells. -/
def opnE (q : Kid) (nn : Int) (l : Nat) (r : Option (List Int)) : Int := if okU q nn = true then (if l < 16 then 4 else if r.isSome then 0 else 6) else 1
def opnX (q : Kid) (nn : Int) (l : Nat) (r : Option (List Int)) : List Int := if okU q nn = true then (if l < 16 then [] else r.getD []) else []
theorem mOpen (gl : Nat) : ∀ w, (method (Tryz.prog.types.size + Made.depth) 59 (.pointer (some ⟨gl, 0, none⟩)) "intaglio/box.open").run Tryz.prog w = .ok (120, .pointer (some ⟨gl, 0, none⟩)) w := fun _ => by kernel_rfl
theorem OpV.of_nil (w : World) (k : Int) : OpV [] k (.tuple #[.slice none 0 0, .int .i64 k]) w := ⟨none, 0, rfl, Bs.nil_, Nat.le_refl _, fun p hp => by cases hp⟩
def FOpn (xs : List Int) (k : Int) (opn : Nat) (v : Value) (w : World) : Prop :=
  match opn with
  | 7 => OpV xs k v w
  | 8 => OpS xs v w
  | 9 => IsF (.int .i64 k) v w
  | 10 => OpS xs v w
  | 11 => IsF (.int .i64 k) v w
  | _ => True
theorem FOpn_mono (xs : List Int) (k : Int) : ∀ j v w w', FOpn xs k j v w → Below w.heap.size w w' → FOpn xs k j v w' := by
  intro j v w w' h hb
  unfold FOpn at h ⊢
  split at h
  · exact h.later hb
  · exact h.later hb
  · exact h.later hb
  · exact h.later hb
  · exact h.later hb
  · trivial

def SOpn (g g12 gl : Nat) (us : List Value) (A E : Option Addr) (m c l d : Nat) (opn : Nat) (v : Value) : Prop :=
  match opn with
  | 0 | 1 | 2 => v = .pointer (some ⟨g, 0, none⟩)
  | 3 => v = kdI gl
  | 4 => v = .agg us.toArray
  | 5 => v = .slice A m c
  | 6 => v = .slice E l d
  | _ => True

set_option maxRecDepth 100000 in
set_option maxHeartbeats 2000000 in
theorem openI (w : World) (B g gl b : Nat) (D : DU) (ts : List SEn) (ms : List MEn) (q : Kid) (nn : Int) (A E : Option Addr) (m c l d : Nat) (ad bs : List Int) (h : BxI w B g gl b D ts ms) (hT : TabK w) (hni : isI nn) (hn : ts.length ≤ 10000) (hts : ∀ s ∈ ts, s.tx.length ≤ 100000) (hmb : ∀ s ∈ ts, IsBy s.tx ∧ IsBy s.ad) (hm : m ≤ 65536) (hl : l ≤ 65552)
    (had : Bs w w.heap.size A m ad) (hadb : IsBy ad) (hbs : Bs w w.heap.size E l bs) (hby : IsBy bs) :
    Calls Tryz.prog 12 #[.pointer (some ⟨g, 0, none⟩), .agg (vk .i64 q.l).toArray, .int .i64 nn, .slice A m c, .slice E l d] w fun e w' =>
      ∃ v, e = .returned v ∧ OpV (opnX q nn l (opT ts q nn ad bs)) (opnE q nn l (opT ts q nn ad bs)) v w' ∧ Below w.heap.size w w' := by
  have hbu := hide (bUse q nn)
  have hidz := hide (szKid q)
  have husz := hide (szUse q nn)
  have hzl := hide (show (vk .i64 [0, 0, 0, 0, 0, 0, 0]).length = (vk .i64 (useL q nn)).length from rfl)
  have hone := hide (one_vk .i64 (useL q nn))
  have hz0 := zUse
  have HRef := fun w1 (hb : Below w.heap.size w w1) => refuse_yes w1 g _ _ _ _ q nn (Row.later h.row hb) (hT.later hb) hni
  have HOp := fun w1 (hb : Below w.heap.size w w1) => lopen_any w1 B gl ts ms q nn A E m c l d ad bs (h.led.later hb) hn hts hmb (had.later hb) hadb (hbs.later hb) hby (by omega)
  obtain ⟨r, hr0⟩ : ∃ r, r = opT ts q nn ad bs := ⟨_, rfl⟩
  rw [← hr0] at HOp ⊢
  clear hr0
  have hrow := hide h.row
  obtain ⟨us, hus⟩ : ∃ us, us = vk .i64 (useL q nn) := ⟨_, rfl⟩
  obtain ⟨ids, hids⟩ : ∃ ids, ids = vk .i64 q.l := ⟨_, rfl⟩
  rw [← hus] at hbu husz hzl hone HRef HOp
  rw [← hids] at hbu hidz ⊢
  clear hus hids had hbs h
  generalize vk .i64 [0, 0, 0, 0, 0, 0, 0] = zu at *
  have hmI : (m : Int) ≤ 65536 := by omega
  have hlI : (l : Int) ≤ 65552 := by omega
  by_cases hk : okU q nn = true
  case neg =>
    have hre : refB q nn = 1 := by unfold refB; rw [if_neg hk]
    have hx : opnX q nn l r = [] := by unfold opnX; rw [if_neg hk]
    have he : opnE q nn l r = 1 := by unfold opnE; rw [if_neg hk]
    rw [hre] at HRef
    rw [hx, he]
    clear hre hk hx he HOp
    go_enter Tryz.func12, Tryz.ntmps12
    go_wp2_with (first
      | (with_reducible refine wl_box rfl 24 _ (.agg ids.toArray) ids rfl rfl rfl ?_; intro g6 w1 r6 p6 l6 b6)
      | (with_reducible refine wl_load_row (o := ⟨some 14, _, _, _, _, _⟩) rfl 24 (.tmp 6) g6 24 ids _ rfl rfl r6 Tryz.underlying24 rfl hidz.out ?_)
      | (with_reducible refine wl_build rfl 72 [(0, .tmp 14), (1, .tmp 15)] rfl [(0, .agg ids.toArray), (1, .int .i64 nn)] rfl us hbu.out ?_)
      | (with_reducible refine wl_alloc (o := ⟨some 12, _, _, _, _, _⟩) rfl 72 _ zu rfl hz0 rfl ?_; intro g12 w2 r12 p12 l12 b12)
      | (with_reducible refine wl_store_row rfl 72 (.tmp 12) (.tmp 16) g12 72 _ us rfl rfl rfl r12 husz.out hzl.out hone.out ?_; intro w3 r12b o12)
      | (with_reducible refine wl_load_row (o := ⟨some 18, _, _, _, _, _⟩) rfl 72 (.tmp 12) g12 72 us _ rfl rfl r12b Tryz.underlying72 rfl husz.out ?_))
    have B2 := b6.trans (b12.mono b6.size)
    have B3 := B2.trans (o12.below (by have := b6.size; omega))
    refine (HRef w3 B3).mono ?_
    rintro e w4 ⟨rfl, b4⟩
    have B4 := B3.trans (b4.mono B3.size)
    go_wp2_with fail
    go_ret2
    exact ⟨_, rfl, OpV.of_nil _ _, B4⟩
  case pos =>
    have hre : refB q nn = 0 := by unfold refB; rw [if_pos hk]
    rw [hre] at HRef
    by_cases hs : l < 16
    · have hx : opnX q nn l r = [] := by unfold opnX; rw [if_pos hk, if_pos hs]
      have he : opnE q nn l r = 4 := by unfold opnE; rw [if_pos hk, if_pos hs]
      rw [hx, he]
      have hsI : (l : Int) < 16 := by omega
      clear hre hk hx he HOp hs hlI
      go_enter Tryz.func12, Tryz.ntmps12
      go_wp2_with (first
        | (with_reducible refine wl_box rfl 24 _ (.agg ids.toArray) ids rfl rfl rfl ?_; intro g6 w1 r6 p6 l6 b6)
        | (with_reducible refine wl_load_row (o := ⟨some 14, _, _, _, _, _⟩) rfl 24 (.tmp 6) g6 24 ids _ rfl rfl r6 Tryz.underlying24 rfl hidz.out ?_)
        | (with_reducible refine wl_build rfl 72 [(0, .tmp 14), (1, .tmp 15)] rfl [(0, .agg ids.toArray), (1, .int .i64 nn)] rfl us hbu.out ?_)
        | (with_reducible refine wl_alloc (o := ⟨some 12, _, _, _, _, _⟩) rfl 72 _ zu rfl hz0 rfl ?_; intro g12 w2 r12 p12 l12 b12)
        | (with_reducible refine wl_store_row rfl 72 (.tmp 12) (.tmp 16) g12 72 _ us rfl rfl rfl r12 husz.out hzl.out hone.out ?_; intro w3 r12b o12)
        | (with_reducible refine wl_load_row (o := ⟨some 18, _, _, _, _, _⟩) rfl 72 (.tmp 12) g12 72 us _ rfl rfl r12b Tryz.underlying72 rfl husz.out ?_))
      have B2 := b6.trans (b12.mono b6.size)
      have B3 := B2.trans (o12.below (by have := b6.size; omega))
      refine (HRef w3 B3).mono ?_
      rintro e w4 ⟨rfl, b4⟩
      have B4 := B3.trans (b4.mono B3.size)
      go_wp2_with fail
      go_ret2
      exact ⟨_, rfl, OpV.of_nil _ _, B4⟩
    · have hx : opnX q nn l r = r.getD [] := by unfold opnX; rw [if_pos hk, if_neg hs]
      have he : opnE q nn l r = if r.isSome then 0 else 6 := by unfold opnE; rw [if_pos hk, if_neg hs]
      rw [hx, he]
      have hsI : ¬ (l : Int) < 16 := by omega
      clear hre hk hx he hs
      obtain ⟨xs, hxs⟩ : ∃ xs, xs = r.getD [] := ⟨_, rfl⟩
      obtain ⟨k, hk⟩ : ∃ k : Int, k = if r.isSome then 0 else 6 := ⟨_, rfl⟩
      have HOpen0 : ∀ w1, Below w.heap.size w w1 → Calls Tryz.prog 120 #[.pointer (some ⟨gl, 0, none⟩), .agg us.toArray, .slice A m c, .slice E l d] w1 fun e w' =>
          ∃ v, e = .returned v ∧ OpV xs k v w' ∧ Below w1.heap.size w1 w' := by
        intro w1 b1
        rw [hxs, hk]
        exact (HOp w1 b1).mono fun _ _ h => h.v
      rw [← hxs, ← hk]
      clear hxs hk HOp
      go_enter Tryz.func12, Tryz.ntmps12
      go_wp2_with (first
        | (with_reducible refine wl_box rfl 24 _ (.agg ids.toArray) ids rfl rfl rfl ?_; intro g6 w1 r6 p6 l6 b6)
        | (with_reducible refine wl_load_row (o := ⟨some 14, _, _, _, _, _⟩) rfl 24 (.tmp 6) g6 24 ids _ rfl rfl r6 Tryz.underlying24 rfl hidz.out ?_)
        | (with_reducible refine wl_build rfl 72 [(0, .tmp 14), (1, .tmp 15)] rfl [(0, .agg ids.toArray), (1, .int .i64 nn)] rfl us hbu.out ?_)
        | (with_reducible refine wl_alloc (o := ⟨some 12, _, _, _, _, _⟩) rfl 72 _ zu rfl hz0 rfl ?_; intro g12 w2 r12 p12 l12 b12)
        | (with_reducible refine wl_store_row rfl 72 (.tmp 12) (.tmp 16) g12 72 _ us rfl rfl rfl r12 husz.out hzl.out hone.out ?_; intro w3 r12b o12)
        | (with_reducible refine wl_load_row (o := ⟨some 18, _, _, _, _, _⟩) rfl 72 (.tmp 12) g12 72 us _ rfl rfl r12b Tryz.underlying72 rfl husz.out ?_))
      have B2 := b6.trans (b12.mono b6.size)
      have B3 := B2.trans (o12.below (by have := b6.size; omega))
      refine (HRef w3 B3).mono ?_
      rintro e w4 ⟨rfl, b4⟩
      have B4 := B3.trans (b4.mono B3.size)
      have r12 := r12b.later b4
      have hr : Row w4 54 g [kdI gl, .int .i64 (ts.length : Nat), .map (some b)] := Row.later hrow.out B4
      have HOpen := fun w1 (hb : Below w4.heap.size w4 w1) => HOpen0 w1 (B4.trans (hb.mono B4.size))
      have hmt := mOpen gl
      go_wp2_with fail
      refine wp_region_vals [7, 8, 9, 10, 11] (SOpn g g12 gl us A E m c l d) (JF w4 [7, 8, 9, 10, 11] (FOpn xs k)) (by kernel_rfl) (by kernel_rfl) (by kernel_rfl) (by kernel_rfl) (by kernel_rfl) (JF.start _) ?obs2 ?he2
      case obs2 =>
        refine ⟨?_, ?_, ?_, ?_, ?_, ?_, ?_, ?_, ?_, ?_, ?_, ?_, trivial⟩
        · exact .inl ⟨by kernel_rfl, fun L a1 w1 n h => ⟨_, rfl, run_move (.tmp 0) rfl (h.var n 0 (by kernel_rfl))⟩⟩
        · refine .inl ⟨by kernel_rfl, fun L a1 w1 n h => ⟨.pointer (some ⟨g, 0, none⟩), rfl, ?_⟩⟩
          have e0 : a1.eval (.tmp 34) = _ := h.dep n 0 34 (by kernel_rfl) rfl
          unfold execOp
          simp only [e0]
          go_simp
        · refine .inl ⟨by kernel_rfl, fun L a1 w1 n h => ⟨.pointer (some ⟨g, 0, none⟩), rfl, ?_⟩⟩
          have e0 : a1.eval (.tmp 35) = _ := h.dep n 1 35 (by kernel_rfl) rfl
          unfold execOp
          simp only [e0]
          go_simp
        · exact .inl ⟨by kernel_rfl, fun L a1 w1 n h => ⟨_, rfl, run_loadA 51 (.tmp 36) ⟨g, 0, none⟩ rfl Tryz.isAgg51 (h.dep n 2 36 (by kernel_rfl) rfl) ((Row.later hr h.inv.1).cell (j := 0) rfl)⟩⟩
        · exact .inl ⟨by kernel_rfl, fun L a1 w1 n h => ⟨_, rfl, run_loadRow 72 (.tmp 12) g12 72 _ _ rfl (h.var n 12 (by kernel_rfl)) (Row.later r12 h.inv.1) Tryz.underlying72 rfl husz.out⟩⟩
        · exact .inl ⟨by kernel_rfl, fun L a1 w1 n h => ⟨_, rfl, run_move (.tmp 3) rfl (h.var n 3 (by kernel_rfl))⟩⟩
        · exact .inl ⟨by kernel_rfl, fun L a1 w1 n h => ⟨_, rfl, run_move (.tmp 4) rfl (h.var n 4 (by kernel_rfl))⟩⟩
        · refine .inr fun L a1 w1 n h K hK => ?_
          have y0 : a1.eval (.tmp 37) = kdI gl := h.dep n 3 37 (by kernel_rfl) rfl
          have y1 : a1.eval (.tmp 38) = .agg us.toArray := h.dep n 4 38 (by kernel_rfl) rfl
          have y2 : a1.eval (.tmp 39) = .slice A m c := h.dep n 5 39 (by kernel_rfl) rfl
          have y3 : a1.eval (.tmp 40) = .slice E l d := h.dep n 6 40 (by kernel_rfl) rfl
          refine st_invoke 59 (.pointer (some ⟨gl, 0, none⟩)) (.pointer (some ⟨gl, 0, none⟩)) 120 (.tmp 37) _ #[.tmp 38, .tmp 39, .tmp 40] _ [.agg us.toArray, .slice A m c, .slice E l d] rfl y0 hmt Tryz.call120 (by simp only [List.map_toArray, List.map_cons, List.map_nil, y1, y2, y3]) (HOpen w1 h.inv.1) ?_
          rintro e wq ⟨v, rfl, hN, b9⟩
          exact ⟨_, rfl, JF.few (FOpn_mono xs k) h hK 41 rfl _ trivial hN b9⟩
        · refine .inr fun L a1 w1 n h K hK => ?_
          obtain ⟨A9, c9, v9, h9, l9, y9⟩ := JF.get h n 7 41 (by kernel_rfl) (by kernel_rfl) rfl
          exact JF.run (FOpn_mono xs k) h hK 42 rfl (.slice A9 xs.length c9) (run_extractA (v := .slice A9 xs.length c9) (.tmp 41) 0 _ rfl v9 rfl) trivial ⟨A9, c9, rfl, h9, l9, y9⟩
        · refine .inr fun L a1 w1 n h K hK => ?_
          obtain ⟨A9, c9, v9, h9, l9, y9⟩ := JF.get h n 7 41 (by kernel_rfl) (by kernel_rfl) rfl
          exact JF.run (FOpn_mono xs k) h hK 43 rfl (.int .i64 k) (run_extractA (v := .int .i64 k) (.tmp 41) 1 _ rfl v9 rfl) trivial rfl
        · refine .inr fun L a1 w1 n h K hK => ?_
          obtain ⟨A9, c9, v9, h9, l9, y9⟩ := JF.get h n 8 42 (by kernel_rfl) (by kernel_rfl) rfl
          exact JF.run (FOpn_mono xs k) h hK 10 rfl (.slice A9 xs.length c9) (run_assign (.tmp 42) rfl v9) trivial ⟨A9, c9, rfl, h9, l9, y9⟩
        · refine .inr fun L a1 w1 n h K hK => ?_
          obtain v9 := JF.get h n 9 43 (by kernel_rfl) (by kernel_rfl) rfl
          exact JF.run (FOpn_mono xs k) h hK 11 rfl (.int .i64 k) (run_assign (.tmp 43) rfl v9) trivial rfl
      case he2 =>
        intro V w7 hV hJ
        have b7 := hJ.1
        obtain ⟨A9, c9, v9, h9, l9, y9⟩ := JF.last hJ 10 10 rfl rfl
        have v8 : V 11 = .int .i64 k := JF.last hJ 11 11 rfl rfl
        clear hV hJ
        simp only [putOps, List.setIfInBounds_toArray, List.set_cons_succ, List.set_cons_zero, Nat.reduceAdd]
        rw [v9, v8]
        go_wp2_with fail
        go_ret2
        exact ⟨_, rfl, ⟨A9, c9, rfl, h9, l9, y9⟩, B4.trans (b7.mono B4.size)⟩
end Go.Proofs.YtooooncmjhcdbaaGreatDoor

/-
  An ideal box marks: contract. Own work.
-/
namespace Go.Proofs.YtooooncmjhcdbaaGreatDoor
open Go.RowKit Go.Maps Go.ChangeMaps
theorem bUse0 (q : Kid) : Tryz.prog.built 72 [(0, .agg (vk .i64 q.l).toArray)] = some (vk .i64 (useL q 0)).toArray := by kernel_rfl
theorem mMark (gl : Nat) : ∀ w, (method (Tryz.prog.types.size + Made.depth) 59 (.pointer (some ⟨gl, 0, none⟩)) "intaglio/box.mark").run Tryz.prog w = .ok (119, .pointer (some ⟨gl, 0, none⟩)) w := fun _ => by kernel_rfl
/-- What Mark tells, and leaves. -/
def MarkRes (w : World) (B g gl b : Nat) (D : DU) (ts : List SEn) (ms : List MEn) (q : Kid) (tx : List Int) (e : Ending) (w' : World) : Prop :=
  if okU q 0 = true then ∃ A9 c9, e = .returned (.tuple #[.slice A9 32 c9, .int .i64 0]) ∧ Bs w' w'.heap.size A9 32 (tokL ms.length 32) ∧ 32 ≤ c9 ∧ TyB w' A9 ∧
    BxI w' B g gl b D ts (ms ++ [⟨q, tx⟩]) ∧ TurnB B w w'
  else e = .returned (.tuple #[.slice none 0 0, .int .i64 1]) ∧ Below w.heap.size w w'
def SMrk (g g4 gl : Nat) (ids : List Value) (E : Option Addr) (l d : Nat) (opn : Nat) (v : Value) : Prop :=
  match opn with
  | 0 | 1 | 2 => v = .pointer (some ⟨g, 0, none⟩)
  | 3 => v = kdI gl
  | 4 => v = .agg ids.toArray
  | 5 => v = .slice E l d
  | 8 => v = .int .i64 0
  | _ => True

set_option maxRecDepth 100000 in
set_option maxHeartbeats 2000000 in
theorem markI (w : World) (B g gl b : Nat) (D : DU) (ts : List SEn) (ms : List MEn) (q : Kid) (E : Option Addr) (l d : Nat) (tx : List Int) (h : BxI w B g gl b D ts ms) (hT : TabK w) (hn : ms.length ≤ 10000)
    (htx : Bs w w.heap.size E l tx) :
    Calls Tryz.prog 14 #[.pointer (some ⟨g, 0, none⟩), .agg (vk .i64 q.l).toArray, .slice E l d] w (MarkRes w B g gl b D ts ms q tx) := by
  have hbu := hide (bUse0 q)
  have hidz := hide (szKid q)
  have husz := hide (szUse q 0)
  have HRef := fun w1 (hb : Below w.heap.size w w1) => refuse_yes w1 g _ _ _ _ q 0 (Row.later h.row hb) (hT.later hb) (by unfold isI; omega)
  have HMk0 := fun w1 (hb : Below w.heap.size w w1) => lmark_any w1 B gl ts ms q E l d tx (h.led.later hb) hn (htx.later hb)
  have hh := hide h
  unfold MarkRes
  obtain ⟨us, hus⟩ : ∃ us, us = vk .i64 (useL q 0) := ⟨_, rfl⟩
  obtain ⟨ids, hids⟩ : ∃ ids, ids = vk .i64 q.l := ⟨_, rfl⟩
  rw [← hus] at hbu husz HRef
  rw [← hids] at hbu hidz HMk0 ⊢
  clear hus hids htx h
  by_cases hk : okU q 0 = true
  case neg =>
    simp only [if_neg hk]
    have hre : refB q 0 = 1 := by unfold refB; rw [if_neg hk]
    rw [hre] at HRef
    clear hre hk HMk0
    go_enter Tryz.func14, Tryz.ntmps14
    go_wp2_with (first
      | (with_reducible refine wl_box rfl 24 _ (.agg ids.toArray) ids rfl rfl rfl ?_; intro g4 w1 r4 p4 l4 b4)
      | (with_reducible refine wl_load_row (o := ⟨some 10, _, _, _, _, _⟩) rfl 24 (.tmp 4) g4 24 ids _ rfl rfl r4 Tryz.underlying24 rfl hidz.out ?_)
      | (with_reducible refine wl_build rfl 72 [(0, .tmp 10)] rfl [(0, .agg ids.toArray)] rfl us hbu.out ?_))
    refine (HRef w1 b4).mono ?_
    rintro e w4 ⟨rfl, b5⟩
    have B4 := b4.trans (b5.mono b4.size)
    go_wp2_with fail
    go_ret2
    exact ⟨rfl, B4⟩
  case pos =>
    simp only [if_pos hk]
    have hre : refB q 0 = 0 := by unfold refB; rw [if_pos hk]
    rw [hre] at HRef
    clear hre hk
    go_enter Tryz.func14, Tryz.ntmps14
    go_wp2_with (first
      | (with_reducible refine wl_box rfl 24 _ (.agg ids.toArray) ids rfl rfl rfl ?_; intro g4 w1 r4 p4 l4 b4)
      | (with_reducible refine wl_load_row (o := ⟨some 10, _, _, _, _, _⟩) rfl 24 (.tmp 4) g4 24 ids _ rfl rfl r4 Tryz.underlying24 rfl hidz.out ?_)
      | (with_reducible refine wl_build rfl 72 [(0, .tmp 10)] rfl [(0, .agg ids.toArray)] rfl us hbu.out ?_))
    refine (HRef w1 b4).mono ?_
    rintro e w4 ⟨rfl, b5⟩
    have B4 := b4.trans (b5.mono b4.size)
    have r4 := r4.later b5
    have hx := hh.out.later B4
    have hr : Row w4 54 g [kdI gl, .int .i64 (ts.length : Nat), .map (some b)] := hx.row
    have HMk : ∀ w1, Below w4.heap.size w4 w1 → Calls Tryz.prog 119 #[.pointer (some ⟨gl, 0, none⟩), .agg ids.toArray, .slice E l d] w1 fun e w' =>
        ∃ v, e = .returned v ∧ ∃ w1', Below w4.heap.size w4 w1' ∧ AddRes w1' B gl 186 (tokL ms.length 32) ts (ms ++ [⟨q, tx⟩]) v w' := by
      intro w1 b1
      refine (HMk0 w1 (B4.trans (b1.mono B4.size))).mono ?_
      rintro e w' ⟨v, rfl, hN⟩
      exact ⟨v, rfl, w1, b1, hN⟩
    have hmt := mMark gl
    have HX := hide hx
    clear hx HMk0
    go_wp2_with fail
    refine wp_region_vals [6, 7] (SMrk g g4 gl ids E l d) (JCl w4 (fun v w' => ∃ w1', Below w4.heap.size w4 w1' ∧ AddRes w1' B gl 186 (tokL ms.length 32) ts (ms ++ [⟨q, tx⟩]) v w')) (by kernel_rfl) (by kernel_rfl) (by kernel_rfl) (by kernel_rfl) (by kernel_rfl) (JCl.start _ _ _) ?obs2 ?he2
    case obs2 =>
      refine ⟨?_, ?_, ?_, ?_, ?_, ?_, ?_, ?_, ?_, trivial⟩
      · exact .inl ⟨by kernel_rfl, fun L a1 w1 n h => ⟨_, rfl, run_move (.tmp 0) rfl (h.var n 0 (by kernel_rfl))⟩⟩
      · refine .inl ⟨by kernel_rfl, fun L a1 w1 n h => ⟨.pointer (some ⟨g, 0, none⟩), rfl, ?_⟩⟩
        have e0 : a1.eval (.tmp 16) = _ := h.dep n 0 16 (by kernel_rfl) rfl
        unfold execOp
        simp only [e0]
        go_simp
      · refine .inl ⟨by kernel_rfl, fun L a1 w1 n h => ⟨.pointer (some ⟨g, 0, none⟩), rfl, ?_⟩⟩
        have e0 : a1.eval (.tmp 17) = _ := h.dep n 1 17 (by kernel_rfl) rfl
        unfold execOp
        simp only [e0]
        go_simp
      · exact .inl ⟨by kernel_rfl, fun L a1 w1 n h => ⟨_, rfl, run_loadA 51 (.tmp 18) ⟨g, 0, none⟩ rfl Tryz.isAgg51 (h.dep n 2 18 (by kernel_rfl) rfl) ((Row.later hr (h.inv.1 ((bits_at rfl).trans (n.later (by kernel_rfl) : L.getD 6 false = false)))).cell (j := 0) rfl)⟩⟩
      · exact .inl ⟨by kernel_rfl, fun L a1 w1 n h => ⟨_, rfl, run_loadRow 24 (.tmp 4) g4 24 _ _ rfl (h.var n 4 (by kernel_rfl)) (Row.later r4 (h.inv.1 ((bits_at rfl).trans (n.later (by kernel_rfl) : L.getD 6 false = false)))) Tryz.underlying24 rfl hidz.out⟩⟩
      · exact .inl ⟨by kernel_rfl, fun L a1 w1 n h => ⟨_, rfl, run_move (.tmp 2) rfl (h.var n 2 (by kernel_rfl))⟩⟩
      · refine .inr fun L a1 w1 n h K hK => ?_
        have no7 : L.getD 6 false = false := n.not_yet
        have no8 : L.getD 7 false = false := n.later (by kernel_rfl)
        have b1 := h.inv.1 ((bits_at rfl).trans no7)
        have y0 : a1.eval (.tmp 19) = kdI gl := h.dep n 3 19 (by kernel_rfl) rfl
        have y1 : a1.eval (.tmp 20) = .agg ids.toArray := h.dep n 4 20 (by kernel_rfl) rfl
        have y2 : a1.eval (.tmp 21) = .slice E l d := h.dep n 5 21 (by kernel_rfl) rfl
        refine st_invoke 59 (.pointer (some ⟨gl, 0, none⟩)) (.pointer (some ⟨gl, 0, none⟩)) 119 (.tmp 19) _ #[.tmp 20, .tmp 21] _ [.agg ids.toArray, .slice E l d] rfl y0 hmt Tryz.call119 (by simp only [List.map_toArray, List.map_cons, List.map_nil, y1, y2]) (HMk w1 b1) ?_
        rintro e wq ⟨v, rfl, hN⟩
        exact ⟨_, rfl, hK _ wq trivial ⟨fun h0 => absurd (show true = false from h0) (by decide), fun _ => hN, fun h0 => absurd (no8.symm.trans h0) (by decide)⟩⟩
      · refine .inr fun L a1 w1 n h K hK => ?_
        have yes7 : L.getD 6 false = true := n.dep (by kernel_rfl)
        have hN := h.inv.2.1 ((bits_at rfl).trans yes7)
        obtain ⟨v, hv⟩ : ∃ v, a1.eval (.tmp 22) = v := ⟨_, rfl⟩
        unfold Oper.wp
        rw [run_assign (.tmp 22) rfl hv]
        exact hK v w1 trivial ⟨fun h0 => absurd (yes7.symm.trans h0) (by decide), fun _ => hN, fun _ => hv.symm⟩
      · exact .inl ⟨by kernel_rfl, fun L a1 w1 n h => ⟨_, rfl, run_assign (.const (.int .i64 0)) rfl rfl⟩⟩
    case he2 =>
      intro V2 w7 hV hJ
      have hE1 : V2 7 = V2 6 := hJ.2.2 rfl
      have hE2 : V2 8 = .int .i64 0 := hV 8 _ rfl
      have hN : ∃ w1', Below w4.heap.size w4 w1' ∧ AddRes w1' B gl 186 (tokL ms.length 32) ts (ms ++ [⟨q, tx⟩]) (V2 6) w7 := hJ.2.1 rfl
      rw [← hE1] at hN
      clear hV hJ hE1
      simp only [putOps, List.setIfInBounds_toArray, List.set_cons_succ, List.set_cons_zero, Nat.reduceAdd]
      rw [hE2]
      obtain ⟨w6b, b6b, hN⟩ := hN
      have hN2 := hN
      obtain ⟨⟨A9, c9, hv9, h9, l9, y9⟩, hL7, _⟩ := hN
      rw [hv9]
      go_wp2_with fail
      go_ret2
      have htl : (tokL ms.length 32).length = 32 := tokL_len (by omega)
      rw [htl] at h9 l9 ⊢
      have hx6 := HX.out.later b6b
      have hL6b := hx6.led
      have hq : ∀ k t vs, Row w6b t k vs → t ≠ 67 → t ≠ 186 → Row w7 t k vs := fun k t vs hr h1 h2 => (hN2.ne hL6b (fun cs t' fr hc => by
        have := hr.symm.trans hc
        simp at this
        rw [← this.2.1]
        exact ⟨h1, h2⟩) hr.lt).trans hr
      refine ⟨A9, c9, rfl, h9, l9, y9, ⟨hq _ _ _ hx6.row (by decide) (by decide), hL7, ?_, hx6.lo, hx6.sz⟩, (TurnB.of (B4.trans (b6b.mono B4.size))).trans (hN2.turn hL6b (.inr (.inr (.inr rfl))))⟩
      refine hx6.map.same (hN2.ne hL6b (fun cs t' fr hc => ?_) hx6.map.lt)
      obtain ⟨es, clock, he⟩ := hx6.map.isMap
      rw [he] at hc
      cases hc
end Go.Proofs.YtooooncmjhcdbaaGreatDoor

/-
  An ideal box checks: contract. Own work.
-/
namespace Go.Proofs.YtooooncmjhcdbaaGreatDoor
open Go.RowKit Go.Maps Go.ChangeMaps
theorem mCheck (gl : Nat) : ∀ w, (method (Tryz.prog.types.size + Made.depth) 59 (.pointer (some ⟨gl, 0, none⟩)) "intaglio/box.check").run Tryz.prog w = .ok (118, .pointer (some ⟨gl, 0, none⟩)) w := fun _ => by kernel_rfl
def SChY (g g5 gl : Nat) (us ids : List Value) (A E : Option Addr) (m c l d : Nat) (r : Bool) (opn : Nat) (v : Value) : Prop :=
  match opn with
  | 0 | 6 | 7 | 8 => v = .pointer (some ⟨g, 0, none⟩)
  | 1 | 10 => v = .agg ids.toArray
  | 2 => v = .agg us.toArray
  | 3 => v = .int .i64 0
  | 4 | 5 => v = .bool true
  | 9 => v = kdI gl
  | 11 => v = .slice E l d
  | 12 => v = .slice A m c
  | 13 | 14 | 15 => v = .bool r
  | _ => True

def SChN (g g5 gl : Nat) (us ids : List Value) (opn : Nat) (v : Value) : Prop :=
  match opn with
  | 0 => v = .pointer (some ⟨g, 0, none⟩)
  | 1 => v = .agg ids.toArray
  | 2 => v = .agg us.toArray
  | 3 => v = .int .i64 1
  | 4 | 5 | 14 | 15 => v = .bool false
  | 6 | 7 | 8 | 9 | 10 | 11 | 12 | 13 => v = undef
  | _ => True

set_option maxRecDepth 100000 in
set_option maxHeartbeats 2000000 in
theorem checkI (w : World) (B g gl b : Nat) (D : DU) (ts : List SEn) (ms : List MEn) (q : Kid) (A E : Option Addr) (m c l d : Nat) (tx bs : List Int) (h : BxI w B g gl b D ts ms) (hT : TabK w) (hn : ms.length ≤ 10000) (hmb : ∀ s ∈ ms, IsBy s.tx)
    (htx : Bs w w.heap.size E l tx) (htb : IsBy tx) (hbs : Bs w w.heap.size A m bs) (hby : IsBy bs) (hm : m ≤ 1000000) :
    Calls Tryz.prog 16 #[.pointer (some ⟨g, 0, none⟩), .agg (vk .i64 q.l).toArray, .slice E l d, .slice A m c] w fun e w' => e = .returned (.bool (okU q 0 && chM ms q tx bs)) ∧ Below w.heap.size w w' := by
  have hbu := hide (bUse0 q)
  have hidz := hide (szKid q)
  have husz := hide (szUse q 0)
  have HRef0 := fun w1 (hb : Below w.heap.size w w1) => refuse_yes w1 g _ _ _ _ q 0 (Row.later h.row hb) (hT.later hb) (by unfold isI; omega)
  have HCk0 := fun w1 (hb : Below w.heap.size w w1) => lcheck_any w1 B gl ts ms q E A l d m c tx bs (h.led.later hb) hn hmb (htx.later hb) htb (hbs.later hb) hby hm
  have hrow := hide h.row
  obtain ⟨r, hr0⟩ : ∃ r, r = chM ms q tx bs := ⟨_, rfl⟩
  rw [← hr0] at HCk0 ⊢
  obtain ⟨us, hus⟩ : ∃ us, us = vk .i64 (useL q 0) := ⟨_, rfl⟩
  obtain ⟨ids, hids⟩ : ∃ ids, ids = vk .i64 q.l := ⟨_, rfl⟩
  rw [← hus] at hbu husz HRef0
  rw [← hids] at hbu hidz HCk0 ⊢
  clear hus hids htx hbs h hr0
  by_cases hk : okU q 0 = true
  case neg =>
    have hre : refB q 0 = 1 := by unfold refB; rw [if_neg hk]
    have hk2 : okU q 0 = false := by simpa using hk
    rw [hre] at HRef0
    rw [hk2, Bool.false_and]
    clear hre hk hk2 HCk0
    go_enter Tryz.func16, Tryz.ntmps16
    go_wp2_with (first
      | (with_reducible refine wl_box rfl 24 _ (.agg ids.toArray) ids rfl rfl rfl ?_; intro g5 w5 r5 p5 l5 b5))
    have hr : Row w5 54 g [kdI gl, .int .i64 (ts.length : Nat), .map (some b)] := Row.later hrow.out b5
    have HRef := fun w1 (hb : Below w5.heap.size w5 w1) => HRef0 w1 (b5.trans (hb.mono b5.size))
    refine wp_region_valsS [3] (SChN g g5 gl us ids) (fun _ _ w1 => Below w5.heap.size w5 w1) (by kernel_rfl) (by kernel_rfl) (by kernel_rfl) (by kernel_rfl) ((Below.refl _ _).drew) ?obs1 ?he1
    case obs1 =>
      refine ⟨?_, ?_, ?_, ?_, ?_, ?_, ?_, ?_, ?_, ?_, ?_, ?_, ?_, ?_, ?_, ?_, trivial⟩
      · refine .inl ⟨.inl rfl, ?_⟩
        exact .inl ⟨by kernel_rfl, fun L a1 w1 n h => ⟨_, rfl, run_move (.tmp 0) rfl (h.var n 0 (by kernel_rfl))⟩⟩
      · refine .inl ⟨.inl rfl, ?_⟩
        exact .inl ⟨by kernel_rfl, fun L a1 w1 n h => ⟨_, rfl, run_loadRow 24 (.tmp 5) g5 24 _ _ rfl (h.var n 5 (by kernel_rfl)) (Row.later r5 h.inv) Tryz.underlying24 rfl hidz.out⟩⟩
      · refine .inl ⟨.inl rfl, ?_⟩
        refine .inl ⟨by kernel_rfl, fun L a1 w1 n h => ⟨.agg us.toArray, rfl, ?_⟩⟩
        have e0 : a1.eval (.tmp 10) = _ := h.dep n 1 10 (by kernel_rfl) rfl
        exact run_buildX 72 [(0, .tmp 10)] rfl _ (by simp only [List.map_cons, List.map_nil, e0]) _ hbu.out
      · refine .inl ⟨.inl rfl, ?_⟩
        refine .inr fun L a1 w1 n h K hK => ?_
        have e0 : a1.eval (.tmp 9) = .pointer (some ⟨g, 0, none⟩) := h.dep n 0 9 (by kernel_rfl) rfl
        have e1 : a1.eval (.tmp 11) = .agg us.toArray := h.dep n 2 11 (by kernel_rfl) rfl
        refine st_call 25 _ _ #[.pointer (some ⟨g, 0, none⟩), .agg us.toArray] rfl Tryz.call25 ?_ (HRef w1 h.inv) ?_
        · simp only [List.map_toArray, List.map_cons, List.map_nil, e0, e1]
        · rintro e w3 ⟨rfl, b9⟩
          exact ⟨_, rfl, hK _ w3 rfl (h.inv.trans (b9.mono h.inv.size))⟩
      · refine .inl ⟨.inl rfl, ?_⟩
        exact .inl ⟨by kernel_rfl, fun L a1 w1 n h => ⟨_, rfl, run_eqlI (.tmp 12) (.const (.int .i64 0)) rfl (h.dep n 3 12 (by kernel_rfl) rfl) rfl (by decide)⟩⟩
      · refine .inl ⟨.inl rfl, ?_⟩
        exact .inl ⟨by kernel_rfl, fun L a1 w1 n h => ⟨_, rfl, run_move (.tmp 13) rfl (h.dep n 4 13 (by kernel_rfl) rfl)⟩⟩
      · exact .inr ⟨⟨5, true, 14, rfl, by kernel_rfl, rfl, by simp, fun v h => by rw [show v = .bool false from h]; first | exact ne_tf | exact ne_ft | exact ne_undef _⟩, by kernel_rfl, rfl⟩
      · exact .inr ⟨⟨5, true, 14, rfl, by kernel_rfl, rfl, by simp, fun v h => by rw [show v = .bool false from h]; first | exact ne_tf | exact ne_ft | exact ne_undef _⟩, by kernel_rfl, rfl⟩
      · exact .inr ⟨⟨5, true, 14, rfl, by kernel_rfl, rfl, by simp, fun v h => by rw [show v = .bool false from h]; first | exact ne_tf | exact ne_ft | exact ne_undef _⟩, by kernel_rfl, rfl⟩
      · exact .inr ⟨⟨5, true, 14, rfl, by kernel_rfl, rfl, by simp, fun v h => by rw [show v = .bool false from h]; first | exact ne_tf | exact ne_ft | exact ne_undef _⟩, by kernel_rfl, rfl⟩
      · exact .inr ⟨⟨5, true, 14, rfl, by kernel_rfl, rfl, by simp, fun v h => by rw [show v = .bool false from h]; first | exact ne_tf | exact ne_ft | exact ne_undef _⟩, by kernel_rfl, rfl⟩
      · exact .inr ⟨⟨5, true, 14, rfl, by kernel_rfl, rfl, by simp, fun v h => by rw [show v = .bool false from h]; first | exact ne_tf | exact ne_ft | exact ne_undef _⟩, by kernel_rfl, rfl⟩
      · exact .inr ⟨⟨5, true, 14, rfl, by kernel_rfl, rfl, by simp, fun v h => by rw [show v = .bool false from h]; first | exact ne_tf | exact ne_ft | exact ne_undef _⟩, by kernel_rfl, rfl⟩
      · exact .inr ⟨⟨5, true, 14, rfl, by kernel_rfl, rfl, by simp, fun v h => by rw [show v = .bool false from h]; first | exact ne_tf | exact ne_ft | exact ne_undef _⟩, by kernel_rfl, rfl⟩
      · refine .inl ⟨.inl rfl, ?_⟩
        exact .inl ⟨by kernel_rfl, fun L a1 w1 n h => ⟨_, rfl, run_pickF (.tmp 14) _ _ rfl (h.dep n 5 14 (by kernel_rfl) rfl) rfl⟩⟩
      · refine .inl ⟨.inl rfl, ?_⟩
        exact .inl ⟨by kernel_rfl, fun L a1 w1 n h => ⟨_, rfl, run_assign (.tmp 23) rfl (h.dep n 14 23 (by kernel_rfl) rfl)⟩⟩
    case he1 =>
      intro V w7 hV hJ
      have b7 : Below w5.heap.size w5 w7 := hJ
      have hE : V 15 = .bool false := hV 15 _ rfl
      clear hV hJ
      simp only [putOps, List.setIfInBounds_toArray, List.set_cons_succ, List.set_cons_zero, Nat.reduceAdd]
      rw [hE]
      go_wp2_with fail
      go_ret
      exact ⟨rfl, b5.trans (b7.mono b5.size)⟩
  case pos =>
    have hre : refB q 0 = 0 := by unfold refB; rw [if_pos hk]
    rw [hre] at HRef0
    rw [hk, Bool.true_and]
    clear hre hk
    go_enter Tryz.func16, Tryz.ntmps16
    go_wp2_with (first
      | (with_reducible refine wl_box rfl 24 _ (.agg ids.toArray) ids rfl rfl rfl ?_; intro g5 w5 r5 p5 l5 b5))
    have hr : Row w5 54 g [kdI gl, .int .i64 (ts.length : Nat), .map (some b)] := Row.later hrow.out b5
    have HRef := fun w1 (hb : Below w5.heap.size w5 w1) => HRef0 w1 (b5.trans (hb.mono b5.size))
    have HCk := fun w1 (hb : Below w5.heap.size w5 w1) => HCk0 w1 (b5.trans (hb.mono b5.size))
    have hmt := mCheck gl
    refine wp_region_valsG [3, 13] (SChY g g5 gl us ids A E m c l d r) (fun _ _ w1 => Below w5.heap.size w5 w1) (by kernel_rfl) (by kernel_rfl) (by kernel_rfl) (by kernel_rfl) ((Below.refl _ _).drew) ?obs1 ?he1
    case obs1 =>
      refine ⟨?_, ?_, ?_, ?_, ?_, ?_, ?_, ?_, ?_, ?_, ?_, ?_, ?_, ?_, ?_, ?_, trivial⟩
      · refine ⟨.inl rfl, ?_⟩
        exact .inl ⟨by kernel_rfl, fun L a1 w1 n h => ⟨_, rfl, run_move (.tmp 0) rfl (h.var n 0 (by kernel_rfl))⟩⟩
      · refine ⟨.inl rfl, ?_⟩
        exact .inl ⟨by kernel_rfl, fun L a1 w1 n h => ⟨_, rfl, run_loadRow 24 (.tmp 5) g5 24 _ _ rfl (h.var n 5 (by kernel_rfl)) (Row.later r5 h.inv) Tryz.underlying24 rfl hidz.out⟩⟩
      · refine ⟨.inl rfl, ?_⟩
        refine .inl ⟨by kernel_rfl, fun L a1 w1 n h => ⟨.agg us.toArray, rfl, ?_⟩⟩
        have e0 : a1.eval (.tmp 10) = _ := h.dep n 1 10 (by kernel_rfl) rfl
        exact run_buildX 72 [(0, .tmp 10)] rfl _ (by simp only [List.map_cons, List.map_nil, e0]) _ hbu.out
      · refine ⟨.inl rfl, ?_⟩
        refine .inr fun L a1 w1 n h K hK => ?_
        have e0 : a1.eval (.tmp 9) = .pointer (some ⟨g, 0, none⟩) := h.dep n 0 9 (by kernel_rfl) rfl
        have e1 : a1.eval (.tmp 11) = .agg us.toArray := h.dep n 2 11 (by kernel_rfl) rfl
        refine st_call 25 _ _ #[.pointer (some ⟨g, 0, none⟩), .agg us.toArray] rfl Tryz.call25 ?_ (HRef w1 h.inv) ?_
        · simp only [List.map_toArray, List.map_cons, List.map_nil, e0, e1]
        · rintro e w3 ⟨rfl, b9⟩
          exact ⟨_, rfl, hK _ w3 rfl (h.inv.trans (b9.mono h.inv.size))⟩
      · refine ⟨.inl rfl, ?_⟩
        exact .inl ⟨by kernel_rfl, fun L a1 w1 n h => ⟨_, rfl, run_eqlI (.tmp 12) (.const (.int .i64 0)) rfl (h.dep n 3 12 (by kernel_rfl) rfl) rfl (by decide)⟩⟩
      · refine ⟨.inl rfl, ?_⟩
        exact .inl ⟨by kernel_rfl, fun L a1 w1 n h => ⟨_, rfl, run_move (.tmp 13) rfl (h.dep n 4 13 (by kernel_rfl) rfl)⟩⟩
      · refine ⟨.inr ⟨5, true, 14, rfl, by kernel_rfl, rfl, by simp, fun v h => h⟩, ?_⟩
        exact .inl ⟨by kernel_rfl, fun L a1 w1 n h => ⟨_, rfl, run_move (.tmp 0) rfl (h.var n 0 (by kernel_rfl))⟩⟩
      · refine ⟨.inr ⟨5, true, 14, rfl, by kernel_rfl, rfl, by simp, fun v h => h⟩, ?_⟩
        refine .inl ⟨by kernel_rfl, fun L a1 w1 n h => ⟨.pointer (some ⟨g, 0, none⟩), rfl, ?_⟩⟩
        have e0 : a1.eval (.tmp 15) = _ := h.dep n 6 15 (by kernel_rfl) rfl
        unfold execOp
        simp only [e0]
        go_simp
      · refine ⟨.inr ⟨5, true, 14, rfl, by kernel_rfl, rfl, by simp, fun v h => h⟩, ?_⟩
        refine .inl ⟨by kernel_rfl, fun L a1 w1 n h => ⟨.pointer (some ⟨g, 0, none⟩), rfl, ?_⟩⟩
        have e0 : a1.eval (.tmp 16) = _ := h.dep n 7 16 (by kernel_rfl) rfl
        unfold execOp
        simp only [e0]
        go_simp
      · refine ⟨.inr ⟨5, true, 14, rfl, by kernel_rfl, rfl, by simp, fun v h => h⟩, ?_⟩
        exact .inl ⟨by kernel_rfl, fun L a1 w1 n h => ⟨_, rfl, run_loadA 51 (.tmp 17) ⟨g, 0, none⟩ rfl Tryz.isAgg51 (h.dep n 8 17 (by kernel_rfl) rfl) ((Row.later hr h.inv).cell (j := 0) rfl)⟩⟩
      · refine ⟨.inr ⟨5, true, 14, rfl, by kernel_rfl, rfl, by simp, fun v h => h⟩, ?_⟩
        exact .inl ⟨by kernel_rfl, fun L a1 w1 n h => ⟨_, rfl, run_loadRow 24 (.tmp 5) g5 24 _ _ rfl (h.var n 5 (by kernel_rfl)) (Row.later r5 h.inv) Tryz.underlying24 rfl hidz.out⟩⟩
      · refine ⟨.inr ⟨5, true, 14, rfl, by kernel_rfl, rfl, by simp, fun v h => h⟩, ?_⟩
        exact .inl ⟨by kernel_rfl, fun L a1 w1 n h => ⟨_, rfl, run_move (.tmp 2) rfl (h.var n 2 (by kernel_rfl))⟩⟩
      · refine ⟨.inr ⟨5, true, 14, rfl, by kernel_rfl, rfl, by simp, fun v h => h⟩, ?_⟩
        exact .inl ⟨by kernel_rfl, fun L a1 w1 n h => ⟨_, rfl, run_move (.tmp 3) rfl (h.var n 3 (by kernel_rfl))⟩⟩
      · refine ⟨.inr ⟨5, true, 14, rfl, by kernel_rfl, rfl, by simp, fun v h => h⟩, ?_⟩
        refine .inr fun L a1 w1 n h K hK => ?_
        have y0 : a1.eval (.tmp 18) = kdI gl := h.dep n 9 18 (by kernel_rfl) rfl
        have y1 : a1.eval (.tmp 19) = .agg ids.toArray := h.dep n 10 19 (by kernel_rfl) rfl
        have y2 : a1.eval (.tmp 20) = .slice E l d := h.dep n 11 20 (by kernel_rfl) rfl
        have y3 : a1.eval (.tmp 21) = .slice A m c := h.dep n 12 21 (by kernel_rfl) rfl
        refine st_invoke 59 (.pointer (some ⟨gl, 0, none⟩)) (.pointer (some ⟨gl, 0, none⟩)) 118 (.tmp 18) _ #[.tmp 19, .tmp 20, .tmp 21] _ [.agg ids.toArray, .slice E l d, .slice A m c] rfl y0 hmt Tryz.call118 (by simp only [List.map_toArray, List.map_cons, List.map_nil, y1, y2, y3]) (HCk w1 h.inv) ?_
        rintro e wq ⟨rfl, b9⟩
        exact ⟨_, rfl, hK _ wq rfl (h.inv.trans (b9.mono h.inv.size))⟩
      · refine ⟨.inl rfl, ?_⟩
        exact .inl ⟨by kernel_rfl, fun L a1 w1 n h => ⟨_, rfl, run_pickT (.tmp 14) _ _ rfl (h.dep n 5 14 (by kernel_rfl) rfl) (h.dep n 13 22 (by kernel_rfl) rfl)⟩⟩
      · refine ⟨.inl rfl, ?_⟩
        exact .inl ⟨by kernel_rfl, fun L a1 w1 n h => ⟨_, rfl, run_assign (.tmp 23) rfl (h.dep n 14 23 (by kernel_rfl) rfl)⟩⟩
    case he1 =>
      intro V w7 hV hJ
      have b7 : Below w5.heap.size w5 w7 := hJ
      have hE : V 15 = .bool r := hV 15 _ rfl
      clear hV hJ
      simp only [putOps, List.setIfInBounds_toArray, List.set_cons_succ, List.set_cons_zero, Nat.reduceAdd]
      rw [hE]
      go_wp2_with fail
      go_ret
      exact ⟨rfl, b5.trans (b7.mono b5.size)⟩
end Go.Proofs.YtooooncmjhcdbaaGreatDoor

/-
  The box's laws' own 'awake'. Own work.
-/
namespace Go.Proofs.YtooooncmjhcdbaaGreatDoor
open Go.RowKit Go.Maps Go.ChangeMaps
abbrev qOne : Kid := ⟨3, 0, 0, 0, 0, 0⟩
theorem zKid : (Tryz.prog.info? 24).map (fun i => i.zero) = some (some (.agg (vk .i64 [0, 0, 0, 0, 0, 0]).toArray)) := by kernel_rfl
theorem bOne : Tryz.prog.built 24 [(0, .int .i64 3)] = some (vk .i64 qOne.l).toArray := by kernel_rfl
set_option maxRecDepth 100000 in
theorem one_any (w : World) : Calls Tryz.prog 23 #[] w fun e w' => e = .returned (.agg (vk .i64 qOne.l).toArray) ∧ Below w.heap.size w w' := by
  have hz0 := zKid
  have hbu := bOne
  have hsz := hide (szKid qOne)
  have hzl := hide (show (vk .i64 [0, 0, 0, 0, 0, 0]).length = (vk .i64 qOne.l).length from rfl)
  have hone := hide (one_vk .i64 qOne.l)
  generalize vk .i64 qOne.l = ids at *
  generalize vk .i64 [0, 0, 0, 0, 0, 0] = zs at *
  go_enter Tryz.func23, Tryz.ntmps23
  go_wp2_with (first
    | (with_reducible refine wl_alloc rfl 24 _ zs rfl hz0 rfl ?_; intro g1 w1 r1 p1 l1 b1)
    | (with_reducible refine wl_build rfl 24 [(0, .const (.int .i64 3))] rfl [(0, .int .i64 3)] rfl ids hbu ?_)
    | (with_reducible refine wl_store_row rfl 24 (.tmp 0) (.tmp 1) g1 24 _ ids rfl rfl rfl r1 hsz.out hzl.out hone.out ?_; intro w2 r2 o2))
  refine bodyPost_ret (v := .agg ids.toArray) ?_ rfl ⟨rfl, b1.trans (o2.below p1)⟩
  exact results_cell_row Tryz.results23 _ _ g1 24 _ (0, 0) _ rfl r2 Tryz.underlying24 rfl hsz.out
abbrev sOne : SEn := ⟨qOne, 0, [], [7]⟩
abbrev mOne : MEn := ⟨qOne, [109]⟩
theorem okOne : okU qOne 0 = true := by decide
theorem okOne1 : okU qOne 1 = true := by decide
theorem tok0 (s : Nat) (h : 8 ≤ s) : tokL 0 s = List.replicate s 0 := by
  unfold tokL
  rw [show highB ((0 : Nat) : Int) 8 = List.replicate 8 0 from by decide, List.replicate_append_replicate]
  congr 1
  omega
theorem op1 : opT [sOne] qOne 0 [] (List.replicate 17 0) = some [7] := by decide +kernel
theorem op2 : opT [sOne] qOne 1 [] (List.replicate 17 0) = none := by decide +kernel
theorem ck1 : chM [mOne] qOne [109] (List.replicate 32 0) = true := by decide +kernel
theorem ck2 : chM [mOne] qOne [110] (List.replicate 32 0) = false := by decide +kernel
theorem byRep (n : Nat) : IsBy (List.replicate n 0) := fun x hx => by obtain ⟨_, rfl⟩ := List.mem_replicate.1 hx; decide
theorem bySOne : ∀ s ∈ [sOne], IsBy s.tx ∧ IsBy s.ad := fun s hs => by
  obtain rfl : s = sOne := by simpa using hs
  exact ⟨fun x hx => (by obtain rfl : x = 7 := by simpa using hx
                         decide), fun x hx => by cases hx⟩
theorem byMOne : ∀ s ∈ [mOne], IsBy s.tx := fun s hs => by
  obtain rfl : s = mOne := by simpa using hs
  exact fun x hx => by
    obtain rfl : x = 109 := by simpa using hx
    decide
theorem wg_make {P : Program} {ops : Array Oper} {rest : List Oper} {o : Oper} {a : Act} {w : World} {Q : Exit → Act → World → Prop} (g' : Nat) (b : Bool) (d' : Nat) (hg : o.guard = some (g', b)) (hd' : (ops[g']?).bind (·.dst) = some d') (hv : a.tmps[d']? = some (.bool b)) (t : TypeId) (x y : Operand) (ho : o.op = .makeSlice t x y) (e : TypeId) (i : TypeInfo) (z : Value) (ht : P.underlying t = some (.slice e)) (hi : P.info? e = some i) (hz : i.zero = some z) (hsz : i.size = 1) (hzc : z.cells = #[z])
    (kl kc : IntKind) (l c : Nat) (l' c' : Int) (hx : a.eval x = .int kl l') (hy : a.eval y = .int kc c') (hl' : l' = (l : Int)) (hc' : c' = (c : Int)) (hlc : l ≤ c) (hlen : i.bytes * c ≤ 281474976710656) (hc : c ≤ 9223372036854775807)
    (hk : ∀ g w', Row w' e g (List.replicate c z) → w.heap.size ≤ g → g < w'.heap.size → Below w.heap.size w w' → wpList P ops Q rest (a.put o.dst (.slice (some ⟨g, 0, none⟩) l c)) w') : wpList P ops Q (o :: rest) a w :=
  wpList_guarded g' b d' hg hd' hv fun K hK => st_make t x y ho e i z ht hi hz hsz hzc kl kc l c l' c' hx hy hl' hc' hlc hlen hc fun g w' h1 h2 h3 h4 => hK _ _ (hk g w' h1 h2 h3 h4)
theorem rep_bs {w : World} {g n : Nat} (h : Row w 5 g (List.replicate n (Value.int .u8 0))) : Bs w w.heap.size (some ⟨g, 0, none⟩) n (List.replicate n 0) := by
  have h1 : Row w 5 g (bv (List.replicate n 0)) := by rw [show bv (List.replicate n 0) = List.replicate n (Value.int .u8 0) by simp [bv]]; exact h
  exact Bs.row h1 (by simp)
theorem by1 (k : Int) (h0 : 0 ≤ k) (h1 : k < 256) : IsBy [k] := fun x hx => by
  obtain rfl : x = k := by simpa using hx
  exact ⟨h0, h1⟩
set_option maxRecDepth 100000 in
set_option maxHeartbeats 2000000 in
theorem bawake_any (w : World) (hT : TabK w) : Calls Tryz.prog 8 #[] w fun e w' => e = .returned (.bool true) ∧ Below w.heap.size w w' := by
  obtain ⟨i0, hi, hz, hsz, hby⟩ := u8_info
  have kc := fun (w : World) (C : Array Value) (n c : Nat) => Lib.run_convert_bytes_const (P := Tryz.prog) w 25 5 C n c Tryz.underlying25 Tryz.underlying5
  have hTw := hide hT
  go_enter Tryz.func8, Tryz.ntmps8
  go_wp2_with fail
  have B1 : Below w.heap.size w (w.alloc (.cells #[.int .u8 115] 5 (1, 2))) := (Below.refl _ _).alloc (Nat.le_refl _) _
  refine (new_ideal _ _ 1 1 w.heap.size B1.size).mono ?_
  rintro e w2 ⟨g, gl, b, rfl, X2, b2⟩
  have B2 := B1.trans (b2.mono B1.size)
  clear B1 b2
  go_wp2_with fail
  refine (one_any w2).mono ?_
  rintro e w3 ⟨rfl, b3⟩
  have B3 := B2.trans (b3.mono B2.size)
  have X3 := X2.later b3
  clear X2 b3 B2
  go_wp2_with fail
  have b4 : Below w3.heap.size w3 (w3.alloc (.cells #[.int .u8 7] 5)) := (Below.refl _ _).alloc (Nat.le_refl _) _
  have hx4 := Bs.lit' w3 5 (0, 0) [7] #[.int .u8 7] 1 _ rfl rfl rfl
  have hy4 : TyB (w3.alloc (.cells #[.int .u8 7] 5)) (some ⟨w3.heap.size, 0, none⟩) := fun p hp => by injection hp with hp; subst hp; exact ⟨_, _, heap_alloc_new _ _⟩
  generalize w3.alloc (.cells #[.int .u8 7] 5) = w4 at *
  have B4 := B3.trans (b4.mono B3.size)
  refine (sealI w4 w.heap.size g gl b _ [] [] qOne 0 none _ 0 0 1 1 [] [7] (X3.later b4) (hTw.out.later B4) ⟨by decide, by decide⟩ (by decide) (by decide) (by decide) Bs.nil_ hx4 (KpB.none _ _ _) hy4.kp).mono ?_
  rintro e w5 hS
  unfold SealRes at hS
  rw [if_pos okOne] at hS
  obtain ⟨A5, c5, kl, he5, hs5, l5, y5, X5, T5⟩ := hS
  have he5 : e = .returned (.tuple #[.slice A5 17 c5, .int .i64 0]) := he5
  subst he5
  have hs5 : Bs w5 w5.heap.size A5 17 (List.replicate 17 0) := tok0 17 (by decide) ▸ hs5
  have X5 : BxI w5 w.heap.size g gl b _ [sOne] [] := X5
  have B5 := B4.trans (T5.below B4.size)
  clear T5 hx4 hy4 b4 X3 B3 B4
  go_wp2_with fail
  refine (one_any w5).mono ?_
  rintro e w6 ⟨rfl, b6⟩
  have B6 := B5.trans (b6.mono B5.size)
  go_wp2_with fail
  refine (openI w6 w.heap.size g gl b _ [sOne] [] qOne 0 none A5 0 0 17 c5 [] _ (X5.later b6) (hTw.out.later B6) ⟨by decide, by decide⟩ (by decide) (by decide) bySOne (by decide) (by decide) Bs.nil_ (fun _ h => by cases h) (hs5.later b6) (byRep _)).mono ?_
  rintro e w7 ⟨v, rfl, hO, b7⟩
  rw [op1, show opnX qOne 0 17 (some [7]) = [7] from by decide, show opnE qOne 0 17 (some [7]) = 0 from by decide] at hO
  obtain ⟨A7, c7, rfl, h7, l7, y7⟩ := hO
  have B7 := B6.trans (b7.mono B6.size)
  have b57 := b6.trans (b7.mono b6.size)
  go_wp2_with fail
  refine (one_any w7).mono ?_
  rintro e w8 ⟨rfl, b8⟩
  have B8 := B7.trans (b8.mono B7.size)
  have b58 := b57.trans (b8.mono b57.size)
  go_wp2_with fail
  refine (openI w8 w.heap.size g gl b _ [sOne] [] qOne 1 none A5 0 0 17 c5 [] _ (X5.later b58) (hTw.out.later B8) ⟨by decide, by decide⟩ (by decide) (by decide) bySOne (by decide) (by decide) Bs.nil_ (fun _ h => by cases h) (hs5.later b58) (byRep _)).mono ?_
  rintro e w9 ⟨v, rfl, hO, b9⟩
  rw [op2, show opnX qOne 1 17 none = [] from by decide, show opnE qOne 1 17 none = 6 from by decide] at hO
  obtain ⟨A9, c9, rfl, h9, l9, y9⟩ := hO
  clear y9
  have B9 := B8.trans (b9.mono B8.size)
  have b59 := b58.trans (b9.mono b58.size)
  have X9 := X5.later b59
  have hs9 := hs5.later b59
  have y9 := y5.later b59
  have h7 := (h7.later b8).later b9
  have y7 := (y7.later b8).later b9
  have hD : size (DataW.put (.map [] : DU) kl (.held (.agg ([] : List Value).toArray))) = 1 := rfl
  clear X5 hs5 y5 h9 b6 b7 b8 b9 b57 b58 b59 B5 B6 B7 B8
  go_wp2_with fail
  refine (one_any w9).mono ?_
  rintro e w10 ⟨rfl, b10⟩
  have B10 := B9.trans (b10.mono B9.size)
  go_wp2_with fail
  have b11 : Below w10.heap.size w10 (w10.alloc (.cells #[.int .u8 109] 5 (1, 2))) := (Below.refl _ _).alloc (Nat.le_refl _) _
  have hx11 := Bs.lit' w10 5 (1, 2) [109] #[.int .u8 109] 1 _ rfl rfl rfl
  generalize w10.alloc (.cells #[.int .u8 109] 5 (1, 2)) = w11 at *
  have B11 := B10.trans (b11.mono B10.size)
  have b911 := b10.trans (b11.mono b10.size)
  refine (markI w11 w.heap.size g gl b _ [sOne] [] qOne _ 1 1 [109] (X9.later b911) (hTw.out.later B11) (by decide) hx11).mono ?_
  rintro e w12 hM
  unfold MarkRes at hM
  rw [if_pos okOne] at hM
  obtain ⟨A12, c12, rfl, hm12, lm12, ym12, X12, T12⟩ := hM
  have hm12 : Bs w12 w12.heap.size A12 32 (List.replicate 32 0) := tok0 32 (by decide) ▸ hm12
  have X12 : BxI w12 w.heap.size g gl b _ [sOne] [mOne] := X12
  have hs12 := (T12.bs (hs9.later b911) (y9.later b911)).1
  have h7y : Bs w12 w12.heap.size A7 1 [7] := (T12.bs (h7.later b911) (y7.later b911)).1
  have B12 := B11.trans (T12.below B11.size)
  clear T12 hx11 b911 b10 b11 B9 B10 B11 X9 hs9 y9 ym12 h7 y7
  have q1 : (Lib.bytesOf (List.replicate 17 0) == Lib.bytesOf (List.replicate 17 0)) = true := by simp
  have q2 : (Lib.bytesOf [7] == Lib.bytesOf [7]) = true := by simp
  go_wp2_with (first
    | (with_reducible refine wg_make 2 true 44 rfl rfl rfl 25 (.const (.int .i64 17)) (.const (.int .i64 17)) rfl 5 i0 (.int .u8 0) Tryz.underlying25 hi hz hsz rfl .i64 .i64 17 17 _ _ rfl rfl rfl rfl (Nat.le_refl _) (by rw [hby]; omega) (by omega) ?_; intro g13 w13 r13 p13 l13 b13))
  have hz13 := rep_bs r13
  refine (equal_any _ _ 17 17 c5 17 _ _ w13 (hs12.later b13) hz13).mono ?_
  rintro e w' ⟨rfl, rfl⟩
  go_wp2_with fail
  have b14 : Below w13.heap.size w13 (w13.alloc (.cells #[.int .u8 7] 5)) := (Below.refl _ _).alloc (Nat.le_refl _) _
  have hx14 := Bs.lit' w13 5 (0, 0) [7] #[.int .u8 7] 1 _ rfl rfl rfl
  generalize w13.alloc (.cells #[.int .u8 7] 5) = w14 at *
  refine (equal_any A7 _ 1 1 c7 1 [7] [7] w14 ((h7y.later b13).later b14) hx14).mono ?_
  rintro e w' ⟨rfl, rfl⟩
  have b1214 := b13.trans (b14.mono b13.size)
  have X14 := X12.later b1214
  have hm14 := hm12.later b1214
  have B14 := B12.trans (b1214.mono B12.size)
  clear hx14 h7y b13 b14 b1214 X12 hm12 hs12 hz13 r13 B12
  go_wp2_with fail
  refine (one_any w14).mono ?_
  rintro e w15 ⟨rfl, b15⟩
  go_wp2_with fail
  have b16 : Below w15.heap.size w15 (w15.alloc (.cells #[.int .u8 109] 5 (1, 2))) := (Below.refl _ _).alloc (Nat.le_refl _) _
  have hx16 := Bs.lit' w15 5 (1, 2) [109] #[.int .u8 109] 1 _ rfl rfl rfl
  generalize w15.alloc (.cells #[.int .u8 109] 5 (1, 2)) = w16 at *
  have b1416 := b15.trans (b16.mono b15.size)
  have B16 := B14.trans (b1416.mono B14.size)
  refine (checkI w16 w.heap.size g gl b _ [sOne] [mOne] qOne A12 _ 32 c12 1 1 [109] _ (X14.later b1416) (hTw.out.later B16) (by decide) byMOne hx16 (by1 109 (by decide) (by decide)) (hm14.later b1416) (byRep _) (by decide)).mono ?_
  rintro e w17 ⟨rfl, b17⟩
  rw [okOne, ck1]
  have b1417 := b1416.trans (b17.mono b1416.size)
  have X17 := X14.later b1417
  have hm17 := hm14.later b1417
  have B17 := B14.trans (b1417.mono B14.size)
  clear hx16 b15 b16 b17 b1416 b1417 X14 hm14 B14 B16
  go_wp2_with fail
  refine (one_any w17).mono ?_
  rintro e w18 ⟨rfl, b18⟩
  go_wp2_with fail
  have b19 : Below w18.heap.size w18 (w18.alloc (.cells #[.int .u8 110] 5 (1, 2))) := (Below.refl _ _).alloc (Nat.le_refl _) _
  have hx19 := Bs.lit' w18 5 (1, 2) [110] #[.int .u8 110] 1 _ rfl rfl rfl
  generalize w18.alloc (.cells #[.int .u8 110] 5 (1, 2)) = w19 at *
  have b1719 := b18.trans (b19.mono b18.size)
  have B19 := B17.trans (b1719.mono B17.size)
  refine (checkI w19 w.heap.size g gl b _ [sOne] [mOne] qOne A12 _ 32 c12 1 1 [110] _ (X17.later b1719) (hTw.out.later B19) (by decide) byMOne hx19 (by1 110 (by decide) (by decide)) (hm17.later b1719) (byRep _) (by decide)).mono ?_
  rintro e w20 ⟨rfl, b20⟩
  rw [okOne, ck2]
  have b1720 := b1719.trans (b20.mono b1719.size)
  have X20 := X17.later b1720
  have B20 := B17.trans (b1720.mono B17.size)
  clear hx19 b18 b19 b20 b1719 b1720 X17 hm17 B17 B19
  go_wp2_with fail
  refine (sealedI X20).mono ?_
  rintro e w21 ⟨rfl, b21⟩
  go_wp2_with fail
  refine (repeatsI (X20.later b21) (by decide)).mono ?_
  rintro e w22 ⟨rfl, b22⟩
  rw [hD]
  have B22 := (B20.trans (b21.mono B20.size)).trans (b22.mono (B20.trans (b21.mono B20.size)).size)
  go_wp2_with fail
  go_ret
  exact ⟨rfl, B22⟩
end Go.Proofs.YtooooncmjhcdbaaGreatDoor
