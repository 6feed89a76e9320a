/-
  A parser: New, Left, Feed. Contracts. Own work.
-/
import Derived.Test.YthjcmgjmdjihnaaDoorRespI
import Derived.Test.YthjcmgjmdjihnaaDoorRespMb
import Derived.Deep.DeepAppendWide
namespace Go.Proofs.YthjcmgjmdjihnaaDoor
open Go.RowKit Go.Shelf
set_option linter.unusedVariables false
set_option linter.unusedSimpArgs false
/-- 'append(l, src...)' of bytes: the row is one's own, the source lies wherever, or is nil; where the row lies then. -/
theorem wl_append_bsA {P : Program} {w : World} {ops : Array Oper} {rest : List Oper} {o : Oper} {a : Act} {Q : Exit → Act → World → Prop} (hgd : o.guard = none) (s x : Operand) (t : TypeId) (ho : o.op = .call { callee := .builtin .append, args := #[s, x], argTypes := #[t, t] })
    (base : Nat) (e : TypeId) (i : TypeInfo) (ht : P.underlying t = some (.slice e)) (hi : P.info? e = some i) (hz : i.zero = some (.int .u8 0)) (hsz : i.size = 1) (hby : i.bytes = 1)
    (v : Value) (n : Nat) (xs : List Int) (hs : a.eval s = v) (hown : w.ownsRow base e 1 v n (bv xs)) (B : Nat) (A : Option Addr) (m c : Nat) (ys : List Int) (hx : a.eval x = .slice A m c) (hr : Bs w B A m ys) (hroom : n + m ≤ 140737488355328 ∨ (v = .slice none 0 0 ∧ n + m ≤ 150000000000000)) (hbase : base ≤ w.heap.size)
    (N : Nat) (zs : List Int) (hN : n + m = N) (hzs : xs ++ ys = zs)
    (hk : ∀ v' w', w'.ownsRow base e 1 v' N (bv zs) → w.grownBy w' v.ownBlock → (∀ k, v'.ownBlock = some k → v.ownBlock = some k ∨ w.heap.size ≤ k) → wpList P ops Q rest (a.put o.dst v') w') : wpList P ops Q (o :: rest) a w := by
  subst hN
  subst hzs
  refine wpList_plain hgd fun K hK => ?_
  have key : ∃ v' w', (Builtin.append_ #[t, t] o.type #[v, .slice A m c]).run P w = .ok v' w' ∧ w'.ownsRow base e 1 v' (n + m) (bv (xs ++ ys)) ∧ w.grownBy w' v.ownBlock ∧ (∀ k, v'.ownBlock = some k → v.ownBlock = some k ∨ w.heap.size ≤ k) := by
    rcases A with _ | ad
    · obtain rfl : m = 0 := by
        rcases Nat.eq_zero_or_pos m with h0 | h0
        · exact h0
        · obtain ⟨_, _, h, _⟩ := hr.2 h0; cases h
      obtain rfl : ys = [] := List.eq_nil_of_length_eq_zero hr.1
      refine ⟨v, w, ?_, by simpa using hown, ⟨rfl, rfl, rfl, Nat.le_refl _, fun _ _ _ => rfl⟩, fun k hk => .inl hk⟩
      rcases hown.2 with ⟨rfl, rfl⟩ | ⟨g, cap, cur, rfl, _, _, hnc, _⟩
      · simp [Builtin.append_, run_underlying ht, sizeOf, typeInfo, hi, Builtin.lenOf, Builtin.firstCells]
      · simp [Builtin.append_, run_underlying ht, sizeOf, typeInfo, hi, Builtin.lenOf, Builtin.firstCells, hnc, storeCells]
    · rcases hroom with h47 | ⟨hv, hw⟩
      · obtain ⟨v', w', r1, r2, r3, _, r5⟩ := run_append_own_at (P := P) w base t o.type e i _ 1 1 ht hi hz hsz hby rfl (by decide) v n (bv xs) hown ad m c (bv ys) (by rw [bv_len, hr.1, Nat.mul_one]) (fun j u hu => hr.cells rfl j u hu) (bv_one ys) (by simp only [maxLen]; omega) (by omega) hbase
        exact ⟨v', w', r1, by rw [bv, List.map_append]; exact r2, r3, fun k hk => r5.elim (fun h => .inl (h ▸ hk)) (fun h => by rw [h] at hk; injection hk with hk; exact .inr (Nat.le_of_eq hk))⟩
      · subst hv
        have hn : n = 0 := by
          rcases hown.2 with ⟨_, h0⟩ | ⟨g, cap, cur, e1, _⟩
          · exact h0
          · cases e1
        subst hn
        have hx0 : xs = [] := List.eq_nil_of_length_eq_zero (by have := hown.1; rw [bv_len] at this; omega)
        subst hx0
        obtain ⟨v', w', r1, r2, r3, _⟩ := run_append_own_wide (P := P) w w.heap.size t o.type e i _ 1 1 ht hi hz hsz hby rfl (by decide) (.slice none 0 0) 0 [] (World.ownsRow_nil _ _ _ _) ad m c (bv ys) (by rw [bv_len, hr.1, Nat.mul_one]) (fun j u hu => hr.cells rfl j u hu) (bv_one ys) (by simp only [maxLen]; omega) (by omega) (Nat.le_refl _)
        exact ⟨v', w', r1, ⟨r2.1, r2.2.elim .inl (fun ⟨g, cap, cur, q1, q2, q3⟩ => .inr ⟨g, cap, cur, q1, Nat.le_trans hbase q2, q3⟩)⟩, r3, fun k hk => .inr (r2.lt k hk).1⟩
  obtain ⟨v', w', hrun, h2, h3, h4⟩ := key
  unfold Oper.wp execOp
  simp only [ho, resolve, invoke, builtin, Sem.run_bind, Sem.run_pure, Result.andThen_ok, List.map_toArray, List.map_cons, List.map_nil, hs, hx, hrun]
  exact hK _ _ (hk v' w' h2 h3 h4)
theorem u8_infoR : ∃ i, Tryd.prog.info? 5 = some i ∧ i.zero = some (.int .u8 0) ∧ i.size = 1 ∧ i.bytes = 1 := u8_info2
/-- A copy is a row of its own. -/
theorem cloneB (A : Option Addr) (n c : Nat) (xs : List Int) (w : World) (h : Bs w w.heap.size A n xs) (hn : n ≤ 140737488355328) :
    Calls Tryd.prog 17 #[.slice A n c] w fun e w' => ∃ A' c', e = .returned (.slice A' n c') ∧ w'.ownsRow w.heap.size 5 1 (.slice A' n c') n (bv xs) ∧ Below w.heap.size w w' := by
  have q : ∀ (w : World) (a : Option Addr) (n c n' c' : Nat), (binOp .eql 26 (.slice a n c) (.slice none n' c')).run Tryd.prog w = .ok (.bool a.isNone) w := fun w a n c n' c' => Lib.run_eql_slice_nil w _ _ a n c n' c' Tryd.underlying26
  obtain ⟨i0, hi, hz, hsz, hby⟩ := u8_infoR
  rcases A with _ | ad
  · have h0 : n = 0 := by
      rcases Nat.eq_zero_or_pos n with h0 | h0
      · exact h0
      · obtain ⟨_, _, h, _⟩ := h.2 h0; cases h
    subst h0
    obtain rfl : xs = [] := List.eq_nil_of_length_eq_zero h.1
    go_enter Tryd.func17, Tryd.ntmps17
    go_wp2
    go_ret
    exact ⟨none, 0, rfl, World.ownsRow_nil _ _ _ _, Below.refl _ _⟩
  · have hown := World.ownsRow_lit (base := w.heap.size) (e := 5) (size := 1) w #[] 0 (Nat.le_refl _) (by simp) rfl
    go_enter Tryd.func17, Tryd.ntmps17
    go_wp2_with (at_builtin; refine wpList_append_bs rfl (.tmp 5) (.tmp 6) _ rfl w.heap.size 5 i0 Tryd.underlying26 hi hz hsz hby (.slice (some ⟨w.heap.size, 0, none⟩) 0 0) 0 [] rfl hown w.heap.size (some ad) n c xs rfl (h.below ((Below.refl _ _).alloc (Nat.le_refl _) _)) (by omega) (by simp) ?_; intro v1 w1 hown1 hg1)
    go_ret
    have hb := grown_below ((Below.refl _ _).alloc (Nat.le_refl _) _) hown (Nat.le_refl _) hg1
    rw [Nat.zero_add, List.nil_append] at hown1
    rcases hown1.2 with ⟨rfl, h0⟩ | ⟨g, cap, cur, rfl, _⟩
    · subst h0; exact ⟨none, 0, rfl, hown1, hb⟩
    · exact ⟨some ⟨g, 0, none⟩, cap, rfl, hown1, hb⟩
/-- A parser: its block, the row of what is left, the fault. -/
def PsAt (w : World) (g T : Nat) (v : Value) (l : Wd) (f : Nat) : Prop := Row w 46 g [.bool true, v, .int .i64 (f : Int)] ∧ w.ownsRow T 5 1 v l.length (bv (nb l)) ∧ T ≤ w.heap.size
def ownL (v : Value) : List Nat := v.ownBlock.toList
theorem ownL_mem {v : Value} {k : Nat} (h : v.ownBlock = some k) : k ∈ ownL v := by unfold ownL; rw [h]; simp
theorem PsAt.butz {w w' : World} {g T : Nat} {v : Value} {l : Wd} {f : Nat} {S : List Nat} (h : PsAt w g T v l f) (hb : ButZ S w w') (hg : g ∉ S) (hv : ∀ k ∈ S, v.ownBlock ≠ some k) : PsAt w' g T v l f :=
  ⟨h.1.butz hb hg, own_at h.2.1 fun k hk => hb.block k (h.2.1.lt k hk).2 (fun hm => hv k hm hk), Nat.le_trans h.2.2 hb.size⟩
theorem PsAt.later {w w' : World} {g T : Nat} {v : Value} {l : Wd} {f : Nat} (h : PsAt w g T v l f) (hb : Below w.heap.size w w') : PsAt w' g T v l f := h.butz (S := []) (ButZ.of hb) (by simp) (by simp)
set_option maxRecDepth 100000 in
theorem new_ps (w : World) : Calls Tryd.prog 8 #[] w fun e w' => ∃ g, e = .returned (.pointer (some ⟨g, 0, none⟩)) ∧ PsAt w' g w.heap.size (.slice none 0 0) [] 0 ∧ w.heap.size ≤ g ∧ g < w'.heap.size ∧ Below w.heap.size w w' := by
  have hb : Tryd.prog.built 46 [(0, .bool true)] = some [Value.bool true, .slice none 0 0, .int .i64 0].toArray := by kernel_rfl
  go_enter Tryd.func8, Tryd.ntmps8
  go_wp2_with (first
    | (with_reducible refine wl_build (o := ⟨some 1, _, _, _, _, _⟩) rfl 46 [(0, .const (.bool true))] rfl [(0, .bool true)] rfl [.bool true, .slice none 0 0, .int .i64 0] hb ?_)
    | (with_reducible refine wl_box (o := ⟨some 2, _, _, _, _, _⟩) rfl 46 (.tmp 1) (.agg #[.bool true, .slice none 0 0, .int .i64 0]) [.bool true, .slice none 0 0, .int .i64 0] rfl rfl rfl ?_; intro g2 w2 r2 p2 l2 b2))
  go_ret
  exact ⟨g2, rfl, ⟨r2, World.ownsRow_nil _ _ _ _, b2.size⟩, p2, l2, b2⟩
set_option maxRecDepth 100000 in
theorem left_ps (w : World) (g T : Nat) (v : Value) (l : Wd) (f : Nat) (h : PsAt w g T v l f) : Calls Tryd.prog 12 #[.pointer (some ⟨g, 0, none⟩)] w fun e w' => e = .returned (.int .i64 (l.length : Int)) ∧ w = w' := by
  obtain ⟨A, c, hv⟩ := own_slB h.2.1
  have c1 := h.1.cell (j := 1) rfl
  rw [hv] at c1
  clear hv h
  go_enter Tryd.func12, Tryd.ntmps12
  go_wp2_with fail
  go_ret
  exact ⟨rfl, rfl⟩
set_option maxRecDepth 100000 in
theorem left_nil (w : World) : Calls Tryd.prog 12 #[.pointer none] w fun e w' => e = .returned (.int .i64 0) ∧ w = w' := by
  go_enter Tryd.func12, Tryd.ntmps12
  go_wp2_with fail
  go_ret
  exact ⟨rfl, rfl⟩
def FeedRes (w : World) (g T : Nat) (v : Value) (l : Wd) (f : Nat) (b : Wd) (e : Ending) (w' : World) : Prop := ∃ lv v', e = .returned (.tuple #[lv, .int .i64 ((feedL l f b).2.2 : Int)]) ∧ OwC w' w.heap.size lv (feedL l f b).1 ∧ PsAt w' g T v' (feedL l f b).2.1 (feedL l f b).2.2 ∧
  (∀ k, v'.ownBlock = some k → v.ownBlock = some k ∨ w.heap.size ≤ k) ∧ ButZ (g :: ownL v) w w'
def FD4 (g f : Nat) (opn : Nat) (v : Value) : Prop :=
  match opn with
  | 0 | 1 => v = .pointer (some ⟨g, 0, none⟩)
  | 2 => v = .pointer (some ⟨g, 2, none⟩)
  | 3 | 5 => v = .int .i64 (f : Int)
  | 4 => v = .slice none 0 0
  | _ => True

set_option maxRecDepth 100000 in
set_option maxHeartbeats 1000000 in
theorem feed_fl (w : World) (g T : Nat) (v : Value) (l : Wd) (f : Nat) (b : Wd) (A : Option Addr) (c : Nat) (h : PsAt w g T v l f) (hf : f ≠ 0) : Calls Tryd.prog 9 #[.pointer (some ⟨g, 0, none⟩), .slice A b.length c] w (FeedRes w g T v l f b) := by
  have c0 := h.1.cell (j := 0) rfl
  have c2 := h.1.cell (j := 2) rfl
  have hc2 := hide (show ∀ w1, Below w.heap.size w w1 → w1.cell? ⟨g, 2, none⟩ = some (.int .i64 (f : Int)) from fun w1 hb => (h.1.later hb).cell rfl)
  have hfb : ((f : Int) == 0) = false := by rw [beq_eq_false_iff_ne]; omega
  have hfn : ((f : Int) != 0) = true := by rw [bne, hfb]; rfl
  have hff := hide (feed_fault (l := l) (b := b) hf)
  have h9 := hide h
  generalize b.length = nb0
  clear hf h
  go_enter Tryd.func9, Tryd.ntmps9
  go_wp2_with fail
  rename_i K4 hK4
  refine wp_region_vals [] (FD4 g f) (fun _ _ wz => Below w.heap.size w wz) (by kernel_rfl) (by kernel_rfl) (by kernel_rfl) (by kernel_rfl) (by kernel_rfl) ((Below.refl _ _).drew) ?obs4 ?he4
  case obs4 =>
    refine ⟨?_, ?_, ?_, ?_, ?_, ?_, trivial⟩
    · exact .inl ⟨by kernel_rfl, fun L a1 w1 n h => ⟨_, rfl, run_move (.tmp 0) rfl (h.var n 0 (by kernel_rfl))⟩⟩
    · refine .inl ⟨by kernel_rfl, fun L a1 w1 n h => ⟨.pointer (some ⟨g, 0, none⟩), rfl, ?_⟩⟩
      have e0 : a1.eval (.tmp 23) = _ := h.dep n 0 23 (by kernel_rfl) rfl
      unfold execOp
      simp only [e0]
      go_simp
    · refine .inl ⟨by kernel_rfl, fun L a1 w1 n h => ⟨.pointer (some ⟨g, 2, none⟩), rfl, ?_⟩⟩
      have e0 : a1.eval (.tmp 24) = _ := h.dep n 1 24 (by kernel_rfl) rfl
      unfold execOp
      simp only [e0]
      go_simp
    · exact .inl ⟨by kernel_rfl, fun L a1 w1 n h => ⟨_, rfl, run_load1 28 (.tmp 25) g 2 (.int .i64 (f : Int)) rfl Tryd.isAgg28 (h.dep n 2 25 (by kernel_rfl) rfl) (hc2.out w1 h.inv)⟩⟩
    · exact .inl ⟨by kernel_rfl, fun L a1 w1 n h => ⟨_, rfl, run_assign (.const (.slice none 0 0)) rfl rfl⟩⟩
    · exact .inl ⟨by kernel_rfl, fun L a1 w1 n h => ⟨_, rfl, run_assign (.tmp 26) rfl (h.dep n 3 26 (by kernel_rfl) rfl)⟩⟩
  case he4 =>
    intro V w1 hV hJ
    have b1 : Below w.heap.size w w1 := hJ
    have hE : V 5 = .int .i64 (f : Int) := hV 5 _ rfl
    have hE2 : V 4 = .slice none 0 0 := hV 4 _ rfl
    clear hV hJ
    simp only [putOps, List.setIfInBounds_toArray, List.set_cons_succ, List.set_cons_zero, Nat.reduceAdd]
    rw [hE, hE2]
    refine hK4 _ _ ?_
    go_wp2_with fail
    go_ret2
    refine ⟨.slice none 0 0, v, ?_, ?_, ?_, fun k hk => .inl hk, ButZ.of b1⟩
    · rw [hff.out]; rfl
    · rw [hff.out]; exact OwC.nil _ _
    · rw [hff.out]; exact h9.out.later b1
theorem ownL_ne {w : World} {T n t g : Nat} {v : Value} {xs vs : List Value} {e s : Nat} (h : w.ownsRow T e s v n xs) (r : Row w t g vs) (ht : e ≠ t) : g ∉ ownL v := by
  intro hm
  unfold ownL at hm
  rcases h.2 with ⟨rfl, _⟩ | ⟨k, cap, cur, rfl, _, hg, _⟩
  · simp [Value.ownBlock] at hm
  · simp [Value.ownBlock] at hm
    subst hm
    have := hg.symm.trans r
    simp at this
    exact ht this.2
theorem ButZ.own {w w' : World} {v : Value} {S : List Nat} (gr : w.grownBy w' v.ownBlock) (h : ∀ k ∈ ownL v, k ∈ S) : ButZ S w w' :=
  ⟨gr.os, gr.tape, gr.output, gr.size, fun k hk hn => gr.block k hk (fun e => hn (h k (ownL_mem e.symm)))⟩
theorem er_size1 : (Tryd.prog.info? 28).map (·.size) = some 1 := by kernel_rfl
set_option maxRecDepth 100000 in
set_option maxHeartbeats 4000000 in
theorem feed_go (w : World) (g T : Nat) (v : Value) (l : Wd) (b : Wd) (A : Option Addr) (c : Nat) (h : PsAt w g T v l 0) (hb : Bs w w.heap.size A b.length (nb b)) (hT : TabB w T) (hgT : T ≤ g) (hcnt : (pars (l ++ b)).1.length ≤ 100000) (hlen : l.length + b.length ≤ 140737488355328 ∨ (v = .slice none 0 0 ∧ l.length + b.length ≤ 150000000000000 ∧ (pars (l ++ b)).2.2 ≠ 0)) : Calls Tryd.prog 9 #[.pointer (some ⟨g, 0, none⟩), .slice A b.length c] w (FeedRes w g T v l 0 b) := by
  obtain ⟨i8, hi, hz, hsz, hby⟩ := u8_infoR
  obtain ⟨r, own, hTw⟩ := h
  have c0 := r.cell (j := 0) rfl
  have c1 := r.cell (j := 1) rfl
  have c2 := r.cell (j := 2) rfl
  obtain ⟨Av, cv, hv⟩ := own_slB own
  subst hv
  obtain ⟨S, hS⟩ : ∃ S, S = l ++ b := ⟨_, rfl⟩
  have hSl : l.length + b.length = S.length := by rw [hS, List.length_append]
  have hSb : nb l ++ nb b = nb S := by rw [hS, nb_app]
  have hS5 : S.length ≤ 150000000000000 := by omega
  rw [← hS] at hcnt hlen
  have hcnt9 := hide hcnt
  have hroom := hide (show l.length + b.length ≤ 140737488355328 ∨ (Value.slice Av l.length cv = .slice none 0 0 ∧ l.length + b.length ≤ 150000000000000) from hlen.imp id fun h => ⟨h.1, h.2.1⟩)
  have hsmall := hide (show (pars S).2.2 = 0 → S.length ≤ 140737488355328 from fun h0 => hlen.elim (fun h => by omega) (fun h => absurd h0 h.2.2))
  have hSl9 := hide hSl
  have hS59 := hide hS5
  have hgl : g ∉ ownL (.slice Av l.length cv) := ownL_ne own r (by decide)
  have hTb := hide hT
  have hgT9 := hide hgT
  have hS9 := hide hS
  obtain ⟨n1, hn1⟩ : ∃ n, n = l.length := ⟨_, rfl⟩
  obtain ⟨n2, hn2⟩ : ∃ n, n = b.length := ⟨_, rfl⟩
  rw [← hn1] at own c1 hroom hSl9 r hgl ⊢
  rw [← hn2] at hb hroom hSl9 ⊢
  replace hn1 := hide hn1
  replace hn2 := hide hn2
  have r9 := hide r
  have own9 := hide own
  clear hSl hS5 hT hS hlen hgT hcnt
  go_enter Tryd.func9, Tryd.ntmps9
  go_wp2_with (first
    | ((at_builtin; with_reducible refine wl_append_bsA (o := ⟨some 33, _, _, _, _, _⟩) rfl (.tmp 31) (.tmp 32) 26 rfl T 5 i8 Tryd.underlying26 hi hz hsz hby (.slice Av n1 cv) _ (nb l) rfl own w.heap.size A n2 c (nb b) rfl hb hroom.out hTw S.length (nb S) hSl9.out hSb ?_); intro v1 w1 own1 gr1 at1; obtain ⟨A1, c1', hv1⟩ := own_slB own1; have r1 := r.grownS own (by decide) gr1; subst hv1)
    | (with_reducible refine wl_store rfl 26 (.tmp 35) (.tmp 33) g 1 46 _ (.slice A1 S.length c1') rfl sl_size1 rfl rfl r1 (Nat.succ_lt_succ (Nat.succ_pos _)) (dec_one _ _ _) ?_; intro w2 r2 o2; have c6 := r2.cell (j := 1) rfl))
  have hgl1 : g ∉ ownL (.slice A1 S.length c1') := ownL_ne own1 r1 (by decide)
  have hgw := r9.out.lt
  have own2 : w2.ownsRow T 5 1 (.slice A1 S.length c1') S.length (bv (nb S)) := own_at own1 fun k hk => o2.block k (fun e => hgl1 (e ▸ ownL_mem hk))
  have bz2 : ButZ (g :: ownL (.slice Av n1 cv)) w w2 := (ButZ.own gr1 (fun k hk => List.mem_cons_of_mem _ hk)).only o2 (.inr (by simp))
  have hw2 := bz2.size
  have bT2 : Below T w w2 := bz2.below (by
    intro k hk
    rcases List.mem_cons.1 hk with rfl | hk
    · exact hgT9.out
    · unfold ownL at hk
      cases ho : (Value.slice Av n1 cv).ownBlock with
      | none => rw [ho] at hk; simp at hk
      | some q =>
        rw [ho] at hk
        simp at hk
        subst hk
        exact (own9.out.lt _ ho).1) hTw
  have hv1 : ∀ k, (Value.slice A1 S.length c1').ownBlock = some k → (Value.slice Av n1 cv).ownBlock = some k ∨ w.heap.size ≤ k := by
    exact at1
  obtain ⟨A1', c1'', e1, hbs2, hc2', _⟩ := ownsRow_bs own2
  injection e1 with e11 _ e13
  subst e11
  subst e13
  have HC := commands_any w2 A1 c1' S hbs2 hc2' hS59.out hcnt9.out (hTb.out.below bT2).here
  have hdrop := hide (pars_drop S)
  have hplen := hide (pars_len S)
  have hfe := hide (feed_err (l := l) (b := b))
  have hfo := hide (feed_ok (l := l) (b := b))
  rw [← hS9.out] at hfe hfo
  obtain ⟨P, hP⟩ : ∃ P, P = pars S := ⟨_, rfl⟩
  unfold CmsRes at HC
  rw [← hP] at HC hdrop hplen hfe hfo hsmall
  obtain ⟨cm, lf, pe⟩ := P
  simp only at HC hdrop hplen hfe hfo hsmall
  obtain ⟨N0, hN0⟩ : ∃ n, n = S.length - lf.length := ⟨_, rfl⟩
  rw [← hN0] at HC hdrop
  have hN9 := hide hN0
  have own29 := hide own2
  have hbs29 := hide hbs2
  replace hgl1 := hide hgl1
  replace hgl := hide hgl
  clear hP hN0 c0 c1 c2 c6 own own1 gr1 at1 r r1 own2 hbs2
  refine HC.mono ?_
  rintro e w4 ⟨lv, rfl, oc, b4⟩
  clear HC
  have r4 : Row w4 46 g [.bool true, .slice A1 S.length c1', .int .i64 ((0 : Nat) : Int)] := r2.later b4
  have hgw2 : g < w2.heap.size := Nat.lt_of_lt_of_le hgw hw2
  have oc9 := hide oc
  have own4 := hide (own_later own29.out b4)
  have bz4 : ButZ (g :: ownL (.slice Av n1 cv)) w w4 := bz2.trans (ButZ.of b4)
  have hTw9 := hide (show T ≤ w4.heap.size from Nat.le_trans hTw (Nat.le_trans hw2 b4.size))
  by_cases hpe : pe = 0
  · subst hpe
    have hfr := hide (hfo.out rfl)
    by_cases h0 : 0 < N0
    · have h0I : (0 : Int) < (N0 : Int) := by omega
      have hle : N0 ≤ S.length := by have := hN9.out; omega
      have hSF := fun w => run_sliceFrom (P := Tryd.prog) w 26 5 Tryd.underlying26 Tryd.sizeOf5 A1 S.length c1' .i64 N0 hle
      have hbsd : Bs w4 w4.heap.size (subA A1 c1' N0) (S.length - N0) (nb lf) := by
        have := ((hbs29.out.later b4).sub (cap := c1') hle (Nat.le_refl _) hc2')
        rw [List.take_of_length_le (by rw [List.length_drop, nb_len]; exact Nat.le_refl _), nb_drop, hdrop.out] at this
        exact this
      have HB := cloneB (subA A1 c1' N0) (S.length - N0) (c1' - N0) (nb lf) w4 hbsd (by have := hsmall.out rfl; omega)
      have c1 := r4.cell (j := 1) rfl
      have hlf := hide (show S.length - N0 = lf.length by have := hN9.out; have := hplen.out; omega)
      have hle9 := hide hle
      clear hle hbsd h0 hc2'
      go_wp2_with fail
      refine HB.mono ?_
      rintro e w5 ⟨A5, c5, rfl, ow5, b5⟩
      have r5 := r4.later b5
      have ow59 := hide ow5
      clear HB ow5 c1
      go_wp2_with (first
        | (with_reducible refine wl_store rfl 26 (.tmp 67) (.tmp 65) g 1 46 _ (.slice A5 (S.length - N0) c5) rfl sl_size1 rfl rfl r5 (Nat.succ_lt_succ (Nat.succ_pos _)) (dec_one _ _ _) ?_; intro w6 r6 o6))
      go_ret2
      have ow6 := own_at ow59.out fun k hk => o6.block k (fun e => by have := (ow59.out.lt k hk).1; have := b4.size; omega)
      have hT6 : T ≤ w4.heap.size := hTw9.out
      refine ⟨lv, .slice A5 (S.length - N0) c5, ?_, ?_, ⟨?_, ?_, ?_⟩, ?_, ?_⟩
      · rw [hfr.out]; rfl
      · rw [hfr.out]
        exact ((oc9.out.later b5).at fun k hk _ => o6.block k (by omega)).lo hw2
      · rw [hfr.out]; exact r6
      · rw [hfr.out]
        have q := ownsRow_lo ow6 hT6
        rw [hlf.out] at q ⊢
        exact q
      · rw [o6.size]; exact Nat.le_trans hT6 b5.size
      · intro k hk
        exact .inr (by have := (ow6.lt k hk).1; have := b4.size; omega)
      · exact (bz4.trans (ButZ.of b5)).only o6 (.inr (by simp))
    · have h0I : ¬ (0 : Int) < (N0 : Int) := by omega
      have hlf : lf = S := by
        have h1 := hdrop.out
        rw [show N0 = 0 by omega, List.drop_zero] at h1
        exact h1.symm
      replace hlf := hide hlf
      clear h0
      go_wp2_with fail
      go_ret2
      refine ⟨lv, .slice A1 S.length c1', ?_, ?_, ⟨?_, ?_, ?_⟩, hv1, bz4⟩
      · rw [hfr.out]; rfl
      · rw [hfr.out]; exact oc9.out.lo hw2
      · rw [hfr.out]; exact r4
      · rw [hfr.out, hlf.out]; exact own4.out
      · exact hTw9.out
  · have hfr := hide (hfe.out hpe)
    have hpb : ((pe : Int) == 0) = false := by rw [beq_eq_false_iff_ne]; omega
    have hpn : ((pe : Int) != 0) = true := by rw [bne, hpb]; rfl
    clear hpe
    go_wp2_with (first
      | ((with_reducible refine wl_store rfl 26 (.tmp 51) (.const (.slice none 0 0)) g 1 46 _ (.slice none 0 0) rfl sl_size1 rfl rfl r4 (Nat.succ_lt_succ (Nat.succ_pos _)) rfl ?_); intro w5 r5' o5; have r5 : Row w5 46 g [.bool true, .slice none 0 0, .int .i64 ((0 : Nat) : Int)] := r5')
      | (with_reducible refine wl_store rfl 28 (.tmp 53) (.tmp 49) g 2 46 _ (.int .i64 (pe : Int)) rfl er_size1 rfl rfl r5 (Nat.succ_lt_succ (Nat.succ_lt_succ (Nat.succ_pos _))) rfl ?_; intro w6 r6 o6))
    go_ret2
    have o56 := o5.trans o6
    refine ⟨lv, .slice none 0 0, ?_, ?_, ⟨?_, ?_, ?_⟩, ?_, ?_⟩
    · rw [hfr.out]; rfl
    · rw [hfr.out]
      exact (oc9.out.at fun k hk _ => o56.block k (by omega)).lo hw2
    · rw [hfr.out]; exact r6
    · rw [hfr.out]; exact World.ownsRow_nil _ _ _ _
    · rw [o56.size]; exact hTw9.out
    · intro k hk; cases hk
    · exact bz4.only o56 (.inr (by simp))
end Go.Proofs.YthjcmgjmdjihnaaDoor
