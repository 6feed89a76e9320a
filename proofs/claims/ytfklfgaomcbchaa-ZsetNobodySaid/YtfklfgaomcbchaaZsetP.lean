/-
  A set's calls, next part: Between, At, Clone. Own work.
-/
import Derived.Test.YtfklfgaomcbchaaZsetO
namespace Go.Proofs.Ytfklfgaomcbchaa
open Go.RowKit Go.Shelf
set_option linter.unusedVariables false
set_option linter.unusedSimpArgs false
/-- How far a list begins with what is so, if what stands ahead of such a one is so too. -/
theorem while_iff {p : Sc → Bool} : ∀ {L : List Sc}, L.Pairwise (fun a b => p b = true → p a = true) → ∀ (i : Nat) (y : Sc), L[i]? = some y → p y = decide (i < (L.takeWhile p).length)
  | [], _, i, y, h => by simp at h
  | z :: r, hr, i, y, h => by
    have hr2 := List.Pairwise.of_cons hr
    have hz := (List.pairwise_cons.1 hr).1
    cases hzx : p z with
    | true =>
      have e : ((z :: r).takeWhile p).length = (r.takeWhile p).length + 1 := by simp [List.takeWhile_cons, hzx]
      match i with
      | 0 =>
        have e2 : z = y := by simpa using h
        subst e2
        rw [hzx, e]; simp
      | i + 1 =>
        have h2 : r[i]? = some y := by simpa using h
        rw [while_iff hr2 i y h2, e]
        simp
    | false =>
      have e : ((z :: r).takeWhile p).length = 0 := by simp [List.takeWhile_cons, hzx]
      rw [e]
      have hlt : ¬ i < 0 := by omega
      rw [decide_eq_false hlt]
      match i with
      | 0 =>
        have e2 : z = y := by simpa using h
        subst e2; exact hzx
      | i + 1 =>
        have h2 : r[i]? = some y := by simpa using h
        have h3 := hz y (List.mem_of_getElem? h2)
        cases h4 : p y with
        | false => rfl
        | true => rw [h3 h4] at hzx; exact absurd hzx (by decide)
theorem between_filter {p q : Sc → Bool} : ∀ {L : List Sc}, L.Pairwise (fun a b => p b = true → p a = true) → L.Pairwise (fun a b => q b = true → q a = true) →
    (L.drop (L.takeWhile p).length).take ((L.takeWhile q).length - (L.takeWhile p).length) = L.filter fun a => !p a && q a
  | [], _, _ => rfl
  | a :: r, hp, hq => by
    have ih := between_filter (List.Pairwise.of_cons hp) (List.Pairwise.of_cons hq)
    have hp1 := (List.pairwise_cons.1 hp).1
    have hq1 := (List.pairwise_cons.1 hq).1
    have noq : q a = false → r.filter (fun b => !p b && q b) = [] := fun h => by
      rw [List.filter_eq_nil_iff]
      intro b hb hc
      have : q b = true := by simp at hc; exact hc.2
      rw [hq1 b hb this] at h; cases h
    cases hpa : p a with
    | true =>
      cases hqa : q a with
      | true =>
        rw [List.takeWhile_cons (p := p), if_pos hpa, List.takeWhile_cons (p := q), if_pos hqa, List.length_cons, List.length_cons, List.drop_succ_cons, Nat.add_sub_add_right, ih, List.filter_cons, if_neg (by simp [hpa])]
      | false =>
        rw [List.takeWhile_cons (p := q), if_neg (by simp [hqa]), List.length_nil, Nat.zero_sub, List.take_zero, List.filter_cons, if_neg (by simp [hpa]), noq hqa]
    | false =>
      have e0 : (r.takeWhile p).length = 0 := by
        cases r with
        | nil => rfl
        | cons b r2 =>
          rw [List.takeWhile_cons, if_neg]
          · rfl
          · intro hb
            rw [hp1 b (by simp) hb] at hpa; cases hpa
      rw [List.takeWhile_cons (p := p), if_neg (by simp [hpa]), List.length_nil, List.drop_zero, Nat.sub_zero]
      rw [e0, List.drop_zero, Nat.sub_zero] at ih
      cases hqa : q a with
      | true => rw [List.takeWhile_cons, if_pos hqa, List.length_cons, List.take_succ_cons, ih, List.filter_cons, if_pos (by simp [hpa, hqa])]
      | false => rw [List.takeWhile_cons, if_neg (by simp [hqa]), List.length_nil, List.take_zero, List.filter_cons, if_neg (by simp [hqa]), noq hqa]
theorem Rising.low {L : List Sc} (h : Rising L) (y : Int) : L.Pairwise fun a b => decide (b.s < y) = true → decide (a.s < y) = true :=
  h.imp fun {a b} hab hb => by
    have hb2 := of_decide_eq_true hb
    rcases (Sc.less_iff a b).1 hab with e | e
    · exact decide_eq_true (by omega)
    · exact decide_eq_true (by omega)
theorem Rising.high {L : List Sc} (h : Rising L) (y : Int) : L.Pairwise fun a b => decide (b.s ≤ y) = true → decide (a.s ≤ y) = true :=
  h.imp fun {a b} hab hb => by
    have hb2 := of_decide_eq_true hb
    rcases (Sc.less_iff a b).1 hab with e | e
    · exact decide_eq_true (by omega)
    · exact decide_eq_true (by omega)
def betw (L : List Sc) (x y : Int) : List Sc := L.filter fun a => !decide (a.s < x) && decide (a.s ≤ y)
set_option maxRecDepth 100000 in
/-- Between. -/
theorem between_any (w : World) (B gz mb : Nat) (hd : Nd) (Ls : List Nd) (x y : Int) (h : ZSet w B gz mb hd Ls) (hl : Ls.length ≤ 1000000) : Calls Try.prog 19 #[ptr gz, .int .i64 x, .int .i64 y] w fun e w' => ∃ v, e = .returned v ∧ OwnS w' w.heap.size v (betw (scs Ls) x y) ∧ Below w.heap.size w w' := by
  have hf := between_filter (h.rise.low x) (h.rise.high y)
  have hk : ∀ p : Sc → Bool, ((scs Ls).takeWhile p).length ≤ Ls.length := fun p => by have := (List.takeWhile_sublist p (l := scs Ls)).length_le; simpa using this
  have HB := fun w1 (hb : Below w.heap.size w w1) g1 g2 (h1 : Row w1 3 g1 [.int .i64 x]) (h2 : Row w1 3 g2 [.int .i64 y]) => behind_any w1 B gz mb ((scs Ls).takeWhile fun a => decide (a.s < x)).length ((scs Ls).takeWhile fun a => decide (a.s ≤ y)).length hd Ls 35 36 #[ptr g1] #[ptr g2] (h.row.later hb) (h.z.later hb) h.h16 (hk _) (hk _) hl callbetween1
    (fun w2 hb2 i m hm => by
      have e := while_iff (h.rise.low x) i m.a (by simp [scs, hm])
      rw [← e]; exact between1_any w2 m.a i x g1 (h1.later hb2)) callbetween2
    (fun w2 hb2 i m hm => by
      have e := while_iff (h.rise.high y) i m.a (by simp [scs, hm])
      rw [← e]; exact between2_any w2 m.a i y g2 (h2.later hb2))
  rw [show (betw (scs Ls) x y) = _ from hf.symm]
  generalize ((scs Ls).takeWhile fun a => decide (a.s < x)).length = k1 at *
  generalize ((scs Ls).takeWhile fun a => decide (a.s ≤ y)).length = k2 at *
  replace HB := hide HB
  clear h hl hk hf
  go_enter Try.func19, Try.ntmps19
  go_wp2_with (first
    | (with_reducible refine wl_box (o := ⟨some 4, _, _, _, _, _⟩) rfl 3 (.tmp 1) _ [.int .i64 x] rfl rfl rfl ?_; intro g4 w4 r4 p4 l4 b4)
    | (with_reducible refine wl_box (o := ⟨some 5, _, _, _, _, _⟩) rfl 3 (.tmp 2) _ [.int .i64 y] rfl rfl rfl ?_; intro g5 w5 r5 p5 l5 b5))
  have B5 := b4.trans (b5.mono b4.size)
  refine (HB.out _ B5 g4 g5 (r4.later b5) r5).mono ?_
  rintro e w6 ⟨v, rfl, own, b6⟩
  go_wp2_with fail
  go_ret
  exact ⟨_, rfl, own_lo own B5.size, B5.trans (b6.mono B5.size)⟩
/-- A member of a list of one's own. -/
theorem own_cells {w : World} {T : Nat} {v : Value} {l : List Sc} {i : Nat} {a : Sc} (h : OwnS w T v l) (hi : l[i]? = some a) : ∃ g cap, v = .slice (some ⟨g, 0, none⟩) l.length cap ∧ T ≤ g ∧ g < w.heap.size ∧ ∀ (i : Nat) (a : Sc) (j : Nat) (u : Value), l[i]? = some a → a.cells[j]? = some u → w.cell? ⟨g, i * 2 + j, none⟩ = some u := by
  have hlt : i < l.length := (List.getElem?_eq_some_iff.1 hi).1
  rcases h.2 with ⟨_, h0⟩ | ⟨g, cap, cur, e, hT, hg, h1, h2, h3, h4⟩
  · omega
  · refine ⟨g, cap, e, hT, (Array.getElem?_eq_some_iff.1 hg).1, fun i a j u hi hj => ?_⟩
    have hil : i < l.length := (List.getElem?_eq_some_iff.1 hi).1
    have hjl : j < 2 := (List.getElem?_eq_some_iff.1 hj).1
    have key : ∀ (l : List Sc) (i : Nat), l[i]? = some a → (scsC l)[i * 2 + j]? = some u := by
      intro l
      induction l with
      | nil => intro i h; simp at h
      | cons b r ih =>
        intro i h
        match i with
        | 0 =>
          obtain rfl : b = a := by simpa using h
          show (b.cells ++ scsC r)[0 * 2 + j]? = _
          rw [List.getElem?_append_left (by show 0 * 2 + j < 2; omega), Nat.zero_mul, Nat.zero_add, hj]
        | i + 1 =>
          show (b.cells ++ scsC r)[(i + 1) * 2 + j]? = _
          rw [List.getElem?_append_right (by show 2 ≤ _; omega), show (i + 1) * 2 + j - b.cells.length = i * 2 + j by show (i + 1) * 2 + j - 2 = _; omega]
          exact ih i (by simpa using h)
    have e2 : (cur.toList.take (l.length * 2))[i * 2 + j]? = some u := by rw [h4]; exact key l i hi
    rw [List.getElem?_take, if_pos (by omega)] at e2
    rw [cell_of_row w g _ cur _ (0, 0) hg, ← Array.getElem?_toList]
    exact e2
theorem results_rt2 {P : Program} {fn : Func} {p u : Tmp} {ty : TypeId} (h : fn.results = #[.cell p ty, .tmp u]) (tmps : Array Value) (w : World) (g : Nat) (t : TypeId) (cs : List Value) (d : TypeDesc) (v : Value)
    (hp : tmps.getD p undef = .pointer (some ⟨g, 0, none⟩)) (hg : Row w t g cs)
    (hu : P.underlying ty = some d) (hd : (match d with | .struct _ | .array _ _ => true | _ => false) = true) (hi : (P.info? ty).map (·.size) = some cs.length) (hv : tmps.getD u undef = v) :
    (results fn tmps).run P w = .ok (.tuple #[.agg cs.toArray, v]) w := by
  rw [results_cell_tmp h, hp, hv]
  simp [asAddr, run_loadVar_row w g t ty cs.toArray (0, 0) d hg hu hd (by simpa using hi)]
theorem builtSc0 : Try.prog.built 35 [] = some [encStr [], .int .i64 0].toArray := by kernel_rfl
theorem szSc0 : (Try.prog.info? 35).map (·.size) = some [encStr [], Value.int .i64 0].length := by kernel_rfl
set_option maxRecDepth 100000 in
set_option maxHeartbeats 1000000 in
/-- At of a place that there is not. -/
theorem at_no (w : World) (B gz mb : Nat) (hd : Nd) (Ls : List Nd) (x : Int) (h : ZSet w B gz mb hd Ls) (hx : x < 0 ∨ (Ls.length : Int) ≤ x) : Calls Try.prog 17 #[ptr gz, .int .i64 x] w fun e w' => e = .returned (.tuple #[.agg [encStr [], .int .i64 0].toArray, .bool false]) ∧ Below w.heap.size w w' := by
  have HL := fun w1 (hb : Below w.heap.size w w1) => len_any w1 B gz mb hd Ls (h.later hb)
  have hz0 : (Value.agg #[.string ByteArray.empty, .int .i64 0]).cells = [encStr [], Value.int .i64 0].toArray := rfl
  have hbu := builtSc0
  clear h
  by_cases h0 : x < 0
  · go_enter Try.func17, Try.ntmps17
    go_wp2_with (first
      | (with_reducible refine wl_alloc (o := ⟨some 4, _, _, _, _, _⟩) rfl 35 _ [encStr [], .int .i64 0] rfl rfl rfl ?_; intro g4 w4 r4 p4 l4 b4)
      | (with_reducible refine wl_build (o := ⟨some 14, _, _, _, _, _⟩) rfl 35 [] rfl [] rfl [encStr [], .int .i64 0] hbu ?_)
      | (with_reducible refine wl_store_row rfl 35 (.tmp 4) (.tmp 14) g4 35 _ [encStr [], .int .i64 0] rfl rfl rfl r4 szSc0 rfl (by simp [Value.oneCell', encStr]) ?_; intro w5 r5 o5))
    refine bodyPost_ret (v := .tuple #[.agg [encStr [], .int .i64 0].toArray, .bool false]) ?_ rfl ⟨rfl, b4.trans (o5.below p4)⟩
    exact results_rt2 Try.results17 _ _ g4 35 _ _ _ rfl r5 Try.underlying35 rfl szSc0 rfl
  · have h1 : (Ls.length : Int) ≤ x := by omega
    go_enter Try.func17, Try.ntmps17
    go_wp2_with (first
      | (with_reducible refine wl_alloc (o := ⟨some 4, _, _, _, _, _⟩) rfl 35 _ [encStr [], .int .i64 0] rfl rfl rfl ?_; intro g4 w4 r4 p4 l4 b4))
    refine (HL _ b4).mono ?_
    rintro e w5 ⟨rfl, rfl⟩
    go_wp2_with (first
      | (with_reducible refine wl_build (o := ⟨some 14, _, _, _, _, _⟩) rfl 35 [] rfl [] rfl [encStr [], .int .i64 0] hbu ?_)
      | (with_reducible refine wl_store_row rfl 35 (.tmp 4) (.tmp 14) g4 35 _ [encStr [], .int .i64 0] rfl rfl rfl r4 szSc0 rfl (by simp [Value.oneCell', encStr]) ?_; intro w6 r6 o6))
    refine bodyPost_ret (v := .tuple #[.agg [encStr [], .int .i64 0].toArray, .bool false]) ?_ rfl ⟨rfl, b4.trans (o6.below p4)⟩
    exact results_rt2 Try.results17 _ _ g4 35 _ _ _ rfl r6 Try.underlying35 rfl szSc0 rfl
end Go.Proofs.Ytfklfgaomcbchaa
