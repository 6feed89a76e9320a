/-
  The law RespPieces. Own work.
-/
import Derived.Test.YthjcmgjmdjihnaaDoorRespO
namespace Go.Proofs.YthjcmgjmdjihnaaDoor
open Go.RowKit Go.Shelf
set_option linter.unusedVariables false
set_option linter.unusedSimpArgs false
section
variable {P : Program}
/-- '[]T{}'. -/
theorem wl_build0N {ops : Array Oper} {rest : List Oper} {o : Oper} {a : Act} {w : World} {Q : Exit → Act → World → Prop} (hgd : o.guard = none) (t : TypeId) (ho : o.op = .buildSlice t 0 #[]) (e : TypeId) (i : TypeInfo) (size : Nat) (ht : P.underlying t = some (.slice e)) (hi : P.info? e = some i) (hsz : i.size = size)
    (hk : ∀ v w', w'.ownsRow w.heap.size e size v 0 [] → Below w.heap.size w w' → wpList P ops Q rest (a.put o.dst v) w') : wpList P ops Q (o :: rest) a w := by
  refine wpList_plain hgd fun K hK => ?_
  have hss : ∀ w, (sizeOf e).run P w = .ok size w := fun w => by simp [sizeOf, typeInfo, hi, hsz]
  have hr : (Array.range 0) = #[] := rfl
  have hrun : (Instr.buildSlice t 0 #[]).run P w = .ok (.slice (some ⟨w.heap.size, 0, none⟩) 0 0) (w.alloc (.cells #[] e)) := by
    simp [Instr.buildSlice, run_underlying ht, hss, hr, Instr.fill, newRow]
  unfold Oper.wp execOp
  simp only [ho, List.map_toArray, List.map_nil, hrun, Sem.run_bind, Result.andThen_ok, Sem.run_pure]
  exact hK _ _ (hk _ _ (World.ownsRow_made w #[] 0 (Nat.le_refl _) (by simp [maxLen]) (by simp)) ((Below.refl _ _).alloc (Nat.le_refl _) _))
/-- 'append(l, src...)': the row is one's own, the source lies wherever, or is nil. -/
theorem wl_append_src {w : World} {ops : Array Oper} {rest : List Oper} {o : Oper} {a : Act} {Q : Exit → Act → World → Prop} (hgd : o.guard = none) (s x : Operand) (t : TypeId) (ho : o.op = .call { callee := .builtin .append, args := #[s, x], argTypes := #[t, t] })
    (base : Nat) (e : TypeId) (i : TypeInfo) (z : Value) (size bytes : Nat) (ht : P.underlying t = some (.slice e)) (hi : P.info? e = some i) (hz : i.zero = some z) (hsz : i.size = size) (hby : i.bytes = bytes) (hzc : z.cells.size = size) (h0 : 0 < size)
    (v : Value) (n : Nat) (xs : List Value) (hs : a.eval s = v) (hown : w.ownsRow base e size v n xs) (A : Option Addr) (m c : Nat) (ys : List Value) (hx : a.eval x = .slice A m c) (hyl : ys.length = m * size) (hA : A = none → m = 0) (hsrc : ∀ ad, A = some ad → ∀ j u, ys[j]? = some u → w.cell? (ad.add j) = some u) (h1 : ∀ u ∈ ys, u.oneCell' = true) (h63 : n + m ≤ maxLen) (hbytes : (n + m) * bytes ≤ 140737488355328) (hbase : base ≤ w.heap.size)
    (hk : ∀ v' w', w'.ownsRow base e size v' (n + m) (xs ++ ys) → w.grownBy w' v.ownBlock → wpList P ops Q rest (a.put o.dst v') w') : wpList P ops Q (o :: rest) a w := by
  refine wpList_plain hgd fun K hK => ?_
  have key : ∃ v' w', (Builtin.append_ #[t, t] o.type #[v, .slice A m c]).run P w = .ok v' w' ∧ w'.ownsRow base e size v' (n + m) (xs ++ ys) ∧ w.grownBy w' v.ownBlock := by
    rcases A with _ | ad
    · obtain rfl := hA rfl
      obtain rfl : ys = [] := List.eq_nil_of_length_eq_zero (by omega)
      refine ⟨v, w, ?_, by simpa using hown, ⟨rfl, rfl, rfl, Nat.le_refl _, fun _ _ _ => rfl⟩⟩
      rcases hown.2 with ⟨rfl, rfl⟩ | ⟨g, cap, cur, rfl, _, _, hnc, _⟩
      · simp [Builtin.append_, run_underlying ht, sizeOf, typeInfo, hi, Builtin.lenOf, Builtin.firstCells]
      · simp [Builtin.append_, run_underlying ht, sizeOf, typeInfo, hi, Builtin.lenOf, Builtin.firstCells, hnc, storeCells]
    · obtain ⟨v', w', r1, r2, r3, _⟩ := run_append_own (P := P) w base t o.type e i z size bytes ht hi hz hsz hby hzc h0 v n xs hown ad m c ys hyl (hsrc ad rfl) h1 h63 hbytes hbase
      exact ⟨v', w', r1, r2, r3⟩
  obtain ⟨v', w', hrun, h2, h3⟩ := key
  unfold Oper.wp execOp
  simp only [ho, resolve, invoke, builtin, Sem.run_bind, Sem.run_pure, Result.andThen_ok, List.map_toArray, List.map_cons, List.map_nil, hs, hx, hrun]
  exact hK _ _ (hk v' w' h2 h3)
end
theorem run_remZ {P : Program} {w : World} {a : Act} {o : Oper} {t s : Nat} {u v z : Int} (x y : Operand) (ho : o.op = .binOp .rem t x y s) (hx : a.eval x = .int .i64 u) (hy : a.eval y = .int .i64 v) (hv : v ≠ 0) (hz : u.tmod v = z) : (execOp a.eval o).run P w = .ok (.value (.int .i64 z)) w := by
  subst hz
  unfold execOp
  simp only [ho, hx, hy]
  go_simp
theorem two_of {zs : List Int} (h : zs.length = 2) : ∃ a b, zs = [a, b] := by
  match zs, h with
  | [a, b], _ => exact ⟨a, b, rfl⟩
/-- A parser is fed. -/
theorem feed_any (w : World) (g T : Nat) (v : Value) (l : Wd) (f : Nat) (b : Wd) (A : Option Addr) (c : Nat) (h : PsAt w g T v l f) (hb : Bs w w.heap.size A b.length (nb b)) (hT : TabB w T) (hgT : T ≤ g) (hlen : l.length + b.length ≤ 100000) : Calls Tryd.prog 9 #[.pointer (some ⟨g, 0, none⟩), .slice A b.length c] w (FeedRes w g T v l f b) := by
  by_cases hf : f = 0
  · subst hf
    exact feed_go w g T v l b A c h hb hT hgT (Nat.le_trans (pars_count _) (by rw [List.length_append]; exact hlen)) (.inl (by omega))
  · exact feed_fl w g T v l f b A c h hf
theorem feed_first (b : Wd) : (feedL [] 0 b).1 = (pars b).1 := by unfold feedL; rw [if_pos rfl, List.nil_append]
theorem own_src {w : World} {B e n m c : Nat} {A : Option Addr} {xs : List Value} (h : w.ownsRow B e 1 (.slice A m c) n xs) : m = n ∧ (A = none → n = 0) ∧ ∀ ad, A = some ad → ∀ j u, xs[j]? = some u → w.cell? (ad.add j) = some u := by
  rcases id h.2 with ⟨e1, h0⟩ | ⟨g, cap, cur, e1, _⟩
  · injection e1 with q1 q2 q3
    subst q1
    exact ⟨by omega, fun _ => h0, fun ad h => by cases h⟩
  · injection e1 with q1 q2 q3
    subst q1
    refine ⟨q2, (fun h => by cases h), fun ad had j u hu => ?_⟩
    injection had with had
    subst had
    exact h.cells (g := g) rfl j u hu
theorem pieces_math (b1 b2 b3 : Wd) : (feedL [] 0 (b1 ++ b2 ++ b3)).1 = (feedL [] 0 b1).1 ++ (feedL (feedL [] 0 b1).2.1 (feedL [] 0 b1).2.2 b2).1 ++ (feedL (feedL (feedL [] 0 b1).2.1 (feedL [] 0 b1).2.2 b2).2.1 (feedL (feedL [] 0 b1).2.1 (feedL [] 0 b1).2.2 b2).2.2 b3).1 ∧
    (feedL [] 0 (b1 ++ b2 ++ b3)).2 = (feedL (feedL (feedL [] 0 b1).2.1 (feedL [] 0 b1).2.2 b2).2.1 (feedL (feedL [] 0 b1).2.1 (feedL [] 0 b1).2.2 b2).2.2 b3).2 := by
  obtain ⟨hw, pw⟩ := fed_step (b := b1 ++ b2 ++ b3) fed_start
  obtain ⟨h1, p1⟩ := fed_step (b := b1) fed_start
  rw [List.nil_append] at hw pw h1 p1
  obtain ⟨h2, p2⟩ := fed_step (b := b2) h1
  obtain ⟨h3, p3⟩ := fed_step (b := b3) h2
  have e0 : (pars []).1 = [] := rfl
  rw [e0, List.nil_append] at pw p1
  refine ⟨?_, ?_⟩
  · rw [← pw, p3, p2, p1]
  · obtain ⟨q1, q2⟩ := hw
    obtain ⟨r1, r2⟩ := h3
    have e1 := q1.trans r1.symm
    refine Prod.ext ?_ e1
    rw [q2, r2, e1]
/-- What a parser told stays while another is fed, or it itself. -/
theorem OwC.fed {w w' : World} {T g : Nat} {v lv : Value} {L : List (List Wd)} {Tv n : Nat} {xs : List Value} (h : OwC w T lv L) (bz : ButZ (g :: ownL v) w w') (hv : w.ownsRow Tv 5 1 v n xs) (hg : g < T) : OwC w' T lv L := by
  have key : ∀ {e m : Nat} {u : Value} {us : List Value}, w.ownsRow T e 1 u m us → 5 ≠ e → w'.ownsRow T e 1 u m us := by
    intro e m u us ho he
    refine own_at ho fun k hk => bz.block k (ho.lt k hk).2 fun hm => ?_
    rcases List.mem_cons.1 hm with rfl | hm
    · have := (ho.lt k hk).1; omega
    · unfold ownL at hm
      rcases hv.2 with ⟨rfl, _⟩ | ⟨k', cap, cur, rfl, _, hg1, _⟩
      · simp [Value.ownBlock] at hm
      · simp [Value.ownBlock] at hm
        subst hm
        rcases ho.2 with ⟨rfl, _⟩ | ⟨k2, cap2, cur2, rfl, _, hg2, _⟩
        · cases hk
        · injection hk with hk
          subst hk
          have := hg1.symm.trans hg2
          simp at this
          exact he this.2
  obtain ⟨vs, h1, h2⟩ := h
  exact ⟨vs, key h1 (by decide), fun i u l hu hl => key (h2 i u l hu hl) (by decide)⟩
theorem OwC.parts {w : World} {T : Nat} {v : Value} {L : List (List Wd)} (h : OwC w T v L) : ∃ vs, w.ownsRow T 40 1 v L.length vs ∧ vs.length = L.length ∧ NOf T vs L w := by
  obtain ⟨vs, h1, h2⟩ := h
  exact ⟨vs, h1, by have := h1.1; omega, h2⟩
theorem NOf.app {w : World} {T : Nat} {vs us : List Value} {L M : List (List Wd)} (h : NOf T vs L w) (h2 : NOf T us M w) (hl : vs.length = L.length) : NOf T (vs ++ us) (L ++ M) w := by
  intro i u l hu hm
  rcases Nat.lt_or_ge i L.length with hi | hi
  · rw [List.getElem?_append_left (by omega)] at hu hm
    exact h i u l hu hm
  · rw [List.getElem?_append_right (by omega)] at hu hm
    rw [hl] at hu
    exact h2 _ u l hu hm
theorem NOf.grown {w w' : World} {T T' n : Nat} {vs : List Value} {L : List (List Wd)} {v : Value} {xs : List Value} (h : NOf T vs L w) (o : w.ownsRow T' 40 1 v n xs) (gr : w.grownBy w' v.ownBlock) : NOf T vs L w' := fun i u l hu hl => own_grown (h i u l hu hl) o (by decide) gr
theorem NOf.later {w w' : World} {T : Nat} {vs : List Value} {L : List (List Wd)} (h : NOf T vs L w) (hb : Below w.heap.size w w') : NOf T vs L w' := fun i u l hu hl => own_later (h i u l hu hl) hb
theorem own_one1 {w : World} {T : Nat} {L : List (List Wd)} {vs : List Value} (h : NOf T vs L w) (hl : vs.length = L.length) : ∀ u ∈ vs, u.oneCell' = true := by
  intro u hu
  obtain ⟨i, hi⟩ := List.getElem?_of_mem hu
  obtain ⟨l, hl2⟩ : ∃ l, L[i]? = some l := ⟨_, List.getElem?_eq_getElem (by have := (List.getElem?_eq_some_iff.1 hi).1; omega)⟩
  obtain ⟨A, c, e⟩ := own_slB (h i u l hi hl2)
  rw [e]; rfl
end Go.Proofs.YthjcmgjmdjihnaaDoor
