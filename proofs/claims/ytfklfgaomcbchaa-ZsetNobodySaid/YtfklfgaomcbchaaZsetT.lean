/-
  The document's sets: Range, Put, Same: contracts. Own work.
-/
import Derived.Test.YtfklfgaomcbchaaZsetS
import Derived.Laws.StructEq
namespace Go.Proofs.Ytfklfgaomcbchaa
open Go.RowKit Go.Shelf
set_option linter.unusedVariables false
set_option linter.unusedSimpArgs false
section
variable {P : Program}
/-- 'append(l, src...)': the row is one's own, the source lies wherever, or is nil. -/
theorem wl_append_src {w : World} {ops : Array Oper} {rest : List Oper} {o : Oper} {a : Act} {Q : Exit → Act → World → Prop} (hgd : o.guard = none) (s x : Operand) (t : TypeId) (ho : o.op = .call { callee := .builtin .append, args := #[s, x], argTypes := #[t, t] })
    (base : Nat) (e : TypeId) (i : TypeInfo) (z : Value) (size bytes : Nat) (ht : P.underlying t = some (.slice e)) (hi : P.info? e = some i) (hz : i.zero = some z) (hsz : i.size = size) (hby : i.bytes = bytes) (hzc : z.cells.size = size) (h0 : 0 < size)
    (v : Value) (n : Nat) (xs : List Value) (hs : a.eval s = v) (hown : w.ownsRow base e size v n xs) (A : Option Addr) (m c : Nat) (ys : List Value) (hx : a.eval x = .slice A m c) (hyl : ys.length = m * size) (hA : A = none → m = 0) (hsrc : ∀ ad, A = some ad → ∀ j u, ys[j]? = some u → w.cell? (ad.add j) = some u) (h1 : ∀ u ∈ ys, u.oneCell' = true) (h63 : n + m ≤ maxLen) (hbytes : (n + m) * bytes ≤ 140737488355328) (hbase : base ≤ w.heap.size)
    (hk : ∀ v' w', w'.ownsRow base e size v' (n + m) (xs ++ ys) → w.grownBy w' v.ownBlock → wpList P ops Q rest (a.put o.dst v') w') : wpList P ops Q (o :: rest) a w := by
  refine wpList_plain hgd fun K hK => ?_
  have key : ∃ v' w', (Builtin.append_ #[t, t] o.type #[v, .slice A m c]).run P w = .ok v' w' ∧ w'.ownsRow base e size v' (n + m) (xs ++ ys) ∧ w.grownBy w' v.ownBlock := by
    rcases A with _ | ad
    · obtain rfl := hA rfl
      obtain rfl : ys = [] := List.eq_nil_of_length_eq_zero (by omega)
      refine ⟨v, w, ?_, by simpa using hown, ⟨rfl, rfl, rfl, Nat.le_refl _, fun _ _ _ => rfl⟩⟩
      rcases hown.2 with ⟨rfl, rfl⟩ | ⟨g, cap, cur, rfl, _, _, hnc, _⟩
      · simp [Builtin.append_, run_underlying ht, sizeOf, typeInfo, hi, Builtin.lenOf, Builtin.firstCells]
      · simp [Builtin.append_, run_underlying ht, sizeOf, typeInfo, hi, Builtin.lenOf, Builtin.firstCells, hnc, storeCells]
    · obtain ⟨v', w', r1, r2, r3, _⟩ := run_append_own (P := P) w base t o.type e i z size bytes ht hi hz hsz hby hzc h0 v n xs hown ad m c ys hyl (hsrc ad rfl) h1 h63 hbytes hbase
      exact ⟨v', w', r1, r2, r3⟩
  obtain ⟨v', w', hrun, h2, h3⟩ := key
  unfold Oper.wp execOp
  simp only [ho, resolve, invoke, builtin, Sem.run_bind, Sem.run_pure, Result.andThen_ok, List.map_toArray, List.map_cons, List.map_nil, hs, hx, hrun]
  exact hK _ _ (hk v' w' h2 h3)
end
/-- The members of some places. -/
def rng (l : List Sc) (x y : Int) : List Sc := (l.drop (min x.toNat l.length)).take (min y.toNat l.length - min x.toNat l.length)
set_option maxRecDepth 100000 in
set_option maxHeartbeats 1000000 in
theorem rrange_any (w : World) (v : Value) (l : List Sc) (x y : Int) (h : ScV w v l) (hl : l.length ≤ 1000000) : Calls Try.prog 18 #[v, .int .i64 x, .int .i64 y] w fun e w' => ∃ v', e = .returned v' ∧ OwnS w' w.heap.size v' (rng l x y) ∧ Below w.heap.size w w' := by
  obtain ⟨A, c, rfl⟩ := h.sl
  obtain ⟨ip, hip, hiz, his, hib⟩ := score_info
  have hlI : (l.length : Int) ≤ 1000000 := by omega
  unfold rng
  obtain ⟨k1, hk1⟩ : ∃ k1, k1 = min x.toNat l.length := ⟨_, rfl⟩
  obtain ⟨k2, hk2⟩ : ∃ k2, k2 = min y.toNat l.length := ⟨_, rfl⟩
  rw [← hk1, ← hk2]
  have hk1l : k1 ≤ l.length := by omega
  replace hk1 := hide hk1
  replace hk2 := hide hk2
  go_enter Try.func18, Try.ntmps18
  go_wp2_with fail
  go_loopw [7, 8] (fun ov iv wr => ∃ i : Nat, i ≤ l.length ∧ iv = .int .i64 (i : Int) ∧ OwnS wr w.heap.size ov ((l.drop k1).take (min i k2 - k1)) ∧ Below w.heap.size w wr) (fun _ iv _ => l.length - (intOf iv).toNat)
  case atStart => exact ⟨0, by omega, rfl, by rw [show min 0 k2 - k1 = 0 by omega]; exact World.ownsRow_nil _ _ _ _, Below.refl _ _⟩
  case round =>
    obtain ⟨i, hi, rfl, own, BW⟩ := hrel
    have hwb := BW.size
    by_cases hlt : i < l.length
    · have hltI : (i : Int) < (l.length : Int) := by omega
      obtain ⟨a, ha⟩ : ∃ a, l[i]? = some a := ⟨_, List.getElem?_eq_getElem hlt⟩
      obtain ⟨g, cap, e, hg, c0, c1, hcs⟩ := (h.later BW).at ha
      injection e with q1 q2 q3
      subst q1
      subst q3
      obtain ⟨am, as'⟩ := a
      by_cases h1 : (i : Int) < x
      · have h1b : ¬ x ≤ (i : Int) := by omega
        have hf := hide (show min (i + 1) k2 - k1 = min i k2 - k1 by have := hk1.out; have := hk2.out; omega)
        clear ha
        go_wp2_with fail
        go_roundw
        case rel => exact ⟨i + 1, by omega, by go_num, by rw [hf.out]; exact own, BW⟩
        case measure => simp [intOf]; omega
      · have h1b : x ≤ (i : Int) := by omega
        by_cases h2 : (i : Int) < y
        · have hf := hide (show (l.drop k1).take (min (i + 1) k2 - k1) = (l.drop k1).take (min i k2 - k1) ++ [⟨am, as'⟩] by
            have := hk1.out; have := hk2.out
            rw [show min (i + 1) k2 - k1 = (i - k1) + 1 by omega, show min i k2 - k1 = i - k1 by omega]
            refine take_more ?_
            rw [List.getElem?_drop, show k1 + (i - k1) = i by omega]; exact ha)
          have hlen : ((l.drop k1).take (min i k2 - k1)).length ≤ i := by rw [List.length_take]; omega
          have hm1 : ((l.drop k1).take (min i k2 - k1)).length + 1 ≤ maxLen := by simp only [maxLen]; omega
          have hm2 : (((l.drop k1).take (min i k2 - k1)).length + 1) * 24 ≤ 140737488355328 := by omega
          generalize u7 = ov at *
          have h02 : 0 < 2 := by decide
          clear ha
          go_wp2_with (first
          | (with_reducible refine wl_run (o := ⟨some 26, _, _, _, _, _⟩) rfl (.pointer (some ⟨g, 0 + i * 2, none⟩)) (run_indexSlN 26 (.tmp 24) (.tmp 25) 35 2 g 0 l.length c i rfl Try.underlying26 Try.sizeOf35 rfl rfl hlt) ?_)
          | (with_reducible refine wl_load_cells (o := ⟨some 27, _, _, _, _, _⟩) rfl 35 (.tmp 26) g (i * 2) [encStr am, .int .i64 as'] _ rfl rfl hcs Try.underlying35 rfl (szSc ⟨am, as'⟩) ?_)
          | ((with_reducible refine wl_build1B (o := ⟨some 28, _, _, _, _, _⟩) rfl 26 (.tmp 27) rfl 35 ip _ [encStr am, .int .i64 as'] 2 Try.underlying26 hip hiz rfl his rfl h02 (by decide) rfl ?_); intro g6 w6 r6 p6 l6 b6; have own6 := own_later own b6; have hwb6 := Nat.le_trans hwb b6.size)
          | ((at_builtin; with_reducible refine wl_append_at (o := ⟨some 29, _, _, _, _, _⟩) rfl (.tmp 23) (.tmp 28) 26 rfl w.heap.size 35 ip _ 2 24 Try.underlying26 hip hiz his hib rfl h02 ov _ _ rfl own6 ⟨g6, 0, none⟩ 1 1 [encStr am, .int .i64 as'] rfl rfl (row_src r6) (by simp [Value.oneCell']) hm1 hm2 hwb6 ?_); intro v7 w7 own7 gr7 at7; have B7 : Below w.heap.size w w7 := (BW.trans (b6.mono hwb)).grown gr7 hwb6 (fun k hk => (own6.lt k hk).1)))
          go_roundw
          case rel =>
            refine ⟨i + 1, by omega, by go_num, ?_, B7⟩
            rw [hf.out, OwnS, scsC_app, List.length_append]
            exact own7
          case measure => simp [intOf]; omega
        · have hf := hide (show min (i + 1) k2 - k1 = min i k2 - k1 by have := hk1.out; have := hk2.out; omega)
          clear ha
          go_wp2_with fail
          go_roundw
          case rel => exact ⟨i + 1, by omega, by go_num, by rw [hf.out]; exact own, BW⟩
          case measure => simp [intOf]; omega
    · obtain rfl : i = l.length := by omega
      go_wp2_with fail
      go_ret
      rw [show min l.length k2 = k2 by have := hk2.out; omega] at own
      exact ⟨_, rfl, own, BW⟩
theorem eqScore (a b : Sc) (w : World) : (Op.equalIn 10000 35 (.agg a.cells.toArray) (.agg b.cells.toArray)).run Try.prog w = .ok (decide (a = b)) w := by
  rw [show (10000 : Nat) = 9999 + 1 from rfl, run_equalIn_struct w 9999 _ _ _ Try.underlying35 (by kernel_rfl)]
  have hs9 : ∀ (x y : ByteArray) (w : World), (Op.equalIn 9999 9 (.string x) (.string y)).run Try.prog w = .ok (x.toList == y.toList) w := fun x y w => run_equalIn_string w 9998 _ x y Try.underlying9
  have he9 : ∀ (x y : Int) (w : World), (Op.equalIn 9999 3 (.int .i64 x) (.int .i64 y)).run Try.prog w = .ok (x == y) w := fun x y w => run_equalIn_int w 9998 _ .i64 .i64 x y Try.underlying3
  obtain ⟨am, sa⟩ := a
  obtain ⟨bm, sb⟩ := b
  go_simp
  by_cases h0 : am = bm
  · by_cases h1 : sa = sb <;> simp [h0, h1]
  · simp [h0]
end Go.Proofs.Ytfklfgaomcbchaa
