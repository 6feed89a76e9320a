/-
  The laws' example. Own work.
-/
import Derived.Test.YtfklfgaomcbchaaZsetV
import Derived.Test.YtfklfgaomcbchaaBuildN
namespace Go.Proofs.Ytfklfgaomcbchaa
open Go.RowKit Go.Shelf
set_option linter.unusedVariables false
set_option linter.unusedSimpArgs false
theorem wg_buildN {P : Program} {ops : Array Oper} {rest : List Oper} {o : Oper} {a : Act} {w : World} {Q : Exit → Act → World → Prop} (g' : Nat) (b : Bool) (d' : Nat) (hg : o.guard = some (g', b)) (hd' : (ops[g']?).bind (·.dst) = some d') (hv' : a.tmps[d']? = some (.bool b)) (t n : Nat) (ps : List (Nat × Operand)) (ho : o.op = .buildSlice t n ps.toArray) (e : TypeId) (i : TypeInfo) (z : Value) (k : Nat) (vs : List Value) (Vs : List (List Value)) (ht : P.underlying t = some (.slice e)) (hi : P.info? e = some i) (hz : i.zero = some z) (hzs : z.cells.size = k) (hsz : i.size = k) (h0 : 0 < k) (hn : n * k ≤ 10000) (hn0 : 0 < n)
    (hv : ps.map (fun p => (p.1, a.eval p.2)) = numb 0 vs) (hl : vs.length = n) (hc : cellsOk k vs Vs)
    (hk : ∀ g w', Row w' e g Vs.flatten → w.heap.size ≤ g → g < w'.heap.size → Below w.heap.size w w' → wpList P ops Q rest (a.put o.dst (.slice (some ⟨g, 0, none⟩) n n)) w') : wpList P ops Q (o :: rest) a w :=
  wpList_guarded g' b d' hg hd' hv' fun K hK => st_buildN t n ps ho e i z k vs Vs ht hi hz hzs hsz h0 hn hn0 hv hl hc fun g w' h1 h2 h3 h4 => hK _ _ (hk g w' h1 h2 h3 h4)
theorem row_scv {w : World} {g : Nat} {l : List Sc} (h : Row w 35 g (scsC l)) : ScV w (.slice (some ⟨g, 0, none⟩) l.length l.length) l := by
  refine .inr ⟨g, l.length, rfl, h.lt, Nat.le_refl _, fun i a hi j u hj => h.cell ?_⟩
  have key : ∀ (l : List Sc) (i : Nat), l[i]? = some a → (scsC l)[i * 2 + j]? = some u := by
    have hjl : j < 2 := (List.getElem?_eq_some_iff.1 hj).1
    intro l
    induction l with
    | nil => intro i h; simp at h
    | cons b r ih =>
      intro i h
      match i with
      | 0 =>
        obtain rfl : b = a := by simpa using h
        show (b.cells ++ scsC r)[0 * 2 + j]? = _
        rw [List.getElem?_append_left (by show 0 * 2 + j < 2; omega), Nat.zero_mul, Nat.zero_add, hj]
      | i + 1 =>
        show (b.cells ++ scsC r)[(i + 1) * 2 + j]? = _
        rw [List.getElem?_append_right (by show 2 ≤ _; omega), show (i + 1) * 2 + j - b.cells.length = i * 2 + j by show (i + 1) * 2 + j - 2 = _; omega]
        exact ih i (by simpa using h)
  exact key l i hi
theorem ZSet.scs_len {w : World} {B gz mb : Nat} {hd : Nd} {Ls : List Nd} {L : List Sc} (h : ZSet w B gz mb hd Ls) (e : scs Ls = L) : Ls.length = L.length := by rw [← e]; simp
set_option maxRecDepth 100000 in
set_option maxHeartbeats 2000000 in
theorem awake_any (w : World) : Calls Try.prog 10 #[] w fun e w' => e = .returned (.bool true) ∧ Below w.heap.size w w' := by
  obtain ⟨ip, hip, hiz, his, hib⟩ := score_info
  have HN := new_any w
  go_enter Try.func10, Try.ntmps10
  go_wp2_with fail
  refine HN.mono ?_
  rintro e w1 ⟨gz, mb, hd, rfl, z1, B1⟩
  go_wp2_with fail
  have hB1 := B1.size
  refine (put_any w1 w.heap.size gz mb hd [] [97] 5 z1 (by decide) (by decide) hB1).mono ?_
  rintro e w2 ⟨L2, rfl, z2, s2, b2, l2⟩
  have B2 := B1.trans (b2.below z1.lo_zB hB1)
  have e2 : scs L2 = [⟨[97], 5⟩] := s2
  have hB2 := B2.size
  have n2 := z2.scs_len e2
  have t1 : (!(scoreOf (scs []) [97]).isSome) = true := rfl
  rw [t1]
  clear z1 s2 b2 l2 t1 HN
  go_wp2_with fail
  refine (put_any w2 w.heap.size gz mb hd L2 [98] 3 z2 (by decide) (by rw [n2]; decide) hB2).mono ?_
  rintro e w3 ⟨L3, rfl, z3, s3, b3, l3⟩
  have B3 := B2.trans (b3.below z2.lo_zB hB2)
  rw [e2] at s3 ⊢
  have e3 : scs L3 = [⟨[98], 3⟩, ⟨[97], 5⟩] := s3
  have hB3 := B3.size
  have n3 := z3.scs_len e3
  have t1 : (!(scoreOf [⟨[97], 5⟩] [98]).isSome) = true := rfl
  rw [t1]
  clear z2 s3 b3 l3 t1 e2 n2
  go_wp2_with fail
  refine (put_any w3 w.heap.size gz mb hd L3 [97] 1 z3 (by decide) (by rw [n3]; decide) hB3).mono ?_
  rintro e w4 ⟨L4, rfl, z4, s4, b4, l4⟩
  have B4 := B3.trans (b4.below z3.lo_zB hB3)
  rw [e3] at s4 ⊢
  have e4 : scs L4 = [⟨[97], 1⟩, ⟨[98], 3⟩] := s4
  have hB4 := B4.size
  have n4 := z4.scs_len e4
  have t1 : (!(scoreOf [⟨[98], 3⟩, ⟨[97], 5⟩] [97]).isSome) = false := rfl
  rw [t1]
  clear z3 s4 b4 l4 t1 e3 n3
  go_wp2_with fail
  refine (rank_yes w4 w.heap.size gz mb hd L4 [98] 3 z4 (by simp [maxLen]) (by rw [n4]; decide) (by rw [e4]; rfl)).mono ?_
  rintro e w5 ⟨rfl, b5⟩
  have z5 := z4.later b5
  have B5 := B4.trans (b5.mono hB4)
  have hB5 := B5.size
  rw [show nAhead ⟨[98], 3⟩ (scs L4) = 1 by rw [e4]; rfl]
  clear z4 b5
  go_wp2_with fail
  refine (len_any w5 w.heap.size gz mb hd L4 z5).mono ?_
  rintro e w6 ⟨rfl, rfl⟩
  rw [n4]
  have HR := range_any w5 w.heap.size gz mb hd L4 0 9 z5 (by rw [n4]; decide)
  have e5 : ((scs L4).drop (min (0 : Int).toNat L4.length)).take (min (9 : Int).toNat L4.length - min (0 : Int).toNat L4.length) = [⟨[97], 1⟩, ⟨[98], 3⟩] := by rw [n4, e4]; rfl
  rw [e5] at HR
  go_wp2_with fail
  refine HR.mono ?_
  rintro e w7 ⟨v7, rfl, own7, b7⟩
  have B7 := B5.trans (b7.mono hB5)
  have s7 := own_scv own7
  go_wp2_with (first
    | (with_reducible refine wg_run (o := ⟨some 38, _, _, _, _, _⟩) 13 true 35 rfl rfl rfl (.agg [encStr [97], .int .i64 1].toArray) (run_buildX 35 [(0, _), (1, _)] rfl [(0, encStr [97]), (1, .int .i64 1)] rfl [encStr [97], .int .i64 1] (builtSc [97] 1)) ?_)
    | (with_reducible refine wg_run (o := ⟨some 39, _, _, _, _, _⟩) 13 true 35 rfl rfl rfl (.agg [encStr [98], .int .i64 3].toArray) (run_buildX 35 [(0, _), (1, _)] rfl [(0, encStr [98]), (1, .int .i64 3)] rfl [encStr [98], .int .i64 3] (builtSc [98] 3)) ?_)
    | (refine wg_buildN (o := ⟨some 40, _, _, _, _, _⟩) 13 true 35 rfl rfl rfl 26 2 [(0, .tmp 38), (1, .tmp 39)] rfl 35 ip (.agg #[.string ByteArray.empty, .int .i64 0]) 2 [.agg [encStr [97], .int .i64 1].toArray, .agg [encStr [98], .int .i64 3].toArray] [[encStr [97], .int .i64 1], [encStr [98], .int .i64 3]] Try.underlying26 hip hiz rfl his (by decide) (by decide) (by decide) rfl rfl (by simp [cellsOk, Value.cells]) ?_; intro g8 w8 r8 p8 l8 b8))
  have hv8 : ScV w8 (.slice (some ⟨g8, 0, none⟩) 2 2) [⟨[97], 1⟩, ⟨[98], 3⟩] := row_scv (l := [⟨[97], 1⟩, ⟨[98], 3⟩]) r8
  have B8 := B7.trans (b8.mono B7.size)
  refine (rsame_any w8 v7 _ _ _ (s7.later b8) hv8 (by decide) (by decide)).mono ?_
  rintro e w9 ⟨rfl, b9⟩
  go_wp2_with fail
  go_ret
  exact ⟨rfl, B8.trans (b9.mono B8.size)⟩
end Go.Proofs.Ytfklfgaomcbchaa
