/-
  A set's walk: contract. Own work.
-/
import Derived.Test.YtfklfgaomcbchaaZsetD
import Derived.Test.YtfklfgaomcbchaaSkip
import Derived.BigQuiet
namespace Go.Proofs.Ytfklfgaomcbchaa
open Go.RowKit Go.Shelf
set_option linter.unusedVariables false
set_option linter.unusedSimpArgs false
theorem run_indexSlN {P : Program} {w : World} {a : Act} {o : Oper} (t : TypeId) (x y : Operand) (e : TypeId) (z : Nat) (b off len cap i : Nat)
    (ho : o.op = .indexAddr t x y) (hu : P.underlying t = some (.slice e)) (hs : ∀ w, (sizeOf e).run P w = .ok z w) (hx : a.eval x = .slice (some ⟨b, off, none⟩) len cap) (hy : a.eval y = .int .i64 i) (hi : i < len) :
    (execOp a.eval o).run P w = .ok (.value (.pointer (some ⟨b, off + i * z, none⟩))) w := by
  unfold execOp
  simp only [ho, hx, hy]
  go_simp
theorem run_addZ {P : Program} {w : World} {a : Act} {o : Oper} {t s : Nat} {u v z : Int} (x y : Operand) (ho : o.op = .binOp .add t x y s) (hx : a.eval x = .int .i64 u) (hy : a.eval y = .int .i64 v) (hz : IntKind.i64.wrap (u + v) = z) : (execOp a.eval o).run P w = .ok (.value (.int .i64 z)) w := by
  subst hz
  unfold execOp
  simp only [ho, hx, hy]
  go_simp
  try rfl
theorem run_subZ {P : Program} {w : World} {a : Act} {o : Oper} {t s : Nat} {u v z : Int} (x y : Operand) (ho : o.op = .binOp .sub t x y s) (hx : a.eval x = .int .i64 u) (hy : a.eval y = .int .i64 v) (hz : IntKind.i64.wrap (u - v) = z) : (execOp a.eval o).run P w = .ok (.value (.int .i64 z)) w := by
  subst hz
  unfold execOp
  simp only [ho, hx, hy]
  go_simp
  try rfl
theorem wrap_id {x z : Int} (h : x = z) (h0 : -9223372036854775808 ≤ z) (h1 : z ≤ 9223372036854775807) : IntKind.i64.wrap x = z := by
  subst h
  simp [IntKind.wrap, IntKind.bits, IntKind.signed]
  omega
/-- A link of a list, and its row parted there. -/
theorem lksL_part : ∀ (ps : List Lk) (lv : Nat) (x : Lk), ps[lv]? = some x → lksC ps = lksC (ps.take lv) ++ (x.cells ++ lksC (ps.drop (lv + 1)))
  | [], lv, x, h => by simp at h
  | p :: r, 0, x, h => by
    have e : p = x := by simpa using h
    subst e; rfl
  | p :: r, lv + 1, x, h => by
    have h2 : r[lv]? = some x := by simpa using h
    show p.cells ++ lksC r = p.cells ++ lksC (r.take lv) ++ _
    rw [lksL_part r lv x h2, List.append_assoc]
    rfl
theorem lksL_set (ps : List Lk) (lv : Nat) (y : Lk) (h : lv < ps.length) : lksC (ps.take lv) ++ (y.cells ++ lksC (ps.drop (lv + 1))) = lksC (ps.set lv y) := by
  rw [lksL_part (ps.set lv y) lv y (by simp [h])]
  have e1 : (ps.set lv y).take lv = ps.take lv := by rw [List.take_set]; exact List.set_eq_of_length_le (by simp; omega)
  have e2 : (ps.set lv y).drop (lv + 1) = ps.drop (lv + 1) := by rw [List.drop_set]; simp
  rw [e1, e2]
theorem lksL_ahead (ps : List Lk) (lv : Nat) (h : lv ≤ ps.length) : (lksC (ps.take lv)).length = 2 * lv := by rw [lksC_length, List.length_take, Nat.min_eq_left h]
theorem wl_run {P : Program} {ops : Array Oper} {rest : List Oper} {o : Oper} {a : Act} {w : World} {Q : Exit → Act → World → Prop} (hgd : o.guard = none) (v : Value) (hr : (execOp a.eval o).run P w = .ok (.value v) w) (hk : wpList P ops Q rest (a.put o.dst v) w) : wpList P ops Q (o :: rest) a w :=
  wpList_plain hgd fun K hK => by
    unfold Oper.wp
    rw [hr]
    exact hK _ _ hk
theorem lks_one : ∀ (ps : List Lk), ∀ u ∈ lksC ps, u.oneCell' = true := by
  intro ps u hu
  obtain ⟨l, _, h⟩ := List.mem_flatMap.1 hu
  simp only [Lk.cells, List.mem_cons, List.not_mem_nil, or_false] at h
  rcases h with rfl | rfl <;> rfl
theorem szStops {ps : List Lk} (h : ps.length = 16) : (Try.prog.info? 61).map (·.size) = some (lksC ps).length := by
  rw [lksC_length, h]
  kernel_rfl
theorem below_drewn {B : Nat} {w w' : World} (h : Below B w w') (n : Nat) : Below B w (w'.drewN n) := ⟨h.os, h.tape, h.output, h.size, h.block⟩
theorem builtStop (g : Nat) (x : Int) : Try.prog.built 60 [(0, .pointer (some ⟨g, 0, none⟩)), (1, .int .i64 x)] = some [.pointer (some ⟨g, 0, none⟩), .int .i64 x].toArray := by kernel_rfl
theorem szStop (a b : Value) : (Try.prog.info? 60).map (·.size) = some [a, b].length := by kernel_rfl
theorem szLink (a b : Value) : (Try.prog.info? 70).map (·.size) = some [a, b].length := by kernel_rfl
def SWk8 (fid : FuncId) (caps : Array Value) (g6 g9 gn gm bm hm c q : Nat) (mm : Nm) (ms : Int) (rr : Bool) (opn : Nat) (v : Value) : Prop :=
  match opn with
  | 0 | 5 => v = .pointer (some ⟨g9, 0, none⟩)
  | 1 | 6 | 7 | 8 => v = .pointer (some ⟨gm, 0, none⟩)
  | 2 | 3 => v = .bool false
  | 4 => v = .func (.func fid) #[] caps
  | 9 => v = .agg [encStr mm, .int .i64 ms].toArray
  | 10 => v = .pointer (some ⟨g6, 1, none⟩)
  | 11 => v = .int .i64 (c : Int)
  | 12 => v = .pointer (some ⟨g9, 1, none⟩)
  | 13 => v = .int .i64 ((q : Int) + 1)
  | 14 => v = .int .i64 ((c : Int) + ((q : Int) + 1))
  | 15 => v = .int .i64 ((c + q : Nat) : Int)
  | 16 => v = .bool rr
  | 17 | 18 => v = .bool (!rr)
  | _ => True

set_option maxRecDepth 100000 in
set_option maxHeartbeats 4000000 in
theorem walk_any (w : World) (B k : Nat) (hd : Nd) (Ls : List Nd) (fid : FuncId) (caps : Array Value) (hZ : ZAt w B (hd :: Ls) (full Ls)) (hh : hd.h = 16) (hk : k ≤ Ls.length) (hl : Ls.length ≤ 1000000)
    (hf : ∀ (xs : Array Value) (w : World), (callFunc fid xs).run Try.prog w = .ok (.enter fid xs) w)
    (hP : ∀ w1, Below w.heap.size w w1 → ∀ (i : Nat) (m : Nd), Ls[i]? = some m → Calls Try.prog fid (#[m.a.val, .int .i64 (i : Int)] ++ caps) w1 (fun e w2 => e = .returned (.bool (decide (i < k))) ∧ Below w1.heap.size w1 w2)) :
    Calls Try.prog 33 #[ptr hd.g, .func (.func fid) #[] caps] w fun e w' => ∃ ps : List Lk, e = .returned (.agg (lksC ps).toArray) ∧ ps.length = 16 ∧ (∀ lv, lv < 16 → ∃ c n, ps[lv]? = some ⟨some n.g, (c : Int)⟩ ∧ (hd :: Ls)[c]? = some n ∧ IsStop (hd :: Ls) k lv c) ∧ Below w.heap.size w w' := by
  have bst : Try.prog.built 60 [(0, ptr hd.g)] = some [ptr hd.g, .int .i64 0].toArray := by kernel_rfl
  have Z32 : (lksC (List.replicate 16 noLk)).toArray = (Value.agg (lksC (List.replicate 16 noLk)).toArray).cells := rfl
  go_enter Try.func33, Try.ntmps33
  go_wp2_with (first
    | (with_reducible refine wl_alloc (o := ⟨some 4, _, _, _, _, _⟩) rfl 61 _ (lksC (List.replicate 16 noLk)) rfl rfl rfl ?_; intro g4 w4 r4 p4 l4 b4)
    | (with_reducible refine wl_alloc (o := ⟨some 5, _, _, _, _, _⟩) rfl 61 _ (lksC (List.replicate 16 noLk)) rfl rfl rfl ?_; intro g5 w5 r5 p5 l5 b5)
    | (with_reducible refine wl_build rfl 60 [(0, .tmp 10)] rfl [(0, ptr hd.g)] rfl [ptr hd.g, .int .i64 0] bst ?_)
    | (with_reducible refine wl_alloc (o := ⟨some 6, _, _, _, _, _⟩) rfl 60 _ [.pointer none, .int .i64 0] rfl rfl rfl ?_; intro g6 w6 r6 p6 l6 b6)
    | (with_reducible refine wl_store_row rfl 60 (.tmp 6) (.tmp 11) g6 60 _ [ptr hd.g, .int .i64 0] rfl rfl rfl r6 (szStop _ _) rfl (by simp [Value.oneCell']) ?_; intro w7 r7 o7))
  have Bw := (((b4.trans (b5.mono b4.size)).trans (b6.mono (b4.trans (b5.mono b4.size)).size))).trans (o7.below (by have := b4.size; have := b5.size; omega))
  have r4a := ((r4.later b5).later b6).only o7 (by have := r4.lt; have := b5.size; omega)
  have r5a := (r5.later b6).only o7 (by have := r5.lt; omega)
  have n45 : g4 ≠ g5 := by have := r4.lt; omega
  have n56 : g5 ≠ g6 := by have := r5.lt; omega
  have n46 : g4 ≠ g6 := by have := r4.lt; have := b5.size; omega
  have s4 := b4.size
  have s5 := b5.size
  have lo4 : w.heap.size ≤ g4 := p4
  have lo5 : w.heap.size ≤ g5 := Nat.le_trans s4 p5
  have lo6 : w.heap.size ≤ g6 := Nat.le_trans s4 (Nat.le_trans s5 p6)
  clear r4 r5 r6 b4 b5 b6 o7 s4 s5 p4 p5 p6 l4 l5 l6 Z32 bst
  go_loopw [12] (fun iv wr => ∃ (i c : Nat) (nd : Nd) (ps : List Lk), i ≤ 16 ∧ iv = .int .i64 (i : Int) ∧ Row wr 61 g4 (lksC (List.replicate 16 noLk)) ∧ Row wr 61 g5 (lksC ps) ∧ ps.length = 16 ∧ Row wr 60 g6 [ptr nd.g, .int .i64 (c : Int)] ∧ (hd :: Ls)[c]? = some nd ∧ c ≤ k ∧ 16 - i ≤ nd.h ∧
      (∀ lv, 16 - i ≤ lv → lv < 16 → ∃ d n, ps[lv]? = some ⟨some n.g, ((d : Nat) : Int)⟩ ∧ (hd :: Ls)[d]? = some n ∧ IsStop (hd :: Ls) k lv d) ∧ Below w.heap.size w wr) (fun iv _ => 16 - (intOf iv).toNat)
  case atStart => exact ⟨0, 0, hd, List.replicate 16 noLk, by omega, rfl, r4a, r5a, by simp, r7, rfl, Nat.zero_le _, by omega, fun lv h1 h2 => by omega, Bw⟩
  case round =>
    clear r4a r5a r7 Bw
    obtain ⟨i, c, nd, ps, hi, rfl, r4, r5, hps, r6, hc, hck, hch, hdone, Bw⟩ := hrel
    by_cases hi2 : i < 16
    · have hi3 : (i : Int) < 16 := by omega
      obtain ⟨lv, hlv, hlv15⟩ : ∃ lv, i = 15 - lv ∧ lv ≤ 15 := ⟨15 - i, by omega, by omega⟩
      have hsub := hide (show IntKind.i64.wrap ((15 : Int) - (i : Int)) = (lv : Int) from wrap_id (by omega) (by omega) (by omega))
      have hLV := hide hlv
      clear hlv
      go_wp2_with (first
        | (with_reducible refine wl_run (o := ⟨some 16, _, _, _, _, _⟩) rfl (.int .i64 (lv : Int)) (run_subZ _ (.tmp 15) rfl rfl rfl hsub.out) ?_))
      have hch2 : lv < nd.h := by have := hLV.out; omega
      have hlv16 : lv < 16 := by omega
      go_loopw [] (fun wq => ∃ (c : Nat) (nd : Nd), Row wq 61 g4 (lksC (List.replicate 16 noLk)) ∧ Row wq 61 g5 (lksC ps) ∧ Row wq 60 g6 [ptr nd.g, .int .i64 (c : Int)] ∧ (hd :: Ls)[c]? = some nd ∧ c ≤ k ∧ lv < nd.h ∧ Below w.heap.size w wq) (fun wq => k - (intOf ((wq.cell? ⟨g6, 1, none⟩).getD undef)).toNat)
      case atStart => exact ⟨c, nd, r4, r5, r6, hc, hck, hch2, Bw⟩
      case round =>
        clear r4 r5 r6 hc hck hch hch2 Bw
        obtain ⟨c, nd, r4, r5, r6, hc, hck, hlt, Bw⟩ := hrel
        have HN := (hZ.later Bw).node c nd hc
        have HL := (hZ.later Bw).link c nd hc
        have hpart := lksL_part ((List.range nd.h).map (full Ls c)) lv (full Ls c lv) (by simp [hlt])
        rw [hpart] at HL
        clear hpart
        have hA : (lksC (((List.range nd.h).map (full Ls c)).take lv)).length = 0 + lv * 2 := by rw [lksL_ahead _ lv (by simp; omega)]; omega
        have hstep := walk_step hck hk hc hlt
        obtain ⟨x, hx⟩ : ∃ x, x = nxt lv (Ls.drop c) := ⟨_, rfl⟩
        rw [show full Ls c lv = x from hx.symm] at HL
        rw [← hx] at hstep
        clear hx
        obtain ⟨xt, xn⟩ := x
        generalize lksC (((List.range nd.h).map (full Ls c)).take lv) = LA at *
        generalize lksC (((List.range nd.h).map (full Ls c)).drop (lv + 1)) = LC at *
        replace hA := hide hA
        obtain ⟨⟨nm, ns⟩, gn, bn, hn⟩ := nd
        have hlt' : (lv : Int) < (hn : Int) := by have : lv < hn := hlt; omega
        have hlt2 := hide (show lv < hn from hlt)
        have c60 := r6.cell (j := 0) rfl
        have cn2 := HN.cell (j := 2) rfl
        replace hstep := hide hstep
        replace hc := hide hc
        go_wp2_with (first
          | (with_reducible refine wl_run (o := ⟨some 23, _, _, _, _, _⟩) rfl (.pointer (some ⟨bn, 0 + lv * 2, none⟩)) (run_indexSlN 65 (.tmp 21) (.tmp 22) 70 2 bn 0 hn hn lv rfl Try.underlying65 Try.sizeOf70 rfl rfl hlt2.out) ?_)
          | (with_reducible refine wl_load_part (o := ⟨some 24, _, _, _, _, _⟩) rfl 70 (.tmp 23) bn (0 + lv * 2) 70 LA [.pointer (xt.map fun g => ⟨g, 0, none⟩), .int .i64 xn] LC _ rfl rfl HL hA.out Try.underlying70 rfl (szLink _ _) ?_)
          | (with_reducible refine wl_alloc (o := ⟨some 9, _, _, _, _, _⟩) rfl 70 _ [.pointer none, .int .i64 0] rfl rfl rfl ?_; intro g9 w9 r9 p9 l9 b9)
          | (with_reducible refine wl_store_row (o := ⟨none, .store 70 (.tmp 9) (.tmp 24), _, _, _, _⟩) rfl 70 (.tmp 9) (.tmp 24) g9 70 _ [.pointer (xt.map fun g => ⟨g, 0, none⟩), .int .i64 xn] rfl rfl rfl r9 (szLink _ _) rfl (by simp [Value.oneCell']) ?_; intro w10 r10 o10))
        have b10 : Below wr.heap.size wr w10 := b9.trans (o10.below p9)
        have hstep := hstep.out
        rcases hstep with ⟨hto, hstop⟩ | ⟨q, m, hto, hm1, hm2, hlm, hq⟩
        · obtain rfl : xt = none := hto
          have c90 := r10.cell (j := 0) rfl
          replace hstop := hide hstop
          go_quiet (fail)
          obtain ⟨wq1, hwq⟩ : ∃ wq, wq = w10.drewN nq := ⟨_, rfl⟩
          have bq : Below w10.heap.size w10 wq1 := by rw [hwq]; exact below_drewn (Below.refl _ _) nq
          rw [← hwq]
          clear hwq nq c90 c60 cn2
          have bX := b10.trans (bq.mono b10.size)
          have rX4 := r4.later bX
          have rX5 := r5.later bX
          have rX6 := r6.later bX
          have BX := Bw.trans (bX.mono Bw.size)
          obtain ⟨y, hy⟩ : ∃ y, ps[lv]? = some y := ⟨_, List.getElem?_eq_getElem (by omega)⟩
          have R5 := rX5
          rw [lksL_part ps lv y hy] at R5
          have hset := hide (lksL_set ps lv ⟨some gn, (c : Int)⟩ (by omega))
          have hA5 : (lksC (ps.take lv)).length = lv * 2 := by rw [lksL_ahead ps lv (by omega)]; omega
          replace hA5 := hide hA5
          clear hy
          generalize lksC (ps.take lv) = LA5 at *
          generalize lksC (ps.drop (lv + 1)) = LC5 at *
          go_wp2_with (first
            | (with_reducible refine wl_load_row (o := ⟨some 53, _, _, _, _, _⟩) rfl 60 (.tmp 6) g6 60 [ptr gn, .int .i64 (c : Int)] _ rfl rfl rX6 Try.underlying60 rfl (szStop _ _) ?_)
            | (with_reducible refine wl_store_part rfl 60 (.tmp 54) (.tmp 53) g5 (lv * 2) 61 LA5 y.cells LC5 [ptr gn, .int .i64 (c : Int)] rfl rfl rfl R5 hA5.out rfl (szStop _ _) (by simp [Value.oneCell']) ?_; intro wz rz oz))
          go_roundw
          case rel =>
            have rz2 : Row wz 61 g5 (lksC (ps.set lv ⟨some gn, (c : Int)⟩)) := hset.out ▸ rz
            have hi7 : 16 - (i + 1) = lv := by have := hLV.out; omega
            refine ⟨i + 1, c, ⟨⟨nm, ns⟩, gn, bn, hn⟩, ps.set lv ⟨some gn, (c : Int)⟩, by omega, by go_num, rX4.only oz n45, rz2, by simp [hps], rX6.only oz (Ne.symm n56), hc.out, hck, by rw [hi7]; exact Nat.le_of_lt hlt2.out, ?_, BX.trans (oz.below lo5)⟩
            intro v hv1 hv2
            rw [hi7] at hv1
            by_cases hvl : v = lv
            · subst hvl
              exact ⟨c, _, by rw [List.getElem?_set_self (by omega)], hc.out, hstop.out⟩
            · rw [List.getElem?_set_ne (Ne.symm hvl)]
              exact hdone v (by omega) hv2
          case measure => simp [intOf]; omega
        · rw [Lk.mk.injEq] at hto
          obtain ⟨rfl, rfl⟩ := hto
          obtain ⟨⟨mm, ms⟩, gm, bm, hm⟩ := m
          have hcq : c + q < Ls.length := (List.getElem?_eq_some_iff.1 hm1).1
          have hz1 := hide (show IntKind.i64.wrap ((c : Int) + ((q : Int) + 1)) = (c : Int) + ((q : Int) + 1) from wrap_id rfl (by omega) (by omega))
          have hz2 := hide (show IntKind.i64.wrap (((c : Int) + ((q : Int) + 1)) - 1) = ((c + q : Nat) : Int) from wrap_id (by omega) (by omega) (by omega))
          have rm : Row w10 67 gm [encStr mm, .int .i64 ms, .slice (some ⟨bm, 0, none⟩) hm hm] := ((hZ.later Bw).later b10).node _ _ hm2
          have r9 : Row w10 70 g9 [.pointer (some ⟨gm, 0, none⟩), .int .i64 ((q : Int) + 1)] := r10
          have c61w := hide (r6.cell (j := 1) rfl)
          have r6b : Row w10 60 g6 [ptr gn, .int .i64 (c : Int)] := r6.later b10
          have r4 := r4.later b10
          have r5 := r5.later b10
          have r6 := r6b
          have B10 := Bw.trans (b10.mono Bw.size)
          obtain ⟨rr, hrr⟩ : ∃ rr, rr = decide (c + q < k) := ⟨_, rfl⟩
          have HC : ∀ w1, Below w10.heap.size w10 w1 → Calls Try.prog fid (#[.agg #[encStr mm, .int .i64 ms], .int .i64 ((c + q : Nat) : Int)] ++ caps) w1 (fun e w2 => e = .returned (.bool rr) ∧ Below w1.heap.size w1 w2) := by
            intro w1 hb
            rw [hrr]
            have H9 := hP w1 (B10.trans (hb.mono B10.size)) (c + q) ⟨⟨mm, ms⟩, gm, bm, hm⟩ hm1
            exact H9
          replace hrr := hide hrr
          replace hm1 := hide hm1
          replace hm2 := hide hm2
          replace hq := hide hq
          rename_i K8 hK8
          refine wp_region_valsG [16] (SWk8 fid caps g6 g9 gn gm bm hm c q mm ms rr) (fun _ _ wz => Below w10.heap.size w10 wz) (by kernel_rfl) (by kernel_rfl) (by kernel_rfl) (by kernel_rfl) ((Below.refl _ _).drew) ?obs8 ?he8
          case obs8 =>
            refine ⟨?_, ?_, ?_, ?_, ?_, ?_, ?_, ?_, ?_, ?_, ?_, ?_, ?_, ?_, ?_, ?_, ?_, ?_, ?_, trivial⟩
            · refine ⟨.inl rfl, ?_⟩
              refine .inl ⟨by kernel_rfl, fun L a1 w1 n h => ⟨.pointer (some ⟨g9, 0, none⟩), rfl, ?_⟩⟩
              have e0 : a1.eval (.tmp 9) = _ := h.var n 9 (by kernel_rfl)
              unfold execOp
              simp only [e0]
              go_simp
            · refine ⟨.inl rfl, ?_⟩
              exact .inl ⟨by kernel_rfl, fun L a1 w1 n h => ⟨_, rfl, run_loadA 50 (.tmp 25) ⟨g9, 0, none⟩ rfl Try.isAgg50 (h.dep n 0 25 (by kernel_rfl) rfl) ((Row.later r9 h.inv).cell (j := 0) (v := .pointer (some ⟨gm, 0, none⟩)) rfl)⟩⟩
            · refine ⟨.inl rfl, ?_⟩
              refine .inl ⟨by kernel_rfl, fun L a1 w1 n h => ⟨.bool false, rfl, ?_⟩⟩
              have e0 : a1.eval (.tmp 26) = _ := h.dep n 1 26 (by kernel_rfl) rfl
              unfold execOp
              simp only [e0]
              go_simp
            · refine ⟨.inl rfl, ?_⟩
              exact .inl ⟨by kernel_rfl, fun L a1 w1 n h => ⟨_, rfl, run_move (.tmp 27) rfl (h.dep n 2 27 (by kernel_rfl) rfl)⟩⟩
            · refine ⟨.inr ⟨3, false, 28, rfl, by kernel_rfl, rfl, by simp, fun v h => h⟩, ?_⟩
              exact .inl ⟨by kernel_rfl, fun L a1 w1 n h => ⟨_, rfl, run_move (.tmp 1) rfl (h.var n 1 (by kernel_rfl))⟩⟩
            · refine ⟨.inr ⟨3, false, 28, rfl, by kernel_rfl, rfl, by simp, fun v h => h⟩, ?_⟩
              refine .inl ⟨by kernel_rfl, fun L a1 w1 n h => ⟨.pointer (some ⟨g9, 0, none⟩), rfl, ?_⟩⟩
              have e0 : a1.eval (.tmp 9) = _ := h.var n 9 (by kernel_rfl)
              unfold execOp
              simp only [e0]
              go_simp
            · refine ⟨.inr ⟨3, false, 28, rfl, by kernel_rfl, rfl, by simp, fun v h => h⟩, ?_⟩
              exact .inl ⟨by kernel_rfl, fun L a1 w1 n h => ⟨_, rfl, run_loadA 50 (.tmp 30) ⟨g9, 0, none⟩ rfl Try.isAgg50 (h.dep n 5 30 (by kernel_rfl) rfl) ((Row.later r9 h.inv).cell (j := 0) (v := .pointer (some ⟨gm, 0, none⟩)) rfl)⟩⟩
            · refine ⟨.inr ⟨3, false, 28, rfl, by kernel_rfl, rfl, by simp, fun v h => h⟩, ?_⟩
              refine .inl ⟨by kernel_rfl, fun L a1 w1 n h => ⟨.pointer (some ⟨gm, 0, none⟩), rfl, ?_⟩⟩
              have e0 : a1.eval (.tmp 31) = _ := h.dep n 6 31 (by kernel_rfl) rfl
              unfold execOp
              simp only [e0]
              go_simp
            · refine ⟨.inr ⟨3, false, 28, rfl, by kernel_rfl, rfl, by simp, fun v h => h⟩, ?_⟩
              refine .inl ⟨by kernel_rfl, fun L a1 w1 n h => ⟨.pointer (some ⟨gm, 0, none⟩), rfl, ?_⟩⟩
              have e0 : a1.eval (.tmp 32) = _ := h.dep n 7 32 (by kernel_rfl) rfl
              unfold execOp
              simp only [e0]
              go_simp
            · refine ⟨.inr ⟨3, false, 28, rfl, by kernel_rfl, rfl, by simp, fun v h => h⟩, ?_⟩
              exact .inl ⟨by kernel_rfl, fun L a1 w1 n h => ⟨_, rfl, run_loadP 35 (.tmp 33) gm 0 67 [] [encStr mm, .int .i64 ms] [.slice (some ⟨bm, 0, none⟩) hm hm] _ rfl (h.dep n 8 33 (by kernel_rfl) rfl) (Row.later rm h.inv) rfl Try.underlying35 rfl (szSc ⟨mm, ms⟩)⟩⟩
            · refine ⟨.inr ⟨3, false, 28, rfl, by kernel_rfl, rfl, by simp, fun v h => h⟩, ?_⟩
              refine .inl ⟨by kernel_rfl, fun L a1 w1 n h => ⟨.pointer (some ⟨g6, 1, none⟩), rfl, ?_⟩⟩
              have e0 : a1.eval (.tmp 6) = _ := h.var n 6 (by kernel_rfl)
              unfold execOp
              simp only [e0]
              go_simp
            · refine ⟨.inr ⟨3, false, 28, rfl, by kernel_rfl, rfl, by simp, fun v h => h⟩, ?_⟩
              exact .inl ⟨by kernel_rfl, fun L a1 w1 n h => ⟨_, rfl, run_loadA 3 (.tmp 35) ⟨g6, 1, none⟩ rfl Try.isAgg3 (h.dep n 10 35 (by kernel_rfl) rfl) ((Row.later r6 h.inv).cell (j := 1) (v := .int .i64 (c : Int)) rfl)⟩⟩
            · refine ⟨.inr ⟨3, false, 28, rfl, by kernel_rfl, rfl, by simp, fun v h => h⟩, ?_⟩
              refine .inl ⟨by kernel_rfl, fun L a1 w1 n h => ⟨.pointer (some ⟨g9, 1, none⟩), rfl, ?_⟩⟩
              have e0 : a1.eval (.tmp 9) = _ := h.var n 9 (by kernel_rfl)
              unfold execOp
              simp only [e0]
              go_simp
            · refine ⟨.inr ⟨3, false, 28, rfl, by kernel_rfl, rfl, by simp, fun v h => h⟩, ?_⟩
              exact .inl ⟨by kernel_rfl, fun L a1 w1 n h => ⟨_, rfl, run_loadA 3 (.tmp 37) ⟨g9, 1, none⟩ rfl Try.isAgg3 (h.dep n 12 37 (by kernel_rfl) rfl) ((Row.later r9 h.inv).cell (j := 1) (v := .int .i64 ((q : Int) + 1)) rfl)⟩⟩
            · refine ⟨.inr ⟨3, false, 28, rfl, by kernel_rfl, rfl, by simp, fun v h => h⟩, ?_⟩
              exact .inl ⟨by kernel_rfl, fun L a1 w1 n h => ⟨_, rfl, run_addZ (.tmp 36) (.tmp 38) rfl (h.dep n 11 36 (by kernel_rfl) rfl) (h.dep n 13 38 (by kernel_rfl) rfl) hz1.out⟩⟩
            · refine ⟨.inr ⟨3, false, 28, rfl, by kernel_rfl, rfl, by simp, fun v h => h⟩, ?_⟩
              exact .inl ⟨by kernel_rfl, fun L a1 w1 n h => ⟨_, rfl, run_subZ (.tmp 39) (.const (.int .i64 1)) rfl (h.dep n 14 39 (by kernel_rfl) rfl) rfl hz2.out⟩⟩
            · refine ⟨.inr ⟨3, false, 28, rfl, by kernel_rfl, rfl, by simp, fun v h => h⟩, ?_⟩
              refine .inr fun L a1 w1 n h K hK => ?_
              have y0 : a1.eval (.tmp 34) = .agg #[encStr mm, .int .i64 ms] := h.dep n 9 34 (by kernel_rfl) rfl
              have y1 : a1.eval (.tmp 40) = .int .i64 ((c + q : Nat) : Int) := h.dep n 15 40 (by kernel_rfl) rfl
              have y2 : a1.eval (.tmp 29) = .func (.func fid) #[] caps := h.dep n 4 29 (by kernel_rfl) rfl
              refine st_callF2 fid (.tmp 29) (.tmp 34) (.tmp 40) _ _ (.agg #[encStr mm, .int .i64 ms]) (.int .i64 ((c + q : Nat) : Int)) caps rfl y2 y0 y1 hf (HC w1 h.inv) ?_
              rintro e w3 ⟨rfl, b9⟩
              exact ⟨_, rfl, hK _ w3 rfl (h.inv.trans (b9.mono h.inv.size))⟩
            · refine ⟨.inr ⟨3, false, 28, rfl, by kernel_rfl, rfl, by simp, fun v h => h⟩, ?_⟩
              exact .inl ⟨by kernel_rfl, fun L a1 w1 n h => ⟨_, rfl, run_notB (.tmp 41) rr rfl (h.dep n 16 41 (by kernel_rfl) rfl) rfl⟩⟩
            · refine ⟨.inl rfl, ?_⟩
              exact .inl ⟨by kernel_rfl, fun L a1 w1 n h => ⟨_, rfl, run_pickF (.tmp 28) _ _ rfl (h.dep n 3 28 (by kernel_rfl) rfl) (h.dep n 17 42 (by kernel_rfl) rfl)⟩⟩
          case he8 =>
            intro V w11 hV hJ
            have b11 : Below w10.heap.size w10 w11 := hJ
            have hE : V 18 = .bool (!rr) := hV 18 _ rfl
            clear hV hJ
            simp only [putOps, List.setIfInBounds_toArray, List.set_cons_succ, List.set_cons_zero, Nat.reduceAdd]
            rw [hE]
            refine hK8 _ _ ?_
            have bX := b10.trans (b11.mono b10.size)
            have rX4 := r4.later b11
            have rX5 := r5.later b11
            have rX6 := r6.later b11
            have rX9 := r9.later b11
            have BX := B10.trans (b11.mono B10.size)
            cases rr with
            | false =>
              have hstop := hide (hq.out (by have := hrr.out; simpa using this.symm))
              clear HC hE rX9
              obtain ⟨y, hy⟩ : ∃ y, ps[lv]? = some y := ⟨_, List.getElem?_eq_getElem (by omega)⟩
              have R5 := rX5
              rw [lksL_part ps lv y hy] at R5
              have hset := hide (lksL_set ps lv ⟨some gn, (c : Int)⟩ (by omega))
              have hA5 : (lksC (ps.take lv)).length = lv * 2 := by rw [lksL_ahead ps lv (by omega)]; omega
              replace hA5 := hide hA5
              clear hy
              generalize lksC (ps.take lv) = LA5 at *
              generalize lksC (ps.drop (lv + 1)) = LC5 at *
              go_wp2_with (first
                | (with_reducible refine wl_load_row (o := ⟨some 53, _, _, _, _, _⟩) rfl 60 (.tmp 6) g6 60 [ptr gn, .int .i64 (c : Int)] _ rfl rfl rX6 Try.underlying60 rfl (szStop _ _) ?_)
                | (with_reducible refine wl_store_part rfl 60 (.tmp 54) (.tmp 53) g5 (lv * 2) 61 LA5 y.cells LC5 [ptr gn, .int .i64 (c : Int)] rfl rfl rfl R5 hA5.out rfl (szStop _ _) (by simp [Value.oneCell']) ?_; intro wz rz oz))
              go_roundw
              case rel =>
                have rz2 : Row wz 61 g5 (lksC (ps.set lv ⟨some gn, (c : Int)⟩)) := hset.out ▸ rz
                have hi7 : 16 - (i + 1) = lv := by have := hLV.out; omega
                refine ⟨i + 1, c, ⟨⟨nm, ns⟩, gn, bn, hn⟩, ps.set lv ⟨some gn, (c : Int)⟩, by omega, by go_num, rX4.only oz n45, rz2, by simp [hps], rX6.only oz (Ne.symm n56), hc.out, hck, by rw [hi7]; exact Nat.le_of_lt hlt2.out, ?_, BX.trans (oz.below lo5)⟩
                intro v hv1 hv2
                rw [hi7] at hv1
                by_cases hvl : v = lv
                · subst hvl
                  exact ⟨c, _, by rw [List.getElem?_set_self (by omega)], hc.out, hstop.out⟩
                · rw [List.getElem?_set_ne (Ne.symm hvl)]
                  exact hdone v (by omega) hv2
              case measure => simp [intOf]; omega
            | true =>
              have hlt3 : c + q < k := by have := hrr.out; simpa using this.symm
              have x90 := rX9.cell (j := 0) rfl
              have x91 := rX9.cell (j := 1) rfl
              have x61 := rX6.cell (j := 1) rfl
              have bs9 := builtStop gm ((c : Int) + ((q : Int) + 1))
              replace hlt3 := hide hlt3
              clear HC hE c60 cn2
              go_wp2_with (first
                | (with_reducible refine wl_run (o := ⟨some 50, _, _, _, _, _⟩) rfl (.int .i64 ((c : Int) + ((q : Int) + 1))) (run_addZ (.tmp 47) (.tmp 49) rfl rfl rfl hz1.out) ?_)
                | (with_reducible refine wl_build rfl 60 [(0, .tmp 45), (1, .tmp 50)] rfl [(0, .pointer (some ⟨gm, 0, none⟩)), (1, .int .i64 ((c : Int) + ((q : Int) + 1)))] rfl [.pointer (some ⟨gm, 0, none⟩), .int .i64 ((c : Int) + ((q : Int) + 1))] bs9 ?_)
                | (with_reducible refine wl_store_row (o := ⟨none, .store 60 (.tmp 6) (.tmp 51), _, _, _, _⟩) rfl 60 (.tmp 6) (.tmp 51) g6 60 _ [.pointer (some ⟨gm, 0, none⟩), .int .i64 ((c : Int) + ((q : Int) + 1))] rfl rfl rfl rX6 (szStop _ _) rfl (by simp [Value.oneCell']) ?_; intro wz rz oz))
              go_roundw
              case rel =>
                have e9 : ((c + q + 1 : Nat) : Int) = (c : Int) + ((q : Int) + 1) := by omega
                refine ⟨rX4.only oz n46, rX5.only oz n56, c + q + 1, ⟨⟨mm, ms⟩, gm, bm, hm⟩, by rw [e9]; exact rz, hm2.out, hlt3.out, hlm, BX.trans (oz.below lo6)⟩
              case measure =>
                have h3 := hlt3.out
                rw [rz.cell (j := 1) rfl, c61w.out]
                simp [intOf]
                omega
    · obtain rfl : i = 16 := by omega
      have hz := hide (szStops hps)
      have hl1 : (lksC (List.replicate 16 noLk)).length = (lksC ps).length := by rw [lksC_length, lksC_length, hps]; rfl
      replace hl1 := hide hl1
      have ho := hide (lks_one ps)
      go_wp2_with (first
        | (with_reducible refine wl_load_row (o := ⟨some 56, _, _, _, _, _⟩) rfl 61 (.tmp 5) g5 61 (lksC ps) _ rfl rfl r5 Try.underlying61 rfl hz.out ?_)
        | (with_reducible refine wl_store_row rfl 61 (.tmp 4) (.tmp 56) g4 61 _ (lksC ps) rfl rfl rfl r4 hz.out hl1.out ho.out ?_; intro w8 r8 o8; have c8 := r8))
      refine bodyPost_ret (v := .agg (lksC ps).toArray) ?_ rfl ⟨ps, rfl, hps, fun lv h1 => hdone lv (by omega) h1, Bw.trans (o8.below lo4)⟩
      exact results_cell_row Try.results33 _ _ g4 61 _ (0, 0) _ rfl r8 Try.underlying61 rfl hz.out
end Go.Proofs.Ytfklfgaomcbchaa
