/-
  A set's remove: contract. Own work.
-/
import Derived.Test.YtfklfgaomcbchaaZsetI
namespace Go.Proofs.Ytfklfgaomcbchaa
open Go.RowKit Go.Shelf
set_option linter.unusedVariables false
set_option linter.unusedSimpArgs false
theorem run_indexSlZ {P : Program} {w : World} {a : Act} {o : Oper} (t : TypeId) (x y : Operand) (e : TypeId) (z : Nat) (b off len cap : Nat)
    (ho : o.op = .indexAddr t x y) (hu : P.underlying t = some (.slice e)) (hs : ∀ w, (sizeOf e).run P w = .ok z w) (hx : a.eval x = .slice (some ⟨b, off, none⟩) len cap) (hy : a.eval y = .int .i64 0) (hi : 0 < len) :
    (execOp a.eval o).run P w = .ok (.value (.pointer (some ⟨b, off, none⟩))) w := by
  have := run_indexSlN (P := P) (w := w) (a := a) (o := o) t x y e z b off len cap 0 ho hu hs hx hy hi
  simpa using this
/-- A node's links turned. -/
theorem ZAt.turnB {w w' : World} {B : Nat} {N : List Nd} {f : Nat → Nat → Lk} {c : Nat} {n : Nd} (h : ZAt w B N f) (hc : N[c]? = some n) (ho : But n.b w w') (k : Nat → Lk) (hr : Row w' 70 n.b (lksC ((List.range n.h).map k))) : ZAt w' B N fun d => if d = c then k else f d := by
  refine ⟨fun d m e => (h.node d m e).but ho (h.gb d c m n e hc), fun d m e => ?_, h.lo, h.gb, h.gg⟩
  by_cases hd : d = c
  · subst hd
    have e2 : n = m := Option.some.inj (hc.symm.trans e)
    subst e2
    simpa using hr
  · rw [if_neg hd]
    exact (h.link d m e).but ho (h.gg d c m n e hc hd).2
/-- In a rising list a member stands where as many stand ahead. -/
theorem nAhead_at {L : List Sc} (hr : Rising L) {k : Nat} {x : Sc} (h : L[k]? = some x) : nAhead x L = k := by
  have h1 := ahead_iff (x := x) hr k x h
  rw [Sc.less_irrefl] at h1
  have h2 : ¬ k < nAhead x L := of_decide_eq_false h1.symm
  refine Nat.le_antisymm (Nat.le_of_not_lt h2) ?_
  rcases Nat.eq_zero_or_pos k with h0 | h0
  · omega
  · have hk : k < L.length := (List.getElem?_eq_some_iff.1 h).1
    have e : L[k - 1]? = some L[k - 1] := List.getElem?_eq_getElem (by omega)
    have h3 := ahead_iff (x := x) hr (k - 1) _ e
    have h4 : (L[k - 1]).less x = true := by
      have h5 := List.pairwise_iff_getElem.1 hr (k - 1) k (by omega) hk (by omega)
      rw [(List.getElem?_eq_some_iff.1 h).2] at h5
      exact h5
    rw [h4] at h3
    have := of_decide_eq_true h3.symm
    omega
theorem putL_at {Ls : List Nd} {k : Nat} {nd : Nd} (hk : k ≤ Ls.length) : (putL Ls k nd)[k]? = some nd := by
  have := put_mid (hd := nd) (nd := nd) (Ls := Ls) hk
  rwa [List.getElem?_cons_succ] at this
theorem putL_len {Ls : List Nd} {k : Nat} {nd : Nd} (hk : k ≤ Ls.length) : (putL Ls k nd).length = Ls.length + 1 := by
  show (Ls.take k ++ nd :: Ls.drop k).length = _
  rw [List.length_append, List.length_cons, List.length_take, List.length_drop]; omega
theorem scs_putL (Ls : List Nd) (k : Nat) (nd : Nd) (hk : k ≤ Ls.length) : (scs (putL Ls k nd))[k]? = some nd.a := by
  show ((putL Ls k nd).map Nd.a)[k]? = _
  rw [List.getElem?_map, putL_at hk]; rfl
theorem lks_cell0 (f : Nat → Lk) (h : Nat) (h0 : 0 < h) : (lksC ((List.range h).map f))[0]? = some (.pointer ((f 0).to.map fun g => ⟨g, 0, none⟩)) := by
  rw [lks_part f h 0 h0]; rfl
def SRem9 (k c i gn bn bc hn : Nat) (nm : Nm) (ns xn : Int) (xt : Option Nat) (opn : Nat) (v : Value) : Prop :=
  match opn with
  | 0 | 9 | 10 | 23 => v = .pointer (some ⟨bc, i * 2, none⟩)
  | 1 | 2 | 13 | 14 => v = .pointer (some ⟨gn, 0, none⟩)
  | 3 | 15 => v = .pointer (some ⟨gn, 2, none⟩)
  | 4 | 16 => v = .slice (some ⟨bn, 0, none⟩) hn hn
  | 5 | 17 => v = .int .i64 (i : Int)
  | 6 | 18 => v = .pointer (some ⟨bn, 0 + i * 2, none⟩)
  | 7 => v = .pointer (some ⟨bn, i * 2, none⟩)
  | 8 => v = .pointer (xt.map fun g => ⟨g, 0, none⟩)
  | 11 => v = .pointer (some ⟨bc, i * 2 + 1, none⟩)
  | 12 => v = .int .i64 ((k - c : Nat) : Int)
  | 19 => v = .pointer (some ⟨bn, i * 2 + 1, none⟩)
  | 20 => v = .int .i64 xn
  | 21 => v = .int .i64 (((k - c : Nat) : Int) + xn)
  | 22 => v = .agg [.pointer (xt.map fun g => ⟨g, 0, none⟩), .int .i64 (((k - c : Nat) : Int) + xn)].toArray
  | _ => True

set_option maxRecDepth 100000 in
set_option maxHeartbeats 4000000 in
theorem remove_any (w : World) (B k : Nat) (hd nd : Nd) (Ls : List Nd) (hk : k ≤ Ls.length) (hZ : ZAt w B (hd :: putL Ls k nd) (full (putL Ls k nd))) (hh : hd.h = 16) (hl : Ls.length ≤ 999998) (hr : Rising (scs (putL Ls k nd))) :
    Calls Try.prog 37 #[ptr hd.g, nd.a.val] w fun e w' => e = .returned (.tuple #[]) ∧ ZAt w' B (hd :: Ls) (full Ls) ∧ ButZ ((hd :: putL Ls k nd).map Nd.b) w w' := by
  have HAh := fun w => ahead_any w nd.a
  have hna : nAhead nd.a (scs (putL Ls k nd)) = k := nAhead_at hr (scs_putL Ls k nd hk)
  have hpl := putL_len (nd := nd) hk
  have HWk := fun w1 (hb : Below w.heap.size w w1) g (hx : Row w1 35 g nd.a.cells) => walkTo_any w1 B hd (putL Ls k nd) nd.a g (hZ.later hb) hh (by omega) hr hx
  rw [hna] at HWk
  have hmid := put_mid (hd := hd) (nd := nd) hk
  have hlon := hZ.lo _ _ hmid
  obtain ⟨nk, hnk⟩ : ∃ nk, (hd :: putL Ls k nd)[k]? = some nk := ⟨_, List.getElem?_eq_getElem (by rw [List.length_cons]; omega)⟩
  have hlok := hZ.lo _ _ hnk
  have Hk := hide hZ
  clear hna hr
  obtain ⟨⟨nm, ns⟩, gn, bn, hn⟩ := nd
  obtain ⟨⟨km, ks⟩, gk, bk, hk2⟩ := nk
  go_enter Try.func37, Try.ntmps37
  go_wp2_with (first
    | (with_reducible refine wl_box (o := ⟨some 3, _, _, _, _, _⟩) rfl 35 (.tmp 1) _ [encStr nm, .int .i64 ns] rfl rfl rfl ?_; intro g3 w3 r3 p3 l3 b3)
    | (with_reducible refine wl_load_row (o := ⟨some 10, _, _, _, _, _⟩) rfl 35 (.tmp 3) g3 35 [encStr nm, .int .i64 ns] _ rfl rfl r3 Try.underlying35 rfl (szSc ⟨nm, ns⟩) ?_))
  refine (HAh _).mono ?_
  rintro e wA ⟨gA, rfl, rA, pA, bA⟩
  have B1 := b3.trans (bA.mono b3.size)
  go_wp2_with fail
  refine (HWk wA B1 gA rA).mono ?_
  rintro e wB ⟨ps, rfl, hps, hst, bB⟩
  have B2 := B1.trans (bB.mono B1.size)
  have hz := hide (szStops hps)
  have hl1 : (lksC (List.replicate 16 noLk)).length = (lksC ps).length := by rw [lksC_length, lksC_length, hps]; rfl
  replace hl1 := hide hl1
  have ho := hide (lks_one ps)
  have h40 : (lksC ps)[0]? = some (ptr gk) := by
    obtain ⟨c0, n0, hp0, hN0, hs0⟩ := hst 0 (by omega)
    have e0 : c0 = k := hs0.low (by rw [List.length_cons]; omega) fun j m hj => (hZ.lo j m hj).2.2.1
    rw [e0] at hp0 hN0
    have e1 : (⟨⟨km, ks⟩, gk, bk, hk2⟩ : Nd) = n0 := Option.some.inj (hnk.symm.trans hN0)
    rw [lksL_part ps 0 _ hp0, ← e1]
    rfl
  have hl0 : (lksC ((List.range hk2).map (full (putL Ls k ⟨⟨nm, ns⟩, gn, bn, hn⟩) k)))[0]? = some (ptr gn) := by
    have h1 : 1 ≤ hk2 := hlok.2.2.1
    have h2 : 1 ≤ hn := hlon.2.2.1
    rw [lks_cell0 _ _ (by omega)]
    have e : full (putL Ls k ⟨⟨nm, ns⟩, gn, bn, hn⟩) k 0 = ⟨some gn, 1⟩ := by
      show nxt 0 ((Ls.take k ++ _ :: Ls.drop k).drop k) = _
      rw [put_part _ (Nat.le_refl k) hk, List.drop_of_length_le (by rw [List.length_take]; omega), List.nil_append]
      show (if 0 < hn then _ else _) = _
      rw [if_pos (by omega)]
    rw [e]
    rfl
  replace h40 := hide h40
  replace hl0 := hide hl0
  have hk2p := hide (show 0 < hk2 from hlok.2.2.1)
  replace hst := hide hst
  replace hps := hide hps
  go_wp2_with (first
    | (with_reducible refine wl_alloc (o := ⟨some 4, _, _, _, _, _⟩) rfl 61 _ (lksC (List.replicate 16 noLk)) rfl rfl rfl ?_; intro g4 w4 r4 p4 l4 b4)
    | (with_reducible refine wl_store_row rfl 61 (.tmp 4) (.tmp 12) g4 61 _ (lksC ps) rfl rfl rfl r4 hz.out hl1.out ho.out ?_; intro w5 r5 o5; have B3 := B2.trans ((b4.trans (o5.below p4)).mono B2.size); have hz5 := Hk.out.later B3; have c40 := r5.cell h40.out; have ck2 := (hz5.node _ _ hnk).cell (j := 2) rfl; have cl0 := (hz5.link _ _ hnk).cell hl0.out)
    | (with_reducible refine wl_run (o := ⟨some 19, _, _, _, _, _⟩) rfl (.pointer (some ⟨bk, 0, none⟩)) (run_indexSlZ 65 (.tmp 18) _ 70 2 bk 0 hk2 hk2 rfl Try.underlying65 Try.sizeOf70 rfl rfl hk2p.out) ?_)
    | (with_reducible refine wl_load_row (o := ⟨some 22, _, _, _, _, _⟩) rfl 61 (.tmp 4) g4 61 (lksC ps) _ rfl rfl r5 Try.underlying61 rfl hz.out ?_))
  have hlo : ∀ (c : Nat) (n : Nd), (hd :: putL Ls k ⟨⟨nm, ns⟩, gn, bn, hn⟩)[c]? = some n → n.g < w.heap.size ∧ n.b < w.heap.size := fun c n h => ⟨(hZ.node c n h).lt, (hZ.link c n h).lt⟩
  have lo4 : w.heap.size ≤ g4 := Nat.le_trans B2.size p4
  have S4 : ButZ ((hd :: putL Ls k ⟨⟨nm, ns⟩, gn, bn, hn⟩).map Nd.b) w w5 := ButZ.of B3
  have hz0 : ZAt w5 B (hd :: putL Ls k ⟨⟨nm, ns⟩, gn, bn, hn⟩) (midRm Ls k ⟨⟨nm, ns⟩, gn, bn, hn⟩ 0) := hz5.congr fun c n lv _ _ => rfl
  replace hlo := hide hlo
  replace hmid := hide hmid
  clear hlon hlok hl0 hk2p h40 hnk HAh HWk rA bA bB pA p3 l3 r3 b3 B1 B2 r4 p4 l4 b4 o5 B3 hz5 c40 ck2 cl0 hpl ho hl1 Hk hZ
  go_loopw [23] (fun iv wr => ∃ i : Nat, i ≤ 16 ∧ iv = .int .i64 (i : Int) ∧ Row wr 61 g4 (lksC ps) ∧ ZAt wr B (hd :: putL Ls k ⟨⟨nm, ns⟩, gn, bn, hn⟩) (midRm Ls k ⟨⟨nm, ns⟩, gn, bn, hn⟩ i) ∧ ButZ ((hd :: putL Ls k ⟨⟨nm, ns⟩, gn, bn, hn⟩).map Nd.b) w wr) (fun iv _ => 16 - (intOf iv).toNat)
  case atStart => exact ⟨0, by omega, rfl, r5, hz0, S4⟩
  case round =>
    clear r5 hz0 S4
    obtain ⟨i, hi, rfl, r4, hz, BW⟩ := hrel
    by_cases hi2 : i < 16
    · have hi3 : (i : Int) < 16 := by omega
      obtain ⟨c, nc, hpc, hNc, hsc⟩ := hst.out i hi2
      obtain ⟨n', hn', hlt'⟩ := hsc.2.1
      have e1 : n' = nc := Option.some.inj (hn'.symm.trans hNc)
      subst e1
      have hcn := hz.gg c (k + 1) _ _ hNc hmid.out (by have := hsc.1; omega)
      have hcg := hz.gb (k + 1) c _ _ hmid.out hNc
      have Hn := hz.node _ _ hmid.out
      have Hl := hz.link _ _ hmid.out
      have HN := hz.node c n' hNc
      have HL := hz.link c n' hNc
      have hpart := lksL_part ((List.range n'.h).map (midRm Ls k ⟨⟨nm, ns⟩, gn, bn, hn⟩ i c)) i (midRm Ls k ⟨⟨nm, ns⟩, gn, bn, hn⟩ i c i) (by simp [hlt'])
      rw [hpart] at HL
      clear hpart
      have hA : (lksC (((List.range n'.h).map (midRm Ls k ⟨⟨nm, ns⟩, gn, bn, hn⟩ i c)).take i)).length = 0 + i * 2 := by rw [lksL_ahead _ i (by simp; omega)]; omega
      have hsc2 : IsStop (hd :: Ls) k i c := hsc.cut hk
      have hnew : nxt i (Ls.drop c) = ⟨(nxt i (Ls.drop k)).to, (nxt i (Ls.drop k)).n + ((k - c : Nat) : Int)⟩ := stop_old hsc2 hk
      have hold : midRm Ls k ⟨⟨nm, ns⟩, gn, bn, hn⟩ i c i = if i < hn then ⟨some gn, ((k - c : Nat) : Int) + 1⟩ else ⟨(nxt i (Ls.drop k)).to, (nxt i (Ls.drop k)).n + ((k - c : Nat) : Int) + 1⟩ := by
        unfold midRm
        rw [if_neg (Nat.lt_irrefl i)]
        exact stop_new _ hsc2 hk
      have hown : midRm Ls k ⟨⟨nm, ns⟩, gn, bn, hn⟩ i (k + 1) i = nxt i (Ls.drop k) := by
        unfold midRm
        rw [if_neg (Nat.lt_irrefl i), put_drop hk (Nat.le_refl _), Nat.add_sub_cancel]
      rw [hold] at HL
      have hpn := nxt_n i (Ls.drop k)
      obtain ⟨X, hX⟩ : ∃ X, X = nxt i (Ls.drop k) := ⟨_, rfl⟩
      rw [← hX] at HL hpn hnew hown
      obtain ⟨xt, xn⟩ := X
      clear hX hold
      have hdl : ((Ls.drop k).length : Int) ≤ 999998 := by rw [List.length_drop]; omega
      have hset : ∀ z : Lk, lksC (((List.range n'.h).map (midRm Ls k ⟨⟨nm, ns⟩, gn, bn, hn⟩ i c)).take i) ++ (z.cells ++ lksC (((List.range n'.h).map (midRm Ls k ⟨⟨nm, ns⟩, gn, bn, hn⟩ i c)).drop (i + 1))) = lksC ((List.range n'.h).map fun l => if l = i then z else midRm Ls k ⟨⟨nm, ns⟩, gn, bn, hn⟩ i c l) := by
        intro z
        rw [← List.map_take, ← List.map_drop, List.take_range, Nat.min_eq_left (Nat.le_of_lt hlt'), lks_turn _ _ _ _ hlt']
      generalize lksC (((List.range n'.h).map (midRm Ls k ⟨⟨nm, ns⟩, gn, bn, hn⟩ i c)).take i) = LA at *
      generalize lksC (((List.range n'.h).map (midRm Ls k ⟨⟨nm, ns⟩, gn, bn, hn⟩ i c)).drop (i + 1)) = LC at *
      replace hset := hide hset
      have hck := hsc.1
      obtain ⟨⟨zm, zs⟩, gc, bc, hc⟩ := n'
      have hlti : (i : Int) < (hc : Int) := by have : i < hc := hlt'; omega
      have hpn2 := hide (show 0 ≤ xn ∧ xn ≤ 999998 from ⟨hpn.1, Int.le_trans hpn.2 hdl⟩)
      have hpn3 : 0 ≤ xn ∧ xn ≤ 999998 := hpn2.out
      have hkc : ((k - c : Nat) : Int) ≤ 999998 := by omega
      have hPS := hide hps.out
      have hPC := hide hpc
      have hLT := hide (show i < hc from hlt')
      have hAl := hide (show LA.length = i * 2 by rw [hA]; omega)
      have hlob := hide (show bc < wr.heap.size by exact (hz.link _ _ hNc).lt)
      have h4b := hide (show g4 ≠ bc by have := (hlo.out c _ hNc).2; exact fun e => absurd this (by simp only [← e]; omega))
      have hgb := hide (show gn ≠ bc from hcg)
      have hbb := hide (show bn ≠ bc from Ne.symm hcn.2)
      replace hnew := hide hnew
      replace hown := hide hown
      clear hA hpn hpc hlt' hn' hdl hcn hcg
      replace hsc := hide hsc
      replace hsc2 := hide hsc2
      replace hNc := hide hNc
      replace hck := hide hck
      by_cases hhn : i < hn
      · have hhi : (i : Int) < (hn : Int) := by omega
        rw [if_pos hhn] at HL
        have hAA : lksC ((List.range hn).map (midRm Ls k ⟨⟨nm, ns⟩, gn, bn, hn⟩ i (k + 1))) = _ := lks_part _ hn i hhn
        obtain ⟨pl, hpl⟩ : ∃ pl, pl = ((k - c : Nat) : Int) + 1 := ⟨_, rfl⟩
        have hpl0 : 0 ≤ pl ∧ pl ≤ 2000000 := by omega
        have HLr : Row wr 70 bc (LA ++ ([.pointer (some ⟨gn, 0, none⟩), .int .i64 pl] ++ LC)) := by rw [hpl]; exact HL
        have hz1 := hide (show IntKind.i64.wrap (pl - 1) = pl - 1 from wrap_id rfl (by omega) (by omega))
        have hpl1 : pl - 1 = ((k - c : Nat) : Int) := by omega
        replace hpl := hide hpl
        have hcp : ∀ wz, Row wz 70 bc (LA ++ ([.pointer (some ⟨gn, 0, none⟩), .int .i64 pl] ++ LC)) → wz.cell? ⟨bc, i * 2 + 1, none⟩ = some (.int .i64 pl) := fun wz h => h.cell (by rw [List.getElem?_append_right (by rw [hAl.out]; omega), hAl.out, show i * 2 + 1 - i * 2 = 1 by omega]; rfl)
        replace hcp := hide hcp
        have hlen := hide (show i * 2 + 1 < (LA ++ (([Value.pointer (some ⟨gn, 0, none⟩), Value.int .i64 pl] : List Value) ++ LC)).length by rw [List.length_append, List.length_append, hAl.out]; show i * 2 + 1 < i * 2 + (2 + LC.length); omega)
        replace hpl1 := hide hpl1
        clear HL
        replace hAA := hide hAA
        go_wp2_with (first
          | (with_reducible refine wl_run (o := ⟨some 26, _, _, _, _, _⟩) rfl (.agg #[ptr gc, .int .i64 (c : Int)]) (run_indexStop (.tmp 22) (.tmp 23) ps i ⟨some gc, (c : Int)⟩ rfl rfl rfl hPS.out hPC.out) ?_)
          | (with_reducible refine wl_alloc (o := ⟨some 7, _, _, _, _, _⟩) rfl 60 _ [.pointer none, .int .i64 0] rfl rfl rfl ?_; intro g7 w7 r7 p7 l7 b7)
          | (with_reducible refine wl_store_row (o := ⟨none, .store 60 (.tmp 7) (.tmp 26), _, _, _, _⟩) rfl 60 (.tmp 7) (.tmp 26) g7 60 _ [ptr gc, .int .i64 (c : Int)] rfl rfl rfl r7 (szStop _ _) rfl (by simp [Value.oneCell']) ?_; intro w8 r8 o8; have bq8 : Below wr.heap.size wr w8 := b7.trans (o8.below p7); have c70 := r8.cell (j := 0) rfl; have cn := (Row.later HN bq8).cell (j := 2) rfl; have cp := hcp.out w8 (Row.later HLr bq8); have HL8 := Row.later HLr bq8)
          | (with_reducible refine wl_run (o := ⟨some 33, _, _, _, _, _⟩) rfl (.pointer (some ⟨bc, 0 + i * 2, none⟩)) (run_indexSlN 65 (.tmp 31) (.tmp 32) 70 2 bc 0 hc hc i rfl Try.underlying65 Try.sizeOf70 rfl rfl hLT.out) ?_)
          | (with_reducible refine wl_run (o := ⟨some 38, _, _, _, _, _⟩) rfl (.int .i64 (pl - 1)) (run_subZ (.tmp 37) _ rfl rfl rfl hz1.out) ?_)
          | (with_reducible refine wl_store (o := ⟨none, .store 3 (.tmp 40) (.tmp 38), _, _, _, _⟩) rfl 3 (.tmp 40) (.tmp 38) bc (i * 2 + 1) 70 _ (.int .i64 (pl - 1)) rfl szInt3 rfl rfl HL8 hlen.out rfl ?_; intro w9 r9 o9; have cgn := ((Row.later Hn bq8).only o9 hgb.out).cell (j := 2) rfl))
        rename_i K10 hK10
        have r9p : Row w9 70 bc (LA ++ ([.pointer (some ⟨gn, 0, none⟩), .int .i64 ((k - c : Nat) : Int)] ++ LC)) := by rw [← hpl1.out, ← set_places _ _ _ (.int .i64 pl) _ _ hAl.out]; exact r9
        have rn9 : Row w9 67 gn [encStr nm, .int .i64 ns, .slice (some ⟨bn, 0, none⟩) hn hn] := (Row.later Hn bq8).only o9 hgb.out
        have rl9 : Row w9 70 bn (lksC ((List.range hn).map (midRm Ls k ⟨⟨nm, ns⟩, gn, bn, hn⟩ i (k + 1)))) := (Row.later Hl bq8).only o9 hbb.out
        rw [hAA.out, hown.out] at rl9
        have hNA := hide (show (lksC ((List.range i).map (midRm Ls k ⟨⟨nm, ns⟩, gn, bn, hn⟩ i (k + 1)))).length = i * 2 by rw [lks_ahead]; omega)
        generalize lksC ((List.range i).map (midRm Ls k ⟨⟨nm, ns⟩, gn, bn, hn⟩ i (k + 1))) = NA at *
        generalize lksC (((List.range hn).drop (i + 1)).map (midRm Ls k ⟨⟨nm, ns⟩, gn, bn, hn⟩ i (k + 1))) = NC at *
        replace rl9 : Row w9 70 bn (NA ++ ([.pointer (xt.map fun g => ⟨g, 0, none⟩), .int .i64 xn] ++ NC)) := rl9
        have hcl1 : ∀ wz, Row wz 70 bc (LA ++ ([.pointer (some ⟨gn, 0, none⟩), .int .i64 ((k - c : Nat) : Int)] ++ LC)) → wz.cell? ⟨bc, i * 2 + 1, none⟩ = some (.int .i64 ((k - c : Nat) : Int)) := fun wz h => h.cell (by rw [List.getElem?_append_right (by rw [hAl.out]; omega), hAl.out, show i * 2 + 1 - i * 2 = 1 by omega]; rfl)
        have hnl0 : ∀ wz, Row wz 70 bn (NA ++ ([.pointer (xt.map fun g => ⟨g, 0, none⟩), .int .i64 xn] ++ NC)) → wz.cell? ⟨bn, i * 2, none⟩ = some (.pointer (xt.map fun g => ⟨g, 0, none⟩)) := fun wz h => h.cell (by rw [List.getElem?_append_right (by rw [hNA.out]; omega), hNA.out, Nat.sub_self]; rfl)
        have hnl1 : ∀ wz, Row wz 70 bn (NA ++ ([.pointer (xt.map fun g => ⟨g, 0, none⟩), .int .i64 xn] ++ NC)) → wz.cell? ⟨bn, i * 2 + 1, none⟩ = some (.int .i64 xn) := fun wz h => h.cell (by rw [List.getElem?_append_right (by rw [hNA.out]; omega), hNA.out, show i * 2 + 1 - i * 2 = 1 by omega]; rfl)
        have hf3 := hide (show IntKind.i64.wrap (((k - c : Nat) : Int) + xn) = ((k - c : Nat) : Int) + xn from wrap_id rfl (by omega) (by omega))
        have hbl := hide (builtLink (xt.map fun g => ⟨g, 0, none⟩) (((k - c : Nat) : Int) + xn))
        replace hhn := hide hhn
        clear hAA
        refine wp_region_vals [24] (SRem9 k c i gn bn bc hn nm ns xn xt) (JG bc 70 w9 [24] (fun _ _ _ => True) 0 (LA ++ ([.pointer (xt.map fun g => ⟨g, 0, none⟩), .int .i64 (((k - c : Nat) : Int) + xn)] ++ LC))) (by kernel_rfl) (by kernel_rfl) (by kernel_rfl) (by kernel_rfl) (by kernel_rfl) (JG.start _) ?obs10 ?he10
        case obs10 =>
          refine ⟨?_, ?_, ?_, ?_, ?_, ?_, ?_, ?_, ?_, ?_, ?_, ?_, ?_, ?_, ?_, ?_, ?_, ?_, ?_, ?_, ?_, ?_, ?_, ?_, ?_, trivial⟩
          · exact .inl ⟨by kernel_rfl, fun L a1 w1 n h => ⟨_, rfl, run_move (.tmp 8) rfl (h.var n 8 (by kernel_rfl))⟩⟩
          · exact .inl ⟨by kernel_rfl, fun L a1 w1 n h => ⟨_, rfl, run_move (.tmp 5) rfl (h.var n 5 (by kernel_rfl))⟩⟩
          · refine .inl ⟨by kernel_rfl, fun L a1 w1 n h => ⟨.pointer (some ⟨gn, 0, none⟩), rfl, ?_⟩⟩
            have e0 : a1.eval (.tmp 49) = _ := h.dep n 1 49 (by kernel_rfl) rfl
            unfold execOp
            simp only [e0]
            go_simp
          · refine .inl ⟨by kernel_rfl, fun L a1 w1 n h => ⟨.pointer (some ⟨gn, 2, none⟩), rfl, ?_⟩⟩
            have e0 : a1.eval (.tmp 50) = _ := h.dep n 2 50 (by kernel_rfl) rfl
            unfold execOp
            simp only [e0]
            go_simp
          · exact .inl ⟨by kernel_rfl, fun L a1 w1 n h => ⟨_, rfl, run_loadA 65 (.tmp 51) ⟨gn, 2, none⟩ rfl Try.isAgg65 (h.dep n 3 51 (by kernel_rfl) rfl) ((Row.later rn9 ((h.inv.1 ((bits_at rfl).trans (n.later (by kernel_rfl)))).1)).cell (j := 2) (v := .slice (some ⟨bn, 0, none⟩) hn hn) rfl)⟩⟩
          · exact .inl ⟨by kernel_rfl, fun L a1 w1 n h => ⟨_, rfl, run_move (.tmp 6) rfl (h.var n 6 (by kernel_rfl))⟩⟩
          · exact .inl ⟨by kernel_rfl, fun L a1 w1 n h => ⟨_, rfl, run_indexSlN 65 (.tmp 52) (.tmp 53) 70 2 bn 0 hn hn i rfl Try.underlying65 Try.sizeOf70 (h.dep n 4 52 (by kernel_rfl) rfl) (h.dep n 5 53 (by kernel_rfl) rfl) hhn.out⟩⟩
          · refine .inl ⟨by kernel_rfl, fun L a1 w1 n h => ⟨.pointer (some ⟨bn, i * 2, none⟩), rfl, ?_⟩⟩
            have e0 : a1.eval (.tmp 54) = _ := h.dep n 6 54 (by kernel_rfl) rfl
            unfold execOp
            simp only [e0]
            go_simp
          · exact .inl ⟨by kernel_rfl, fun L a1 w1 n h => ⟨_, rfl, run_loadA 50 (.tmp 55) ⟨bn, i * 2, none⟩ rfl Try.isAgg50 (h.dep n 7 55 (by kernel_rfl) rfl) (hnl0 w1 (Row.later rl9 ((h.inv.1 ((bits_at rfl).trans (n.later (by kernel_rfl)))).1)))⟩⟩
          · exact .inl ⟨by kernel_rfl, fun L a1 w1 n h => ⟨_, rfl, run_move (.tmp 8) rfl (h.var n 8 (by kernel_rfl))⟩⟩
          · refine .inl ⟨by kernel_rfl, fun L a1 w1 n h => ⟨.pointer (some ⟨bc, i * 2, none⟩), rfl, ?_⟩⟩
            have e0 : a1.eval (.tmp 57) = _ := h.dep n 9 57 (by kernel_rfl) rfl
            unfold execOp
            simp only [e0]
            go_simp
          · refine .inl ⟨by kernel_rfl, fun L a1 w1 n h => ⟨.pointer (some ⟨bc, i * 2 + 1, none⟩), rfl, ?_⟩⟩
            have e0 : a1.eval (.tmp 58) = _ := h.dep n 10 58 (by kernel_rfl) rfl
            unfold execOp
            simp only [e0]
            go_simp
          · exact .inl ⟨by kernel_rfl, fun L a1 w1 n h => ⟨_, rfl, run_loadA 3 (.tmp 59) ⟨bc, i * 2 + 1, none⟩ rfl Try.isAgg3 (h.dep n 11 59 (by kernel_rfl) rfl) (hcl1 w1 (Row.later r9p ((h.inv.1 ((bits_at rfl).trans (n.later (by kernel_rfl)))).1)))⟩⟩
          · exact .inl ⟨by kernel_rfl, fun L a1 w1 n h => ⟨_, rfl, run_move (.tmp 5) rfl (h.var n 5 (by kernel_rfl))⟩⟩
          · refine .inl ⟨by kernel_rfl, fun L a1 w1 n h => ⟨.pointer (some ⟨gn, 0, none⟩), rfl, ?_⟩⟩
            have e0 : a1.eval (.tmp 61) = _ := h.dep n 13 61 (by kernel_rfl) rfl
            unfold execOp
            simp only [e0]
            go_simp
          · refine .inl ⟨by kernel_rfl, fun L a1 w1 n h => ⟨.pointer (some ⟨gn, 2, none⟩), rfl, ?_⟩⟩
            have e0 : a1.eval (.tmp 62) = _ := h.dep n 14 62 (by kernel_rfl) rfl
            unfold execOp
            simp only [e0]
            go_simp
          · exact .inl ⟨by kernel_rfl, fun L a1 w1 n h => ⟨_, rfl, run_loadA 65 (.tmp 63) ⟨gn, 2, none⟩ rfl Try.isAgg65 (h.dep n 15 63 (by kernel_rfl) rfl) ((Row.later rn9 ((h.inv.1 ((bits_at rfl).trans (n.later (by kernel_rfl)))).1)).cell (j := 2) (v := .slice (some ⟨bn, 0, none⟩) hn hn) rfl)⟩⟩
          · exact .inl ⟨by kernel_rfl, fun L a1 w1 n h => ⟨_, rfl, run_move (.tmp 6) rfl (h.var n 6 (by kernel_rfl))⟩⟩
          · exact .inl ⟨by kernel_rfl, fun L a1 w1 n h => ⟨_, rfl, run_indexSlN 65 (.tmp 64) (.tmp 65) 70 2 bn 0 hn hn i rfl Try.underlying65 Try.sizeOf70 (h.dep n 16 64 (by kernel_rfl) rfl) (h.dep n 17 65 (by kernel_rfl) rfl) hhn.out⟩⟩
          · refine .inl ⟨by kernel_rfl, fun L a1 w1 n h => ⟨.pointer (some ⟨bn, i * 2 + 1, none⟩), rfl, ?_⟩⟩
            have e0 : a1.eval (.tmp 66) = _ := h.dep n 18 66 (by kernel_rfl) rfl
            unfold execOp
            simp only [e0]
            go_simp
          · exact .inl ⟨by kernel_rfl, fun L a1 w1 n h => ⟨_, rfl, run_loadA 3 (.tmp 67) ⟨bn, i * 2 + 1, none⟩ rfl Try.isAgg3 (h.dep n 19 67 (by kernel_rfl) rfl) (hnl1 w1 (Row.later rl9 ((h.inv.1 ((bits_at rfl).trans (n.later (by kernel_rfl)))).1)))⟩⟩
          · exact .inl ⟨by kernel_rfl, fun L a1 w1 n h => ⟨_, rfl, run_addZ (.tmp 60) (.tmp 68) rfl (h.dep n 12 60 (by kernel_rfl) rfl) (h.dep n 20 68 (by kernel_rfl) rfl) hf3.out⟩⟩
          · exact .inl ⟨by kernel_rfl, fun L a1 w1 n h => ⟨_, rfl, run_build2 70 (.tmp 56) (.tmp 69) (.pointer (xt.map fun g => ⟨g, 0, none⟩)) (.int .i64 (((k - c : Nat) : Int) + xn)) rfl (h.dep n 8 56 (by kernel_rfl) rfl) (h.dep n 21 69 (by kernel_rfl) rfl) hbl.out⟩⟩
          · refine .inl ⟨by kernel_rfl, fun L a1 w1 n h => ⟨.pointer (some ⟨bc, i * 2, none⟩), rfl, ?_⟩⟩
            have e0 : a1.eval (.tmp 48) = _ := h.dep n 0 48 (by kernel_rfl) rfl
            unfold execOp
            simp only [e0]
            go_simp
          · refine .inr fun L a1 w1 n h K hK => ?_
            have no : L.getD 24 false = false := n.not_yet
            have h0 := (h.inv.1 ((bits_at rfl).trans no)).1
            refine st_store_part 70 (.tmp 71) (.tmp 70) bc (i * 2) 70 LA [.pointer (some ⟨gn, 0, none⟩), .int .i64 ((k - c : Nat) : Int)] LC [.pointer (xt.map fun g => ⟨g, 0, none⟩), .int .i64 (((k - c : Nat) : Int) + xn)] rfl (h.dep n 23 71 (by kernel_rfl) rfl) (h.dep n 22 70 (by kernel_rfl) rfl) (Row.later r9p h0) hAl.out rfl (szLink _ _) (by simp [Value.oneCell']) ?_
            intro w3 r3 o3
            exact JG.store h hK no rfl trivial r3 o3
        case he10 =>
          intro V w11 hV hJ
          obtain ⟨o11, rl11⟩ := JG.last hJ rfl
          clear hV hJ
          simp only [putOps, List.setIfInBounds_toArray, List.set_cons_succ, List.set_cons_zero, Nat.reduceAdd]
          refine hK10 _ _ ?_
          go_wp2_with fail
          go_roundw
          case rel =>
            have hrow2 : Row w9 70 bc (lksC ((List.range hc).map fun l => if l = i then ⟨some gn, ((k - c : Nat) : Int)⟩ else midRm Ls k ⟨⟨nm, ns⟩, gn, bn, hn⟩ i c l)) := by
              rw [← hset.out]; exact r9p
            have hrow3 : Row w11 70 bc (lksC ((List.range hc).map fun l => if l = i then nxt i (Ls.drop c) else midRm Ls k ⟨⟨nm, ns⟩, gn, bn, hn⟩ i c l)) := by
              rw [← hset.out, hnew.out, Int.add_comm]; exact rl11
            have hz9 := (hz.later bq8).turn hNc.out o9 _ hrow2
            have hz12 := hz9.turnB hNc.out o11 _ hrow3
            have r4z := ((Row.later r4 bq8).only o9 h4b.out).but o11 h4b.out
            refine ⟨i + 1, by omega, by go_num, r4z, hz12.congr fun e n lv he hl => ?_, ((BW.trans (ButZ.of bq8)).only o9 (.inr (List.mem_map.2 ⟨_, List.mem_of_getElem? hNc.out, rfl⟩))).but o11 (.inr (List.mem_map.2 ⟨_, List.mem_of_getElem? hNc.out, rfl⟩))⟩
            rw [← rm_next hk hsc2.out e n lv he hl]
            by_cases hec : e = c
            · rw [if_pos hec, if_pos hec]
            · rw [if_neg hec, if_neg hec, if_neg hec]
          case measure => simp [intOf]; omega
      · have hhi : ¬ (i : Int) < (hn : Int) := by omega
        rw [if_neg hhn] at HL
        obtain ⟨pl, hpl⟩ : ∃ pl, pl = xn + ((k - c : Nat) : Int) + 1 := ⟨_, rfl⟩
        have hpl0 : 0 ≤ pl ∧ pl ≤ 2000000 := by omega
        have HLr : Row wr 70 bc (LA ++ ([.pointer (xt.map fun g => ⟨g, 0, none⟩), .int .i64 pl] ++ LC)) := by rw [hpl]; exact HL
        have hz1 := hide (show IntKind.i64.wrap (pl - 1) = pl - 1 from wrap_id rfl (by omega) (by omega))
        have hpl1 : pl - 1 = xn + ((k - c : Nat) : Int) := by omega
        replace hpl := hide hpl
        have hcp : ∀ wz, Row wz 70 bc (LA ++ ([.pointer (xt.map fun g => ⟨g, 0, none⟩), .int .i64 pl] ++ LC)) → wz.cell? ⟨bc, i * 2 + 1, none⟩ = some (.int .i64 pl) := fun wz h => h.cell (by rw [List.getElem?_append_right (by rw [hAl.out]; omega), hAl.out, show i * 2 + 1 - i * 2 = 1 by omega]; rfl)
        replace hcp := hide hcp
        have hlen := hide (show i * 2 + 1 < (LA ++ (([Value.pointer (xt.map fun g => ⟨g, 0, none⟩), Value.int .i64 pl] : List Value) ++ LC)).length by rw [List.length_append, List.length_append, hAl.out]; show i * 2 + 1 < i * 2 + (2 + LC.length); omega)
        replace hpl1 := hide hpl1
        clear HL
        go_wp2_with (first
          | (with_reducible refine wl_run (o := ⟨some 26, _, _, _, _, _⟩) rfl (.agg #[ptr gc, .int .i64 (c : Int)]) (run_indexStop (.tmp 22) (.tmp 23) ps i ⟨some gc, (c : Int)⟩ rfl rfl rfl hPS.out hPC.out) ?_)
          | (with_reducible refine wl_alloc (o := ⟨some 7, _, _, _, _, _⟩) rfl 60 _ [.pointer none, .int .i64 0] rfl rfl rfl ?_; intro g7 w7 r7 p7 l7 b7)
          | (with_reducible refine wl_store_row (o := ⟨none, .store 60 (.tmp 7) (.tmp 26), _, _, _, _⟩) rfl 60 (.tmp 7) (.tmp 26) g7 60 _ [ptr gc, .int .i64 (c : Int)] rfl rfl rfl r7 (szStop _ _) rfl (by simp [Value.oneCell']) ?_; intro w8 r8 o8; have bq8 : Below wr.heap.size wr w8 := b7.trans (o8.below p7); have c70 := r8.cell (j := 0) rfl; have cn := (Row.later HN bq8).cell (j := 2) rfl; have cp := hcp.out w8 (Row.later HLr bq8); have HL8 := Row.later HLr bq8)
          | (with_reducible refine wl_run (o := ⟨some 33, _, _, _, _, _⟩) rfl (.pointer (some ⟨bc, 0 + i * 2, none⟩)) (run_indexSlN 65 (.tmp 31) (.tmp 32) 70 2 bc 0 hc hc i rfl Try.underlying65 Try.sizeOf70 rfl rfl hLT.out) ?_)
          | (with_reducible refine wl_run (o := ⟨some 38, _, _, _, _, _⟩) rfl (.int .i64 (pl - 1)) (run_subZ (.tmp 37) _ rfl rfl rfl hz1.out) ?_)
          | (with_reducible refine wl_store (o := ⟨none, .store 3 (.tmp 40) (.tmp 38), _, _, _, _⟩) rfl 3 (.tmp 40) (.tmp 38) bc (i * 2 + 1) 70 _ (.int .i64 (pl - 1)) rfl szInt3 rfl rfl HL8 hlen.out rfl ?_; intro w9 r9 o9; have cgn := ((Row.later Hn bq8).only o9 hgb.out).cell (j := 2) rfl))
        go_roundw
        case rel =>
          have hrow : Row w9 70 bc (LA ++ ([Value.pointer (xt.map fun g => ⟨g, 0, none⟩), .int .i64 (pl - 1)] ++ LC)) := by rw [← set_places _ _ _ (.int .i64 pl) _ _ hAl.out]; exact r9
          have hrow2 : Row w9 70 bc (lksC ((List.range hc).map fun l => if l = i then nxt i (Ls.drop c) else midRm Ls k ⟨⟨nm, ns⟩, gn, bn, hn⟩ i c l)) := by
            rw [← hset.out, hnew.out, ← hpl1.out]; exact hrow
          have hz9 := (hz.later bq8).turn hNc.out o9 _ hrow2
          exact ⟨i + 1, by omega, by go_num, (Row.later r4 bq8).only o9 h4b.out, hz9.congr fun e n lv he hl => rm_next hk hsc2.out e n lv he hl, (BW.trans (ButZ.of bq8)).only o9 (.inr (List.mem_map.2 ⟨_, List.mem_of_getElem? hNc.out, rfl⟩))⟩
        case measure => simp [intOf]; omega
    · obtain rfl : i = 16 := by omega
      go_wp2_with fail
      go_end0
      exact ⟨rfl, hz.cut hk, BW⟩
end Go.Proofs.Ytfklfgaomcbchaa
