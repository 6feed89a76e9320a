/-
  A set's insert: contract. Own work.
-/
import Derived.Test.YtfklfgaomcbchaaZsetHa
namespace Go.Proofs.Ytfklfgaomcbchaa
open Go.RowKit Go.Shelf
set_option linter.unusedVariables false
set_option linter.unusedSimpArgs false
theorem szInt3 : (Try.prog.info? 3).map (·.size) = some 1 := by kernel_rfl
/-- The second cell of a link within a row turned. -/
theorem set_places (A C : List Value) (p v u : Value) (j : Nat) (h : A.length = j) : (A ++ ([p, v] ++ C)).set (j + 1) u = A ++ ([p, u] ++ C) := by
  subst h
  rw [List.set_append_right _ _ (by omega), show A.length + 1 - A.length = 1 by omega]
  rfl
def SIns10 (k c i gn bn bc hn : Nat) (xm : Nm) (xs pl xn : Int) (xt : Option Nat) (opn : Nat) (v : Value) : Prop :=
  match opn with
  | 0 | 1 => v = .pointer (some ⟨gn, 0, none⟩)
  | 2 => v = .pointer (some ⟨gn, 2, none⟩)
  | 3 => v = .slice (some ⟨bn, 0, none⟩) hn hn
  | 4 => v = .int .i64 (i : Int)
  | 5 | 6 | 7 | 9 | 10 => v = .pointer (some ⟨bc, i * 2, none⟩)
  | 8 => v = .pointer (xt.map fun g => ⟨g, 0, none⟩)
  | 11 => v = .pointer (some ⟨bc, i * 2 + 1, none⟩)
  | 12 => v = .int .i64 (pl + 1)
  | 13 => v = .int .i64 (((k - c : Nat) : Int) + 1)
  | 14 => v = .int .i64 xn
  | 15 => v = .agg [.pointer (xt.map fun g => ⟨g, 0, none⟩), .int .i64 xn].toArray
  | 16 => v = .pointer (some ⟨bn, 0 + i * 2, none⟩)
  | _ => True

theorem run_build2 {P : Program} {w : World} {a : Act} {o : Oper} (t : TypeId) (x y : Operand) (u v : Value) (ho : o.op = .build t #[(0, x), (1, y)]) (hx : a.eval x = u) (hy : a.eval y = v) (hb : P.built t [(0, u), (1, v)] = some [u, v].toArray) : (execOp a.eval o).run P w = .ok (.value (.agg [u, v].toArray)) w :=
  run_buildX t [(0, x), (1, y)] ho [(0, u), (1, v)] (by simp only [List.map_cons, List.map_nil, hx, hy]) [u, v] hb
theorem builtLink (p : Option Addr) (x : Int) : Try.prog.built 70 [(0, .pointer p), (1, .int .i64 x)] = some [.pointer p, .int .i64 x].toArray := by kernel_rfl
set_option maxRecDepth 100000 in
set_option maxHeartbeats 4000000 in
theorem insert_any2 (w : World) (B : Nat) (hd : Nd) (Ls : List Nd) (x : Sc) (hZ : ZAt w B (hd :: Ls) (full Ls)) (hh : hd.h = 16) (hl : Ls.length ≤ 999999) (hr : Rising (scs Ls)) (hxm : x.m.length ≤ 1000000) (hB : B ≤ w.heap.size) :
    Calls Try.prog 39 #[ptr hd.g, x.val] w fun e w' => ∃ nd : Nd, nd.a = x ∧ e = .returned (.tuple #[]) ∧ ZAt w' B (hd :: (Ls.take (nAhead x (scs Ls)) ++ nd :: Ls.drop (nAhead x (scs Ls)))) (full (Ls.take (nAhead x (scs Ls)) ++ nd :: Ls.drop (nAhead x (scs Ls)))) ∧ ButZ ((hd :: Ls).map Nd.b) w w' ∧ w.heap.size ≤ nd.b := by
  have HAh := fun w => ahead_any w x
  have HNw := fun w => newNode_any w x hxm
  have HWk := fun w1 (hb : Below w.heap.size w w1) g (hx : Row w1 35 g x.cells) => walkTo_any w1 B hd Ls x g (hZ.later hb) hh (by omega) hr hx
  obtain ⟨k, hk⟩ : ∃ k, k = nAhead x (scs Ls) := ⟨_, rfl⟩
  have hkl : k ≤ Ls.length := by rw [hk]; simpa using nAhead_le x (scs Ls)
  rw [← hk] at HWk ⊢
  replace hk := hide hk
  obtain ⟨xm, xs⟩ := x
  go_enter Try.func39, Try.ntmps39
  go_wp2_with (first
    | (with_reducible refine wl_box (o := ⟨some 3, _, _, _, _, _⟩) rfl 35 (.tmp 1) _ [encStr xm, .int .i64 xs] rfl rfl rfl ?_; intro g3 w3 r3 p3 l3 b3)
    | (with_reducible refine wl_load_row (o := ⟨some 11, _, _, _, _, _⟩) rfl 35 (.tmp 3) g3 35 [encStr xm, .int .i64 xs] _ rfl rfl r3 Try.underlying35 rfl (szSc ⟨xm, xs⟩) ?_))
  refine (HAh _).mono ?_
  rintro e wA ⟨gA, rfl, rA, pA, bA⟩
  have B1 := b3.trans (bA.mono b3.size)
  go_wp2_with fail
  refine (HWk wA B1 gA rA).mono ?_
  rintro e wB ⟨ps, rfl, hps, hst, bB⟩
  have B2 := B1.trans (bB.mono B1.size)
  have r3 := (r3.later bA).later bB
  have hz := hide (szStops hps)
  have hl1 : (lksC (List.replicate 16 noLk)).length = (lksC ps).length := by rw [lksC_length, lksC_length, hps]; rfl
  replace hl1 := hide hl1
  have ho := hide (lks_one ps)
  go_wp2_with (first
    | (with_reducible refine wl_alloc (o := ⟨some 4, _, _, _, _, _⟩) rfl 61 _ (lksC (List.replicate 16 noLk)) rfl rfl rfl ?_; intro g4 w4 r4 p4 l4 b4)
    | (with_reducible refine wl_store_row rfl 61 (.tmp 4) (.tmp 13) g4 61 _ (lksC ps) rfl rfl rfl r4 hz.out hl1.out ho.out ?_; intro w5 r5 o5; have r3 := (r3.later b4).only o5 (by have := r3.lt; omega))
    | (with_reducible refine wl_load_row (o := ⟨some 14, _, _, _, _, _⟩) rfl 35 (.tmp 3) g3 35 [encStr xm, .int .i64 xs] _ rfl rfl r3 Try.underlying35 rfl (szSc ⟨xm, xs⟩) ?_))
  have B3 := B2.trans ((b4.trans (o5.below p4)).mono B2.size)
  refine (HNw _).mono ?_
  rintro e w6 ⟨gn, bn, hn, rfl, hn1, hn16, rn, rl, pn, pb, b6⟩
  have B4 := B3.trans (b6.mono B3.size)
  have r5 := r5.later b6
  go_wp2_with (first
    | (with_reducible refine wl_load_row (o := ⟨some 16, _, _, _, _, _⟩) rfl 61 (.tmp 4) g4 61 (lksC ps) _ rfl rfl r5 Try.underlying61 rfl hz.out ?_))
  have lo4 : w.heap.size ≤ g4 := Nat.le_trans B2.size p4
  have lon : w.heap.size ≤ gn := Nat.le_trans B3.size pn
  have lob : w.heap.size ≤ bn := by omega
  have l4 : g4 < gn := by have := r5.lt; have := b4.size; have := o5.size; have := r4.lt; omega
  have hgnb := hide (show gn < bn by omega)
  have h4bn := hide (show g4 ≠ bn by omega)
  have HZ := hide hZ
  have Hst := hide hst
  have S4 : ButZ ((hd :: Ls).map Nd.b) w w6 := ButZ.of B4
  have hz0 : ZAt w6 B (hd :: Ls) (midLk Ls k ⟨⟨xm, xs⟩, gn, bn, hn⟩ 0) := (hZ.later B4).congr fun c n lv _ _ => rfl
  have hlo : ∀ (c : Nat) (n : Nd), (hd :: Ls)[c]? = some n → n.g < w.heap.size ∧ n.b < w.heap.size := fun c n h => ⟨(hZ.node c n h).lt, (hZ.link c n h).lt⟩
  have rl0 : Row w6 70 bn (lksC ((List.range hn).map (newLk Ls k 0))) := by
    have e : (List.range hn).map (newLk Ls k 0) = List.replicate hn noLk := by
      apply List.ext_getElem <;> simp [newLk]
    rw [e]; exact rl
  replace hlo := hide hlo
  clear hst hZ HAh HNw HWk rA r3 r4 b3 bA bB b4 o5 b6 B1 B2 B3 B4 pA p3 l3 p4 pn pb rl
  go_loopw [17] (fun iv wr => ∃ i : Nat, i ≤ 16 ∧ iv = .int .i64 (i : Int) ∧ Row wr 61 g4 (lksC ps) ∧ Row wr 67 gn (nodeC ⟨xm, xs⟩ bn hn) ∧ Row wr 70 bn (lksC ((List.range hn).map (newLk Ls k i))) ∧ ZAt wr B (hd :: Ls) (midLk Ls k ⟨⟨xm, xs⟩, gn, bn, hn⟩ i) ∧ ButZ ((hd :: Ls).map Nd.b) w wr) (fun iv _ => 16 - (intOf iv).toNat)
  case atStart => exact ⟨0, by omega, rfl, r5, rn, rl0, hz0, S4⟩
  case round =>
    clear r5 rn rl0 hz0 S4
    obtain ⟨i, hi, rfl, r4, rn, rl, hz, BW⟩ := hrel
    by_cases hi2 : i < 16
    · have hi3 : (i : Int) < 16 := by omega
      obtain ⟨c, nc, hpc, hNc, hsc⟩ := Hst.out i hi2
      have h41 : (lksC ps)[1]? = some (.int .i64 (k : Int)) := by
        obtain ⟨c0, n0, hp0, hN0, hs0⟩ := Hst.out 0 (by omega)
        have e0 : c0 = k := hs0.low (by rw [List.length_cons]; omega) fun j m hj => (hz.lo j m hj).2.2.1
        rw [e0] at hp0
        rw [lksL_part ps 0 _ hp0]
        rfl
      replace h41 := hide h41
      obtain ⟨n', hn', hlt'⟩ := hsc.2.1
      have e1 : n' = nc := Option.some.inj (hn'.symm.trans hNc)
      subst e1
      have HN := hz.node c n' hNc
      have HL := hz.link c n' hNc
      have hpart := lksL_part ((List.range n'.h).map (midLk Ls k ⟨⟨xm, xs⟩, gn, bn, hn⟩ i c)) i (midLk Ls k ⟨⟨xm, xs⟩, gn, bn, hn⟩ i c i) (by simp [hlt'])
      rw [hpart] at HL
      clear hpart
      have hA : (lksC (((List.range n'.h).map (midLk Ls k ⟨⟨xm, xs⟩, gn, bn, hn⟩ i c)).take i)).length = 0 + i * 2 := by rw [lksL_ahead _ i (by simp; omega)]; omega
      have hold : midLk Ls k ⟨⟨xm, xs⟩, gn, bn, hn⟩ i c i = ⟨(nxt i (Ls.drop k)).to, (nxt i (Ls.drop k)).n + ((k - c : Nat) : Int)⟩ := by
        unfold midLk
        rw [if_neg (Nat.lt_irrefl i), stop_old hsc hkl]
      rw [hold] at HL
      have hpn := nxt_n i (Ls.drop k)
      obtain ⟨X, hX⟩ : ∃ X, X = nxt i (Ls.drop k) := ⟨_, rfl⟩
      rw [← hX] at HL hpn
      obtain ⟨xt, xn⟩ := X
      replace hX := hide hX
      have hdl : ((Ls.drop k).length : Int) ≤ 999999 := by rw [List.length_drop]; omega
      have hset : ∀ z : Lk, lksC (((List.range n'.h).map (midLk Ls k ⟨⟨xm, xs⟩, gn, bn, hn⟩ i c)).take i) ++ (z.cells ++ lksC (((List.range n'.h).map (midLk Ls k ⟨⟨xm, xs⟩, gn, bn, hn⟩ i c)).drop (i + 1))) = lksC ((List.range n'.h).map fun l => if l = i then z else midLk Ls k ⟨⟨xm, xs⟩, gn, bn, hn⟩ i c l) := by
        intro z
        rw [← List.map_take, ← List.map_drop, List.take_range, Nat.min_eq_left (Nat.le_of_lt hlt'), lks_turn _ _ _ _ hlt']
      generalize lksC (((List.range n'.h).map (midLk Ls k ⟨⟨xm, xs⟩, gn, bn, hn⟩ i c)).take i) = LA at *
      generalize lksC (((List.range n'.h).map (midLk Ls k ⟨⟨xm, xs⟩, gn, bn, hn⟩ i c)).drop (i + 1)) = LC at *
      replace hset := hide hset
      have hck := hsc.1
      obtain ⟨⟨nm, ns⟩, gc, bc, hc⟩ := n'
      have hlti : (i : Int) < (hc : Int) := by have : i < hc := hlt'; omega
      obtain ⟨pl, hpl⟩ : ∃ pl, pl = xn + ((k - c : Nat) : Int) := ⟨_, rfl⟩
      have hpl0 : 0 ≤ pl ∧ pl ≤ 2000000 := by
        have h1 : 0 ≤ xn := hpn.1
        have h2 : xn ≤ ((Ls.drop k).length : Int) := hpn.2
        omega
      have hz1 := hide (show IntKind.i64.wrap (pl + 1) = pl + 1 from wrap_id rfl (by omega) (by omega))
      rw [show (⟨xt, xn⟩ : Lk).n + ((k - c : Nat) : Int) = pl from hpl.symm] at HL
      replace hpl := hide hpl
      have cn2 := HN.cell (j := 2) rfl
      have HLr : Row wr 70 bc (LA ++ ([.pointer (xt.map fun g => ⟨g, 0, none⟩), .int .i64 pl] ++ LC)) := HL
      have hPS := hide hps
      have hPC := hide hpc
      have hLT := hide (show i < hc from hlt')
      have hAl := hide (show LA.length = i * 2 by rw [hA]; omega)
      have hcp : ∀ wz, Row wz 70 bc (LA ++ ([.pointer (xt.map fun g => ⟨g, 0, none⟩), .int .i64 pl] ++ LC)) → wz.cell? ⟨bc, i * 2 + 1, none⟩ = some (.int .i64 pl) := fun wz h => h.cell (by rw [List.getElem?_append_right (by rw [hAl.out]; omega), hAl.out, show i * 2 + 1 - i * 2 = 1 by omega]; rfl)
      replace hcp := hide hcp
      have hpn2 := hide (show 0 ≤ xn ∧ xn ≤ 999999 from ⟨hpn.1, Int.le_trans hpn.2 hdl⟩)
      clear hold HL hA hpn hps hpc hlt' hn' hdl
      have h4b := hide (show g4 ≠ bc by have := (hlo.out c _ hNc).2; exact fun e => absurd this (by simp only [← e]; omega))
      have hlob := hide (show bc < wr.heap.size by exact HLr.lt)
      have hf1 := hide (show IntKind.i64.wrap ((k : Int) + 1) = (k : Int) + 1 from wrap_id rfl (by omega) (by omega))
      have hf2 := hide (show IntKind.i64.wrap ((k : Int) + 1 - (c : Int)) = ((k - c : Nat) : Int) + 1 from wrap_id (by omega) (by omega) (by omega))
      have hbb := hide (show bn ≠ bc by have := (hlo.out c _ hNc).2; exact fun e => absurd this (by simp only [← e]; omega))
      have hgb := hide (show gn ≠ bc by have := (hlo.out c _ hNc).2; exact fun e => absurd this (by simp only [← e]; omega))
      have hlen := hide (show i * 2 + 1 < (LA ++ (([Value.pointer (xt.map fun g => ⟨g, 0, none⟩), Value.int .i64 pl] : List Value) ++ LC)).length by rw [List.length_append, List.length_append, hAl.out]; show i * 2 + 1 < i * 2 + (2 + LC.length); omega)
      replace hsc := hide hsc
      replace hNc := hide hNc
      replace hck := hide hck
      by_cases hhn : i < hn
      · have hhi : (i : Int) < (hn : Int) := by omega
        go_wp2_with (first
          | (with_reducible refine wl_run (o := ⟨some 20, _, _, _, _, _⟩) rfl (.agg #[ptr gc, .int .i64 (c : Int)]) (run_indexStop (.tmp 16) (.tmp 17) ps i ⟨some gc, (c : Int)⟩ rfl rfl rfl hPS.out hPC.out) ?_)
          | (with_reducible refine wl_alloc (o := ⟨some 7, _, _, _, _, _⟩) rfl 60 _ [.pointer none, .int .i64 0] rfl rfl rfl ?_; intro g7 w7 r7 p7 l7 b7)
          | (with_reducible refine wl_store_row (o := ⟨none, .store 60 (.tmp 7) (.tmp 20), _, _, _, _⟩) rfl 60 (.tmp 7) (.tmp 20) g7 60 _ [ptr gc, .int .i64 (c : Int)] rfl rfl rfl r7 (szStop _ _) rfl (by simp [Value.oneCell']) ?_; intro w8 r8 o8; have bq8 : Below wr.heap.size wr w8 := b7.trans (o8.below p7); have c70 := r8.cell (j := 0) rfl; have cn := (Row.later HN bq8).cell (j := 2) rfl; have cp := hcp.out w8 (Row.later HLr bq8); have HL8 := Row.later HLr bq8)
          | (with_reducible refine wl_run (o := ⟨some 27, _, _, _, _, _⟩) rfl (.pointer (some ⟨bc, 0 + i * 2, none⟩)) (run_indexSlN 65 (.tmp 25) (.tmp 26) 70 2 bc 0 hc hc i rfl Try.underlying65 Try.sizeOf70 rfl rfl hLT.out) ?_)
          | (with_reducible refine wl_run (o := ⟨some 32, _, _, _, _, _⟩) rfl (.int .i64 (pl + 1)) (run_addZ (.tmp 31) _ rfl rfl rfl hz1.out) ?_)
          | (with_reducible refine wl_store (o := ⟨none, .store 3 (.tmp 34) (.tmp 32), _, _, _, _⟩) rfl 3 (.tmp 34) (.tmp 32) bc (i * 2 + 1) 70 _ (.int .i64 (pl + 1)) rfl szInt3 rfl rfl HL8 hlen.out rfl ?_; intro w9 r9 o9; have cgn := ((Row.later rn bq8).only o9 hgb.out).cell (j := 2) rfl; have c41 := ((Row.later r4 bq8).only o9 h4b.out).cell h41.out; have c71 := (r8.only o9 (Ne.symm (Nat.ne_of_lt (Nat.lt_of_lt_of_le hlob.out p7)))).cell (j := 1) rfl)
          | (with_reducible refine wl_run (o := ⟨some 45, _, _, _, _, _⟩) rfl (.int .i64 ((k : Int) + 1)) (run_addZ (.tmp 44) _ rfl rfl rfl hf1.out) ?_)
          | (with_reducible refine wl_run (o := ⟨some 48, _, _, _, _, _⟩) rfl (.int .i64 (((k - c : Nat) : Int) + 1)) (run_subZ (.tmp 45) (.tmp 47) rfl rfl rfl hf2.out) ?_))
        rename_i K10 hK10
        have r9p : Row w9 70 bc (LA ++ ([.pointer (xt.map fun g => ⟨g, 0, none⟩), .int .i64 (pl + 1)] ++ LC)) := by rw [← set_places _ _ _ (.int .i64 pl) _ _ hAl.out]; exact r9
        have rn9 : Row w9 67 gn [encStr xm, .int .i64 xs, .slice (some ⟨bn, 0, none⟩) hn hn] := (Row.later rn bq8).only o9 hgb.out
        have rl9 := (Row.later rl bq8).only o9 hbb.out
        have hnw : newLk Ls k i i = noLk := by unfold newLk; rw [if_neg (Nat.lt_irrefl i)]
        rw [lks_part _ hn i hhn, hnw] at rl9
        have hnset := hide (lks_turn (newLk Ls k i) hn i ⟨xt, xn⟩ hhn)
        have hNA := hide (show (lksC ((List.range i).map (newLk Ls k i))).length = 0 + i * 2 by rw [lks_ahead]; omega)
        generalize lksC ((List.range i).map (newLk Ls k i)) = NA at *
        generalize lksC (((List.range hn).drop (i + 1)).map (newLk Ls k i)) = NC at *
        have hcl0 : ∀ wz, Row wz 70 bc (LA ++ ([.pointer (xt.map fun g => ⟨g, 0, none⟩), .int .i64 (pl + 1)] ++ LC)) → wz.cell? ⟨bc, i * 2, none⟩ = some (.pointer (xt.map fun g => ⟨g, 0, none⟩)) := fun wz h => h.cell (by rw [List.getElem?_append_right (by rw [hAl.out]; omega), hAl.out, Nat.sub_self]; rfl)
        have hcl1 : ∀ wz, Row wz 70 bc (LA ++ ([.pointer (xt.map fun g => ⟨g, 0, none⟩), .int .i64 (pl + 1)] ++ LC)) → wz.cell? ⟨bc, i * 2 + 1, none⟩ = some (.int .i64 (pl + 1)) := fun wz h => h.cell (by rw [List.getElem?_append_right (by rw [hAl.out]; omega), hAl.out, show i * 2 + 1 - i * 2 = 1 by omega]; rfl)
        have hf3 := hide (show IntKind.i64.wrap ((pl + 1) - (((k - c : Nat) : Int) + 1)) = xn from wrap_id (by rw [hpl.out]; omega) (by have := hpn2.out; omega) (by have := hpn2.out; omega))
        have hbl := hide (builtLink (xt.map fun g => ⟨g, 0, none⟩) xn)
        replace hhn := hide hhn
        refine wp_region_vals [17] (SIns10 k c i gn bn bc hn xm xs pl xn xt) (JG bn 70 w9 [17] (fun _ _ _ => True) 0 (NA ++ ([.pointer (xt.map fun g => ⟨g, 0, none⟩), .int .i64 xn] ++ NC))) (by kernel_rfl) (by kernel_rfl) (by kernel_rfl) (by kernel_rfl) (by kernel_rfl) (JG.start _) ?obs10 ?he10
        case obs10 =>
          refine ⟨?_, ?_, ?_, ?_, ?_, ?_, ?_, ?_, ?_, ?_, ?_, ?_, ?_, ?_, ?_, ?_, ?_, ?_, trivial⟩
          · exact .inl ⟨by kernel_rfl, fun L a1 w1 n h => ⟨_, rfl, run_move (.tmp 5) rfl (h.var n 5 (by kernel_rfl))⟩⟩
          · refine .inl ⟨by kernel_rfl, fun L a1 w1 n h => ⟨.pointer (some ⟨gn, 0, none⟩), rfl, ?_⟩⟩
            have e0 : a1.eval (.tmp 49) = _ := h.dep n 0 49 (by kernel_rfl) rfl
            unfold execOp
            simp only [e0]
            go_simp
          · refine .inl ⟨by kernel_rfl, fun L a1 w1 n h => ⟨.pointer (some ⟨gn, 2, none⟩), rfl, ?_⟩⟩
            have e0 : a1.eval (.tmp 50) = _ := h.dep n 1 50 (by kernel_rfl) rfl
            unfold execOp
            simp only [e0]
            go_simp
          · exact .inl ⟨by kernel_rfl, fun L a1 w1 n h => ⟨_, rfl, run_loadA 65 (.tmp 51) ⟨gn, 2, none⟩ rfl Try.isAgg65 (h.dep n 2 51 (by kernel_rfl) rfl) ((Row.later rn9 ((h.inv.1 ((bits_at rfl).trans (n.later (by kernel_rfl)))).1)).cell (j := 2) (v := .slice (some ⟨bn, 0, none⟩) hn hn) rfl)⟩⟩
          · exact .inl ⟨by kernel_rfl, fun L a1 w1 n h => ⟨_, rfl, run_move (.tmp 6) rfl (h.var n 6 (by kernel_rfl))⟩⟩
          · exact .inl ⟨by kernel_rfl, fun L a1 w1 n h => ⟨_, rfl, run_move (.tmp 8) rfl (h.var n 8 (by kernel_rfl))⟩⟩
          · refine .inl ⟨by kernel_rfl, fun L a1 w1 n h => ⟨.pointer (some ⟨bc, i * 2, none⟩), rfl, ?_⟩⟩
            have e0 : a1.eval (.tmp 54) = _ := h.dep n 5 54 (by kernel_rfl) rfl
            unfold execOp
            simp only [e0]
            go_simp
          · refine .inl ⟨by kernel_rfl, fun L a1 w1 n h => ⟨.pointer (some ⟨bc, i * 2, none⟩), rfl, ?_⟩⟩
            have e0 : a1.eval (.tmp 55) = _ := h.dep n 6 55 (by kernel_rfl) rfl
            unfold execOp
            simp only [e0]
            go_simp
          · exact .inl ⟨by kernel_rfl, fun L a1 w1 n h => ⟨_, rfl, run_loadA 50 (.tmp 56) ⟨bc, i * 2, none⟩ rfl Try.isAgg50 (h.dep n 7 56 (by kernel_rfl) rfl) (hcl0 w1 (Row.later r9p ((h.inv.1 ((bits_at rfl).trans (n.later (by kernel_rfl)))).1)))⟩⟩
          · exact .inl ⟨by kernel_rfl, fun L a1 w1 n h => ⟨_, rfl, run_move (.tmp 8) rfl (h.var n 8 (by kernel_rfl))⟩⟩
          · refine .inl ⟨by kernel_rfl, fun L a1 w1 n h => ⟨.pointer (some ⟨bc, i * 2, none⟩), rfl, ?_⟩⟩
            have e0 : a1.eval (.tmp 58) = _ := h.dep n 9 58 (by kernel_rfl) rfl
            unfold execOp
            simp only [e0]
            go_simp
          · refine .inl ⟨by kernel_rfl, fun L a1 w1 n h => ⟨.pointer (some ⟨bc, i * 2 + 1, none⟩), rfl, ?_⟩⟩
            have e0 : a1.eval (.tmp 59) = _ := h.dep n 10 59 (by kernel_rfl) rfl
            unfold execOp
            simp only [e0]
            go_simp
          · exact .inl ⟨by kernel_rfl, fun L a1 w1 n h => ⟨_, rfl, run_loadA 3 (.tmp 60) ⟨bc, i * 2 + 1, none⟩ rfl Try.isAgg3 (h.dep n 11 60 (by kernel_rfl) rfl) (hcl1 w1 (Row.later r9p ((h.inv.1 ((bits_at rfl).trans (n.later (by kernel_rfl)))).1)))⟩⟩
          · exact .inl ⟨by kernel_rfl, fun L a1 w1 n h => ⟨_, rfl, run_move (.tmp 9) rfl (h.var n 9 (by kernel_rfl))⟩⟩
          · exact .inl ⟨by kernel_rfl, fun L a1 w1 n h => ⟨_, rfl, run_subZ (.tmp 61) (.tmp 62) rfl (h.dep n 12 61 (by kernel_rfl) rfl) (h.dep n 13 62 (by kernel_rfl) rfl) hf3.out⟩⟩
          · exact .inl ⟨by kernel_rfl, fun L a1 w1 n h => ⟨_, rfl, run_build2 70 (.tmp 57) (.tmp 63) (.pointer (xt.map fun g => ⟨g, 0, none⟩)) (.int .i64 xn) rfl (h.dep n 8 57 (by kernel_rfl) rfl) (h.dep n 14 63 (by kernel_rfl) rfl) hbl.out⟩⟩
          · exact .inl ⟨by kernel_rfl, fun L a1 w1 n h => ⟨_, rfl, run_indexSlN 65 (.tmp 52) (.tmp 53) 70 2 bn 0 hn hn i rfl Try.underlying65 Try.sizeOf70 (h.dep n 3 52 (by kernel_rfl) rfl) (h.dep n 4 53 (by kernel_rfl) rfl) hhn.out⟩⟩
          · refine .inr fun L a1 w1 n h K hK => ?_
            have no : L.getD 17 false = false := n.not_yet
            have h0 := (h.inv.1 ((bits_at rfl).trans no)).1
            refine st_store_part 70 (.tmp 65) (.tmp 64) bn (0 + i * 2) 70 NA noLk.cells NC [.pointer (xt.map fun g => ⟨g, 0, none⟩), .int .i64 xn] rfl (h.dep n 16 65 (by kernel_rfl) rfl) (h.dep n 15 64 (by kernel_rfl) rfl) (Row.later rl9 h0) hNA.out rfl (szLink _ _) (by simp [Value.oneCell']) ?_
            intro w3 r3 o3
            exact JG.store h hK no rfl trivial r3 o3
        case he10 =>
          intro V w11 hV hJ
          obtain ⟨o11, rl11⟩ := JG.last hJ rfl
          clear hV hJ
          simp only [putOps, List.setIfInBounds_toArray, List.set_cons_succ, List.set_cons_zero, Nat.reduceAdd]
          refine hK10 _ _ ?_
          have r11 := r9p.but o11 (Ne.symm hbb.out)
          go_wp2_with (first
            | (with_reducible refine wl_build (o := ⟨some 69, _, _, _, _, _⟩) rfl 70 [(0, .tmp 67), (1, .tmp 68)] rfl [(0, .pointer (some ⟨gn, 0, none⟩)), (1, .int .i64 (((k - c : Nat) : Int) + 1))] rfl [.pointer (some ⟨gn, 0, none⟩), .int .i64 (((k - c : Nat) : Int) + 1)] (builtLink _ _) ?_)
            | (with_reducible refine wl_store_part rfl 70 (.tmp 70) (.tmp 69) bc (i * 2) 70 LA [.pointer (xt.map fun g => ⟨g, 0, none⟩), .int .i64 (pl + 1)] LC [.pointer (some ⟨gn, 0, none⟩), .int .i64 (((k - c : Nat) : Int) + 1)] rfl rfl rfl r11 hAl.out rfl (szLink _ _) (by simp [Value.oneCell']) ?_; intro w12 r12 o12))
          go_roundw
          case rel =>
            have hck2 := hck.out
            have hrow2 : Row w9 70 bc (lksC ((List.range hc).map fun l => if l = i then ⟨xt, pl + 1⟩ else midLk Ls k ⟨⟨xm, xs⟩, gn, bn, hn⟩ i c l)) := by
              rw [← hset.out]; exact r9p
            have hnew : nxt i ((Ls.take k ++ (⟨⟨xm, xs⟩, gn, bn, hn⟩ : Nd) :: Ls.drop k).drop c) = ⟨some gn, ((k - c : Nat) : Int) + 1⟩ := by rw [stop_new _ hsc.out hkl, if_pos hhn.out]
            have hrow3 : Row w12 70 bc (lksC ((List.range hc).map fun l => if l = i then nxt i ((Ls.take k ++ (⟨⟨xm, xs⟩, gn, bn, hn⟩ : Nd) :: Ls.drop k).drop c) else midLk Ls k ⟨⟨xm, xs⟩, gn, bn, hn⟩ i c l)) := by
              rw [← hset.out, hnew]; exact r12
            have hz9 := ((hz.later bq8).turn hNc.out o9 _ hrow2).but o11 fun d n hd => ⟨fun e => by have := (hlo.out d n hd).1; omega, fun e => by have := (hlo.out d n hd).2; omega⟩
            have hz12 := hz9.turn hNc.out o12 _ hrow3
            have hnx : newLk Ls k (i + 1) i = ⟨xt, xn⟩ := by unfold newLk; rw [if_pos (Nat.lt_succ_self i)]; exact hX.out.symm
            have hml : (List.range hn).map (newLk Ls k (i + 1)) = (List.range hn).map fun l => if l = i then ⟨xt, xn⟩ else newLk Ls k i l := List.map_congr_left fun l hl => by
              by_cases e : l = i
              · subst e; rw [if_pos rfl, hnx]
              · rw [if_neg e]
                unfold newLk
                by_cases h1 : l < i
                · rw [if_pos h1, if_pos (show l < i + 1 by omega)]
                · rw [if_neg h1, if_neg (show ¬ l < i + 1 by omega)]
            have r4z := ((((Row.later r4 bq8).only o9 h4b.out).but o11 h4bn.out).only o12 h4b.out)
            have rnz := (rn9.but o11 (show gn ≠ bn from Nat.ne_of_lt hgnb.out)).only o12 hgb.out
            have rlz : Row w12 70 bn (lksC ((List.range hn).map (newLk Ls k (i + 1)))) := by
              rw [hml, ← hnset.out]
              exact Row.only rl11 o12 hbb.out
            refine ⟨i + 1, by omega, by go_num, r4z, rnz, rlz, hz12.congr fun e n lv he hl => ?_, (((BW.trans (ButZ.of bq8)).only o9 (.inr (List.mem_map.2 ⟨_, List.mem_of_getElem? hNc.out, rfl⟩))).but o11 (.inl lob)).only o12 (.inr (List.mem_map.2 ⟨_, List.mem_of_getElem? hNc.out, rfl⟩))⟩
            rw [← mid_next _ hsc.out hkl e n lv he hl]
            by_cases hec : e = c
            · rw [if_pos hec, if_pos hec]
            · rw [if_neg hec, if_neg hec, if_neg hec]
          case measure => simp [intOf]; omega
      · have hhi : ¬ (i : Int) < (hn : Int) := by omega
        go_wp2_with (first
          | (with_reducible refine wl_run (o := ⟨some 20, _, _, _, _, _⟩) rfl (.agg #[ptr gc, .int .i64 (c : Int)]) (run_indexStop (.tmp 16) (.tmp 17) ps i ⟨some gc, (c : Int)⟩ rfl rfl rfl hPS.out hPC.out) ?_)
          | (with_reducible refine wl_alloc (o := ⟨some 7, _, _, _, _, _⟩) rfl 60 _ [.pointer none, .int .i64 0] rfl rfl rfl ?_; intro g7 w7 r7 p7 l7 b7)
          | (with_reducible refine wl_store_row (o := ⟨none, .store 60 (.tmp 7) (.tmp 20), _, _, _, _⟩) rfl 60 (.tmp 7) (.tmp 20) g7 60 _ [ptr gc, .int .i64 (c : Int)] rfl rfl rfl r7 (szStop _ _) rfl (by simp [Value.oneCell']) ?_; intro w8 r8 o8; have bq8 : Below wr.heap.size wr w8 := b7.trans (o8.below p7); have c70 := r8.cell (j := 0) rfl; have cn := (Row.later HN bq8).cell (j := 2) rfl; have cp := hcp.out w8 (Row.later HLr bq8); have HL8 := Row.later HLr bq8)
          | (with_reducible refine wl_run (o := ⟨some 27, _, _, _, _, _⟩) rfl (.pointer (some ⟨bc, 0 + i * 2, none⟩)) (run_indexSlN 65 (.tmp 25) (.tmp 26) 70 2 bc 0 hc hc i rfl Try.underlying65 Try.sizeOf70 rfl rfl hLT.out) ?_)
          | (with_reducible refine wl_run (o := ⟨some 32, _, _, _, _, _⟩) rfl (.int .i64 (pl + 1)) (run_addZ (.tmp 31) _ rfl rfl rfl hz1.out) ?_)
          | (with_reducible refine wl_store (o := ⟨none, .store 3 (.tmp 34) (.tmp 32), _, _, _, _⟩) rfl 3 (.tmp 34) (.tmp 32) bc (i * 2 + 1) 70 _ (.int .i64 (pl + 1)) rfl szInt3 rfl rfl HL8 hlen.out rfl ?_; intro w9 r9 o9; have cgn := ((Row.later rn bq8).only o9 hgb.out).cell (j := 2) rfl))
        go_roundw
        case rel =>
          have hrow : Row w9 70 bc (LA ++ ([Value.pointer (xt.map fun g => ⟨g, 0, none⟩), .int .i64 (pl + 1)] ++ LC)) := by rw [← set_places _ _ _ (.int .i64 pl) _ _ hAl.out]; exact r9
          have hnew : nxt i ((Ls.take k ++ (⟨⟨xm, xs⟩, gn, bn, hn⟩ : Nd) :: Ls.drop k).drop c) = ⟨xt, pl + 1⟩ := by rw [stop_new _ hsc.out hkl, if_neg hhn, ← hX.out, hpl.out]
          have hrow2 : Row w9 70 bc (lksC ((List.range hc).map fun l => if l = i then nxt i ((Ls.take k ++ (⟨⟨xm, xs⟩, gn, bn, hn⟩ : Nd) :: Ls.drop k).drop c) else midLk Ls k ⟨⟨xm, xs⟩, gn, bn, hn⟩ i c l)) := by
            rw [← hset.out, hnew]; exact hrow
          have hz9 := ((hz.later bq8).turn hNc.out o9 _ hrow2)
          have hml : (List.range hn).map (newLk Ls k (i + 1)) = (List.range hn).map (newLk Ls k i) := List.map_congr_left fun l hl => by
            have := List.mem_range.1 hl
            unfold newLk
            rw [if_pos (show l < i + 1 by omega), if_pos (show l < i by omega)]
          refine ⟨i + 1, by omega, by go_num, (Row.later r4 bq8).only o9 h4b.out, (Row.later rn bq8).only o9 hgb.out, by rw [hml]; exact (Row.later rl bq8).only o9 hbb.out, hz9.congr fun e n lv he hl => mid_next _ hsc.out hkl e n lv he hl, (BW.trans (ButZ.of bq8)).only o9 (.inr (List.mem_map.2 ⟨_, List.mem_of_getElem? hNc.out, rfl⟩))⟩
        case measure => simp [intOf]; omega
    · obtain rfl : i = 16 := by omega
      go_wp2_with fail
      go_end0
      have hz2 := hz.put (nd := ⟨⟨xm, xs⟩, gn, bn, hn⟩) hkl rn rl ⟨hn1, hn16⟩ ⟨Nat.le_trans hB lon, Nat.le_trans hB lob⟩ (Nat.ne_of_lt hgnb.out) fun c n hc => by
        have h1 := hlo.out c n hc
        exact ⟨Nat.ne_of_lt (Nat.lt_of_lt_of_le h1.1 lon), Nat.ne_of_lt (Nat.lt_of_lt_of_le h1.2 lob), Nat.ne_of_lt (Nat.lt_of_lt_of_le h1.1 lob), Nat.ne_of_lt (Nat.lt_of_lt_of_le h1.2 lon)⟩
      exact ⟨⟨⟨xm, xs⟩, gn, bn, hn⟩, rfl, rfl, hz2, BW, lob⟩
set_option maxRecDepth 100000 in
theorem insert_any (w : World) (B : Nat) (hd : Nd) (Ls : List Nd) (x : Sc) (hZ : ZAt w B (hd :: Ls) (full Ls)) (hh : hd.h = 16) (hl : Ls.length ≤ 999999) (hr : Rising (scs Ls)) (hxm : x.m.length ≤ 1000000) (hB : B ≤ w.heap.size) :
    Calls Try.prog 39 #[ptr hd.g, x.val] w fun e w' => ∃ nd : Nd, nd.a = x ∧ e = .returned (.tuple #[]) ∧ ZAt w' B (hd :: (Ls.take (nAhead x (scs Ls)) ++ nd :: Ls.drop (nAhead x (scs Ls)))) (full (Ls.take (nAhead x (scs Ls)) ++ nd :: Ls.drop (nAhead x (scs Ls)))) ∧ ButZ ((hd :: Ls).map Nd.b) w w' :=
  (insert_any2 w B hd Ls x hZ hh hl hr hxm hB).mono fun e w' ⟨nd, h1, h2, h3, h4, _⟩ => ⟨nd, h1, h2, h3, h4⟩
end Go.Proofs.Ytfklfgaomcbchaa
