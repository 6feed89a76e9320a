/-
  The disk: what Append does to the map, and to a file's row. Own work.
-/
import Derived.Test.YtaflmiopaiigbaaDiskH
namespace Go.Proofs.Ytaflmiopaiigbaa
open Go.RowKit Go.Maps Go.ChangeMaps
set_option linter.unusedVariables false
set_option linter.unusedSimpArgs false
/-- 'append(s, xs...)' of bytes onto a row of one's own, whatever xs is; where the row lies behind it. -/
theorem st_append_where {P : Program} {o : Oper} {a : Act} {w : World} {K : Act → World → Prop} {Q : Exit → Act → World → Prop} (s x : Operand) (t : TypeId)
    (ho : o.op = .call { callee := .builtin .append, args := #[s, x], argTypes := #[t, t] })
    (base : Nat) (e : TypeId) (i : TypeInfo) (ht : P.underlying t = some (.slice e)) (hi : P.info? e = some i) (hz : i.zero = some (.int .u8 0)) (hsz : i.size = 1) (hby : i.bytes = 1)
    (v : Value) (n : Nat) (xs : List Int) (hs : a.eval s = v) (hown : w.ownsRow base e 1 v n (bv xs)) (B : Nat) (A : Option Addr) (m c : Nat) (ys : List Int) (hx : a.eval x = .slice A m c) (hr : Bs w B A m ys)
    (hlen : n + m ≤ 140737488355328) (hbase : base ≤ w.heap.size)
    (h : ∀ v' w', w'.ownsRow base e 1 v' (n + m) (bv (xs ++ ys)) → w.grownBy w' v.ownBlock → (v'.ownBlock = v.ownBlock ∨ v'.ownBlock = some w.heap.size) → K (a.put o.dst v') w') : o.wp P a w K Q := by
  have hmap : bv (xs ++ ys) = bv xs ++ bv ys := by simp [bv]
  have hrun : ∃ v' w', (Builtin.append_ #[t, t] o.type #[v, .slice A m c]).run P w = .ok v' w' ∧ w'.ownsRow base e 1 v' (n + m) (bv (xs ++ ys)) ∧ w.grownBy w' v.ownBlock ∧ (v'.ownBlock = v.ownBlock ∨ v'.ownBlock = some w.heap.size) := by
    rcases A with _ | ad
    · have hm : m = 0 := by
        rcases Nat.eq_zero_or_pos m with h0 | h0
        · exact h0
        · obtain ⟨_, _, h, _⟩ := hr.2 h0; cases h
      subst hm
      obtain rfl : ys = [] := List.eq_nil_of_length_eq_zero hr.1
      refine ⟨v, w, ?_, by rw [hmap]; simpa [bv] using hown, ⟨rfl, rfl, rfl, Nat.le_refl _, fun _ _ _ => rfl⟩, .inl rfl⟩
      rcases hown.2 with ⟨rfl, rfl⟩ | ⟨g, cap, cur, rfl, _, _, hnc, _⟩
      · simp [Builtin.append_, run_underlying ht, sizeOf, typeInfo, hi, Builtin.lenOf, Builtin.firstCells]
      · simp [Builtin.append_, run_underlying ht, sizeOf, typeInfo, hi, Builtin.lenOf, Builtin.firstCells, hnc, storeCells]
    · obtain ⟨v', w', h1, h2, h3, _, h5⟩ := run_append_own_at (P := P) w base t o.type e i (.int .u8 0) 1 1 ht hi hz hsz hby rfl (by decide) v n (bv xs) hown ad m c (bv ys) (by rw [bv_len, hr.1, Nat.mul_one]) (hr.cells rfl) (bv_one ys) (by simp only [maxLen]; omega) (by omega) hbase
      exact ⟨v', w', h1, by rw [hmap]; exact h2, h3, h5⟩
  obtain ⟨v', w', hrun, h2, h3, h5⟩ := hrun
  unfold Oper.wp execOp
  simp only [ho, resolve, invoke, builtin, Sem.run_bind, Sem.run_pure, Result.andThen_ok, List.map_toArray, List.map_cons, List.map_nil, hs, hx, hrun]
  exact h v' w' h2 h3 h5
theorem grown_buts {w w' : World} {f : FV} (h : w.grownBy w' f.sl.ownBlock) : Buts f.bk w w' := ⟨h.os, h.tape, h.output, h.size, fun k hk hn => h.block k hk (fun e => hn (by rw [FV.bk, ← e]; simp))⟩
theorem own_fv {w : World} {B n : Nat} {v : Value} {xs : List Int} (kept : Int) (h : w.ownsRow B 5 1 v n (bv xs)) : ∃ f : FV, v = f.sl ∧ f.n = n ∧ f.xs = xs ∧ f.kept = kept ∧ OwnF w B f := by
  have h0 := h
  obtain ⟨hl, ho⟩ := h
  rcases ho with ⟨rfl, rfl⟩ | ⟨g, cap, cur, rfl, _⟩
  · exact ⟨⟨none, 0, 0, xs, kept⟩, rfl, rfl, rfl, rfl, h0⟩
  · exact ⟨⟨some ⟨g, 0, none⟩, n, cap, xs, kept⟩, rfl, rfl, rfl, rfl, h0⟩
/-- A file with bytes behind its own: where they lie. -/
def More (w0 : World) (B : Nat) (f : FV) (ys : List Int) (f' : FV) (w : World) : Prop := f'.n = f.n + ys.length ∧ f'.xs = f.xs ++ ys ∧ f'.kept = f.kept ∧ OwnF w B f' ∧ (f'.sl.ownBlock = f.sl.ownBlock ∨ ∀ k ∈ f'.bk, w0.heap.size ≤ k)
def JAp (w0 : World) (f : FV) (B : Nat) (ys : List Int) (N : World → Prop) (bs : List Bool) (vs : List Value) (w : World) : Prop :=
  (bs.getD 0 false = false → Below w0.heap.size w0 w) ∧ (bs.getD 2 false = false → Buts f.bk w0 w) ∧ (bs.getD 0 false = true → bs.getD 2 false = false → ∃ f' : FV, vs.getD 0 undef = f'.sl ∧ More w0 B f ys f' w) ∧
    (bs.getD 1 false = true → ∃ A n c, vs.getD 0 undef = .slice A n c ∧ vs.getD 1 undef = .agg #[.slice A n c, .int .i64 f.kept]) ∧ (bs.getD 2 false = true → N w)
theorem JAp.start (w0 : World) (f : FV) (B : Nat) (ys : List Int) (N : World → Prop) (vs : List Value) : JAp w0 f B ys N [false, false, false] vs w0.drew :=
  ⟨fun _ => (Below.refl _ _).drew, fun _ => Buts.of (Below.refl _ _).drew _, fun h => absurd (show false = true from h) (by decide), fun h => absurd (show false = true from h) (by decide), fun h => absurd (show false = true from h) (by decide)⟩
theorem byte_info : ∃ i, Try.prog.info? 5 = some i ∧ i.zero = some (.int .u8 0) ∧ i.size = 1 ∧ i.bytes = 1 := by
  have h : (Try.prog.info? 5).map (fun i => (i.zero, i.size, i.bytes)) = some (some (.int .u8 0), 1, 1) := by kernel_rfl
  exact info_parts h
theorem builtFile (A : Option Addr) (n c : Nat) (k : Int) : Try.prog.built 86 [(0, .slice A n c), (1, .int .i64 k)] = some [Value.slice A n c, Value.int .i64 k].toArray := by kernel_rfl
def SAp (gF gC gA gB gd mb : Nat) (pl : Value) (n : Nm) (f : FV) (A : Option Addr) (m c : Nat) (opn : Nat) (v : Value) : Prop :=
  match opn with
  | 0 | 1 => v = ptr gd
  | 2 => v = .pointer (some ⟨gd, 1, none⟩)
  | 3 => v = .map (some mb)
  | 4 => v = encStr n
  | 5 => v = .pointer (some ⟨gF, 0, none⟩)
  | 6 => v = .slice f.A f.n f.c
  | 7 => v = .slice A m c
  | 9 => v = .pointer (some ⟨gF, 1, none⟩)
  | 10 => v = .int .i64 f.kept
  | _ => True

set_option maxRecDepth 100000 in
set_option maxHeartbeats 1000000 in
theorem appendC_any (w : World) (B gF gC gA gB gd mb : Nat) (pl : Value) (fs : Fs) (n : Nm) (f : FV) (A : Option Addr) (m c : Nat) (ys : List Int) (hn : n.length ≤ maxLen) (hB : B ≤ w.heap.size) (hof : OwnF w B f) (hy : Bs w w.heap.size A m ys) (hlen : f.n + m ≤ 140737488355328)
    (rF : BoxF w gF f) (rC : Row w 35 gC [.slice A m c]) (rA : BoxD w gA gd) (rB : BoxS w gB n) (hr : DRow w gd pl (.map (some mb))) (hm : FMap w mb fs) (hl : fs.length ≤ 64) :
    Calls Try.prog 59 #[ptr gF, ptr gC, ptr gA, ptr gB] w fun e w' => e = .returned (.tuple #[]) ∧ ∃ f', More w B f ys f' w' ∧ MapAt w' mb (putE (ents fs) n f'.val) ∧ Buts (mb :: f.bk) w w' := by
  obtain ⟨i0, hi, hz, hs, hb⟩ := byte_info
  have hyl : ys.length = m := hy.1
  have nfgA := owf_not_row hof rA (by decide)
  have nfgB := owf_not_row hof rB (by decide)
  have nfgC := owf_not_row hof rC (by decide)
  have nfgF := owf_not_row hof rF (by decide)
  have nfgd := owf_not_row hof hr (by decide)
  go_enter Try.func59, Try.ntmps59
  go_wp2_with fail
  refine wp_region_vals [8, 11, 12] (SAp gF gC gA gB gd mb pl n f A m c) (JAp w f B ys (fun w' => ∃ f', More w B f ys f' w' ∧ MapAt w' mb (putE (ents fs) n f'.val) ∧ Buts (mb :: f.bk) w w')) (by kernel_rfl) (by kernel_rfl) (by kernel_rfl) (by kernel_rfl) (by kernel_rfl) (JAp.start _ _ _ _ _ _) ?obsE ?heE
  case obsE =>
    refine ⟨?_, ?_, ?_, ?_, ?_, ?_, ?_, ?_, ?_, ?_, ?_, ?_, ?_, trivial⟩
    · exact .inl ⟨by kernel_rfl, fun L a1 w1 n' h => ⟨_, rfl, run_loadA 27 (.tmp 2) ⟨gA, 0, none⟩ rfl Try.isAgg27 (h.var n' 2 (by kernel_rfl)) ((Row.buts rA (h.inv.2.1 ((bits_at rfl).trans (n'.later (by kernel_rfl)))) nfgA).cell (j := 0) (v := ptr gd) rfl)⟩⟩
    · refine .inl ⟨by kernel_rfl, fun L a1 w1 n' h => ⟨ptr gd, rfl, ?_⟩⟩
      have e0 : a1.eval (.tmp 4) = _ := h.dep n' 0 4 (by kernel_rfl) rfl
      unfold execOp
      simp only [e0]
      go_simp
    · refine .inl ⟨by kernel_rfl, fun L a1 w1 n' h => ⟨.pointer (some ⟨gd, 1, none⟩), rfl, ?_⟩⟩
      have e0 : a1.eval (.tmp 5) = _ := h.dep n' 1 5 (by kernel_rfl) rfl
      unfold execOp
      simp only [e0]
      go_simp
    · exact .inl ⟨by kernel_rfl, fun L a1 w1 n' h => ⟨_, rfl, run_loadA 70 (.tmp 6) ⟨gd, 1, none⟩ rfl Try.isAgg70 (h.dep n' 2 6 (by kernel_rfl) rfl) ((Row.buts hr (h.inv.2.1 ((bits_at rfl).trans (n'.later (by kernel_rfl)))) nfgd).cell (j := 1) (v := .map (some mb)) rfl)⟩⟩
    · exact .inl ⟨by kernel_rfl, fun L a1 w1 n' h => ⟨_, rfl, run_loadA 9 (.tmp 3) ⟨gB, 0, none⟩ rfl Try.isAgg9 (h.var n' 3 (by kernel_rfl)) ((Row.buts rB (h.inv.2.1 ((bits_at rfl).trans (n'.later (by kernel_rfl)))) nfgB).cell (j := 0) (v := encStr n) rfl)⟩⟩
    · refine .inl ⟨by kernel_rfl, fun L a1 w1 n' h => ⟨.pointer (some ⟨gF, 0, none⟩), rfl, ?_⟩⟩
      have e0 : a1.eval (.tmp 0) = _ := h.var n' 0 (by kernel_rfl)
      unfold execOp
      simp only [e0]
      go_simp
    · exact .inl ⟨by kernel_rfl, fun L a1 w1 n' h => ⟨_, rfl, run_loadA 35 (.tmp 9) ⟨gF, 0, none⟩ rfl Try.isAgg35 (h.dep n' 5 9 (by kernel_rfl) rfl) ((Row.buts rF (h.inv.2.1 ((bits_at rfl).trans (n'.later (by kernel_rfl)))) nfgF).cell (j := 0) (v := .slice f.A f.n f.c) rfl)⟩⟩
    · exact .inl ⟨by kernel_rfl, fun L a1 w1 n' h => ⟨_, rfl, run_loadA 35 (.tmp 1) ⟨gC, 0, none⟩ rfl Try.isAgg35 (h.var n' 1 (by kernel_rfl)) ((Row.buts rC (h.inv.2.1 ((bits_at rfl).trans (n'.later (by kernel_rfl)))) nfgC).cell (j := 0) (v := .slice A m c) rfl)⟩⟩
    · refine .inr fun L a1 w1 n' h K hK => ?_
      have no8 : L.getD 8 false = false := n'.not_yet
      have no11 : L.getD 11 false = false := n'.later (by kernel_rfl)
      have no12 : L.getD 12 false = false := n'.later (by kernel_rfl)
      have b9 := h.inv.1 ((bits_at rfl).trans no8)
      have own1 : OwnF w1 B f := owf_buts hof (Buts.of b9 []) (fun _ _ hk => absurd hk (by simp))
      refine st_append_where (.tmp 10) (.tmp 11) 35 rfl B 5 i0 Try.underlying35 hi hz hs hb f.sl f.n f.xs (h.dep n' 6 10 (by kernel_rfl) rfl) own1 w1.heap.size A m c ys (h.dep n' 7 11 (by kernel_rfl) rfl) (hy.later b9) hlen (Nat.le_trans hB b9.size) ?_
      intro v' w3 own3 hg3 hloc
      obtain ⟨f', rfl, e1, e2, e3, own4⟩ := own_fv f.kept own3
      have hM : More w B f ys f' w3 := ⟨by rw [e1, hyl], e2, e3, own4, hloc.imp id (fun e k hk => by rw [FV.bk, e] at hk; simp at hk; subst hk; exact b9.size)⟩
      exact hK _ w3 trivial ⟨fun h0 => absurd (show true = false from h0) (by decide), fun _ => (Buts.of b9 _).trans (grown_buts hg3), fun _ _ => ⟨f', rfl, hM⟩, fun h0 => absurd (no11.symm.trans h0) (by decide), fun h0 => absurd (no12.symm.trans h0) (by decide)⟩
    · refine .inl ⟨by kernel_rfl, fun L a1 w1 n' h => ⟨.pointer (some ⟨gF, 1, none⟩), rfl, ?_⟩⟩
      have e0 : a1.eval (.tmp 0) = _ := h.var n' 0 (by kernel_rfl)
      unfold execOp
      simp only [e0]
      go_simp
    · exact .inl ⟨by kernel_rfl, fun L a1 w1 n' h => ⟨_, rfl, run_loadA 3 (.tmp 13) ⟨gF, 1, none⟩ rfl Try.isAgg3 (h.dep n' 9 13 (by kernel_rfl) rfl) ((Row.buts rF (h.inv.2.1 ((bits_at rfl).trans (n'.later (by kernel_rfl)))) nfgF).cell (j := 1) (v := .int .i64 f.kept) rfl)⟩⟩
    · refine .inr fun L a1 w1 n' h K hK => ?_
      have yes8 : L.getD 8 false = true := n'.dep (by kernel_rfl)
      have no12 : L.getD 12 false = false := n'.later (by kernel_rfl)
      obtain ⟨f', ev, hM⟩ := h.inv.2.2.1 ((bits_at rfl).trans yes8) ((bits_at rfl).trans no12)
      have y0 : a1.eval (.tmp 12) = .slice f'.A f'.n f'.c := ev
      have y1 : a1.eval (.tmp 14) = .int .i64 f.kept := h.dep n' 10 14 (by kernel_rfl) rfl
      have hrun := fun (o : Oper) (ho : o.op = .build 86 [(0, Operand.tmp 12), (1, Operand.tmp 14)].toArray) => run_buildX (P := Try.prog) (o := o) (a := a1) (w := w1) 86 [(0, .tmp 12), (1, .tmp 14)] ho [(0, .slice f'.A f'.n f'.c), (1, .int .i64 f.kept)] (by simp only [List.map_cons, List.map_nil]; rw [y0, y1]) _ (builtFile f'.A f'.n f'.c f.kept)
      unfold Oper.wp
      rw [hrun _ rfl]
      exact hK _ w1 trivial ⟨fun h0 => h.inv.1 h0, fun h0 => h.inv.2.1 h0, fun _ _ => ⟨f', ev, hM⟩, fun _ => ⟨f'.A, f'.n, f'.c, ev, rfl⟩, fun h0 => absurd (no12.symm.trans h0) (by decide)⟩
    · refine .inr fun L a1 w1 n' h K hK => ?_
      have yes8 : L.getD 8 false = true := n'.dep (by kernel_rfl)
      have yes11 : L.getD 11 false = true := n'.dep (by kernel_rfl)
      have no12 : L.getD 12 false = false := n'.not_yet
      obtain ⟨f', ev, hM⟩ := h.inv.2.2.1 ((bits_at rfl).trans yes8) ((bits_at rfl).trans no12)
      obtain ⟨A9, n9, c9, ev9, eu9⟩ := h.inv.2.2.2.1 ((bits_at rfl).trans yes11)
      have bU := h.inv.2.1 ((bits_at rfl).trans no12)
      have e9 := ev.symm.trans ev9
      injection e9 with q1 q2 q3
      have y2 : a1.eval (.tmp 15) = f'.val := by
        refine Eq.trans (show a1.eval (.tmp 15) = _ from eu9) ?_
        rw [← q1, ← q2, ← q3, ← hM.2.2.1]
      have mU : FMap w1 mb fs := hm.buts bU (owf_not_map hof hm)
      refine st_put (.tmp 7) (.tmp 8) (.tmp 15) f'.val rfl (h.dep n' 3 7 (by kernel_rfl) rfl) (h.dep n' 4 8 (by kernel_rfl) rfl) y2 mU hn (lenE hl) ?_
      intro w3 m3 o3
      exact hK undef w3 trivial ⟨fun h0 => absurd (yes8.symm.trans h0) (by decide), fun h0 => absurd (show true = false from h0) (by decide), fun _ h0 => absurd (show true = false from h0) (by decide), fun _ => ⟨A9, n9, c9, ev9, eu9⟩, fun _ => ⟨f', ⟨hM.1, hM.2.1, hM.2.2.1, owf_buts hM.2.2.2.1 (Buts.only (S := [mb]) o3 (List.mem_singleton.2 rfl)) (fun k hk hk2 => owf_not_map hM.2.2.2.1 mU (List.mem_singleton.1 hk2 ▸ hk)), hM.2.2.2.2⟩, m3, (bU.sub (fun k hk => List.mem_cons_of_mem _ hk)).trans (Buts.only o3 (List.mem_cons_self ..))⟩⟩
  case heE =>
    intro V w9 hV hJ
    obtain ⟨f', h1, h2, h3⟩ := hJ.2.2.2.2 rfl
    go_end0
    exact ⟨rfl, f', h1, h2, h3⟩
end Go.Proofs.Ytaflmiopaiigbaa
