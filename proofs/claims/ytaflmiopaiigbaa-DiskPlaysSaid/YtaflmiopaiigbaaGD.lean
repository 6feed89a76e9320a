/-
  Several own texts in one: DiskZb, DiskZc, DiskZd, DiskZe, DiskZf, DiskZg, DiskZh, DiskZi, DiskZk, DiskZl, DiskZm, DiskZn, DiskZo, DiskZp, DiskPa, DiskPb, DiskPc, DiskPd, DiskPe, DiskPf, DiskPg, DiskPh, DiskPi, DiskPj. Own work.
-/
import Derived.BigQuiet
import Derived.Test.YtaflmiopaiigbaaDiskZ
import Derived.Test.YtaflmiopaiigbaaApp
set_option linter.unusedVariables false
set_option linter.unusedSimpArgs false
/-
  The disk: files as values: may there be such a file; lists of files; are two lists the same. Own work.
-/
namespace Go.Proofs.Ytaflmiopaiigbaa
open Go.RowKit Go.Maps Go.ChangeMaps
/-- A file's three cells. -/
def fcs (p : Nm × FV) : List Value := [encStr p.1, .slice p.2.A p.2.n p.2.c, .int .i64 p.2.kept]
def mayF (p : Nm × FV) : Bool := okN p.1 && (decide (p.2.n ≤ 1048576) && (decide (0 ≤ p.2.kept) && decide (p.2.kept ≤ p.2.n)))
set_option maxRecDepth 100000 in
theorem namedR_any (n : Nm) (w : World) : Calls Try.prog 52 #[encStr n] w fun e w' => e = .returned (.bool (okN n)) ∧ w = w' := by
  have hsz := enc_size n
  by_cases h1 : 1 ≤ n.length
  · have hd : decide ((1 : Int) ≤ (n.length : Int)) = true := by simp; omega
    have he : okN n = decide ((n.length : Int) ≤ 40) := by
      simp only [okN, h1, decide_true, Bool.true_and]
      apply decide_eq_decide.2
      omega
    rw [he]
    go_enter Try.func52, Try.ntmps52
    go_wp2_with fail
    go_ret
    exact ⟨rfl, rfl⟩
  · have hd : decide ((1 : Int) ≤ (n.length : Int)) = false := by simp; omega
    have he : okN n = false := by simp [okN, h1]
    rw [he]
    go_enter Try.func52, Try.ntmps52
    go_wp2_with fail
    go_ret
    exact ⟨rfl, rfl⟩
set_option maxRecDepth 100000 in
theorem mayBe_any (p : Nm × FV) (w : World) : Calls Try.prog 51 #[.agg (fcs p).toArray] w fun e w' => e = .returned (.bool (mayF p)) ∧ Below w.heap.size w w' := by
  obtain ⟨n, f⟩ := p
  have e1 : decide (f.n ≤ 1048576) = decide ((f.n : Int) ≤ 1048576) := by apply decide_eq_decide.2; omega
  have hM : mayF (n, f) = (okN n && (decide ((f.n : Int) ≤ 1048576) && (decide (0 ≤ f.kept) && decide (f.kept ≤ f.n)))) := by rw [← e1]; rfl
  have HM := hide hM
  clear hM e1
  go_enter Try.func51, Try.ntmps51
  go_wp2_with (first
    | ((with_reducible refine wl_box rfl 48 _ _ [encStr n, .slice f.A f.n f.c, .int .i64 f.kept] rfl rfl rfl ?_); intro g w1 r p l b; have c0 := r.cell (j := 0) rfl; have c1 := r.cell (j := 1) rfl; have c2 := r.cell (j := 2) rfl))
  refine (named_any n w1).mono ?_
  rintro e w2 ⟨rfl, rfl⟩
  cases hq : okN n with
  | false =>
    go_wp2_with fail
    go_ret
    exact ⟨by rw [HM.out, hq]; first | done | rfl | simp, b⟩
  | true =>
    cases h1 : decide ((f.n : Int) ≤ 1048576) with
    | false =>
      go_wp2_with fail
      go_ret
      exact ⟨by rw [HM.out, hq, h1]; first | done | rfl | simp, b⟩
    | true =>
      cases h2 : decide ((0 : Int) ≤ f.kept) with
      | false =>
        go_wp2_with fail
        go_ret
        exact ⟨by rw [HM.out, hq, h1, h2]; first | done | rfl | simp, b⟩
      | true =>
        cases h3 : decide (f.kept ≤ (f.n : Int)) with
        | false =>
          go_wp2_with fail
          go_ret
          exact ⟨by rw [HM.out, hq, h1, h2, h3]; first | done | rfl | simp, b⟩
        | true =>
          go_wp2_with fail
          go_ret
          exact ⟨by rw [HM.out, hq, h1, h2, h3]; first | done | rfl | simp, b⟩
end Go.Proofs.Ytaflmiopaiigbaa

/-
  The disk: lists of files in slices; are two the same. Own work.
-/
namespace Go.Proofs.Ytaflmiopaiigbaa
open Go.RowKit Go.Maps Go.ChangeMaps
/-- A slice of files. -/
def FlAt (w : World) (B : Nat) (A : Option Addr) (m : Nat) (fs : Fs) : Prop :=
  fs.length = m ∧ (0 < m → ∃ b o, A = some ⟨b, o, none⟩ ∧ b < B ∧ ∀ i p, fs[i]? = some p → ∀ j v, (fcs p)[j]? = some v → w.cell? ⟨b, o + i * 3 + j, none⟩ = some v) ∧ ∀ p ∈ fs, Bs w B p.2.A p.2.n p.2.xs
theorem FlAt.below {w w' : World} {B m : Nat} {A : Option Addr} {fs : Fs} (h : FlAt w B A m fs) (hb : Below B w w') : FlAt w' B A m fs :=
  ⟨h.1, fun h0 => let ⟨b, o, e, hlt, hc⟩ := h.2.1 h0; ⟨b, o, e, hlt, fun i p hp j v hv => (hb.cell hlt).trans (hc i p hp j v hv)⟩, fun p hp => (h.2.2 p hp).below hb⟩
theorem FlAt.up {w : World} {B B' m : Nat} {A : Option Addr} {fs : Fs} (h : FlAt w B A m fs) (hB : B ≤ B') : FlAt w B' A m fs :=
  ⟨h.1, fun h0 => let ⟨b, o, e, hlt, hc⟩ := h.2.1 h0; ⟨b, o, e, Nat.lt_of_lt_of_le hlt hB, hc⟩, fun p hp => (h.2.2 p hp).up hB⟩
theorem sizeFile : ∀ w, (sizeOf 48).run Try.prog w = .ok 3 w := fun w => by kernel_rfl
/-- What Same looks at. -/
def vF (p : Nm × FV) : Nm × Int × List Int := (p.1, p.2.kept, p.2.xs)
theorem neq_nm (w : World) (n : Nm) : (binOp .neq 9 (encStr n) (encStr n)).run Try.prog w = .ok (.bool false) w := by
  simp [encStr]
  go_simp
theorem below_drewn {B : Nat} {w w' : World} (h : Below B w w') (n : Nat) : Below B w (w'.drewN n) := ⟨h.os, h.tape, h.output, h.size, h.block⟩
theorem neq_by (w : World) (xs : List Int) : (binOp .neq 9 (.string (strOfNums xs)) (.string (strOfNums xs))).run Try.prog w = .ok (.bool false) w := by
  go_simp
set_option maxRecDepth 100000 in
set_option maxHeartbeats 1000000 in
theorem same_any (w : World) (B m : Nat) (A A' : Option Addr) (c c' : Nat) (fs gs : Fs) (hB : B ≤ w.heap.size) (hm : m ≤ 140737488355328) (h : FlAt w B A m fs) (h' : FlAt w B A' m gs) (hv : fs.map vF = gs.map vF) :
    Calls Try.prog 18 #[.slice A m c, .slice A' m c'] w fun e w' => e = .returned (.bool true) ∧ Below w.heap.size w w' := by
  have HA := hide h
  have HB := hide h'
  have HV := hide hv
  have hl1 := h.1
  have hl2 := h'.1
  clear h h' hv
  go_enter Try.func18, Try.ntmps18
  go_wp2_with fail
  go_loopw [5] (fun iv wr => ∃ i : Nat, i ≤ m ∧ iv = .int .i64 i ∧ Below w.heap.size w wr) (fun iv _ => m - (intOf iv).toNat)
  case atStart => exact ⟨0, by omega, rfl, Below.refl _ _⟩
  case round =>
    obtain ⟨i, hi, rfl, bW⟩ := hrel
    by_cases hlt : i < m
    · obtain ⟨p, hp⟩ : ∃ p, fs[i]? = some p := ⟨_, List.getElem?_eq_getElem (by omega)⟩
      obtain ⟨q, hq⟩ : ∃ q, gs[i]? = some q := ⟨_, List.getElem?_eq_getElem (by omega)⟩
      have hpq : vF p = vF q := by
        have := congrArg (fun l => l[i]?) HV.out
        simpa [hp, hq] using this
      obtain ⟨b, o, rfl, hb, hc⟩ := (HA.out.below (bW.mono hB)).2.1 (by omega)
      obtain ⟨b', o', rfl, hb', hc'⟩ := (HB.out.below (bW.mono hB)).2.1 (by omega)
      have hx := (HA.out.below (bW.mono hB)).2.2 p (List.mem_of_getElem? hp)
      have hx' := (HB.out.below (bW.mono hB)).2.2 q (List.mem_of_getElem? hq)
      have hc := hc i p hp
      have hc' := hc' i q hq
      obtain ⟨n, f⟩ := p
      obtain ⟨n', f'⟩ := q
      simp only [vF, Prod.mk.injEq] at hpq
      obtain ⟨rfl, hk, hxs⟩ := hpq
      have c0 := hc 0 _ rfl
      have c1 := hc 1 _ rfl
      have c2 := hc 2 _ rfl
      have d0 := hc' 0 _ rfl
      have d1 := hc' 1 _ rfl
      have d2 := hc' 2 _ rfl
      rw [Nat.add_zero] at c0 d0
      simp only at c0 c1 c2 d0 d1 d2
      rw [← hk] at d2
      have v1 := fun nn => (hx.below (below_drewn (Below.refl B wr) nn)).convert (P := Try.prog) f.c 35 5 9 Try.underlying35 Try.underlying5 Try.underlying9
      have v2 := fun nn => (hx'.below (below_drewn (Below.refl B wr) nn)).convert (P := Try.prog) f'.c 35 5 9 Try.underlying35 Try.underlying5 Try.underlying9
      rw [← hxs] at v2
      clear hc hc' hx hx' hk hxs hp hq hb hb' HA HB HV hl1 hl2
      have HS := sizeFile
      have HQ := neq_nm
      have HQ2 := fun w => neq_by w f.xs
      go_wp2_with fail
      go_quiet (fail)
      go_wp2_with fail
      go_roundw
      case rel => exact ⟨i + 1, by omega, by go_num, below_drewn bW nq⟩
      case measure => simp [intOf]; omega
    · obtain rfl : i = m := by omega
      go_wp2_with fail
      go_ret
      exact ⟨rfl, bW⟩
end Go.Proofs.Ytaflmiopaiigbaa

/-
  The disk: lists of files of one's own: rows of three cells each. Own work.
-/
namespace Go.Proofs.Ytaflmiopaiigbaa
open Go.RowKit Go.Maps Go.ChangeMaps
/-- '[]T{x}', T of three cells. -/
theorem st_build1S {P : Program} {o : Oper} {a : Act} {w : World} {K : Act → World → Prop} {Q : Exit → Act → World → Prop} (t : TypeId) (x : Operand) (ho : o.op = .buildSlice t 1 #[(0, x)]) (e : TypeId) (i : TypeInfo) (z1 z2 z3 v1 v2 v3 : Value) (ht : P.underlying t = some (.slice e)) (hi : P.info? e = some i) (hz : i.zero = some (.agg #[z1, z2, z3])) (hsz : i.size = 3) (hx : a.eval x = .agg #[v1, v2, v3])
    (hk : ∀ g w', Row w' e g [v1, v2, v3] → w.heap.size ≤ g → g < w'.heap.size → Below w.heap.size w w' → K (a.put o.dst (.slice (some ⟨g, 0, none⟩) 1 1)) w') : o.wp P a w K Q := by
  have hr : (Array.range 1) = #[0] := rfl
  have hr3 : (Array.range 3) = #[0, 1, 2] := rfl
  have hzz : ∀ w, (zeroValue e).run P w = .ok (.agg #[z1, z2, z3]) w := fun w => by simp [zeroValue, typeInfo, hi, hz]
  have hss : ∀ w, (sizeOf e).run P w = .ok 3 w := fun w => by simp [sizeOf, typeInfo, hi, hsz]
  have hrun : (Instr.buildSlice t 1 #[(0, .agg #[v1, v2, v3])]).run P w = .ok (.slice (some ⟨w.heap.size, 0, none⟩) 1 1) (w.alloc (.cells #[v1, v2, v3] e)) := by
    simp [Instr.buildSlice, run_underlying ht, hss, hzz, hr, hr3, Instr.fill, newRow, Value.cells]
  unfold Oper.wp execOp
  simp only [ho, List.map_toArray, List.map_cons, List.map_nil, hx, hrun, Sem.run_bind, Result.andThen_ok, Sem.run_pure]
  exact hk _ _ (by unfold Row; exact heap_alloc_new _ _) (Nat.le_refl _) (by simp) ((Below.refl _ _).alloc (Nat.le_refl _) _)
def cellsL (fs : Fs) : List Value := fs.flatMap fcs
theorem cellsL_len (fs : Fs) : (cellsL fs).length = fs.length * 3 := by
  induction fs with
  | nil => rfl
  | cons p r ih =>
    show (fcs p ++ cellsL r).length = _
    rw [List.length_append, ih, List.length_cons]
    show 3 + _ = _
    omega
theorem cellsL_app (fs gs : Fs) : cellsL (fs ++ gs) = cellsL fs ++ cellsL gs := by simp [cellsL]
theorem cellsL_at : ∀ (fs : Fs) (i : Nat) (p : Nm × FV) (j : Nat) (v : Value), fs[i]? = some p → (fcs p)[j]? = some v → (cellsL fs)[i * 3 + j]? = some v
  | [], i, p, j, v, h, _ => by simp at h
  | q :: r, 0, p, j, v, h, hv => by
    simp at h
    subst h
    show (fcs q ++ cellsL r)[0 * 3 + j]? = _
    have hj : j < (fcs q).length := (List.getElem?_eq_some_iff.1 hv).1
    rw [Nat.zero_mul, Nat.zero_add, List.getElem?_append_left hj, hv]
  | q :: r, i + 1, p, j, v, h, hv => by
    show (fcs q ++ cellsL r)[(i + 1) * 3 + j]? = _
    have : (fcs q).length = 3 := rfl
    rw [List.getElem?_append_right (by omega), this, show (i + 1) * 3 + j - 3 = i * 3 + j by omega]
    exact cellsL_at r i p j v (by simpa using h) hv
/-- A list of files that is one's own: the row, and each file's bytes. -/
structure OwnL (w : World) (T : Nat) (v : Value) (fs : Fs) : Prop where
  row : w.ownsRow T 48 3 v fs.length (cellsL fs)
  bs : ∀ p ∈ fs, OwnF w T p.2
theorem OwnL.nil (w : World) (T : Nat) : OwnL w T (.slice none 0 0) [] := ⟨World.ownsRow_nil _ _ _ _, fun p hp => by cases hp⟩
theorem OwnL.fl {w : World} {T : Nat} {v : Value} {fs : Fs} (h : OwnL w T v fs) : ∃ A c, v = .slice A fs.length c ∧ FlAt w w.heap.size A fs.length fs := by
  rcases h.row.2 with ⟨rfl, h0⟩ | ⟨g, cap, cur, rfl, _, hg, h1, h2, h3, h4⟩
  · refine ⟨none, 0, by rw [h0], rfl, fun hp => by omega, fun p hp => owf_bs (h.bs p hp)⟩
  · refine ⟨_, cap, rfl, rfl, fun hp => ⟨g, 0, rfl, (Array.getElem?_eq_some_iff.1 hg).1, fun i p hi j v hv => ?_⟩, fun p hp => owf_bs (h.bs p hp)⟩
    have hj : j < 3 := (List.getElem?_eq_some_iff.1 hv).1
    have hil : i < fs.length := (List.getElem?_eq_some_iff.1 hi).1
    have e : (cur.toList.take (fs.length * 3))[i * 3 + j]? = (cellsL fs)[i * 3 + j]? := by rw [h4]
    rw [cellsL_at fs i p j v hi hv, List.getElem?_take, if_pos (by omega)] at e
    rw [Nat.zero_add, cell_of_row w g _ cur _ (0, 0) hg, ← Array.getElem?_toList]
    exact e
theorem OwnL.later {w w' : World} {T : Nat} {v : Value} {fs : Fs} (h : OwnL w T v fs) (hb : Below w.heap.size w w') : OwnL w' T v fs := by
  refine ⟨⟨h.row.1, h.row.2.imp id fun ⟨g, cap, cur, e1, h1, hg, h2⟩ => ⟨g, cap, cur, e1, h1, (hb.block g (Array.getElem?_eq_some_iff.1 hg).1).trans hg, h2⟩⟩, fun p hp => ownr_later (h.bs p hp) hb⟩
/-- A row of another type stays while this one grows. -/
theorem own_grown {w w' : World} {T T' e e' s' n n' : Nat} {v v' : Value} {xs xs' : List Value} (h : w.ownsRow T e 1 v n xs) (h' : w.ownsRow T' e' s' v' n' xs') (ht : e ≠ e') (hg : w.grownBy w' v'.ownBlock) : w'.ownsRow T e 1 v n xs := by
  refine ⟨h.1, h.2.imp id fun ⟨g, cap, cur, e1, h1, hc, h2⟩ => ⟨g, cap, cur, e1, h1, (hg.block g (Array.getElem?_eq_some_iff.1 hc).1 (fun hk => ?_)).trans hc, h2⟩⟩
  rcases h'.2 with ⟨rfl, _⟩ | ⟨g', cap', cur', rfl, _, hc', _⟩
  · simp [Value.ownBlock] at hk
  · simp [Value.ownBlock] at hk
    subst hk
    have := hc.symm.trans hc'
    simp at this
    exact ht this.2
theorem file_info : ∃ i, Try.prog.info? 48 = some i ∧ i.zero = some (.agg #[.string ByteArray.empty, .slice none 0 0, .int .i64 0]) ∧ i.size = 3 ∧ i.bytes = 48 := by
  have h : (Try.prog.info? 48).map (fun i => (i.zero, i.size, i.bytes)) = some (some (.agg #[.string ByteArray.empty, .slice none 0 0, .int .i64 0]), 3, 48) := by kernel_rfl
  exact info_parts h
theorem one_fcs (p : Nm × FV) : ∀ u ∈ fcs p, u.oneCell' = true := by
  intro u hu
  simp [fcs] at hu
  rcases hu with rfl | rfl | rfl <;> rfl
end Go.Proofs.Ytaflmiopaiigbaa

/-
  The disk: Image. Own work.
-/
namespace Go.Proofs.Ytaflmiopaiigbaa
open Go.RowKit Go.Maps Go.ChangeMaps
/-- What the region that lays one file more keeps. -/
def JIm (w0 : World) (T : Nat) (l : Fs) (n : Nm) (f : FV) (bs : List Bool) (vs : List Value) (w : World) : Prop :=
  (bs.getD 3 false = false → Below w0.heap.size w0 w) ∧
  (bs.getD 0 false = true → bs.getD 3 false = false → ∃ A3 c3, vs.getD 0 undef = .slice A3 f.n c3 ∧ w.ownsRow w0.heap.size 5 1 (.slice A3 f.n c3) f.n (bv f.xs)) ∧
  (bs.getD 1 false = true → ∃ A3 c3, vs.getD 0 undef = .slice A3 f.n c3 ∧ vs.getD 1 undef = .agg #[encStr n, .slice A3 f.n c3, .int .i64 f.kept]) ∧
  (bs.getD 2 false = true → bs.getD 3 false = false → ∃ g A3 c3, vs.getD 0 undef = .slice A3 f.n c3 ∧ vs.getD 2 undef = .slice (some ⟨g, 0, none⟩) 1 1 ∧ Row w 48 g [encStr n, .slice A3 f.n c3, .int .i64 f.kept]) ∧
  (bs.getD 3 false = true → ∃ p, vF p = vF (n, f) ∧ OwnL w T (vs.getD 3 undef) (l ++ [p]) ∧ Below T w0 w) ∧
  (bs.getD 4 false = true → vs.getD 4 undef = vs.getD 3 undef)
theorem JIm.start (w0 : World) (T : Nat) (l : Fs) (n : Nm) (f : FV) (vs : List Value) : JIm w0 T l n f [false, false, false, false, false] vs w0.drew :=
  ⟨fun _ => (Below.refl _ _).drew, fun h => absurd (show false = true from h) (by decide), fun h => absurd (show false = true from h) (by decide), fun h => absurd (show false = true from h) (by decide), fun h => absurd (show false = true from h) (by decide), fun h => absurd (show false = true from h) (by decide)⟩
theorem builtApi (n : Nm) (A : Option Addr) (m c : Nat) (k : Int) : Try.prog.built 48 [(0, encStr n), (1, .slice A m c), (2, .int .i64 k)] = some [encStr n, Value.slice A m c, Value.int .i64 k].toArray := by kernel_rfl
theorem OwnL.lo {w : World} {T T' : Nat} {v : Value} {fs : Fs} (h : OwnL w T v fs) (hT : T' ≤ T) : OwnL w T' v fs :=
  ⟨⟨h.row.1, h.row.2.imp id fun ⟨g, cap, cur, e1, h1, h2⟩ => ⟨g, cap, cur, e1, Nat.le_trans hT h1, h2⟩⟩, fun p hp => own_lo (h.bs p hp) hT⟩
/-- One file more on a list of one's own. -/
theorem OwnL.push {w0 w w' : World} {T : Nat} {v v' : Value} {l : Fs} {n : Nm} {A : Option Addr} {m c : Nat} {xs : List Int} {k : Int} (hO : OwnL w T v l) (hc : w.ownsRow w0.heap.size 5 1 (.slice A m c) m (bv xs)) (hT : T ≤ w0.heap.size)
    (hr : w'.ownsRow T 48 3 v' (l.length + 1) (cellsL l ++ [encStr n, .slice A m c, .int .i64 k])) (hg : w.grownBy w' v.ownBlock) : OwnL w' T v' (l ++ [(n, ⟨A, m, c, xs, k⟩)]) := by
  refine ⟨?_, fun p hp => ?_⟩
  · rw [cellsL_app, List.length_append]
    exact hr
  · rcases List.mem_append.1 hp with hp | hp
    · exact own_grown (hO.bs p hp) hO.row (by decide) hg
    · obtain rfl := List.mem_singleton.1 hp
      exact own_grown (own_lo hc hT) hO.row (by decide) hg
def SIm (gF : Nat) (lv : Value) (n : Nm) (f : FV) (opn : Nat) (v : Value) : Prop :=
  match opn with
  | 0 => v = lv
  | 1 => v = encStr n
  | 2 => v = .pointer (some ⟨gF, 0, none⟩)
  | 3 => v = .slice f.A f.n f.c
  | 5 => v = .pointer (some ⟨gF, 1, none⟩)
  | 6 => v = .int .i64 f.kept
  | _ => True

set_option maxRecDepth 100000 in
set_option maxHeartbeats 2000000 in
theorem image_any (w : World) (B gd mb : Nat) (pl : Value) (fs : Fs) (hD : DiskAt w B gd pl mb fs) :
    Calls Try.prog 19 #[ptr gd] w fun e w' => ∃ v l, e = .returned v ∧ l.map vF = fs.map vF ∧ OwnL w' w.heap.size v l ∧ Below w.heap.size w w' := by
  obtain ⟨ip, hip, hpz, hps, hpb⟩ := file_info
  have HNm := names_ent w gd mb pl (ents fs) hD.row hD.map (by rw [ents_len]; exact hD.few)
  rw [ents_len, show (ents fs).map (·.1) = fs.map (·.1) by simp [ents]] at HNm
  have HNm := hide HNm
  have HD := hide hD
  clear hD
  go_enter Try.func19, Try.ntmps19
  go_wp2_with fail
  refine HNm.out.mono ?_
  rintro e wn ⟨nv, rfl, hN, b1⟩
  obtain ⟨NA, nc, rfl⟩ := own_sl hN
  clear HNm
  go_wp2_with fail
  go_loopw [3, 10] (fun lv iv wr => ∃ (i : Nat) (l : Fs), i ≤ fs.length ∧ iv = .int .i64 i ∧ l.map vF = (fs.take i).map vF ∧ OwnL wr wn.heap.size lv l ∧ Below wn.heap.size wn wr) (fun _ iv _ => fs.length - (intOf iv).toNat)
  case atStart => exact ⟨0, [], by omega, rfl, rfl, OwnL.nil _ _, Below.refl _ _⟩
  case round =>
    obtain ⟨i, l, hi, rfl, hv, hO, hB⟩ := hrel
    have hfew := HD.out.few
    by_cases hlt : i < fs.length
    · obtain ⟨⟨n, f⟩, hf⟩ : ∃ p, fs[i]? = some p := ⟨_, List.getElem?_eq_getElem hlt⟩
      have hmem := List.mem_of_getElem? hf
      have hat : (atF fs n).getD zV = f := by rw [at_nth (FMap.rise HD.out.map) hf]; rfl
      have hn : n.length ≤ maxLen := strKeys_le HD.out.map Try.underlying9 n (by rw [entD_keys, ents, List.map_map]; exact List.mem_map.2 ⟨_, hmem, rfl⟩)
      have hok := HD.out.files.bd _ hmem
      have hDr := (HD.out.later b1).later hB
      have hNr := ownr_later hN hB
      obtain ⟨g7, cap7, e7, c7⟩ := names_cell hNr hlt (n := n) (by rw [List.getElem?_map, hf]; rfl)
      injection e7 with e71 e72 e73
      subst e71
      subst e73
      have cd1 := hDr.row.cell (j := 1) rfl
      have hHF := hide hat
      have hHM := hide hDr.map
      clear hat
      go_wp2_with (first
        | (with_reducible refine wl_look1 rfl (.tmp 17) (.tmp 18) n mb fs f hHF.out rfl rfl rfl hHM.out hn ?_)
        | ((with_reducible refine wl_alloc rfl 86 _ [.slice none 0 0, .int .i64 0] rfl zFile rfl ?_); intro gF w2 r9 p9 l9 b9)
        | ((with_reducible refine wl_store_row rfl 86 (.tmp 6) (.tmp 19) gF 86 _ [.slice f.A f.n f.c, .int .i64 f.kept] rfl rfl rfl r9 (szFile f) rfl (one_file f) ?_); intro w3 rF o10; have bS := b9.trans (o10.below p9)))
      have hy : Bs w3 w3.heap.size f.A f.n f.xs := (owf_bs (hDr.files.own _ hmem)).later bS
      have hm : f.n ≤ 140737488355328 := Nat.le_trans hok.2.2 (by decide)
      have hO3 := hO.later bS
      have hT : wn.heap.size ≤ w3.heap.size := Nat.le_trans hB.size bS.size
      have hll : l.length = i := by
        have := congrArg List.length hv
        simp at this
        omega
      have hl64 : l.length ≤ 64 := by omega
      have hB3 := hB.trans (bS.mono hB.size)
      clear hHF hHM hDr hNr c7 cd1 hO hok b9 o10 r9 p9 l9
      refine wp_region_vals [4, 7, 8, 9, 10] (SIm gF u3 n f) (JIm w3 wn.heap.size l n f) (by kernel_rfl) (by kernel_rfl) (by kernel_rfl) (by kernel_rfl) (by kernel_rfl) (JIm.start _ _ _ _ _ _) ?obsE ?heE
      case obsE =>
        refine ⟨?_, ?_, ?_, ?_, ?_, ?_, ?_, ?_, ?_, ?_, ?_, trivial⟩
        · exact .inl ⟨by kernel_rfl, fun L a1 w1 n' h => ⟨_, rfl, run_move (.tmp 3) rfl (h.var n' 3 (by kernel_rfl))⟩⟩
        · exact .inl ⟨by kernel_rfl, fun L a1 w1 n' h => ⟨_, rfl, run_move (.tmp 5) rfl (h.var n' 5 (by kernel_rfl))⟩⟩
        · refine .inl ⟨by kernel_rfl, fun L a1 w1 n' h => ⟨.pointer (some ⟨gF, 0, none⟩), rfl, ?_⟩⟩
          have e0 : a1.eval (.tmp 6) = _ := h.var n' 6 (by kernel_rfl)
          unfold execOp
          simp only [e0]
          go_simp
        · exact .inl ⟨by kernel_rfl, fun L a1 w1 n' h => ⟨_, rfl, run_loadA 35 (.tmp 22) ⟨gF, 0, none⟩ rfl Try.isAgg35 (h.dep n' 2 22 (by kernel_rfl) rfl) ((Row.later rF (h.inv.1 ((bits_at rfl).trans (n'.later (by kernel_rfl))))).cell (j := 0) (v := .slice f.A f.n f.c) rfl)⟩⟩
        · refine .inr fun L a1 w1 n' h K hK => ?_
          have no4 : L.getD 4 false = false := n'.not_yet
          have no7 : L.getD 7 false = false := n'.later (by kernel_rfl)
          have no8 : L.getD 8 false = false := n'.later (by kernel_rfl)
          have no9 : L.getD 9 false = false := n'.later (by kernel_rfl)
          have no10 : L.getD 10 false = false := n'.later (by kernel_rfl)
          have b9 := h.inv.1 ((bits_at rfl).trans no9)
          have y0 : a1.eval (.tmp 23) = .slice f.A f.n f.c := h.dep n' 3 23 (by kernel_rfl) rfl
          refine st_call 14 _ _ #[.slice f.A f.n f.c] rfl Try.call14 ?_ (cloneF f.A f.n f.c f.xs w1 (hy.later b9) hm) ?_
          · simp only [List.map_toArray, List.map_cons, List.map_nil, y0]
          · rintro e w3 ⟨A3, c3, rfl, own3, b3⟩
            exact ⟨_, rfl, hK _ w3 trivial ⟨fun _ => b9.trans (b3.mono b9.size), fun _ _ => ⟨A3, c3, rfl, own_lo own3 b9.size⟩, fun h0 => absurd (no7.symm.trans h0) (by decide), fun h0 => absurd (no8.symm.trans h0) (by decide), fun h0 => absurd (no9.symm.trans h0) (by decide), fun h0 => absurd (no10.symm.trans h0) (by decide)⟩⟩
        · refine .inl ⟨by kernel_rfl, fun L a1 w1 n' h => ⟨.pointer (some ⟨gF, 1, none⟩), rfl, ?_⟩⟩
          have e0 : a1.eval (.tmp 6) = _ := h.var n' 6 (by kernel_rfl)
          unfold execOp
          simp only [e0]
          go_simp
        · exact .inl ⟨by kernel_rfl, fun L a1 w1 n' h => ⟨_, rfl, run_loadA 3 (.tmp 25) ⟨gF, 1, none⟩ rfl Try.isAgg3 (h.dep n' 5 25 (by kernel_rfl) rfl) ((Row.later rF (h.inv.1 ((bits_at rfl).trans (n'.later (by kernel_rfl))))).cell (j := 1) (v := .int .i64 f.kept) rfl)⟩⟩
        · refine .inr fun L a1 w1 n' h K hK => ?_
          have yes4 : L.getD 4 false = true := n'.dep (by kernel_rfl)
          have no8 : L.getD 8 false = false := n'.later (by kernel_rfl)
          have no9 : L.getD 9 false = false := n'.later (by kernel_rfl)
          have no10 : L.getD 10 false = false := n'.later (by kernel_rfl)
          obtain ⟨A3, c3, ev, own3⟩ := h.inv.2.1 ((bits_at rfl).trans yes4) ((bits_at rfl).trans no9)
          have y0 : a1.eval (.tmp 21) = encStr n := h.dep n' 1 21 (by kernel_rfl) rfl
          have y1 : a1.eval (.tmp 24) = .slice A3 f.n c3 := ev
          have y2 : a1.eval (.tmp 26) = .int .i64 f.kept := h.dep n' 6 26 (by kernel_rfl) rfl
          have hrun := fun (o : Oper) (ho : o.op = .build 48 [(0, Operand.tmp 21), (1, Operand.tmp 24), (2, Operand.tmp 26)].toArray) => run_buildX (P := Try.prog) (o := o) (a := a1) (w := w1) 48 [(0, .tmp 21), (1, .tmp 24), (2, .tmp 26)] ho [(0, encStr n), (1, .slice A3 f.n c3), (2, .int .i64 f.kept)] (by simp only [List.map_cons, List.map_nil]; rw [y0, y1, y2]) _ (builtApi n A3 f.n c3 f.kept)
          unfold Oper.wp
          rw [hrun _ rfl]
          exact hK _ w1 trivial ⟨fun h0 => h.inv.1 h0, fun _ _ => ⟨A3, c3, ev, own3⟩, fun _ => ⟨A3, c3, ev, rfl⟩, fun h0 => absurd (no8.symm.trans h0) (by decide), fun h0 => absurd (no9.symm.trans h0) (by decide), fun h0 => absurd (no10.symm.trans h0) (by decide)⟩
        · refine .inr fun L a1 w1 n' h K hK => ?_
          have yes4 : L.getD 4 false = true := n'.dep (by kernel_rfl)
          have yes7 : L.getD 7 false = true := n'.dep (by kernel_rfl)
          have no9 : L.getD 9 false = false := n'.later (by kernel_rfl)
          have no10 : L.getD 10 false = false := n'.later (by kernel_rfl)
          have b9 := h.inv.1 ((bits_at rfl).trans no9)
          obtain ⟨A3, c3, ev, own3⟩ := h.inv.2.1 ((bits_at rfl).trans yes4) ((bits_at rfl).trans no9)
          obtain ⟨A4, c4, ev4, eu⟩ := h.inv.2.2.1 ((bits_at rfl).trans yes7)
          refine st_build1S 32 (.tmp 27) rfl 48 ip _ _ _ _ _ _ Try.underlying32 hip hpz hps eu ?_
          intro g2 w3 r3 p3 l3 b3
          exact hK _ w3 trivial ⟨fun _ => b9.trans (b3.mono b9.size), fun _ _ => ⟨A3, c3, ev, ownr_later own3 b3⟩, fun _ => ⟨A4, c4, ev4, eu⟩, fun _ _ => ⟨g2, A4, c4, ev4, rfl, r3⟩, fun h0 => absurd (no9.symm.trans h0) (by decide), fun h0 => absurd (no10.symm.trans h0) (by decide)⟩
        · refine .inr fun L a1 w1 n' h K hK => ?_
          have yes4 : L.getD 4 false = true := n'.dep (by kernel_rfl)
          have yes7 : L.getD 7 false = true := n'.dep (by kernel_rfl)
          have yes8 : L.getD 8 false = true := n'.dep (by kernel_rfl)
          have no9 : L.getD 9 false = false := n'.not_yet
          have no10 : L.getD 10 false = false := n'.later (by kernel_rfl)
          have b9 := h.inv.1 ((bits_at rfl).trans no9)
          obtain ⟨A3, c3, ev, own3⟩ := h.inv.2.1 ((bits_at rfl).trans yes4) ((bits_at rfl).trans no9)
          obtain ⟨g2, A4, c4, ev4, eu, r2⟩ := h.inv.2.2.2.1 ((bits_at rfl).trans yes8) ((bits_at rfl).trans no9)
          have e9 := ev.symm.trans ev4
          injection e9 with q1 q2 q3
          have hO1 := hO3.later b9
          refine st_append_at (.tmp 20) (.tmp 28) 32 rfl wn.heap.size 48 ip (.agg #[.string ByteArray.empty, .slice none 0 0, .int .i64 0]) 3 48 Try.underlying32 hip hpz hps hpb rfl (by decide) u3 l.length _ (h.dep n' 0 20 (by kernel_rfl) rfl) hO1.row ⟨g2, 0, none⟩ 1 1 [encStr n, .slice A4 f.n c4, .int .i64 f.kept] eu rfl (row_src r2) (one_fcs (n, ⟨A4, f.n, c4, f.xs, f.kept⟩)) (by simp only [maxLen]; omega) (by omega) (Nat.le_trans hT b9.size) ?_
          intro v' w3 own4 hg3 hloc
          rw [q1, q3] at own3
          exact hK _ w3 trivial ⟨fun h0 => absurd (show true = false from h0) (by decide), fun _ h0 => absurd (show true = false from h0) (by decide), h.inv.2.2.1, fun _ h0 => absurd (show true = false from h0) (by decide), fun _ => ⟨(n, ⟨A4, f.n, c4, f.xs, f.kept⟩), rfl, hO1.push own3 hT own4 hg3, (b9.mono hT).grown hg3 (Nat.le_trans hT b9.size) fun k hk => (hO1.row.lt k hk).1⟩, fun h0 => absurd (no10.symm.trans h0) (by decide)⟩
        · refine .inr fun L a1 w1 n' h K hK => ?_
          have yes9 : L.getD 9 false = true := n'.dep (by kernel_rfl)
          have h3 := h.inv.2.2.2.2.1 ((bits_at rfl).trans yes9)
          have hrun := fun (o : Oper) (ho : o.op = .assign (.tmp 29)) => run_assign (P := Try.prog) (o := o) (a := a1) (w := w1) (.tmp 29) ho rfl
          unfold Oper.wp
          rw [hrun _ rfl]
          exact hK _ w1 trivial ⟨h.inv.1, h.inv.2.1, h.inv.2.2.1, h.inv.2.2.2.1, fun _ => h3, fun _ => rfl⟩
      case heE =>
        intro V w9 hV hJ
        obtain ⟨p, hpv, hO9, b9⟩ := hJ.2.2.2.2.1 rfl
        have e10 := hJ.2.2.2.2.2 rfl
        have hO9 : OwnL w9 wn.heap.size (V 9) (l ++ [p]) := hO9
        have e10 : V 10 = V 9 := e10
        clear hV hJ
        simp only [putOps, List.setIfInBounds_toArray, List.set_cons_succ, List.set_cons_zero, Nat.reduceAdd]
        rw [e10]
        have hv9 : (l ++ [p]).map vF = (fs.take (i + 1)).map vF := by
          rw [List.map_append, hv, List.take_add_one, hf, List.map_append]
          simp [hpv]
        have hB9 := hB3.trans b9
        clear e10 hv hpv hO3 b9 hB3 hT hy hm hll hl64
        go_wp2_with fail
        go_roundw
        case rel => exact ⟨i + 1, l ++ [p], by omega, by go_num, hv9, hO9, hB9⟩
        case measure => simp [intOf]; omega
    · obtain rfl : i = fs.length := by omega
      go_wp2_with fail
      go_ret
      exact ⟨_, l, rfl, by rw [hv, List.take_length], hO.lo b1.size, b1.trans (hB.mono b1.size)⟩
end Go.Proofs.Ytaflmiopaiigbaa

/-
  The disk: what Load makes of a list, as lists. Own work.
-/
namespace Go.Proofs.Ytaflmiopaiigbaa
open Go.RowKit Go.Maps Go.ChangeMaps
/-- The files of a list laid one by one; none: one may not be, or stands twice. -/
def ldF : Fs → Fs → Option Fs
  | acc, [] => some acc
  | acc, p :: r => if (atF acc p.1).isSome || !mayF p then none else ldF (putF acc p.1 p.2) r
theorem ldF_cons_no {acc r : Fs} {p : Nm × FV} (h : ((atF acc p.1).isSome || !mayF p) = true) : ldF acc (p :: r) = none := by
  rw [ldF, if_pos h]
theorem ldF_cons {acc r : Fs} {p : Nm × FV} (h1 : (atF acc p.1).isSome = false) (h2 : mayF p = true) : ldF acc (p :: r) = ldF (putF acc p.1 p.2) r := by
  rw [ldF, h1, h2]
  rfl
theorem ldF_drop {acc l : Fs} {i : Nat} {p : Nm × FV} (h : l[i]? = some p) : ldF acc (l.drop i) = if (atF acc p.1).isSome || !mayF p then none else ldF (putF acc p.1 p.2) (l.drop (i + 1)) := by
  obtain ⟨hi, e⟩ := List.getElem?_eq_some_iff.1 h
  rw [List.drop_eq_getElem_cons hi, e, ldF]
theorem atF_view : ∀ {fs gs : Fs} (n : Nm), fs.map vF = gs.map vF → (atF fs n).map (fun f => (f.kept, f.xs)) = (atF gs n).map (fun f => (f.kept, f.xs))
  | [], [], _, _ => rfl
  | [], _ :: _, _, h => by simp at h
  | _ :: _, [], _, h => by simp at h
  | (m, f) :: r, (m', f') :: r', n, h => by
    simp only [List.map_cons, List.cons.injEq, vF, Prod.mk.injEq] at h
    obtain ⟨⟨rfl, hk, hx⟩, h2⟩ := h
    have ih := atF_view n h2
    unfold atF at ih ⊢
    by_cases e : (m == n) = true
    · simp [List.find?_cons, e, hk, hx]
    · simp only [List.find?_cons, e]
      exact ih
theorem atF_view_some {fs gs : Fs} (n : Nm) (h : fs.map vF = gs.map vF) : (atF fs n).isSome = (atF gs n).isSome := by
  have := congrArg Option.isSome (atF_view n h)
  simpa using this
theorem delF_view : ∀ {fs gs : Fs} (n : Nm), fs.map vF = gs.map vF → (delF fs n).map vF = (delF gs n).map vF
  | [], [], _, _ => rfl
  | [], _ :: _, _, h => by simp at h
  | _ :: _, [], _, h => by simp at h
  | (m, f) :: r, (m', f') :: r', n, h => by
    simp only [List.map_cons, List.cons.injEq, vF, Prod.mk.injEq] at h
    obtain ⟨⟨rfl, hk, hx⟩, h2⟩ := h
    have ih := delF_view n h2
    unfold delF at ih ⊢
    by_cases e : (m == n) = true
    · simp only [List.filter_cons, e, Bool.not_true, Bool.false_eq_true, if_false]
      exact ih
    · simp only [List.filter_cons, e, Bool.not_false, if_true, List.map_cons, ih]
      simp [vF, hk, hx]
theorem insF_view : ∀ {fs gs : Fs} (n : Nm) {f f' : FV}, fs.map vF = gs.map vF → vF (n, f) = vF (n, f') → (insF (n, f) fs).map vF = (insF (n, f') gs).map vF
  | [], [], n, f, f', _, hf => by simp [insF, hf]
  | [], _ :: _, _, _, _, h, _ => by simp at h
  | _ :: _, [], _, _, _, h, _ => by simp at h
  | (m, g) :: r, (m', g') :: r', n, f, f', h, hf => by
    simp only [List.map_cons, List.cons.injEq] at h
    obtain ⟨h1, h2⟩ := h
    have ih := insF_view n h2 hf
    have hm : m = m' := congrArg Prod.fst h1
    subst hm
    unfold insF
    split
    · simp [hf, h1, h2]
    · simp [h1, ih]
theorem putF_view {fs gs : Fs} (n : Nm) {f f' : FV} (h : fs.map vF = gs.map vF) (hf : vF (n, f) = vF (n, f')) : (putF fs n f).map vF = (putF gs n f').map vF :=
  insF_view n (delF_view n h) hf
/-- Files' bytes are as many as it says. -/
def tidy (p : Nm × FV) : Prop := p.2.xs.length = p.2.n
theorem mayF_view {p q : Nm × FV} (h : vF p = vF q) (hp : tidy p) (hq : tidy q) : mayF p = mayF q := by
  obtain ⟨n, f⟩ := p
  obtain ⟨n', f'⟩ := q
  simp only [vF, Prod.mk.injEq] at h
  obtain ⟨rfl, hk, hx⟩ := h
  have hn : f.n = f'.n := by rw [← hp, ← hq]; exact congrArg List.length hx
  simp only [mayF, hk, hn]
end Go.Proofs.Ytaflmiopaiigbaa

/-
  The disk: Load. Own work.
-/
namespace Go.Proofs.Ytaflmiopaiigbaa
open Go.RowKit Go.Maps Go.ChangeMaps
theorem run_loadF {P : Program} {o : Oper} {a : Act} {w : World} (ty : TypeId) (x : Operand) (g off : Nat) (M : List Value) (d : TypeDesc) (ho : o.op = .load ty x) (hx : a.eval x = .pointer (some ⟨g, off, none⟩)) (h : ∀ j v, M[j]? = some v → w.cell? ⟨g, off + j, none⟩ = some v)
    (hu : P.underlying ty = some d) (hd : (match d with | .struct _ | .array _ _ => true | _ => false) = true) (hi : (P.info? ty).map (·.size) = some M.length) : (execOp a.eval o).run P w = .ok (.value (.agg M.toArray)) w := by
  unfold execOp
  simp only [ho, hx, Instr.loadAt, Instr.sureAddr, Sem.run_bind, Sem.run_pure, Result.andThen_ok, run_loadVar_cells ty g off M d h hu hd hi]
theorem szApi (n : Nm) (f : FV) : (Try.prog.info? 48).map (·.size) = some [encStr n, Value.slice f.A f.n f.c, Value.int .i64 f.kept].length := by kernel_rfl
theorem one_api (n : Nm) (f : FV) : ∀ u ∈ [encStr n, Value.slice f.A f.n f.c, Value.int .i64 f.kept], u.oneCell' = true := one_fcs (n, f)
theorem szMp : (Try.prog.info? 70).map (·.size) = some 1 := by kernel_rfl
theorem zApi : (Try.prog.info? 48).map (fun i => i.zero) = some (some (.agg #[.string ByteArray.empty, .slice none 0 0, .int .i64 0])) := by kernel_rfl
/-- What the region that lays one file keeps. -/
def JLd (w0 : World) (f : FV) (N : World → Prop) (bs : List Bool) (vs : List Value) (w : World) : Prop :=
  (bs.getD 2 false = false → Below w0.heap.size w0 w) ∧ (bs.getD 0 false = true → bs.getD 2 false = false → ∃ A c, vs.getD 0 undef = .slice A f.n c ∧ w.ownsRow w0.heap.size 5 1 (.slice A f.n c) f.n (bv f.xs)) ∧
    (bs.getD 1 false = true → ∃ A c, vs.getD 0 undef = .slice A f.n c ∧ vs.getD 1 undef = .agg #[.slice A f.n c, .int .i64 f.kept]) ∧ (bs.getD 2 false = true → N w)
theorem JLd.start (w0 : World) (f : FV) (N : World → Prop) (vs : List Value) : JLd w0 f N [false, false, false] vs w0.drew :=
  ⟨fun _ => (Below.refl _ _).drew, fun h => absurd (show false = true from h) (by decide), fun h => absurd (show false = true from h) (by decide), fun h => absurd (show false = true from h) (by decide)⟩
def SLd (gF mb2 : Nat) (n : Nm) (f : FV) (opn : Nat) (v : Value) : Prop :=
  match opn with
  | 0 => v = .map (some mb2)
  | 1 => v = .pointer (some ⟨gF, 0, none⟩)
  | 2 => v = encStr n
  | 3 => v = .pointer (some ⟨gF, 1, none⟩)
  | 4 => v = .slice f.A f.n f.c
  | 6 => v = .pointer (some ⟨gF, 2, none⟩)
  | 7 => v = .int .i64 f.kept
  | _ => True

/-- What Load leaves. -/
def LoadRes (B gd m : Nat) (pl : Value) (l : Fs) (w : World) (e : Ending) (w' : World) : Prop :=
  (m ≤ 64 ∧ ∃ gs mb' hs, ldF [] l = some gs ∧ hs.map vF = gs.map vF ∧ e = .returned (.int .i64 0) ∧ DiskAt w' B gd pl mb' hs ∧ Buts [gd] w w') ∨ ((64 < m ∨ ldF [] l = none) ∧ e = .returned (.int .i64 1) ∧ Below w.heap.size w w')
set_option maxRecDepth 100000 in
set_option maxHeartbeats 2000000 in
theorem load_any (w : World) (B gd mb : Nat) (pl : Value) (fs : Fs) (hBw : B ≤ w.heap.size) (hD : DiskAt w B gd pl mb fs) (A : Option Addr) (m c : Nat) (l : Fs) (hl : FlAt w w.heap.size A m l) (hln : ∀ p ∈ l, p.1.length ≤ maxLen) (hm : m ≤ 140737488355328) :
    Calls Try.prog 25 #[ptr gd, .slice A m c] w fun e w' => LoadRes B gd m pl l w e w' := by
  by_cases h64 : 64 < m
  · have hd : decide ((64 : Int) < (m : Int)) = true := by simp; omega
    go_enter Try.func25, Try.ntmps25
    go_wp2_with fail
    refine (made_yes w gd mb pl hD.row).mono ?_
    rintro e w1 ⟨rfl, rfl⟩
    go_wp2_with fail
    go_ret
    exact .inr ⟨.inl h64, rfl, Below.refl _ _⟩
  have hd64 : decide ((64 : Int) < (m : Int)) = false := by simp; omega
  have hm64 : m ≤ 64 := by omega
  have HD := hide hD
  have HL := hide hl
  have hll := hl.1
  have hrow := hD.row
  clear hl hD h64
  go_enter Try.func25, Try.ntmps25
  go_wp2_with fail
  refine (made_yes w gd mb pl hrow).mono ?_
  rintro e w1 ⟨rfl, rfl⟩
  go_wp2_with (first
    | ((with_reducible refine wl_makeMap rfl rfl ?_); intro mb2 wn m2 p2 b2))
  go_loopw [19] (fun iv wr => ∃ (i : Nat) (acc hs : Fs), i ≤ m ∧ iv = .int .i64 i ∧ ldF [] l = ldF acc (l.drop i) ∧ hs.map vF = acc.map vF ∧ hs.length ≤ i ∧ FMap wr mb2 hs ∧ FilesAt wr w.heap.size hs ∧ Below w.heap.size w wr) (fun iv _ => m - (intOf iv).toNat)
  case atStart => exact ⟨0, [], [], by omega, rfl, by simp, rfl, by simp, m2, FilesAt.nil _ _, b2⟩
  case round =>
    clear m2
    obtain ⟨i, acc, hs, hi, rfl, hld, hv, hhl, hM, hF, hB⟩ := hrel
    by_cases hlt : i < m
    · obtain ⟨⟨n, f⟩, hf⟩ : ∃ p, l[i]? = some p := ⟨_, List.getElem?_eq_getElem (by omega)⟩
      have hmem := List.mem_of_getElem? hf
      have hLr := HL.out.below hB
      obtain ⟨bq, oq, rfl, hbq, hcq⟩ := hLr.2.1 (by omega)
      have hcf := hcq i (n, f) hf
      have hy := hLr.2.2 _ hmem
      have hn : n.length ≤ maxLen := hln _ hmem
      rw [ldF_drop hf] at hld
      obtain ⟨f1, hf1⟩ : ∃ f1, (atF hs n).getD zV = f1 := ⟨_, rfl⟩
      obtain ⟨t1, ht1⟩ : ∃ t1, (atF hs n).isSome = t1 := ⟨_, rfl⟩
      have HF1 := hide hf1
      have HT1 := hide ht1
      have c0 := hcf 0 _ rfl
      have c1 := hcf 1 _ rfl
      have c2 := hcf 2 _ rfl
      rw [Nat.add_zero] at c0
      simp only at c0 c1 c2
      have HLD := hide hld
      have HV := hide hv
      have HHL := hide hhl
      have hM0 := hide hM
      have HS := sizeFile
      clear hcq hcf hld hv hf1 hLr hhl hM
      cases t1 with
      | true =>
        go_wp2_with (first
          | ((with_reducible refine wl_alloc rfl 48 _ [.string ByteArray.empty, .slice none 0 0, .int .i64 0] rfl zApi rfl ?_); intro gF w2 r9 p9 l9 b9)
          | ((with_reducible refine wl_store_row rfl 48 (.tmp 7) (.tmp 22) gF 48 _ [encStr n, .slice f.A f.n f.c, .int .i64 f.kept] rfl rfl rfl r9 (szApi n f) rfl (one_api n f) ?_); intro w3 rF o10; have bS := b9.trans (o10.below p9); have cF0 := rF.cell (j := 0) rfl; have hM3 := hM0.out.later bS)
          | (with_reducible refine wl_look2 rfl (.tmp 24) (.tmp 26) n mb2 hs f1 true HF1.out HT1.out rfl rfl rfl hM3 hn ?_)
          | ((with_reducible refine wl_alloc rfl 86 _ [.slice none 0 0, .int .i64 0] rfl zFile rfl ?_); intro gG w4 r4 p4 l4 b4)
          | ((with_reducible refine wl_store_row rfl 86 (.tmp 8) (.tmp 28) gG 86 _ [.slice f1.A f1.n f1.c, .int .i64 f1.kept] rfl rfl rfl r4 (szFile f1) rfl (one_file f1) ?_); intro w5 rG o5; have b5 := b4.trans (o5.below p4)))
        go_ret
        refine .inr ⟨.inr ?_, rfl, hB.trans ((bS.trans (b5.mono bS.size)).mono hB.size)⟩
        rw [HLD.out, ← atF_view_some n HV.out, HT1.out]
        rfl
      | false =>
        go_wp2_with (first
          | ((with_reducible refine wl_alloc rfl 48 _ [.string ByteArray.empty, .slice none 0 0, .int .i64 0] rfl zApi rfl ?_); intro gF w2 r9 p9 l9 b9)
          | ((with_reducible refine wl_store_row rfl 48 (.tmp 7) (.tmp 22) gF 48 _ [encStr n, .slice f.A f.n f.c, .int .i64 f.kept] rfl rfl rfl r9 (szApi n f) rfl (one_api n f) ?_); intro w3 rF o10; have bS := b9.trans (o10.below p9); have cF0 := rF.cell (j := 0) rfl; have hM3 := hM0.out.later bS)
          | (with_reducible refine wl_look2 rfl (.tmp 24) (.tmp 26) n mb2 hs f1 false HF1.out HT1.out rfl rfl rfl hM3 hn ?_)
          | ((with_reducible refine wl_alloc rfl 86 _ [.slice none 0 0, .int .i64 0] rfl zFile rfl ?_); intro gG w4 r4 p4 l4 b4)
          | ((with_reducible refine wl_store_row rfl 86 (.tmp 8) (.tmp 28) gG 86 _ [.slice f1.A f1.n f1.c, .int .i64 f1.kept] rfl rfl rfl r4 (szFile f1) rfl (one_file f1) ?_); intro w5 rG o5; have b5 := b4.trans (o5.below p4); have rF5 := Row.later rF b5; have cG0 := rF5.cell (j := 0) rfl; have cG1 := rF5.cell (j := 1) rfl; have cG2 := rF5.cell (j := 2) rfl))
        refine (mayBe_any (n, f) w5).mono ?_
        rintro e w6 ⟨rfl, b6⟩
        have b16 := bS.trans ((b5.trans (b6.mono b5.size)).mono bS.size)
        have hac : (atF acc n).isSome = false := by rw [← atF_view_some n HV.out, HT1.out]
        cases hmy : mayF (n, f) with
        | false =>
          go_wp2_with fail
          go_ret
          refine .inr ⟨.inr ?_, rfl, hB.trans (b16.mono hB.size)⟩
          rw [HLD.out, hac, hmy]
          rfl
        | true =>
          have hld2 : ldF [] l = ldF (putF acc n f) (l.drop (i + 1)) := by rw [HLD.out, hac, hmy]; rfl
          have rF6 := Row.later rF5 b6
          have hHL2 := hide hld2
          have hmx : f.n ≤ 1048576 ∧ 0 ≤ f.kept ∧ f.kept ≤ f.n := by
            simp [mayF] at hmy
            exact hmy.2
          have hno : (atF hs n).isSome = false := HT1.out
          have b16' := b16
          have hM6 : FMap w6 mb2 hs := hM0.out.later b16
          have hF6 : FilesAt w6 w.heap.size hs := hF.buts (Buts.of b16 []) (fun _ _ _ _ hk => by cases hk)
          have hy6 : Bs w6 w6.heap.size f.A f.n f.xs := (hy.up hB.size).later b16
          have hB6 := hB.trans (b16.mono hB.size)
          have hT6 : w.heap.size ≤ w6.heap.size := hB6.size
          have hmn : f.n ≤ 140737488355328 := Nat.le_trans hmx.1 (by decide)
          have hl6 : hs.length ≤ 64 := Nat.le_trans HHL.out (by omega)
          clear hld2 hac HF1 HLD cG0 cG1 cG2 cF0 c0 c1 c2 hM3
          go_wp2_with fail
          refine wp_region_vals [5, 8, 9] (SLd gF mb2 n f) (JLd w6 f (fun w' => ∃ A' c', FMap w' mb2 (putF hs n ⟨A', f.n, c', f.xs, f.kept⟩) ∧ FilesAt w' w.heap.size (putF hs n ⟨A', f.n, c', f.xs, f.kept⟩) ∧ Below w.heap.size w6 w')) (by kernel_rfl) (by kernel_rfl) (by kernel_rfl) (by kernel_rfl) (by kernel_rfl) (JLd.start _ _ _ _) ?obsE ?heE
          case obsE =>
            refine ⟨?_, ?_, ?_, ?_, ?_, ?_, ?_, ?_, ?_, ?_, trivial⟩
            · exact .inl ⟨by kernel_rfl, fun L a1 w1 n' h => ⟨_, rfl, run_move (.tmp 5) rfl (h.var n' 5 (by kernel_rfl))⟩⟩
            · refine .inl ⟨by kernel_rfl, fun L a1 w1 n' h => ⟨.pointer (some ⟨gF, 0, none⟩), rfl, ?_⟩⟩
              have e0 : a1.eval (.tmp 7) = _ := h.var n' 7 (by kernel_rfl)
              unfold execOp
              simp only [e0]
              go_simp
            · exact .inl ⟨by kernel_rfl, fun L a1 w1 n' h => ⟨_, rfl, run_loadA 9 (.tmp 37) ⟨gF, 0, none⟩ rfl Try.isAgg9 (h.dep n' 1 37 (by kernel_rfl) rfl) ((Row.later rF6 (h.inv.1 ((bits_at rfl).trans (n'.later (by kernel_rfl))))).cell (j := 0) (v := encStr n) rfl)⟩⟩
            · refine .inl ⟨by kernel_rfl, fun L a1 w1 n' h => ⟨.pointer (some ⟨gF, 1, none⟩), rfl, ?_⟩⟩
              have e0 : a1.eval (.tmp 7) = _ := h.var n' 7 (by kernel_rfl)
              unfold execOp
              simp only [e0]
              go_simp
            · exact .inl ⟨by kernel_rfl, fun L a1 w1 n' h => ⟨_, rfl, run_loadA 35 (.tmp 39) ⟨gF, 1, none⟩ rfl Try.isAgg35 (h.dep n' 3 39 (by kernel_rfl) rfl) ((Row.later rF6 (h.inv.1 ((bits_at rfl).trans (n'.later (by kernel_rfl))))).cell (j := 1) (v := .slice f.A f.n f.c) rfl)⟩⟩
            · refine .inr fun L a1 w1 n' h K hK => ?_
              have no8 : L.getD 8 false = false := n'.later (by kernel_rfl)
              have no9 : L.getD 9 false = false := n'.later (by kernel_rfl)
              have b9 := h.inv.1 ((bits_at rfl).trans no9)
              have y0 : a1.eval (.tmp 40) = .slice f.A f.n f.c := h.dep n' 4 40 (by kernel_rfl) rfl
              refine st_call 14 _ _ #[.slice f.A f.n f.c] rfl Try.call14 ?_ (cloneF f.A f.n f.c f.xs w1 (hy6.later b9) hmn) ?_
              · simp only [List.map_toArray, List.map_cons, List.map_nil, y0]
              · rintro e w3 ⟨A3, c3, rfl, own3, b3⟩
                exact ⟨_, rfl, hK _ w3 trivial ⟨fun _ => b9.trans (b3.mono b9.size), fun _ _ => ⟨A3, c3, rfl, own_lo own3 b9.size⟩, fun h0 => absurd (no8.symm.trans h0) (by decide), fun h0 => absurd (no9.symm.trans h0) (by decide)⟩⟩
            · refine .inl ⟨by kernel_rfl, fun L a1 w1 n' h => ⟨.pointer (some ⟨gF, 2, none⟩), rfl, ?_⟩⟩
              have e0 : a1.eval (.tmp 7) = _ := h.var n' 7 (by kernel_rfl)
              unfold execOp
              simp only [e0]
              go_simp
            · exact .inl ⟨by kernel_rfl, fun L a1 w1 n' h => ⟨_, rfl, run_loadA 3 (.tmp 42) ⟨gF, 2, none⟩ rfl Try.isAgg3 (h.dep n' 6 42 (by kernel_rfl) rfl) ((Row.later rF6 (h.inv.1 ((bits_at rfl).trans (n'.later (by kernel_rfl))))).cell (j := 2) (v := .int .i64 f.kept) rfl)⟩⟩
            · refine .inr fun L a1 w1 n' h K hK => ?_
              have yes5 : L.getD 5 false = true := n'.dep (by kernel_rfl)
              have no9 : L.getD 9 false = false := n'.later (by kernel_rfl)
              obtain ⟨A3, c3, ev, own3⟩ := h.inv.2.1 ((bits_at rfl).trans yes5) ((bits_at rfl).trans no9)
              have y1 : a1.eval (.tmp 41) = .slice A3 f.n c3 := ev
              have y2 : a1.eval (.tmp 43) = .int .i64 f.kept := h.dep n' 7 43 (by kernel_rfl) rfl
              have hrun := fun (o : Oper) (ho : o.op = .build 86 [(0, Operand.tmp 41), (1, Operand.tmp 43)].toArray) => run_buildX (P := Try.prog) (o := o) (a := a1) (w := w1) 86 [(0, .tmp 41), (1, .tmp 43)] ho [(0, .slice A3 f.n c3), (1, .int .i64 f.kept)] (by simp only [List.map_cons, List.map_nil]; rw [y1, y2]) _ (builtFile A3 f.n c3 f.kept)
              unfold Oper.wp
              rw [hrun _ rfl]
              exact hK _ w1 trivial ⟨fun h0 => h.inv.1 h0, fun _ _ => ⟨A3, c3, ev, own3⟩, fun _ => ⟨A3, c3, ev, rfl⟩, fun h0 => absurd (no9.symm.trans h0) (by decide)⟩
            · refine .inr fun L a1 w1 n' h K hK => ?_
              have yes5 : L.getD 5 false = true := n'.dep (by kernel_rfl)
              have yes8 : L.getD 8 false = true := n'.dep (by kernel_rfl)
              have no9 : L.getD 9 false = false := n'.not_yet
              have b9 := h.inv.1 ((bits_at rfl).trans no9)
              obtain ⟨A3, c3, ev, own3⟩ := h.inv.2.1 ((bits_at rfl).trans yes5) ((bits_at rfl).trans no9)
              obtain ⟨A4, c4, ev4, eu4⟩ := h.inv.2.2.1 ((bits_at rfl).trans yes8)
              have e9 := ev.symm.trans ev4
              injection e9 with q1 q2 q3
              have y2 : a1.eval (.tmp 44) = (FV.mk A3 f.n c3 f.xs f.kept).val := by
                refine Eq.trans (show a1.eval (.tmp 44) = _ from eu4) ?_
                rw [← q1, ← q3]
              have hM1 : FMap w1 mb2 hs := hM6.later b9
              have ho1 : OwnF w1 w.heap.size (FV.mk A3 f.n c3 f.xs f.kept) := own_lo own3 hT6
              have hF1 := (hF6.buts (Buts.of b9 []) (fun _ _ _ _ hk => by cases hk)).put (n := n) ho1 ⟨hmx.2.1, hmx.2.2, hmx.1⟩ (fun p hp _ k hk hk2 => by
                have := (owf_lo (hF6.own p hp) k hk).2.1
                have := (owf_lo (f := FV.mk A3 f.n c3 f.xs f.kept) own3 k hk2).1
                omega)
              refine st_put (.tmp 36) (.tmp 38) (.tmp 44) (FV.mk A3 f.n c3 f.xs f.kept).val rfl (h.dep n' 0 36 (by kernel_rfl) rfl) (h.dep n' 2 38 (by kernel_rfl) rfl) y2 hM1 hn (lenE hl6) ?_
              intro w3 m3 o3
              have hM3 : FMap w3 mb2 (putF hs n ⟨A3, f.n, c3, f.xs, f.kept⟩) := by
                show MapAt w3 mb2 (ents _)
                rw [ents_put]
                exact m3
              exact hK undef w3 trivial ⟨fun h0 => absurd (show true = false from h0) (by decide), fun _ h0 => absurd (show true = false from h0) (by decide), fun _ => ⟨A4, c4, ev4, eu4⟩, fun _ => ⟨A3, c3, hM3, hF1.buts (Buts.only (S := [mb2]) o3 (List.mem_singleton.2 rfl)) (fun p hp k hk hk2 => owf_not_map (hF1.own p hp) hM1 (List.mem_singleton.1 hk2 ▸ hk)), (b9.mono hT6).trans (o3.below p2)⟩⟩
          case heE =>
            intro V w9 hV hJ
            obtain ⟨A', c', hM9, hF9, b9⟩ := hJ.2.2.2 rfl
            clear hV hJ
            simp only [putOps, List.setIfInBounds_toArray, List.set_cons_succ, List.set_cons_zero, Nat.reduceAdd]
            have hB9 := hB6.trans b9
            have hv9 : (putF hs n ⟨A', f.n, c', f.xs, f.kept⟩).map vF = (putF acc n f).map vF := putF_view n HV.out rfl
            have hl9 : (putF hs n ⟨A', f.n, c', f.xs, f.kept⟩).length ≤ i + 1 := Nat.le_trans (put_len _ _ _) (by have := HHL.out; omega)
            clear hM6 hF6 hy6 hB6 hT6 b9
            go_wp2_with fail
            go_roundw
            case rel => exact ⟨i + 1, putF acc n f, putF hs n ⟨A', f.n, c', f.xs, f.kept⟩, by omega, by go_num, hHL2.out, hv9, hl9, hM9, hF9, hB9⟩
            case measure => simp [intOf]; omega
    · obtain rfl : i = m := by omega
      have hres : ldF [] l = some acc := by
        rw [hld, List.drop_eq_nil_of_le (by omega)]
        rfl
      have hRr := Row.later hrow hB
      have HV := hide hv
      have HHL := hide hhl
      have HRS := hide hres
      clear hld hv hhl hres
      go_wp2_with (first
        | (with_reducible refine wl_store rfl 70 (.tmp 49) (.tmp 47) gd 1 72 [pl, .map (some mb)] (.map (some mb2)) rfl szMp rfl rfl hRr (lt2 _ _ (by decide)) rfl ?_; intro w2 r2 o2))
      go_ret
      have hD := HD.out
      have hgm : mb2 ≠ gd := hM.ne_row hRr
      refine .inl ⟨hm64, acc, mb2, hs, HRS.out, HV.out, rfl, ⟨r2, ⟨hD.lo.1, Nat.le_trans hBw p2⟩, MapAt.only hM o2 hgm, ?_, Nat.le_trans HHL.out hm64⟩, ?_⟩
      · have hF2 := hF.buts (Buts.only (S := [gd]) o2 (List.mem_singleton.2 rfl)) (fun p hp k hk hk2 => owf_not_row (hF.own p hp) hRr (by decide) (List.mem_singleton.1 hk2 ▸ hk))
        exact ⟨fun p hp => own_lo (hF2.own p hp) hBw, hF2.bd, hF2.apart⟩
      · exact (Buts.of hB _).trans (Buts.only o2 (List.mem_singleton.2 rfl))
end Go.Proofs.Ytaflmiopaiigbaa

/-
  The disk: Edit's errors; the document's Find. Own work.
-/
namespace Go.Proofs.Ytaflmiopaiigbaa
open Go.RowKit Go.Maps Go.ChangeMaps
set_option maxRecDepth 100000 in
theorem edit_arg (w : World) (gd mb : Nat) (pl : Value) (n : Nm) (A : Option Addr) (m c : Nat) (hr : DRow w gd pl (.map (some mb))) (hbad : (okN n && decide (m ≤ 1048576)) = false) :
    Calls Try.prog 33 #[ptr gd, encStr n, .slice A m c] w fun e w' => e = .returned (.int .i64 1) ∧ w = w' := by
  go_enter Try.func33, Try.ntmps33
  go_wp2_with fail
  refine (made_yes w gd mb pl hr).mono ?_
  rintro e w1 ⟨rfl, rfl⟩
  go_wp2_with fail
  refine (named_any n w).mono ?_
  rintro e w1 ⟨rfl, rfl⟩
  cases hq : okN n with
  | false =>
    go_wp2_with fail
    go_ret
    exact ⟨rfl, rfl⟩
  | true =>
    have hd : decide ((1048576 : Int) < (m : Int)) = true := by
      rw [hq] at hbad
      simp at hbad ⊢
      omega
    go_wp2_with fail
    go_ret
    exact ⟨rfl, rfl⟩
end Go.Proofs.Ytaflmiopaiigbaa

/-
  The document's disk: Find. Own work.
-/
namespace Go.Proofs.Ytaflmiopaiigbaa
open Go.RowKit Go.Maps Go.ChangeMaps
/-- The document's disk: its power, its list. -/
abbrev RDk (w : World) (gr : Nat) (pv : Value) (A : Option Addr) (m c : Nat) : Prop := Row w 34 gr [pv, .slice A m c]
theorem eql_nm (w : World) (n : Nm) : (binOp .eql 9 (encStr n) (encStr n)).run Try.prog w = .ok (.bool true) w := by
  simp [encStr]
  go_simp
theorem eql_nm_no (w : World) {a b : Nm} (h : a ≠ b) : (binOp .eql 9 (encStr a) (encStr b)).run Try.prog w = .ok (.bool false) w := by
  have hne : (⟨a.toArray⟩ : ByteArray) ≠ ⟨b.toArray⟩ := fun e => h (by
    have := congrArg (fun x : ByteArray => x.data.toList) e
    simpa using this)
  simp [encStr]
  go_simp
/-- The place of a name. -/
def idxF (fs : Fs) (n : Nm) : Int := match fs.findIdx? (fun p => p.1 == n) with | some i => i | none => -1
theorem idxF_at {fs : Fs} {n : Nm} {i : Nat} {p : Nm × FV} (h : ∀ j q, j < i → fs[j]? = some q → q.1 ≠ n) (hi : fs[i]? = some p) (hp : p.1 = n) : idxF fs n = i := by
  have hlt := (List.getElem?_eq_some_iff.1 hi).1
  have : fs.findIdx? (fun p => p.1 == n) = some i := by
    rw [List.findIdx?_eq_some_iff_getElem]
    refine ⟨hlt, ?_, fun j hj => ?_⟩
    · rw [(List.getElem?_eq_some_iff.1 hi).2, hp]; simp
    · have := h j _ hj (List.getElem?_eq_getElem (by omega))
      simpa using this
  unfold idxF
  rw [this]
theorem idxF_none {fs : Fs} {n : Nm} (h : ∀ j q, j < fs.length → fs[j]? = some q → q.1 ≠ n) : idxF fs n = -1 := by
  have : fs.findIdx? (fun p => p.1 == n) = none := by
    rw [List.findIdx?_eq_none_iff]
    intro p hp
    obtain ⟨j, hj, e⟩ := List.getElem_of_mem hp
    have := h j p hj (by rw [List.getElem?_eq_getElem hj, e])
    simpa using this
  unfold idxF
  rw [this]
set_option maxRecDepth 100000 in
set_option maxHeartbeats 1000000 in
theorem rfindD_any (w : World) (B gr : Nat) (pv : Value) (A : Option Addr) (m c : Nat) (fs : Fs) (n : Nm) (hr : RDk w gr pv A m c) (hB : B ≤ w.heap.size) (hl : FlAt w B A m fs) (hm : m ≤ 140737488355328) :
    Calls Try.prog 67 #[ptr gr, encStr n] w fun e w' => e = .returned (.int .i64 (idxF fs n)) ∧ Below w.heap.size w w' := by
  have HL := hide hl
  have hll := hl.1
  have k0 := hr.cell (j := 1) rfl
  clear hl
  go_enter Try.func67, Try.ntmps67
  go_wp2_with fail
  go_loopw [5] (fun iv wr => ∃ i : Nat, i ≤ m ∧ iv = .int .i64 i ∧ Below w.heap.size w wr ∧ Hid (∀ j q, j < i → fs[j]? = some q → q.1 ≠ n)) (fun iv _ => m - (intOf iv).toNat)
  case atStart => exact ⟨0, by omega, rfl, Below.refl _ _, hide (fun j q hj => by omega)⟩
  case round =>
    obtain ⟨i, hi, rfl, bW, hno⟩ := hrel
    have k1 := (Row.later hr bW).cell (j := 1) rfl
    by_cases hlt : i < m
    · obtain ⟨p, hp⟩ : ∃ p, fs[i]? = some p := ⟨_, List.getElem?_eq_getElem (by omega)⟩
      obtain ⟨b, o, rfl, hb, hc⟩ := (HL.out.below (bW.mono hB)).2.1 (by omega)
      have c0 := hc i p hp 0 _ rfl
      rw [Nat.add_zero] at c0
      have HS := sizeFile
      have HP := hide hp
      clear hc hp
      by_cases hpn : p.1 = n
      · have HQ := fun w => eql_nm w n
        have hx := hide (idxF_at hno.out HP.out hpn)
        rw [hpn] at c0
        go_wp2_with fail
        go_ret
        exact ⟨by rw [hx.out]; rfl, bW⟩
      · have HQ : (p.1 == n) = false := by simpa using hpn
        have hnx := hide (fun j q (hj : j < i + 1) (hq : fs[j]? = some q) => show q.1 ≠ n from by
          rcases Nat.lt_or_ge j i with h | h
          · exact hno.out j q h hq
          · obtain rfl : j = i := by omega
            have := hq.symm.trans HP.out
            simp at this
            rw [this]
            exact hpn)
        clear hpn
        go_wp2_with fail
        go_roundw
        case rel => exact ⟨i + 1, by omega, by go_num, bW, hnx⟩
        case measure => simp [intOf]; omega
    · obtain rfl : i = m := by omega
      have hx := hide (idxF_none (fs := fs) (n := n) (by rw [hll]; exact hno.out))
      go_wp2_with fail
      go_ret
      exact ⟨by rw [hx.out]; rfl, bW⟩
end Go.Proofs.Ytaflmiopaiigbaa

/-
  Names held against each other by order. Own work.
-/
namespace Go.Proofs.Ytaflmiopaiigbaa
open Go.RowKit Go.Maps Go.ChangeMaps
theorem less_before : ∀ a b : List UInt8, Op.bytesLess a b = bytesBefore a b
  | [], [] => rfl
  | [], _ :: _ => rfl
  | _ :: _, [] => rfl
  | x :: r, y :: s => by
    have ih := less_before r s
    simp [Op.bytesLess, bytesBefore, ih]
theorem toList_enc (a : Nm) : (⟨a.toArray⟩ : ByteArray).toList = a := by
  rw [Lib.toList_data]
/-- Is a name not behind another? -/
def leN (a b : Nm) : Bool := bytesBefore a b || a == b
theorem le_nm (w : World) (a b : Nm) : (binOp .leq 9 (encStr a) (encStr b)).run Try.prog w = .ok (.bool (leN a b)) w := by
  simp [encStr, binOp, Op.stringOp, less_before, toList_enc, leN]
end Go.Proofs.Ytaflmiopaiigbaa

/-
  The document's disk: put, as lists. Own work.
-/
namespace Go.Proofs.Ytaflmiopaiigbaa
open Go.RowKit Go.Maps Go.ChangeMaps
/-- One step of put: is it laid, what is there. -/
def stepP (n : Nm) (f : FV) (st : Bool × Fs) (p : Nm × FV) : Bool × Fs :=
  let s1 : Bool × Fs := bif !st.1 && leN n p.1 then (true, st.2 ++ [(n, f)]) else st
  bif p.1 == n then s1 else (s1.1, s1.2 ++ [p])
def endP (n : Nm) (f : FV) (st : Bool × Fs) : Fs := bif st.1 then st.2 else st.2 ++ [(n, f)]
theorem leN_self (n : Nm) : leN n n = true := by unfold leN; simp
theorem fold_laid (n : Nm) (f : FV) : ∀ (l acc : Fs), l.foldl (stepP n f) (true, acc) = (true, acc ++ delF l n)
  | [], acc => by simp [delF]
  | p :: r, acc => by
    rw [List.foldl_cons]
    cases h : p.1 == n with
    | true =>
      rw [show stepP n f (true, acc) p = (true, acc) by simp [stepP, h], fold_laid n f r acc]
      rw [show delF (p :: r) n = delF r n by simp [delF, h]]
    | false =>
      rw [show stepP n f (true, acc) p = (true, acc ++ [p]) by simp [stepP, h], fold_laid n f r]
      rw [show delF (p :: r) n = p :: delF r n by simp [delF, h], List.append_assoc]
      rfl
theorem ins_head (n : Nm) (f : FV) : ∀ (D : Fs), (∀ q ∈ D, bytesBefore n q.1 = true) → insF (n, f) D = (n, f) :: D
  | [], _ => rfl
  | q :: r, h => by unfold insF; rw [if_pos (h q (by simp))]
theorem before_trans : ∀ {a b c : Nm}, bytesBefore a b = true → bytesBefore b c = true → bytesBefore a c = true
  | [], [], _, h, _ => by simp [bytesBefore] at h
  | [], _ :: _, [], _, k => by simp [bytesBefore] at k
  | [], _ :: _, _ :: _, _, _ => by simp [bytesBefore]
  | _ :: _, [], _, h, _ => by simp [bytesBefore] at h
  | _ :: _, _ :: _, [], _, k => by simp [bytesBefore] at k
  | x :: r, y :: s, z :: t, h, k => by
    simp only [bytesBefore, Bool.or_eq_true, Bool.and_eq_true, decide_eq_true_eq, beq_iff_eq] at h k ⊢
    rcases h with h | ⟨rfl, h⟩
    · rcases k with k | ⟨rfl, k⟩
      · exact .inl (UInt8.lt_trans h k)
      · exact .inl h
    · rcases k with k | ⟨rfl, k⟩
      · exact .inl k
      · exact .inr ⟨rfl, before_trans h k⟩
theorem fold_put (n : Nm) (f : FV) : ∀ (l acc : Fs), riseF l → endP n f (l.foldl (stepP n f) (false, acc)) = acc ++ putF l n f
  | [], acc, _ => by simp [endP, putF, delF, insF]
  | p :: r, acc, hr => by
    obtain ⟨hp, hr2⟩ := List.pairwise_cons.1 hr
    rw [List.foldl_cons]
    cases hle : leN n p.1 with
    | true =>
      have hafter : ∀ q ∈ r, bytesBefore n q.1 = true := by
        intro q hq
        unfold leN at hle
        rw [Bool.or_eq_true] at hle
        rcases hle with h | h
        · exact before_trans h (hp q hq)
        · rw [show n = p.1 by simpa using h]; exact hp q hq
      cases h : p.1 == n with
      | true =>
        rw [show stepP n f (false, acc) p = (true, acc ++ [(n, f)]) by simp [stepP, h, hle], fold_laid]
        show acc ++ [(n, f)] ++ delF r n = acc ++ insF (n, f) (delF (p :: r) n)
        rw [show delF (p :: r) n = delF r n by simp [delF, h], ins_head n f (delF r n) (fun q hq => hafter q (List.mem_filter.1 hq).1), List.append_assoc]
        rfl
      | false =>
        have hb : bytesBefore n p.1 = true := by
          unfold leN at hle
          rw [Bool.or_eq_true] at hle
          rcases hle with h1 | h1
          · exact h1
          · have : n = p.1 := by simpa using h1
            rw [this] at h
            simp at h
        rw [show stepP n f (false, acc) p = (true, acc ++ [(n, f)] ++ [p]) by simp [stepP, h, hle], fold_laid]
        show acc ++ [(n, f)] ++ [p] ++ delF r n = acc ++ insF (n, f) (delF (p :: r) n)
        rw [show delF (p :: r) n = p :: delF r n by simp [delF, h]]
        rw [ins_head n f (p :: delF r n) (fun q hq => by
          rcases List.mem_cons.1 hq with rfl | hq
          · exact hb
          · exact hafter q (List.mem_filter.1 hq).1)]
        simp
    | false =>
      have hnb : bytesBefore n p.1 = false ∧ (n == p.1) = false := by
        unfold leN at hle
        simpa using hle
      have h : (p.1 == n) = false := by
        have h2 := hnb.2
        simp at h2 ⊢
        exact fun e => h2 e.symm
      rw [show stepP n f (false, acc) p = (false, acc ++ [p]) by simp [stepP, h, hle], fold_put n f r _ hr2]
      show acc ++ [p] ++ insF (n, f) (delF r n) = acc ++ insF (n, f) (delF (p :: r) n)
      rw [show delF (p :: r) n = p :: delF r n by simp [delF, h]]
      rw [show insF (n, f) (p :: delF r n) = p :: insF (n, f) (delF r n) by rw [insF, hnb.1]; rfl]
      simp
theorem fold_len (n : Nm) (f : FV) : ∀ (l : Fs) (st : Bool × Fs), (l.foldl (stepP n f) st).2.length ≤ st.2.length + (bif st.1 then 0 else 1) + l.length
  | [], st => by simp
  | p :: r, st => by
    rw [List.foldl_cons]
    refine Nat.le_trans (fold_len n f r _) ?_
    obtain ⟨b, acc⟩ := st
    cases b <;> cases hle : leN n p.1 <;> cases h : p.1 == n <;> simp [stepP, hle, h] <;> omega
theorem fold_snoc (n : Nm) (f : FV) {l : Fs} {i : Nat} {p : Nm × FV} (h : l[i]? = some p) : (l.take (i + 1)).foldl (stepP n f) (false, []) = stepP n f ((l.take i).foldl (stepP n f) (false, [])) p := by
  obtain ⟨hi, rfl⟩ := List.getElem?_eq_some_iff.1 h
  rw [List.take_succ_eq_append_getElem hi, List.foldl_append]
  rfl
end Go.Proofs.Ytaflmiopaiigbaa

/-
  The document's disk: put. Own work.
-/
namespace Go.Proofs.Ytaflmiopaiigbaa
open Go.RowKit Go.Maps Go.ChangeMaps
/-- A list of files whose row is one's own (from T on); the files' bytes lie below B. -/
structure LstAt (w : World) (B T : Nat) (v : Value) (fs : Fs) : Prop where
  row : w.ownsRow T 48 3 v fs.length (cellsL fs)
  bs : ∀ p ∈ fs, Bs w B p.2.A p.2.n p.2.xs
theorem LstAt.nil (w : World) (B T : Nat) : LstAt w B T (.slice none 0 0) [] := ⟨World.ownsRow_nil _ _ _ _, fun p hp => by cases hp⟩
theorem LstAt.fl {w : World} {B T : Nat} {v : Value} {fs : Fs} (h : LstAt w B T v fs) (hB : B ≤ w.heap.size) : ∃ A c, v = .slice A fs.length c ∧ FlAt w w.heap.size A fs.length fs ∧ (∀ x, A = some x → T ≤ x.block) := by
  rcases h.row.2 with ⟨rfl, h0⟩ | ⟨g, cap, cur, rfl, hTg, hg, h1, h2, h3, h4⟩
  · exact ⟨none, 0, by rw [h0], ⟨rfl, fun hp => by omega, fun p hp => (h.bs p hp).up hB⟩, fun x hx => by cases hx⟩
  · refine ⟨_, cap, rfl, ⟨rfl, fun hp => ⟨g, 0, rfl, (Array.getElem?_eq_some_iff.1 hg).1, fun i p hi j v hv => ?_⟩, fun p hp => (h.bs p hp).up hB⟩, fun x hx => by injection hx with hx; subst hx; exact hTg⟩
    have hj : j < 3 := (List.getElem?_eq_some_iff.1 hv).1
    have hil : i < fs.length := (List.getElem?_eq_some_iff.1 hi).1
    have e : (cur.toList.take (fs.length * 3))[i * 3 + j]? = (cellsL fs)[i * 3 + j]? := by rw [h4]
    rw [cellsL_at fs i p j v hi hv, List.getElem?_take, if_pos (by omega)] at e
    rw [Nat.zero_add, cell_of_row w g _ cur _ (0, 0) hg, ← Array.getElem?_toList]
    exact e
theorem LstAt.later {w w' : World} {B T : Nat} {v : Value} {fs : Fs} (h : LstAt w B T v fs) (hB : B ≤ w.heap.size) (hb : Below w.heap.size w w') : LstAt w' B T v fs :=
  ⟨⟨h.row.1, h.row.2.imp id fun ⟨g, cap, cur, e1, h1, hg, h2⟩ => ⟨g, cap, cur, e1, h1, (hb.block g (Array.getElem?_eq_some_iff.1 hg).1).trans hg, h2⟩⟩, fun p hp => (h.bs p hp).below (hb.mono hB)⟩
theorem LstAt.lo {w : World} {B T T' : Nat} {v : Value} {fs : Fs} (h : LstAt w B T v fs) (hT : T' ≤ T) : LstAt w B T' v fs :=
  ⟨⟨h.row.1, h.row.2.imp id fun ⟨g, cap, cur, e1, h1, h2⟩ => ⟨g, cap, cur, e1, Nat.le_trans hT h1, h2⟩⟩, h.bs⟩
theorem LstAt.push {w w' : World} {B T : Nat} {v v' : Value} {fs : Fs} {p : Nm × FV} (h : LstAt w B T v fs) (hB : B ≤ T) (hBw : B ≤ w.heap.size) (hp : Bs w B p.2.A p.2.n p.2.xs) (hr : w'.ownsRow T 48 3 v' (fs.length + 1) (cellsL fs ++ fcs p)) (hg : w.grownBy w' v.ownBlock) : LstAt w' B T v' (fs ++ [p]) := by
  have hb : Below B w w' := (Below.refl B w).grown hg hBw fun k hk => Nat.le_trans hB (h.row.lt k hk).1
  refine ⟨?_, fun q hq => ?_⟩
  · rw [cellsL_app, List.length_append]
    show w'.ownsRow T _ 3 v' (fs.length + 1) (cellsL fs ++ cellsL [p])
    rw [show cellsL [p] = fcs p by simp [cellsL]]
    exact hr
  · rcases List.mem_append.1 hq with hq | hq
    · exact (h.bs q hq).below hb
    · obtain rfl := List.mem_singleton.1 hq
      exact hp.below hb
theorem wl_build1S {P : Program} {ops : Array Oper} {rest : List Oper} {o : Oper} {a : Act} {w : World} {Q : Exit → Act → World → Prop} (hgd : o.guard = none) (t : TypeId) (x : Operand) (ho : o.op = .buildSlice t 1 #[(0, x)]) (e : TypeId) (i : TypeInfo) (z1 z2 z3 v1 v2 v3 : Value) (ht : P.underlying t = some (.slice e)) (hi : P.info? e = some i) (hz : i.zero = some (.agg #[z1, z2, z3])) (hsz : i.size = 3) (hx : a.eval x = .agg #[v1, v2, v3])
    (hk : ∀ g w', Row w' e g [v1, v2, v3] → w.heap.size ≤ g → g < w'.heap.size → Below w.heap.size w w' → wpList P ops Q rest (a.put o.dst (.slice (some ⟨g, 0, none⟩) 1 1)) w') : wpList P ops Q (o :: rest) a w :=
  wpList_plain hgd fun K hK => st_build1S t x ho e i z1 z2 z3 v1 v2 v3 ht hi hz hsz hx fun g w' h1 h2 h3 h4 => hK _ _ (hk g w' h1 h2 h3 h4)
theorem neq_dec (w : World) (a b : Nm) : (binOp .neq 9 (encStr a) (encStr b)).run Try.prog w = .ok (.bool (!(a == b))) w := by
  by_cases h : a = b
  · subst h
    rw [neq_nm]; simp
  · have hne : (⟨a.toArray⟩ : ByteArray) ≠ ⟨b.toArray⟩ := fun e => h (by
      have := congrArg (fun x : ByteArray => x.data.toList) e
      simpa using this)
    rw [show (a == b) = false by simpa using h]
    simp [encStr]
    go_simp
theorem push_facts {w wb x : World} {B T : Nat} {v v' : Value} {fs : Fs} {p : Nm × FV} (hO : LstAt wb B T v fs) (hB : B ≤ T) (hTw : T ≤ wb.heap.size) (hp : Bs wb B p.2.A p.2.n p.2.xs) (hr : x.ownsRow T 48 3 v' (fs.length + 1) (cellsL fs ++ [encStr p.1, .slice p.2.A p.2.n p.2.c, .int .i64 p.2.kept])) (hg : wb.grownBy x v.ownBlock) (hw : Below T w wb) :
    LstAt x B T v' (fs ++ [p]) ∧ Below T w x := by
  refine ⟨hO.push hB (Nat.le_trans hB hTw) hp hr hg, hw.grown hg hTw fun k hk => (hO.row.lt k hk).1⟩
set_option maxRecDepth 100000 in
set_option maxHeartbeats 4000000 in
theorem rput_any (w : World) (B : Nat) (A : Option Addr) (m c : Nat) (fs : Fs) (n : Nm) (f : FV) (hBw : B ≤ w.heap.size) (hl : FlAt w w.heap.size A m fs) (hlb : ∀ p ∈ fs, Bs w B p.2.A p.2.n p.2.xs) (hy : Bs w B f.A f.n f.xs) (hm : m ≤ 200) (hr : riseF fs) :
    Calls Try.prog 53 #[.slice A m c, .agg #[encStr n, .slice f.A f.n f.c, .int .i64 f.kept]] w fun e w' => ∃ v, e = .returned v ∧ LstAt w' B w.heap.size v (putF fs n f) ∧ Below w.heap.size w w' := by
  have HL := hide hl
  have hll := hl.1
  obtain ⟨ip, hip, hpz, hps, hpb⟩ := file_info
  have hfold := fold_put n f fs [] hr
  rw [List.nil_append] at hfold
  have HF := hide hfold
  have HLb := hide hlb
  have zs3 : (Value.agg #[.string ByteArray.empty, .slice none 0 0, .int .i64 0]).cells.size = 3 := rfl
  have h03 : 0 < 3 := by decide
  have hl3 : ∀ (n : Nm) (f : FV), ([encStr n, .slice f.A f.n f.c, .int .i64 f.kept] : List Value).length = 1 * 3 := fun _ _ => rfl
  have hmA : ∀ k, k ≤ 1000 → k + 1 ≤ maxLen := fun k hk => by simp only [maxLen]; omega
  have hmB : ∀ k, k ≤ 1000 → (k + 1) * 48 ≤ 140737488355328 := fun k hk => by omega
  clear hl hlb hr hfold
  go_enter Try.func53, Try.ntmps53
  go_wp2_with (first
    | ((with_reducible refine wl_box rfl 48 _ _ [encStr n, .slice f.A f.n f.c, .int .i64 f.kept] rfl rfl rfl ?_); intro gF w1 rF pF lF bF))
  have hTw1 : w.heap.size ≤ w1.heap.size := bF.size
  have hBT : B ≤ w1.heap.size := Nat.le_trans hBw hTw1
  go_loopw [5, 6, 7] (fun lv dv iv wr => ∃ (i : Nat) (laid : Bool) (out : Fs), i ≤ m ∧ iv = .int .i64 i ∧ dv = .bool laid ∧ (fs.take i).foldl (stepP n f) (false, []) = (laid, out) ∧ LstAt wr B w1.heap.size lv out ∧ Below w1.heap.size w1 wr) (fun _ _ iv _ => m - (intOf iv).toNat)
  case atStart => exact ⟨0, false, [], Nat.zero_le _, rfl, rfl, rfl, LstAt.nil _ _ _, Below.refl _ _⟩
  case round =>
    obtain ⟨i, laid, out, hi, rfl, rfl, hst, hO, bW⟩ := hrel
    have hol : out.length ≤ 1 + i := by
      have := fold_len n f (fs.take i) (false, [])
      rw [hst, List.length_take] at this
      simp at this
      omega
    have hO1 : out.length ≤ 1000 := by omega
    by_cases hlt : i < m
    · obtain ⟨p, hp⟩ : ∃ p, fs[i]? = some p := ⟨_, List.getElem?_eq_getElem (by omega)⟩
      have hsn := fold_snoc n f hp
      rw [hst] at hsn
      obtain ⟨b, o, rfl, hb, hcw0⟩ := HL.out.2.1 (by omega)
      have hcw := hcw0 i p hp
      have hpb := HLb.out p (List.mem_of_getElem? hp)
      obtain ⟨n', f'⟩ := p
      have HC : ∀ X, Below w1.heap.size w1 X → ∀ j v, ([encStr n', .slice f'.A f'.n f'.c, .int .i64 f'.kept] : List Value)[j]? = some v → X.cell? ⟨b, o + i * 3 + j, none⟩ = some v := fun X hX j v hv => ((bF.trans (hX.mono bF.size)).cell (p := ⟨b, o + i * 3 + j, none⟩) hb).trans (hcw j v hv)
      have HY : ∀ X, Below w1.heap.size w1 X → Bs X B f.A f.n f.xs := fun X hX => hy.below ((bF.trans (hX.mono bF.size)).mono hBw)
      have HP : ∀ X, Below w1.heap.size w1 X → Bs X B f'.A f'.n f'.xs := fun X hX => hpb.below ((bF.trans (hX.mono bF.size)).mono hBw)
      have HS := sizeFile
      have hd1 : decide ((i : Int) < (m : Int)) = true := by simp; omega
      clear hcw hcw0 hpb hp HL HLb HF
      cases laid with
      | true =>
        have hle : True := trivial
        cases heq : n' == n with
        | true =>
          have HNE : ∀ w, (binOp .neq 9 (encStr n') (encStr n)).run Try.prog w = .ok (.bool false) w := fun w => by rw [neq_dec, heq]; rfl
          have hs9 : (fs.take (i + 1)).foldl (stepP n f) (false, []) = (true, out) := by rw [hsn]; simp [stepP, hle, heq]
          have HS9 := hide hs9
          clear hs9 hsn hst hle
          have c0 := HC wr bW 0 _ rfl
          rw [Nat.add_zero] at c0
          try simp only at c0
          have cF0 := (Row.later rF bW).cell (j := 0) rfl
          go_wp2_with fail
          go_quiet (fail)
          obtain ⟨wq1, hwq⟩ : ∃ wq, wq = (wr).drewN nq := ⟨_, rfl⟩
          have bqwq1 : Below (wr).heap.size wr wq1 := by rw [hwq]; exact below_drewn (Below.refl _ _) nq
          rw [← hwq]
          clear hwq nq c0 cF0
          have Bwq1 := (bW).trans (bqwq1.mono (bW).size)
          have Owq1 := LstAt.later hO (Nat.le_trans hBT (bW).size) bqwq1
          have c0 := HC wq1 Bwq1 0 _ rfl
          rw [Nat.add_zero] at c0
          try simp only at c0
          have cF0 := (Row.later rF Bwq1).cell (j := 0) rfl
          go_wp2_with fail
          go_quiet (fail)
          obtain ⟨wq2, hwq⟩ : ∃ wq, wq = (wq1).drewN nq := ⟨_, rfl⟩
          have bqwq2 : Below (wq1).heap.size wq1 wq2 := by rw [hwq]; exact below_drewn (Below.refl _ _) nq
          rw [← hwq]
          clear hwq nq c0 cF0
          have Bwq2 := (Bwq1).trans (bqwq2.mono (Bwq1).size)
          have Owq2 := LstAt.later Owq1 (Nat.le_trans hBT (Bwq1).size) bqwq2
          go_wp2_with fail
          go_roundw
          case rel => exact ⟨i + 1, true, out, by omega, by go_num, rfl, HS9.out, Owq2, Bwq2⟩
          case measure => simp [intOf]; omega
        | false =>
          have HNE : ∀ w, (binOp .neq 9 (encStr n') (encStr n)).run Try.prog w = .ok (.bool true) w := fun w => by rw [neq_dec, heq]; rfl
          have hs9 : (fs.take (i + 1)).foldl (stepP n f) (false, []) = (true, (out ++ [(n', f')])) := by rw [hsn]; simp [stepP, hle, heq]
          have HS9 := hide hs9
          clear hs9 hsn hst hle
          have c0 := HC wr bW 0 _ rfl
          rw [Nat.add_zero] at c0
          try simp only at c0
          have cF0 := (Row.later rF bW).cell (j := 0) rfl
          go_wp2_with fail
          go_quiet (fail)
          obtain ⟨wq1, hwq⟩ : ∃ wq, wq = (wr).drewN nq := ⟨_, rfl⟩
          have bqwq1 : Below (wr).heap.size wr wq1 := by rw [hwq]; exact below_drewn (Below.refl _ _) nq
          rw [← hwq]
          clear hwq nq c0 cF0
          have Bwq1 := (bW).trans (bqwq1.mono (bW).size)
          have Owq1 := LstAt.later hO (Nat.le_trans hBT (bW).size) bqwq1
          have c0 := HC wq1 Bwq1 0 _ rfl
          rw [Nat.add_zero] at c0
          try simp only at c0
          have cF0 := (Row.later rF Bwq1).cell (j := 0) rfl
          go_wp2_with fail
          go_quiet (fail)
          obtain ⟨wq2, hwq⟩ : ∃ wq, wq = (wq1).drewN nq := ⟨_, rfl⟩
          have bqwq2 : Below (wq1).heap.size wq1 wq2 := by rw [hwq]; exact below_drewn (Below.refl _ _) nq
          rw [← hwq]
          clear hwq nq c0 cF0
          have Bwq2 := (Bwq1).trans (bqwq2.mono (Bwq1).size)
          have Owq2 := LstAt.later Owq1 (Nat.le_trans hBT (Bwq1).size) bqwq2
          have rF8 := Row.later rF Bwq2
          have hC8 := HC wq2 Bwq2
          have hT8 : w1.heap.size ≤ (wq2).heap.size := (Bwq2).size
          go_wp2_with (first
            | (with_reducible refine wl_load_cells (o := ⟨some 42, _, _, _, _, _⟩) rfl 48 (.tmp 41) b (o + i * 3) [encStr n', .slice f'.A f'.n f'.c, .int .i64 f'.kept] _ rfl rfl hC8 Try.underlying48 rfl (szApi n' f') ?_)
            | ((with_reducible refine wl_build1S (o := ⟨some 43, _, _, _, _, _⟩) rfl 32 (.tmp 42) rfl 48 ip _ _ _ (encStr n') (.slice f'.A f'.n f'.c) (.int .i64 f'.kept) Try.underlying32 hip hpz hps rfl ?_); intro g8 w8 r8 p8 l8 b8; have O8 := LstAt.later Owq2 (Nat.le_trans hBT hT8) b8; have hU8 := Nat.le_trans hT8 b8.size)
            | ((at_builtin; with_reducible refine wl_append_at (o := ⟨some 44, _, _, _, _, _⟩) rfl (.tmp 38) (.tmp 43) 32 rfl w1.heap.size 48 ip (.agg #[.string ByteArray.empty, .slice none 0 0, .int .i64 0]) 3 48 Try.underlying32 hip hpz hps hpb zs3 h03 u5 (out).length _ rfl O8.row ⟨g8, 0, none⟩ 1 1 [encStr n', .slice f'.A f'.n f'.c, .int .i64 f'.kept] rfl (hl3 n' f') (row_src r8) (one_api n' f') (hmA (out).length (by first | exact hO1 | (simp; omega))) (hmB (out).length (by first | exact hO1 | (simp; omega))) hU8 ?_); intro v8 x8 own8 gr8 at8))
          obtain ⟨OX8, BX8⟩ := push_facts (p := (n', f')) O8 hBT hU8 (((HP wq2 Bwq2)).below (b8.mono (Nat.le_trans hBT hT8))) own8 gr8 ((Bwq2).trans (b8.mono hT8))
          go_roundw
          case rel => exact ⟨i + 1, true, (out ++ [(n', f')]), by omega, by go_num, rfl, HS9.out, OX8, BX8⟩
          case measure => simp [intOf]; omega
      | false =>
        cases hle : leN n n' with
        | true =>
          cases heq : n' == n with
          | true =>
            have HLE : ∀ w, (binOp .leq 9 (encStr n) (encStr n')).run Try.prog w = .ok (.bool true) w := fun w => by rw [le_nm, hle]
            have HNE : ∀ w, (binOp .neq 9 (encStr n') (encStr n)).run Try.prog w = .ok (.bool false) w := fun w => by rw [neq_dec, heq]; rfl
            have hs9 : (fs.take (i + 1)).foldl (stepP n f) (false, []) = (true, (out ++ [(n, f)])) := by rw [hsn]; simp [stepP, hle, heq]
            have HS9 := hide hs9
            clear hs9 hsn hst hle
            have c0 := HC wr bW 0 _ rfl
            rw [Nat.add_zero] at c0
            try simp only at c0
            have cF0 := (Row.later rF bW).cell (j := 0) rfl
            go_wp2_with fail
            go_quiet (fail)
            obtain ⟨wq1, hwq⟩ : ∃ wq, wq = (wr).drewN nq := ⟨_, rfl⟩
            have bqwq1 : Below (wr).heap.size wr wq1 := by rw [hwq]; exact below_drewn (Below.refl _ _) nq
            rw [← hwq]
            clear hwq nq c0 cF0
            have Bwq1 := (bW).trans (bqwq1.mono (bW).size)
            have Owq1 := LstAt.later hO (Nat.le_trans hBT (bW).size) bqwq1
            have rF7 := Row.later rF Bwq1
            have hC7 := HC wq1 Bwq1
            have hT7 : w1.heap.size ≤ (wq1).heap.size := (Bwq1).size
            go_wp2_with (first
              | (with_reducible refine wl_load_row (o := ⟨some 27, _, _, _, _, _⟩) rfl 48 (.tmp 3) gF 48 [encStr n, .slice f.A f.n f.c, .int .i64 f.kept] _ rfl rfl rF7 Try.underlying48 rfl (szApi n f) ?_)
              | ((with_reducible refine wl_build1S (o := ⟨some 28, _, _, _, _, _⟩) rfl 32 (.tmp 27) rfl 48 ip _ _ _ (encStr n) (.slice f.A f.n f.c) (.int .i64 f.kept) Try.underlying32 hip hpz hps rfl ?_); intro g7 w7 r7 p7 l7 b7; have O7 := LstAt.later Owq1 (Nat.le_trans hBT hT7) b7; have hU7 := Nat.le_trans hT7 b7.size)
              | ((at_builtin; with_reducible refine wl_append_at (o := ⟨some 29, _, _, _, _, _⟩) rfl (.tmp 26) (.tmp 28) 32 rfl w1.heap.size 48 ip (.agg #[.string ByteArray.empty, .slice none 0 0, .int .i64 0]) 3 48 Try.underlying32 hip hpz hps hpb zs3 h03 u5 (out).length _ rfl O7.row ⟨g7, 0, none⟩ 1 1 [encStr n, .slice f.A f.n f.c, .int .i64 f.kept] rfl (hl3 n f) (row_src r7) (one_api n f) (hmA (out).length (by first | exact hO1 | (simp; omega))) (hmB (out).length (by first | exact hO1 | (simp; omega))) hU7 ?_); intro v7 x7 own7 gr7 at7))
            obtain ⟨OX7, BX7⟩ := push_facts (p := (n, f)) O7 hBT hU7 (((HY wq1 Bwq1)).below (b7.mono (Nat.le_trans hBT hT7))) own7 gr7 ((Bwq1).trans (b7.mono hT7))
            have c0 := HC x7 BX7 0 _ rfl
            rw [Nat.add_zero] at c0
            try simp only at c0
            have cF0 := (Row.later rF BX7).cell (j := 0) rfl
            go_wp2_with fail
            go_quiet (fail)
            obtain ⟨wq2, hwq⟩ : ∃ wq, wq = (x7).drewN nq := ⟨_, rfl⟩
            have bqwq2 : Below (x7).heap.size x7 wq2 := by rw [hwq]; exact below_drewn (Below.refl _ _) nq
            rw [← hwq]
            clear hwq nq c0 cF0
            have Bwq2 := (BX7).trans (bqwq2.mono (BX7).size)
            have Owq2 := LstAt.later OX7 (Nat.le_trans hBT (BX7).size) bqwq2
            go_wp2_with fail
            go_roundw
            case rel => exact ⟨i + 1, true, (out ++ [(n, f)]), by omega, by go_num, rfl, HS9.out, Owq2, Bwq2⟩
            case measure => simp [intOf]; omega
          | false =>
            have HLE : ∀ w, (binOp .leq 9 (encStr n) (encStr n')).run Try.prog w = .ok (.bool true) w := fun w => by rw [le_nm, hle]
            have HNE : ∀ w, (binOp .neq 9 (encStr n') (encStr n)).run Try.prog w = .ok (.bool true) w := fun w => by rw [neq_dec, heq]; rfl
            have hs9 : (fs.take (i + 1)).foldl (stepP n f) (false, []) = (true, ((out ++ [(n, f)]) ++ [(n', f')])) := by rw [hsn]; simp [stepP, hle, heq]
            have HS9 := hide hs9
            clear hs9 hsn hst hle
            have c0 := HC wr bW 0 _ rfl
            rw [Nat.add_zero] at c0
            try simp only at c0
            have cF0 := (Row.later rF bW).cell (j := 0) rfl
            go_wp2_with fail
            go_quiet (fail)
            obtain ⟨wq1, hwq⟩ : ∃ wq, wq = (wr).drewN nq := ⟨_, rfl⟩
            have bqwq1 : Below (wr).heap.size wr wq1 := by rw [hwq]; exact below_drewn (Below.refl _ _) nq
            rw [← hwq]
            clear hwq nq c0 cF0
            have Bwq1 := (bW).trans (bqwq1.mono (bW).size)
            have Owq1 := LstAt.later hO (Nat.le_trans hBT (bW).size) bqwq1
            have rF7 := Row.later rF Bwq1
            have hC7 := HC wq1 Bwq1
            have hT7 : w1.heap.size ≤ (wq1).heap.size := (Bwq1).size
            go_wp2_with (first
              | (with_reducible refine wl_load_row (o := ⟨some 27, _, _, _, _, _⟩) rfl 48 (.tmp 3) gF 48 [encStr n, .slice f.A f.n f.c, .int .i64 f.kept] _ rfl rfl rF7 Try.underlying48 rfl (szApi n f) ?_)
              | ((with_reducible refine wl_build1S (o := ⟨some 28, _, _, _, _, _⟩) rfl 32 (.tmp 27) rfl 48 ip _ _ _ (encStr n) (.slice f.A f.n f.c) (.int .i64 f.kept) Try.underlying32 hip hpz hps rfl ?_); intro g7 w7 r7 p7 l7 b7; have O7 := LstAt.later Owq1 (Nat.le_trans hBT hT7) b7; have hU7 := Nat.le_trans hT7 b7.size)
              | ((at_builtin; with_reducible refine wl_append_at (o := ⟨some 29, _, _, _, _, _⟩) rfl (.tmp 26) (.tmp 28) 32 rfl w1.heap.size 48 ip (.agg #[.string ByteArray.empty, .slice none 0 0, .int .i64 0]) 3 48 Try.underlying32 hip hpz hps hpb zs3 h03 u5 (out).length _ rfl O7.row ⟨g7, 0, none⟩ 1 1 [encStr n, .slice f.A f.n f.c, .int .i64 f.kept] rfl (hl3 n f) (row_src r7) (one_api n f) (hmA (out).length (by first | exact hO1 | (simp; omega))) (hmB (out).length (by first | exact hO1 | (simp; omega))) hU7 ?_); intro v7 x7 own7 gr7 at7))
            obtain ⟨OX7, BX7⟩ := push_facts (p := (n, f)) O7 hBT hU7 (((HY wq1 Bwq1)).below (b7.mono (Nat.le_trans hBT hT7))) own7 gr7 ((Bwq1).trans (b7.mono hT7))
            have c0 := HC x7 BX7 0 _ rfl
            rw [Nat.add_zero] at c0
            try simp only at c0
            have cF0 := (Row.later rF BX7).cell (j := 0) rfl
            go_wp2_with fail
            go_quiet (fail)
            obtain ⟨wq2, hwq⟩ : ∃ wq, wq = (x7).drewN nq := ⟨_, rfl⟩
            have bqwq2 : Below (x7).heap.size x7 wq2 := by rw [hwq]; exact below_drewn (Below.refl _ _) nq
            rw [← hwq]
            clear hwq nq c0 cF0
            have Bwq2 := (BX7).trans (bqwq2.mono (BX7).size)
            have Owq2 := LstAt.later OX7 (Nat.le_trans hBT (BX7).size) bqwq2
            have rF8 := Row.later rF Bwq2
            have hC8 := HC wq2 Bwq2
            have hT8 : w1.heap.size ≤ (wq2).heap.size := (Bwq2).size
            go_wp2_with (first
              | (with_reducible refine wl_load_cells (o := ⟨some 42, _, _, _, _, _⟩) rfl 48 (.tmp 41) b (o + i * 3) [encStr n', .slice f'.A f'.n f'.c, .int .i64 f'.kept] _ rfl rfl hC8 Try.underlying48 rfl (szApi n' f') ?_)
              | ((with_reducible refine wl_build1S (o := ⟨some 43, _, _, _, _, _⟩) rfl 32 (.tmp 42) rfl 48 ip _ _ _ (encStr n') (.slice f'.A f'.n f'.c) (.int .i64 f'.kept) Try.underlying32 hip hpz hps rfl ?_); intro g8 w8 r8 p8 l8 b8; have O8 := LstAt.later Owq2 (Nat.le_trans hBT hT8) b8; have hU8 := Nat.le_trans hT8 b8.size)
              | ((at_builtin; with_reducible refine wl_append_at (o := ⟨some 44, _, _, _, _, _⟩) rfl (.tmp 38) (.tmp 43) 32 rfl w1.heap.size 48 ip (.agg #[.string ByteArray.empty, .slice none 0 0, .int .i64 0]) 3 48 Try.underlying32 hip hpz hps hpb zs3 h03 v7 ((out ++ [(n, f)])).length _ rfl O8.row ⟨g8, 0, none⟩ 1 1 [encStr n', .slice f'.A f'.n f'.c, .int .i64 f'.kept] rfl (hl3 n' f') (row_src r8) (one_api n' f') (hmA ((out ++ [(n, f)])).length (by first | exact hO1 | (simp; omega))) (hmB ((out ++ [(n, f)])).length (by first | exact hO1 | (simp; omega))) hU8 ?_); intro v8 x8 own8 gr8 at8))
            obtain ⟨OX8, BX8⟩ := push_facts (p := (n', f')) O8 hBT hU8 (((HP wq2 Bwq2)).below (b8.mono (Nat.le_trans hBT hT8))) own8 gr8 ((Bwq2).trans (b8.mono hT8))
            go_roundw
            case rel => exact ⟨i + 1, true, ((out ++ [(n, f)]) ++ [(n', f')]), by omega, by go_num, rfl, HS9.out, OX8, BX8⟩
            case measure => simp [intOf]; omega
        | false =>
          have heq : (n' == n) = false := by
            cases h : n' == n with
            | false => rfl
            | true =>
              have : n' = n := by simpa using h
              rw [this, leN_self] at hle
              cases hle
          have HLE : ∀ w, (binOp .leq 9 (encStr n) (encStr n')).run Try.prog w = .ok (.bool false) w := fun w => by rw [le_nm, hle]
          have HNE : ∀ w, (binOp .neq 9 (encStr n') (encStr n)).run Try.prog w = .ok (.bool true) w := fun w => by rw [neq_dec, heq]; rfl
          have hs9 : (fs.take (i + 1)).foldl (stepP n f) (false, []) = (false, (out ++ [(n', f')])) := by rw [hsn]; simp [stepP, hle, heq]
          have HS9 := hide hs9
          clear hs9 hsn hst hle
          have c0 := HC wr bW 0 _ rfl
          rw [Nat.add_zero] at c0
          try simp only at c0
          have cF0 := (Row.later rF bW).cell (j := 0) rfl
          go_wp2_with fail
          go_quiet (fail)
          obtain ⟨wq1, hwq⟩ : ∃ wq, wq = (wr).drewN nq := ⟨_, rfl⟩
          have bqwq1 : Below (wr).heap.size wr wq1 := by rw [hwq]; exact below_drewn (Below.refl _ _) nq
          rw [← hwq]
          clear hwq nq c0 cF0
          have Bwq1 := (bW).trans (bqwq1.mono (bW).size)
          have Owq1 := LstAt.later hO (Nat.le_trans hBT (bW).size) bqwq1
          have c0 := HC wq1 Bwq1 0 _ rfl
          rw [Nat.add_zero] at c0
          try simp only at c0
          have cF0 := (Row.later rF Bwq1).cell (j := 0) rfl
          go_wp2_with fail
          go_quiet (fail)
          obtain ⟨wq2, hwq⟩ : ∃ wq, wq = (wq1).drewN nq := ⟨_, rfl⟩
          have bqwq2 : Below (wq1).heap.size wq1 wq2 := by rw [hwq]; exact below_drewn (Below.refl _ _) nq
          rw [← hwq]
          clear hwq nq c0 cF0
          have Bwq2 := (Bwq1).trans (bqwq2.mono (Bwq1).size)
          have Owq2 := LstAt.later Owq1 (Nat.le_trans hBT (Bwq1).size) bqwq2
          have rF8 := Row.later rF Bwq2
          have hC8 := HC wq2 Bwq2
          have hT8 : w1.heap.size ≤ (wq2).heap.size := (Bwq2).size
          go_wp2_with (first
            | (with_reducible refine wl_load_cells (o := ⟨some 42, _, _, _, _, _⟩) rfl 48 (.tmp 41) b (o + i * 3) [encStr n', .slice f'.A f'.n f'.c, .int .i64 f'.kept] _ rfl rfl hC8 Try.underlying48 rfl (szApi n' f') ?_)
            | ((with_reducible refine wl_build1S (o := ⟨some 43, _, _, _, _, _⟩) rfl 32 (.tmp 42) rfl 48 ip _ _ _ (encStr n') (.slice f'.A f'.n f'.c) (.int .i64 f'.kept) Try.underlying32 hip hpz hps rfl ?_); intro g8 w8 r8 p8 l8 b8; have O8 := LstAt.later Owq2 (Nat.le_trans hBT hT8) b8; have hU8 := Nat.le_trans hT8 b8.size)
            | ((at_builtin; with_reducible refine wl_append_at (o := ⟨some 44, _, _, _, _, _⟩) rfl (.tmp 38) (.tmp 43) 32 rfl w1.heap.size 48 ip (.agg #[.string ByteArray.empty, .slice none 0 0, .int .i64 0]) 3 48 Try.underlying32 hip hpz hps hpb zs3 h03 u5 (out).length _ rfl O8.row ⟨g8, 0, none⟩ 1 1 [encStr n', .slice f'.A f'.n f'.c, .int .i64 f'.kept] rfl (hl3 n' f') (row_src r8) (one_api n' f') (hmA (out).length (by first | exact hO1 | (simp; omega))) (hmB (out).length (by first | exact hO1 | (simp; omega))) hU8 ?_); intro v8 x8 own8 gr8 at8))
          obtain ⟨OX8, BX8⟩ := push_facts (p := (n', f')) O8 hBT hU8 (((HP wq2 Bwq2)).below (b8.mono (Nat.le_trans hBT hT8))) own8 gr8 ((Bwq2).trans (b8.mono hT8))
          go_roundw
          case rel => exact ⟨i + 1, false, (out ++ [(n', f')]), by omega, by go_num, rfl, HS9.out, OX8, BX8⟩
          case measure => simp [intOf]; omega
    · obtain rfl : i = m := by omega
      have hd1 : decide ((i : Int) < (i : Int)) = false := by simp
      rw [List.take_of_length_le (by omega)] at hst
      have hfin : putF fs n f = endP n f (laid, out) := by rw [← HF.out, hst]
      have HFn := hide hfin
      clear hst hfin HF
      have HY : ∀ X, Below w1.heap.size w1 X → Bs X B f.A f.n f.xs := fun X hX => hy.below ((bF.trans (hX.mono bF.size)).mono hBw)
      have HC : ∀ X : World, Below w1.heap.size w1 X → True := fun _ _ => trivial
      cases laid with
      | true =>
        go_wp2_with fail
        go_ret
        exact ⟨_, rfl, by rw [HFn.out]; exact hO.lo hTw1, bF.trans (bW.mono bF.size)⟩
      | false =>
        have rF9 := Row.later rF bW
        have hC9 := HC wr bW
        have hT9 : w1.heap.size ≤ (wr).heap.size := (bW).size
        go_wp2_with (first
          | (with_reducible refine wl_load_row (o := ⟨some 48, _, _, _, _, _⟩) rfl 48 (.tmp 3) gF 48 [encStr n, .slice f.A f.n f.c, .int .i64 f.kept] _ rfl rfl rF9 Try.underlying48 rfl (szApi n f) ?_)
          | ((with_reducible refine wl_build1S (o := ⟨some 49, _, _, _, _, _⟩) rfl 32 (.tmp 48) rfl 48 ip _ _ _ (encStr n) (.slice f.A f.n f.c) (.int .i64 f.kept) Try.underlying32 hip hpz hps rfl ?_); intro g9 w9 r9 p9 l9 b9; have O9 := LstAt.later hO (Nat.le_trans hBT hT9) b9; have hU9 := Nat.le_trans hT9 b9.size)
          | ((at_builtin; with_reducible refine wl_append_at (o := ⟨some 50, _, _, _, _, _⟩) rfl (.tmp 47) (.tmp 49) 32 rfl w1.heap.size 48 ip (.agg #[.string ByteArray.empty, .slice none 0 0, .int .i64 0]) 3 48 Try.underlying32 hip hpz hps hpb zs3 h03 u5 (out).length _ rfl O9.row ⟨g9, 0, none⟩ 1 1 [encStr n, .slice f.A f.n f.c, .int .i64 f.kept] rfl (hl3 n f) (row_src r9) (one_api n f) (hmA (out).length (by first | exact hO1 | (simp; omega))) (hmB (out).length (by first | exact hO1 | (simp; omega))) hU9 ?_); intro v9 x9 own9 gr9 at9))
        obtain ⟨OX9, BX9⟩ := push_facts (p := (n, f)) O9 hBT hU9 (((HY wr bW)).below (b9.mono (Nat.le_trans hBT hT9))) own9 gr9 ((bW).trans (b9.mono hT9))

        go_ret
        exact ⟨_, rfl, by rw [HFn.out]; exact OX9.lo hTw1, bF.trans (BX9.mono bF.size)⟩
end Go.Proofs.Ytaflmiopaiigbaa

/-
  The document's disk: Load, as lists. Own work.
-/
namespace Go.Proofs.Ytaflmiopaiigbaa
open Go.RowKit Go.Maps Go.ChangeMaps
theorem before_total : ∀ {a b : Nm}, bytesBefore a b = false → a ≠ b → bytesBefore b a = true
  | [], [], _, h => absurd rfl h
  | [], _ :: _, h, _ => by simp [bytesBefore] at h
  | _ :: _, [], _, _ => by simp [bytesBefore]
  | x :: r, y :: s, h, k => by
    simp only [bytesBefore, Bool.or_eq_false_iff, Bool.and_eq_false_iff, decide_eq_false_iff_not, beq_eq_false_iff_ne] at h
    simp only [bytesBefore, Bool.or_eq_true, Bool.and_eq_true, decide_eq_true_eq, beq_iff_eq]
    rcases Classical.em (y = x) with e | e
    · subst e
      rcases h.2 with h2 | h2
      · exact absurd rfl h2
      · exact .inr ⟨rfl, before_total h2 (fun q => k (by rw [q]))⟩
    · rcases UInt8.lt_or_lt_of_ne e with h1 | h1
      · exact .inl h1
      · exact absurd h1 h.1
theorem rise_ins (n : Nm) (f : FV) : ∀ {D : Fs}, riseF D → (∀ q ∈ D, q.1 ≠ n) → riseF (insF (n, f) D)
  | [], _, _ => by simp [insF, riseF]
  | y :: r, h, hn => by
    obtain ⟨h1, h2⟩ := List.pairwise_cons.1 h
    unfold insF
    cases hb : bytesBefore n y.1 with
    | true =>
      rw [if_pos rfl]
      refine List.pairwise_cons.2 ⟨fun q hq => ?_, h⟩
      rcases List.mem_cons.1 hq with rfl | hq
      · exact hb
      · exact before_trans hb (h1 q hq)
    | false =>
      rw [if_neg (by simp)]
      refine List.pairwise_cons.2 ⟨fun q hq => ?_, rise_ins n f h2 (fun q hq => hn q (List.mem_cons_of_mem _ hq))⟩
      rcases List.mem_cons.1 ((ins_perm (n, f) r).mem_iff.1 hq) with rfl | hq
      · exact before_total hb (fun e => hn y (by simp) e.symm)
      · exact h1 q hq
theorem rise_put {l : Fs} (n : Nm) (f : FV) (h : riseF l) : riseF (putF l n f) := by
  refine rise_ins n f (h.filter _) fun q hq e => ?_
  have := (List.mem_filter.1 hq).2
  rw [e] at this
  simp at this
/-- The files of a list, one put behind the other. -/
def putsF (l : Fs) : Fs := l.foldl (fun acc p => putF acc p.1 p.2) []
theorem rise_puts : ∀ (l acc : Fs), riseF acc → riseF (l.foldl (fun acc p => putF acc p.1 p.2) acc)
  | [], _, h => h
  | p :: r, _, h => rise_puts r _ (rise_put p.1 p.2 h)
theorem puts_len : ∀ (l acc : Fs), (l.foldl (fun acc p => putF acc p.1 p.2) acc).length ≤ acc.length + l.length
  | [], _ => by simp
  | p :: r, acc => by
    rw [List.foldl_cons, List.length_cons]
    have := puts_len r (putF acc p.1 p.2)
    have := put_len acc p.1 p.2
    omega
theorem puts_snoc {l : Fs} {i : Nat} {p : Nm × FV} (h : l[i]? = some p) : putsF (l.take (i + 1)) = putF (putsF (l.take i)) p.1 p.2 := by
  obtain ⟨hi, rfl⟩ := List.getElem?_eq_some_iff.1 h
  unfold putsF
  rw [List.take_succ_eq_append_getElem hi, List.foldl_append]
  rfl
theorem puts_ok (l : Fs) (i : Nat) : riseF (putsF (l.take i)) ∧ (putsF (l.take i)).length ≤ i := by
  refine ⟨rise_puts _ _ List.Pairwise.nil, ?_⟩
  have := puts_len (l.take i) []
  rw [List.length_take] at this
  unfold putsF
  simp at this ⊢
  omega
theorem at_some2 {fs : Fs} {n : Nm} {f : FV} (h : (n, f) ∈ fs) : (atF fs n).isSome = true := by
  unfold atF
  rw [Option.isSome_map, List.find?_isSome]
  exact ⟨(n, f), h, by simp⟩
theorem atF_none_len {acc : Fs} {n : Nm} (f : FV) (h : (atF acc n).isSome = false) : (putF acc n f).length = acc.length + 1 := by
  have hd : delF acc n = acc := del_none fun p hp e => by
    have : (atF acc n).isSome = true := at_some2 (f := p.2) (by rw [← e]; exact hp)
    rw [h] at this
    cases this
  rw [(put_perm acc n f).length_eq, List.length_cons, hd]
theorem ld_ok : ∀ (l acc : Fs), (∀ p ∈ l, mayF p = true) → (l.foldl (fun acc p => putF acc p.1 p.2) acc).length = acc.length + l.length → ldF acc l = some (l.foldl (fun acc p => putF acc p.1 p.2) acc)
  | [], _, _, _ => rfl
  | p :: r, acc, hm, hl => by
    rw [List.foldl_cons, List.length_cons] at hl
    cases hq : (atF acc p.1).isSome with
    | true =>
      exfalso
      have := puts_len r (putF acc p.1 p.2)
      have := put_len' p.2 hq
      omega
    | false =>
      rw [ldF_cons hq (hm p (by simp)), List.foldl_cons]
      exact ld_ok r _ (fun q hq => hm q (List.mem_cons_of_mem _ hq)) (by rw [atF_none_len p.2 hq]; omega)
theorem ld_bad : ∀ (l acc : Fs) (p : Nm × FV), p ∈ l → mayF p = false → ldF acc l = none
  | [], _, _, h, _ => by cases h
  | q :: r, acc, p, h, hb => by
    cases hc : ((atF acc q.1).isSome || !mayF q) with
    | true => exact ldF_cons_no hc
    | false =>
      rw [Bool.or_eq_false_iff] at hc
      rcases List.mem_cons.1 h with rfl | h
      · rw [hb] at hc; simp at hc
      · rw [ldF_cons hc.1 (by simpa using hc.2)]
        exact ld_bad r _ p h hb
theorem ld_twice : ∀ (l acc : Fs), (l.foldl (fun acc p => putF acc p.1 p.2) acc).length < acc.length + l.length → ldF acc l = none
  | [], acc, h => by simp at h
  | q :: r, acc, h => by
    cases hc : ((atF acc q.1).isSome || !mayF q) with
    | true => exact ldF_cons_no hc
    | false =>
      rw [Bool.or_eq_false_iff] at hc
      rw [ldF_cons hc.1 (by simpa using hc.2)]
      refine ld_twice r _ ?_
      rw [List.foldl_cons, List.length_cons] at h
      rw [atF_none_len q.2 hc.1]
      omega
end Go.Proofs.Ytaflmiopaiigbaa

/-
  The document's disk: Load. Own work.
-/
namespace Go.Proofs.Ytaflmiopaiigbaa
open Go.RowKit Go.Maps Go.ChangeMaps
/-- What the document's Load leaves. -/
def RLoadRes (B gr m : Nat) (pv : Value) (l : Fs) (w : World) (e : Ending) (w' : World) : Prop :=
  (m ≤ 64 ∧ ∃ gs A' c', ldF [] l = some gs ∧ e = .returned (.int .i64 0) ∧ RDk w' gr pv A' gs.length c' ∧ LstAt w' B w.heap.size (.slice A' gs.length c') gs ∧ Buts [gr] w w') ∨ ((64 < m ∨ ldF [] l = none) ∧ e = .returned (.int .i64 1) ∧ Below w.heap.size w w')
theorem szFl : (Try.prog.info? 32).map (·.size) = some 1 := by kernel_rfl
set_option maxRecDepth 100000 in
set_option maxHeartbeats 4000000 in
theorem rload_any (w : World) (B gr : Nat) (pv : Value) (RA : Option Addr) (rm rc : Nat) (A : Option Addr) (m c : Nat) (l : Fs) (hBw : B ≤ w.heap.size) (hgr : B ≤ gr) (hR : RDk w gr pv RA rm rc) (hl : FlAt w B A m l) (hm : m ≤ 100) :
    Calls Try.prog 26 #[ptr gr, .slice A m c] w fun e w' => RLoadRes B gr m pv l w e w' := by
  have HL := hide hl
  have hll := hl.1
  clear hl
  go_enter Try.func26, Try.ntmps26
  go_wp2_with fail
  go_loopw [5, 6] (fun lv iv wr => ∃ i : Nat, i ≤ m ∧ iv = .int .i64 i ∧ Hid (∀ j p, j < i → l[j]? = some p → mayF p = true) ∧ LstAt wr B w.heap.size lv (putsF (l.take i)) ∧ Below w.heap.size w wr) (fun _ iv _ => m - (intOf iv).toNat)
  case atStart => exact ⟨0, Nat.zero_le _, rfl, hide (fun j p hj => by omega), LstAt.nil _ _ _, Below.refl _ _⟩
  case round =>
    obtain ⟨i, hi, rfl, hmay, hO, bW⟩ := hrel
    obtain ⟨hrise, hlen⟩ := puts_ok l i
    have hBr : B ≤ wr.heap.size := Nat.le_trans hBw bW.size
    by_cases hlt : i < m
    · obtain ⟨p, hp⟩ : ∃ p, l[i]? = some p := ⟨_, List.getElem?_eq_getElem (by omega)⟩
      have hsn := puts_snoc hp
      have hmem := List.mem_of_getElem? hp
      obtain ⟨b, o, rfl, hb, hc⟩ := (HL.out.below (bW.mono hBw)).2.1 (by omega)
      have hcp := hc i p hp
      have hpb := (HL.out.below (bW.mono hBw)).2.2 p hmem
      have hnx : ∀ h : mayF p = true, ∀ j q, j < i + 1 → l[j]? = some q → mayF q = true := fun h j q hj hq => by
        rcases Nat.lt_or_ge j i with h1 | h1
        · exact hmay.out j q h1 hq
        · obtain rfl : j = i := by omega
          have := hq.symm.trans hp
          simp at this
          rw [this]; exact h
      have HNx := hide hnx
      have hbad : mayF p = false → ldF [] l = none := fun h => ld_bad l [] p hmem h
      have HBad := hide hbad
      obtain ⟨n, f⟩ := p
      have hcf : ∀ j v, ([encStr n, .slice f.A f.n f.c, .int .i64 f.kept] : List Value)[j]? = some v → wr.cell? ⟨b, o + i * 3 + j, none⟩ = some v := hcp
      have hd1 : decide ((i : Int) < (m : Int)) = true := by simp; omega
      have HS := sizeFile
      have hq : i < m := hlt
      have HSn := hide hsn
      generalize putsF (l.take i) = out at *
      have hM : mayF (n, f) = (okN n && (decide (f.n ≤ 1048576) && (decide (0 ≤ f.kept) && decide (f.kept ≤ f.n)))) := rfl
      have e1 : decide (f.n ≤ 1048576) = decide ((f.n : Int) ≤ 1048576) := by apply decide_eq_decide.2; omega
      rw [e1] at hM
      have HM := hide hM
      clear hM e1 hc hcp hp hsn hnx hbad hmem hmay
      go_wp2_with (first
        | (with_reducible refine wl_load_cells (o := ⟨some 17, _, _, _, _, _⟩) rfl 48 (.tmp 16) b (o + i * 3) [encStr n, .slice f.A f.n f.c, .int .i64 f.kept] _ rfl rfl hcf Try.underlying48 rfl (szApi n f) ?_)
        | ((with_reducible refine wl_alloc rfl 48 _ [.string ByteArray.empty, .slice none 0 0, .int .i64 0] rfl zApi rfl ?_); intro g7 w2 r9 p9 l9 b9)
        | ((with_reducible refine wl_store_row rfl 48 (.tmp 7) (.tmp 17) g7 48 _ [encStr n, .slice f.A f.n f.c, .int .i64 f.kept] rfl rfl rfl r9 (szApi n f) rfl (one_api n f) ?_); intro w3 r7 o7; have bS := b9.trans (o7.below p9); have k0 := r7.cell (j := 0) rfl; have k1 := r7.cell (j := 1) rfl; have k2 := r7.cell (j := 2) rfl))
      refine (namedR_any n w3).mono ?_
      rintro e w4 ⟨rfl, rfl⟩
      have B3 := bW.trans (bS.mono bW.size)
      cases hq1 : okN n with
      | false =>
        go_wp2_with fail
        go_ret
        exact .inr ⟨.inr (HBad.out (by rw [HM.out, hq1]; rfl)), rfl, B3⟩
      | true =>
        cases h1 : decide ((f.n : Int) ≤ 1048576) with
        | false =>
          have h1b : decide ((1048576 : Int) < (f.n : Int)) = true := by simp at h1 ⊢; omega
          go_wp2_with fail
          go_ret
          exact .inr ⟨.inr (HBad.out (by rw [HM.out, hq1, h1]; rfl)), rfl, B3⟩
        | true =>
          have h1b : decide ((1048576 : Int) < (f.n : Int)) = false := by simp at h1 ⊢; omega
          cases h2 : decide ((0 : Int) ≤ f.kept) with
          | false =>
            have h2b : decide (f.kept < 0) = true := by simp at h2 ⊢; omega
            go_wp2_with fail
            go_ret
            exact .inr ⟨.inr (HBad.out (by rw [HM.out, hq1, h1, h2]; rfl)), rfl, B3⟩
          | true =>
            have h2b : decide (f.kept < 0) = false := by simp at h2 ⊢; omega
            cases h3 : decide (f.kept ≤ (f.n : Int)) with
            | false =>
              have h3b : decide ((f.n : Int) < f.kept) = true := by simp at h3 ⊢; omega
              go_wp2_with fail
              go_ret
              exact .inr ⟨.inr (HBad.out (by rw [HM.out, hq1, h1, h2, h3]; rfl)), rfl, B3⟩
            | true =>
              have h3b : decide ((f.n : Int) < f.kept) = false := by simp at h3 ⊢; omega
              have HN2 := hide (HNx.out (by rw [HM.out, hq1, h1, h2, h3]; rfl))
              have hO3 := hO.later hBr bS
              obtain ⟨A5, c5, ev5, hF5, _⟩ := hO3.fl (Nat.le_trans hBr bS.size)
              have HP := rput_any w3 B A5 out.length c5 out n f (Nat.le_trans hBr bS.size) hF5 hO3.bs (hpb.below (bS.mono hBr)) (by omega) hrise
              rw [ev5]
              have HP := hide HP
              clear HNx HBad HM hF5 hO3 hO h1 h2 h3
              go_wp2_with (first
                | (with_reducible refine wl_load_row rfl 48 (.tmp 7) g7 48 [encStr n, .slice f.A f.n f.c, .int .i64 f.kept] _ rfl rfl r7 Try.underlying48 rfl (szApi n f) ?_))
              refine HP.out.mono ?_
              rintro e w5 ⟨v5, rfl, hO5, b5⟩
              go_wp2_with fail
              go_roundw
              case rel => exact ⟨i + 1, by omega, by go_num, HN2, by rw [HSn.out]; exact hO5.lo B3.size, B3.trans (b5.mono B3.size)⟩
              case measure => simp [intOf]; omega
    · obtain rfl : i = m := by omega
      rw [List.take_of_length_le (by omega)] at hO hlen hrise
      have hall : ∀ p ∈ l, mayF p = true := fun p hp => by
        obtain ⟨j, hj⟩ := List.getElem?_of_mem hp
        exact hmay.out j p (by have := (List.getElem?_eq_some_iff.1 hj).1; omega) hj
      have hd1 : decide ((i : Int) < (i : Int)) = false := by simp
      obtain ⟨A5, c5, ev5, _, _⟩ := hO.fl hBr
      rw [ev5] at hO ⊢
      have hRr := Row.later hR bW
      by_cases hle : (putsF l).length < i
      · have hd2 : decide (((putsF l).length : Int) < (i : Int)) = true := by simp; omega
        have hno := ld_twice l [] (by show (putsF l).length < _; simp; omega)
        go_wp2_with fail
        go_ret
        exact .inr ⟨.inr hno, rfl, bW⟩
      · have hd2 : decide (((putsF l).length : Int) < (i : Int)) = false := by simp; omega
        by_cases h64 : 64 < i
        · have hd3 : decide ((64 : Int) < (i : Int)) = true := by simp; omega
          go_wp2_with fail
          go_ret
          exact .inr ⟨.inl h64, rfl, bW⟩
        · have hd3 : decide ((64 : Int) < (i : Int)) = false := by simp; omega
          have hok := ld_ok l [] hall (by show (putsF l).length = _; simp; omega)
          have HOk := hide hok
          clear hall hmay hok
          go_wp2_with (first
            | (with_reducible refine wl_store rfl 32 (.tmp 57) (.tmp 55) gr 1 34 [pv, .slice RA rm rc] (.slice A5 (putsF l).length c5) rfl szFl rfl rfl hRr (lt2 _ _ (by decide)) rfl ?_; intro w6 r6 o6))
          go_ret
          refine .inl ⟨by omega, putsF l, A5, c5, HOk.out, rfl, r6, ?_, (Buts.of bW _).trans (Buts.only o6 (List.mem_singleton.2 rfl))⟩
          have hne : ∀ k, (Value.slice A5 (putsF l).length c5).ownBlock = some k → k ≠ gr := fun k hk e => by
            have := (hO.row.lt k hk).1
            have := hR.lt
            omega
          refine ⟨⟨hO.row.1, hO.row.2.imp id fun ⟨g, cap, cur, e1, h1, hg, h2⟩ => ⟨g, cap, cur, e1, h1, (o6.block g (hne g (by rw [e1]; rfl))).trans hg, h2⟩⟩, fun p hp => (hO.bs p hp).below (o6.below hgr)⟩
end Go.Proofs.Ytaflmiopaiigbaa

/-
  The disk: what was loaded is loaded again as it was, as lists; both load the same. Own work.
-/
namespace Go.Proofs.Ytaflmiopaiigbaa
open Go.RowKit Go.Maps Go.ChangeMaps
theorem ld_step {acc r gs : Fs} {q : Nm × FV} (h : ldF acc (q :: r) = some gs) : mayF q = true ∧ ldF (putF acc q.1 q.2) r = some gs := by
  cases hc : ((atF acc q.1).isSome || !mayF q) with
  | true => rw [ldF_cons_no hc] at h; cases h
  | false =>
    rw [Bool.or_eq_false_iff] at hc
    rw [ldF_cons hc.1 (by simpa using hc.2)] at h
    exact ⟨by simpa using hc.2, h⟩
theorem mem_put2 {l : Fs} {n : Nm} {f : FV} {p : Nm × FV} (h : p ∈ putF l n f) : p = (n, f) ∨ p ∈ l := by
  rcases List.mem_cons.1 ((put_perm l n f).mem_iff.1 h) with h | h
  · exact .inl h
  · exact .inr (List.mem_filter.1 h).1
theorem ld_all (P : Nm × FV → Prop) : ∀ (l acc gs : Fs), ldF acc l = some gs → (∀ p ∈ acc, P p) → (∀ p ∈ l, mayF p = true → P p) → ∀ p ∈ gs, P p
  | [], acc, gs, h, ha, _ => by
    rw [show ldF acc [] = some acc from rfl] at h
    obtain rfl := Option.some.inj h
    exact ha
  | q :: r, acc, gs, h, ha, hl => by
    obtain ⟨hm, h2⟩ := ld_step h
    refine ld_all P r _ gs h2 (fun p hp => ?_) (fun p hp => hl p (List.mem_cons_of_mem _ hp))
    rcases mem_put2 hp with rfl | hp
    · exact hl q (by simp) hm
    · exact ha p hp
theorem ld_rise : ∀ (l acc gs : Fs), ldF acc l = some gs → riseF acc → riseF gs
  | [], acc, gs, h, ha => by
    rw [show ldF acc [] = some acc from rfl] at h
    obtain rfl := Option.some.inj h
    exact ha
  | q :: r, acc, gs, h, ha => ld_rise r _ gs (ld_step h).2 (rise_put q.1 q.2 ha)
theorem ins_last (n : Nm) (f : FV) : ∀ (D : Fs), (∀ q ∈ D, bytesBefore n q.1 = false) → insF (n, f) D = D ++ [(n, f)]
  | [], _ => rfl
  | q :: r, h => by
    unfold insF
    rw [if_neg (by simp [h q (by simp)]), ins_last n f r (fun q hq => h q (List.mem_cons_of_mem _ hq))]
    rfl
theorem before_irrefl : ∀ a : Nm, bytesBefore a a = false
  | [] => rfl
  | x :: r => by simp [bytesBefore, before_irrefl r]
theorem before_asymm {a b : Nm} (h : bytesBefore a b = true) : bytesBefore b a = false := by
  cases hq : bytesBefore b a with
  | false => rfl
  | true =>
    have := before_trans h hq
    rw [before_irrefl] at this
    cases this
theorem put_last {acc : Fs} {q : Nm × FV} (h : ∀ p ∈ acc, bytesBefore p.1 q.1 = true) : putF acc q.1 q.2 = acc ++ [q] := by
  have hd : delF acc q.1 = acc := del_none fun p hp e => by
    have := h p hp
    rw [e, before_irrefl] at this
    cases this
  unfold putF
  rw [hd]
  exact ins_last q.1 q.2 acc fun p hp => before_asymm (h p hp)
theorem ld_self : ∀ (l acc : Fs), riseF (acc ++ l) → (∀ p ∈ l, mayF p = true) → ldF acc l = some (acc ++ l)
  | [], acc, _, _ => by rw [List.append_nil]; rfl
  | q :: r, acc, h, hm => by
    have hb : ∀ p ∈ acc, bytesBefore p.1 q.1 = true := fun p hp => (List.pairwise_append.1 h).2.2 p hp q (by simp)
    have hno : (atF acc q.1).isSome = false := by
      cases hq : (atF acc q.1).isSome with
      | false => rfl
      | true =>
        unfold atF at hq
        rw [Option.isSome_map, List.find?_isSome] at hq
        obtain ⟨p, hp, e⟩ := hq
        have := hb p hp
        rw [show p.1 = q.1 by simpa using e, before_irrefl] at this
        cases this
    rw [ldF_cons hno (hm q (by simp)), put_last hb]
    have := ld_self r (acc ++ [q]) (by rw [List.append_assoc]; exact h) (fun p hp => hm p (List.mem_cons_of_mem _ hp))
    rw [this, List.append_assoc]
    rfl
theorem rise_view {l l' : Fs} (h : l.map vF = l'.map vF) (hr : riseF l) : riseF l' := by
  have h1 : l.map (·.1) = l'.map (·.1) := by
    have := congrArg (List.map (fun v : Nm × Int × List Int => v.1)) h
    rw [List.map_map, List.map_map] at this
    exact this
  have h2 : (l.map (·.1)).Pairwise (fun a b => bytesBefore a b = true) := List.pairwise_map.2 hr
  rw [h1] at h2
  exact List.pairwise_map.1 h2
theorem may_view {l l' : Fs} (h : l.map vF = l'.map vF) (t : ∀ p ∈ l, tidy p) (t' : ∀ p ∈ l', tidy p) (hm : ∀ p ∈ l, mayF p = true) : ∀ p ∈ l', mayF p = true := by
  intro p hp
  obtain ⟨i, hi, rfl⟩ := List.getElem_of_mem hp
  have hl : l.length = l'.length := by have := congrArg List.length h; simpa using this
  have hq : vF l[i] = vF l'[i] := by
    have := congrArg (fun x => x[i]?) h
    simpa [List.getElem?_eq_getElem hi, List.getElem?_eq_getElem (show i < l.length by omega)] using this
  rw [← mayF_view hq (t _ (List.getElem_mem _)) (t' _ hp)]
  exact hm _ (List.getElem_mem _)
/-- What is loaded may be loaded again. -/
theorem ld_again {l gs li : Fs} (h : ldF [] l = some gs) (ht : ∀ p ∈ l, tidy p) (hv : li.map vF = gs.map vF) (ht' : ∀ p ∈ li, tidy p) : ldF [] li = some li := by
  have h1 := ld_all (fun p => mayF p = true) l [] gs h (fun p hp => by cases hp) (fun p hp hm => hm)
  have h2 := ld_all tidy l [] gs h (fun p hp => by cases hp) (fun p hp _ => ht p hp)
  have h3 := ld_rise l [] gs h List.Pairwise.nil
  exact ld_self li [] (rise_view hv.symm h3) (may_view hv.symm h2 ht' h1)
/-- Both disks have the same files. -/
structure Both2 (w : World) (B gd gr : Nat) (pl pv : Value) (gs : Fs) : Prop where
  dk : ∃ mb fs, DiskAt w B gd pl mb fs ∧ fs.map vF = gs.map vF
  rd : ∃ A c, RDk w gr pv A gs.length c ∧ LstAt w B B (.slice A gs.length c) gs
  lo : B ≤ gr ∧ gr ≠ gd ∧ B ≤ w.heap.size
/-- The program's disk has the new files, the document's the old ones. -/
structure Half2 (w : World) (B gd gr : Nat) (pl pv : Value) (gs hs : Fs) : Prop where
  dk : ∃ mb fs, DiskAt w B gd pl mb fs ∧ fs.map vF = hs.map vF
  rd : ∃ A c, RDk w gr pv A gs.length c ∧ LstAt w B B (.slice A gs.length c) gs
  lo : B ≤ gr ∧ gr ≠ gd ∧ B ≤ w.heap.size
theorem Both2.later {w w' : World} {B gd gr : Nat} {pl pv : Value} {gs : Fs} (h : Both2 w B gd gr pl pv gs) (hb : Below w.heap.size w w') : Both2 w' B gd gr pl pv gs := by
  obtain ⟨⟨mb, fs, h1, h2⟩, ⟨A, c, h3, h4⟩, h5, h6, h7⟩ := h
  exact ⟨⟨mb, fs, h1.later hb, h2⟩, ⟨A, c, Row.later h3 hb, h4.later h7 hb⟩, h5, h6, Nat.le_trans h7 hb.size⟩
theorem Half2.later {w w' : World} {B gd gr : Nat} {pl pv : Value} {gs hs : Fs} (h : Half2 w B gd gr pl pv gs hs) (hb : Below w.heap.size w w') : Half2 w' B gd gr pl pv gs hs := by
  obtain ⟨⟨mb, fs, h1, h2⟩, ⟨A, c, h3, h4⟩, h5, h6, h7⟩ := h
  exact ⟨⟨mb, fs, h1.later hb, h2⟩, ⟨A, c, Row.later h3 hb, h4.later h7 hb⟩, h5, h6, Nat.le_trans h7 hb.size⟩
/-- What a list makes: its files, or those that were. -/
def nextF (gs l : Fs) (m : Nat) : Fs := if m ≤ 64 then (ldF [] l).getD gs else gs
def errF (l : Fs) (m : Nat) : Int := if m ≤ 64 then (if (ldF [] l).isSome then 0 else 1) else 1
theorem lst_buts {w w' : World} {B T : Nat} {v : Value} {fs : Fs} {S : List Nat} (h : LstAt w B T v fs) (hb : Buts S w w') (hS : ∀ k ∈ S, B ≤ k) (hn : ∀ k, v.ownBlock = some k → k ∉ S) (hB : B ≤ w.heap.size) : LstAt w' B T v fs :=
  ⟨⟨h.row.1, h.row.2.imp id fun ⟨g, cap, cur, e1, h1, hg, h2⟩ => ⟨g, cap, cur, e1, h1, (hb.block g (Array.getElem?_eq_some_iff.1 hg).1 (hn g (by rw [e1]; rfl))).trans hg, h2⟩⟩, fun p hp => (h.bs p hp).below (hb.below hS hB)⟩
theorem lst_not_row {w : World} {B T g t : Nat} {v : Value} {fs : Fs} {vs : List Value} (h : LstAt w B T v fs) (hr : Row w t g vs) (ht : t ≠ 48) : ∀ k, v.ownBlock = some k → k ≠ g := by
  intro k hk e
  subst e
  rcases h.row.2 with ⟨rfl, _⟩ | ⟨g, cap, cur, rfl, _, hg, _⟩
  · cases hk
  · injection hk with hk
    subst hk
    have := hr.symm.trans hg
    simp at this
    exact ht this.2
theorem half_any (w : World) (B gd gr : Nat) (pl pv : Value) (gs l : Fs) (A : Option Addr) (m c : Nat) (h : Both2 w B gd gr pl pv gs) (hl : FlAt w B A m l) (hln : ∀ p ∈ l, p.1.length ≤ maxLen) (hm : m ≤ 100) :
    Calls Try.prog 25 #[ptr gd, .slice A m c] w fun e w' => e = .returned (.int .i64 (errF l m)) ∧ Half2 w' B gd gr pl pv gs (nextF gs l m) ∧ Buts [gd] w w' := by
  obtain ⟨⟨mb, fs, h1, h2⟩, ⟨A', c', h3, h4⟩, h5, h6, h7⟩ := h
  refine (load_any w B gd mb pl fs h7 h1 A m c l (hl.up h7) hln (by omega)).mono fun e w' hq => ?_
  have hgd : B ≤ gd := h1.lo.1
  rcases hq with ⟨hm64, g2, mb', hs, hld, hv, rfl, hD, hb⟩ | ⟨hno, rfl, hb⟩
  · have he : errF l m = 0 := by unfold errF; rw [if_pos hm64, hld]; rfl
    have hn : nextF gs l m = g2 := by unfold nextF; rw [if_pos hm64, hld]; rfl
    rw [he, hn]
    refine ⟨rfl, ⟨⟨mb', hs, hD, hv⟩, ⟨A', c', h3.buts hb (by simpa using h6), lst_buts h4 hb (fun k hk => by obtain rfl := List.mem_singleton.1 hk; exact hgd) (fun k hk hm => lst_not_row h4 h1.row (by decide) k hk (List.mem_singleton.1 hm)) h7⟩, h5, h6, Nat.le_trans h7 hb.size⟩, hb⟩
  · have he : errF l m = 1 := by
      unfold errF
      by_cases hm64 : m ≤ 64
      · rw [if_pos hm64]
        rcases hno with h | h
        · omega
        · rw [h]; rfl
      · rw [if_neg hm64]
    have hn : nextF gs l m = gs := by
      unfold nextF
      by_cases hm64 : m ≤ 64
      · rw [if_pos hm64]
        rcases hno with h | h
        · omega
        · rw [h]; rfl
      · rw [if_neg hm64]
    rw [he, hn]
    exact ⟨rfl, ⟨⟨mb, fs, h1.later hb, h2⟩, ⟨A', c', Row.later h3 hb, h4.later h7 hb⟩, h5, h6, Nat.le_trans h7 hb.size⟩, Buts.of hb _⟩
theorem both_any2 (w : World) (B gd gr : Nat) (pl pv : Value) (gs l : Fs) (A : Option Addr) (m c : Nat) (h : Half2 w B gd gr pl pv gs (nextF gs l m)) (hl : FlAt w B A m l) (hm : m ≤ 100) :
    Calls Try.prog 26 #[ptr gr, .slice A m c] w fun e w' => e = .returned (.int .i64 (errF l m)) ∧ Both2 w' B gd gr pl pv (nextF gs l m) ∧ Buts [gr] w w' := by
  obtain ⟨⟨mb, fs, h1, h2⟩, ⟨A', c', h3, h4⟩, h5, h6, h7⟩ := h
  refine (rload_any w B gr pv A' gs.length c' A m c l h7 h5 h3 hl hm).mono fun e w' hq => ?_
  have hd : ∀ {w'}, Buts [gr] w w' → DiskAt w' B gd pl mb fs := fun hb => h1.buts hb fun k hk hm => by
    obtain rfl := List.mem_singleton.1 hm
    have hk2 := hk
    unfold dblocks at hk2
    rcases List.mem_cons.1 hk2 with e | hk2
    · exact h6 e
    · rcases List.mem_cons.1 hk2 with e | hk2
      · exact h1.map.ne_row h3 e.symm
      · obtain ⟨p, hp, hkp⟩ := List.mem_flatMap.1 hk2
        exact owf_not_row (h1.files.own p hp) h3 (by decide) hkp
  rcases hq with ⟨hm64, g2, A2, c2, hld, rfl, hR, hL, hb⟩ | ⟨hno, rfl, hb⟩
  · have he : errF l m = 0 := by unfold errF; rw [if_pos hm64, hld]; rfl
    have hn : nextF gs l m = g2 := by unfold nextF; rw [if_pos hm64, hld]; rfl
    rw [hn] at h2
    rw [he, hn]
    exact ⟨rfl, ⟨⟨mb, fs, hd hb, h2⟩, ⟨A2, c2, hR, hL.lo h7⟩, h5, h6, Nat.le_trans h7 hb.size⟩, hb⟩
  · have he : errF l m = 1 := by
      unfold errF
      by_cases hm64 : m ≤ 64
      · rw [if_pos hm64]
        rcases hno with h | h
        · omega
        · rw [h]; rfl
      · rw [if_neg hm64]
    have hn : nextF gs l m = gs := by
      unfold nextF
      by_cases hm64 : m ≤ 64
      · rw [if_pos hm64]
        rcases hno with h | h
        · omega
        · rw [h]; rfl
      · rw [if_neg hm64]
    rw [hn] at h2
    rw [he, hn]
    exact ⟨rfl, ⟨⟨mb, fs, h1.later hb, h2⟩, ⟨A', c', Row.later h3 hb, h4.later h7 hb⟩, h5, h6, Nat.le_trans h7 hb.size⟩, Buts.of hb _⟩
end Go.Proofs.Ytaflmiopaiigbaa

/-
  Both disks: the document's list, whose bytes lie anywhere; the two beside each other. Own work.
-/
namespace Go.Proofs.Ytaflmiopaiigbaa
open Go.RowKit Go.Maps Go.ChangeMaps
theorem bs_buts {w w' : World} {B n c : Nat} {A : Option Addr} {xs : List Int} {S : List Nat} (h : Bs w B A n xs) (hb : Buts S w w') (hS : 0 < n → ∀ k ∈ (Value.slice A n c).ownBlock.toList, k ∉ S) (hB : B ≤ w.heap.size) : Bs w' B A n xs :=
  ⟨h.1, fun h0 => by
    obtain ⟨b, o, e, hlt, hc⟩ := h.2 h0
    refine ⟨b, o, e, hlt, fun j hj => ?_⟩
    rw [← hc j hj]
    refine World.cell?_of_block ?_
    exact hb.block b (by omega) (hS h0 b (by rw [e]; simp [Value.ownBlock]))⟩
/-- Bytes do not lie in a row that has none. -/
theorem bs_not_row {w : World} {B n c t g : Nat} {A : Option Addr} {xs : List Int} {vs : List Value} (h : Bs w B A n xs) (h0 : 0 < n) (r : Row w t g vs) (hv : ∀ v ∈ vs, ∀ x, v ≠ .int .u8 x) : ∀ k ∈ (Value.slice A n c).ownBlock.toList, k ≠ g := by
  intro k hk e
  subst e
  obtain ⟨b, o, rfl, _, hc⟩ := h.2 h0
  have c0 := hc 0 h0
  simp [Value.ownBlock] at hk
  subst hk
  obtain ⟨v, hv1, hv2⟩ : ∃ v, v ∈ vs ∧ v = .int .u8 (xs.getD 0 0) := by
    unfold Row at r
    simp only [World.cell?, r] at c0
    simp at c0
    refine ⟨_, ?_, rfl⟩
    exact List.mem_of_getElem? (by simpa using c0)
  exact hv v hv1 _ hv2
theorem lst_up {w : World} {B B' T : Nat} {v : Value} {fs : Fs} (h : LstAt w B T v fs) (hB : B ≤ B') : LstAt w B' T v fs := ⟨h.row, fun p hp => (h.bs p hp).up hB⟩
/-- The document's disk: its row, its list. -/
def RFs (w : World) (gr : Nat) (pv : Value) (gs : Fs) : Prop := ∃ A c, RDk w gr pv A gs.length c ∧ LstAt w w.heap.size 0 (.slice A gs.length c) gs
theorem RFs.later {w w' : World} {gr : Nat} {pv : Value} {gs : Fs} (h : RFs w gr pv gs) (hb : Below w.heap.size w w') : RFs w' gr pv gs := by
  obtain ⟨A, c, h1, h2⟩ := h
  exact ⟨A, c, Row.later h1 hb, lst_up (h2.later (Nat.le_refl _) hb) hb.size⟩
/-- The list's block is a row of files. -/
theorem lst_row {w : World} {B T k : Nat} {v : Value} {fs : Fs} (h : LstAt w B T v fs) (hk : v.ownBlock = some k) : ∃ vs, Row w 48 k vs := by
  rcases h.row.2 with ⟨rfl, _⟩ | ⟨g, cap, cur, rfl, _, hg, _⟩
  · cases hk
  · injection hk with hk
    subst hk
    exact ⟨cur.toList, by unfold Row; simpa using hg⟩
theorem RFs.buts {w w' : World} {gr : Nat} {pv : Value} {gs : Fs} {S : List Nat} (h : RFs w gr pv gs) (hb : Buts S w w') (h1 : gr ∉ S) (h2 : ∀ k vs, Row w 48 k vs → k ∉ S) (h3 : ∀ p ∈ gs, 0 < p.2.n → ∀ k ∈ p.2.bk, k ∉ S) : RFs w' gr pv gs := by
  obtain ⟨A, c, r, l⟩ := h
  refine ⟨A, c, r.buts hb h1, ⟨⟨l.row.1, l.row.2.imp id fun ⟨g, cap, cur, e1, q1, hg, q2⟩ => ⟨g, cap, cur, e1, q1, (hb.block g (Array.getElem?_eq_some_iff.1 hg).1 ?_).trans hg, q2⟩⟩, fun p hp => (bs_buts (c := p.2.c) (l.bs p hp) hb (h3 p hp) (Nat.le_refl _)).up hb.size⟩⟩
  obtain ⟨vs, hr⟩ := lst_row l (k := g) (by rw [e1]; rfl)
  exact h2 g vs hr
theorem lst_not {w : World} {B gd mb : Nat} {pl : Value} {fs : Fs} (hd : DiskAt w B gd pl mb fs) {k : Nat} {vs : List Value} (h : Row w 48 k vs) : k ∉ dblocks gd mb fs := row_free hd h (by decide) (by decide)
/-- Both disks beside each other: the program's, with its power and its files; the document's, with its own. -/
structure DH (w : World) (B gP gp gd mb gq gr : Nat) (on : Bool) (fuse : Int) (fs : Fs) (on2 : Bool) (fuse2 : Int) (gs : Fs) : Prop where
  pw : Pwr w gP gp
  pl : Plg w gp on fuse
  dk : DiskAt w B gd (ptr gp) mb fs
  ap : ∀ p ∈ gs, p.2.n ≤ p.2.c ∧ ∀ k ∈ p.2.bk, k < w.heap.size ∧ k ∉ dblocks gd mb fs
  rp : RPw w gq (!on2) (max fuse2 (-1))
  rd : RFs w gr (ptr gq) gs
  lo : B ≤ gp ∧ B ≤ gq ∧ B ≤ gr ∧ B ≤ w.heap.size
  fu : isI fuse
section
variable {w w' : World} {B gP gp gd mb gq gr : Nat} {on on2 on' : Bool} {fuse fuse2 fuse' : Int} {fs gs fs' gs' : Fs}
theorem DH.later (h : DH w B gP gp gd mb gq gr on fuse fs on2 fuse2 gs) (hb : Below w.heap.size w w') : DH w' B gP gp gd mb gq gr on fuse fs on2 fuse2 gs :=
  ⟨Row.later h.pw hb, Row.later h.pl hb, h.dk.later hb, fun p hp => ⟨(h.ap p hp).1, fun k hk => ⟨Nat.lt_of_lt_of_le ((h.ap p hp).2 k hk).1 hb.size, ((h.ap p hp).2 k hk).2⟩⟩, Row.later h.rp hb, h.rd.later hb, ⟨h.lo.1, h.lo.2.1, h.lo.2.2.1, Nat.le_trans h.lo.2.2.2 hb.size⟩, h.fu⟩
theorem DH.not_gp (h : DH w B gP gp gd mb gq gr on fuse fs on2 fuse2 gs) {t k : Nat} {vs : List Value} (r : Row w t k vs) (h1 : t ≠ 72) (h2 : t ≠ 5) (h3 : t ≠ 77) : k ∉ plB (ptr gp) ++ dblocks gd mb fs := by
  intro hk
  rcases List.mem_append.1 hk with hk | hk
  · simp [plB] at hk
    exact rne r h.pl h3 hk
  · exact row_free h.dk r h1 h2 hk
/-- The program's disk turns. -/
theorem DH.prog (h : DH w B gP gp gd mb gq gr on fuse fs on2 fuse2 gs) (hp : PlAt w' (ptr gp) on' fuse') (hd : DiskAt w' B gd (ptr gp) mb fs') (hb : Buts (plB (ptr gp) ++ dblocks gd mb fs) w w') (hn : ∀ k ∈ dblocks gd mb fs', k ∈ dblocks gd mb fs ∨ w.heap.size ≤ k) (hf : isI fuse') :
    DH w' B gP gp gd mb gq gr on' fuse' fs' on2 fuse2 gs := by
  have hS : ∀ p ∈ gs, 0 < p.2.n → ∀ k ∈ p.2.bk, k ∉ plB (ptr gp) ++ dblocks gd mb fs := by
    intro p hp2 h0 k hk hm
    rcases List.mem_append.1 hm with hm | hm
    · simp [plB] at hm
      obtain ⟨A, c, _, l⟩ := h.rd
      exact bs_not_row (c := p.2.c) (l.bs p hp2) h0 h.pl (by intro v hv x e; simp at hv; rcases hv with rfl | rfl <;> simp at e) k hk hm
    · exact ((h.ap p hp2).2 k hk).2 hm
  refine ⟨pwr_keeps h.pw (.inl ⟨gp, rfl, h.pl⟩) h.dk hb, hp.plg, hd, fun p hp2 => ⟨(h.ap p hp2).1, fun k hk => ⟨Nat.lt_of_lt_of_le ((h.ap p hp2).2 k hk).1 hb.size, fun hm => ?_⟩⟩, h.rp.buts hb (h.not_gp h.rp (by decide) (by decide) (by decide)), h.rd.buts hb ?_ (fun k vs r => h.not_gp r (by decide) (by decide) (by decide)) hS, ⟨h.lo.1, h.lo.2.1, h.lo.2.2.1, Nat.le_trans h.lo.2.2.2 hb.size⟩, hf⟩
  · rcases hn k hm with q | q
    · exact ((h.ap p hp2).2 k hk).2 q
    · have := ((h.ap p hp2).2 k hk).1
      omega
  · obtain ⟨A, c, r, _⟩ := h.rd
    exact h.not_gp r (by decide) (by decide) (by decide)
/-- The document's disk turns. -/
theorem DH.docs (h : DH w B gP gp gd mb gq gr on fuse fs on2 fuse2 gs) (hp : RPw w' gq (!on') (max fuse' (-1))) (hd : RFs w' gr (ptr gq) gs') (hb : Buts [gq, gr] w w') (hn : ∀ p ∈ gs', p.2.n ≤ p.2.c ∧ ∀ k ∈ p.2.bk, k < w'.heap.size ∧ k ∉ dblocks gd mb fs) :
    DH w' B gP gp gd mb gq gr on fuse fs on' fuse' gs' := by
  obtain ⟨A, c, r, _⟩ := h.rd
  have hq := row_free h.dk h.rp (by decide) (by decide)
  have hr := row_free h.dk r (by decide) (by decide)
  refine ⟨h.pw.buts hb (by simp; exact ⟨rne h.pw h.rp (by decide), rne h.pw r (by decide)⟩), h.pl.buts hb (by simp; exact ⟨rne h.pl h.rp (by decide), rne h.pl r (by decide)⟩), h.dk.buts hb (fun k hk hm => ?_), hn, hp, hd, ⟨h.lo.1, h.lo.2.1, h.lo.2.2.1, Nat.le_trans h.lo.2.2.2 hb.size⟩, h.fu⟩
  simp at hm
  rcases hm with rfl | rfl
  · exact hq hk
  · exact hr hk
end
end Go.Proofs.Ytaflmiopaiigbaa

/-
  Both disks: what is told, by lists alike. Own work.
-/
namespace Go.Proofs.Ytaflmiopaiigbaa
open Go.RowKit Go.Maps Go.ChangeMaps
theorem idx_some : ∀ {fs : Fs} {n : Nm} {f : FV}, atF fs n = some f → ∃ i : Nat, idxF fs n = (i : Int) ∧ fs[i]? = some (n, f) := by
  have key : ∀ (fs : Fs) (n : Nm) (f : FV), atF fs n = some f → ∃ i : Nat, fs.findIdx? (fun p => p.1 == n) = some i ∧ fs[i]? = some (n, f) := by
    intro fs
    induction fs with
    | nil => intro n f h; cases h
    | cons p r ih =>
      intro n f h
      cases hq : p.1 == n with
      | true =>
        refine ⟨0, by simp [List.findIdx?_cons, hq], ?_⟩
        unfold atF at h
        simp [List.find?_cons, hq] at h
        have : p.1 = n := by simpa using hq
        obtain ⟨a, b⟩ := p
        simp at this h
        simp [this, h]
      | false =>
        obtain ⟨i, h1, h2⟩ := ih n f (by unfold atF at h ⊢; simpa [List.find?_cons, hq] using h)
        exact ⟨i + 1, by simp [List.findIdx?_cons, hq, h1], by simpa using h2⟩
  intro fs n f h
  obtain ⟨i, h1, h2⟩ := key fs n f h
  exact ⟨i, by unfold idxF; rw [h1], h2⟩
theorem idx_none {fs : Fs} {n : Nm} (h : atF fs n = none) : idxF fs n = -1 := by
  refine idxF_none fun j q hj hq e => ?_
  have := at_some2 (fs := fs) (n := n) (f := q.2) (by rw [← e]; exact List.mem_of_getElem? hq)
  rw [h] at this
  cases this
/-- What is wrong ahead of a call. -/
def askE (fs : Fs) (n o : Nm) (on there : Bool) : Int := if (okN n && okN o) = true then (if on = true then (if (there && !(atF fs n).isSome) = true then 9 else 0) else 8) else 1
theorem ask_ref (fs : Fs) (n : Nm) (on : Bool) : askE fs n n on false = refE [n] on := by
  unfold askE refE
  cases h : okN n <;> cases on <;> simp [h]
theorem ask_find (fs : Fs) (n : Nm) (on : Bool) : askE fs n n on true = (findR fs n [] on).2 := by
  unfold findR askE refE
  cases hq : atF fs n <;> cases h : okN n <;> cases on <;> simp [h]
theorem ask_find2 (fs : Fs) (n o : Nm) (on : Bool) : askE fs n o on true = (findR fs n [o] on).2 := by
  unfold findR askE refE
  cases hq : atF fs n <;> cases h : okN n <;> cases h2 : okN o <;> cases on <;> simp [h, h2]
theorem find_view {fs gs : Fs} (n : Nm) (ns : List Nm) (on : Bool) (h : fs.map vF = gs.map vF) : (findR fs n ns on).2 = (findR gs n ns on).2 ∧ (findR fs n ns on).1.kept = (findR gs n ns on).1.kept ∧ (findR fs n ns on).1.xs = (findR gs n ns on).1.xs := by
  have hv := atF_view n h
  unfold findR
  split
  · cases hq : atF fs n with
    | none =>
      cases hq2 : atF gs n with
      | none => exact ⟨rfl, rfl, rfl⟩
      | some g => rw [hq, hq2] at hv; cases hv
    | some f =>
      cases hq2 : atF gs n with
      | none => rw [hq, hq2] at hv; cases hv
      | some g =>
        rw [hq, hq2] at hv
        simp at hv
        exact ⟨rfl, hv.1, hv.2⟩
  · exact ⟨rfl, rfl, rfl⟩
theorem find_tidy {fs : Fs} (n : Nm) (ns : List Nm) (on : Bool) (h : ∀ p ∈ fs, tidy p) : (findR fs n ns on).1.xs.length = (findR fs n ns on).1.n := by
  unfold findR
  split
  · cases hq : atF fs n with
    | none => rfl
    | some f => exact h _ (atF_mem hq)
  · rfl
theorem find_n {fs gs : Fs} (n : Nm) (ns : List Nm) (on : Bool) (h : fs.map vF = gs.map vF) (t : ∀ p ∈ fs, tidy p) (t' : ∀ p ∈ gs, tidy p) : (findR fs n ns on).1.n = (findR gs n ns on).1.n := by
  rw [← find_tidy n ns on t, ← find_tidy n ns on t', (find_view n ns on h).2.2]
theorem cre_view {fs gs : Fs} (n : Nm) (on : Bool) (h : fs.map vF = gs.map vF) : creE fs n on = creE gs n on := by
  have hl : fs.length = gs.length := by have := congrArg List.length h; simpa using this
  unfold creE
  rw [atF_view_some n h, hl]
theorem edE_view {fs gs : Fs} (n : Nm) (m : Nat) (h : fs.map vF = gs.map vF) : edE fs n m = edE gs n m := by
  have hl : fs.length = gs.length := by have := congrArg List.length h; simpa using this
  unfold edE
  rw [atF_view_some n h, hl]
theorem dFs_view {e0 : Int} {on : Bool} {fuse : Int} {fs gs fs1 gs1 : Fs} (h : fs.map vF = gs.map vF) (h1 : e0 = 0 → fs1.map vF = gs1.map vF) : (dFs e0 on fuse fs fs1).map vF = (dFs e0 on fuse gs gs1).map vF := by
  unfold dFs
  split
  · split
    · exact h1 (by assumption)
    · exact h
  · exact h
theorem torn_view {p q : Nm × FV} (h : vF p = vF q) (hp : tidy p) (hq : tidy q) (c : Int) : vF (p.1, tornV p.2 c) = vF (q.1, tornV q.2 c) := by
  obtain ⟨n, f⟩ := p
  obtain ⟨n', f'⟩ := q
  simp only [vF, Prod.mk.injEq] at h
  obtain ⟨rfl, hk, hx⟩ := h
  have hn : f.n = f'.n := by rw [← hp, ← hq]; exact congrArg List.length hx
  simp only [vF, tornV, tornN, hk, hx, hn]
theorem crash_view {fs gs : Fs} (cs : List Int) (h : fs.map vF = gs.map vF) (t : ∀ p ∈ fs, tidy p) (t' : ∀ p ∈ gs, tidy p) : (crashF fs cs).map vF = (crashF gs cs).map vF := by
  have hl : fs.length = gs.length := by have := congrArg List.length h; simpa using this
  unfold crashF crashTo
  refine List.ext_getElem? fun i => ?_
  simp only [List.getElem?_map, List.getElem?_mapIdx]
  have hi := congrArg (fun x => x[i]?) h
  simp only [List.getElem?_map] at hi
  cases hf : fs[i]? with
  | none =>
    rw [hf] at hi
    cases hg : gs[i]? with
    | none => rfl
    | some q => rw [hg] at hi; cases hi
  | some p =>
    rw [hf] at hi
    cases hg : gs[i]? with
    | none => rw [hg] at hi; cases hi
    | some q =>
      rw [hg] at hi
      simp only [Option.map_some, Option.some.injEq] at hi ⊢
      have h1 := (List.getElem?_eq_some_iff.1 hf).1
      rw [if_pos h1, if_pos (by omega)]
      exact torn_view hi (t p (List.mem_of_getElem? hf)) (t' q (List.mem_of_getElem? hg)) _
theorem isI_act {on : Bool} {fuse : Int} (h : isI fuse) : isI (actF on fuse) := by
  obtain ⟨h1, h2⟩ := h
  unfold actF
  constructor <;> (repeat' split) <;> omega
theorem isI_dFu {e0 : Int} {on : Bool} {fuse : Int} (h : isI fuse) : isI (dFu e0 on fuse) := by
  unfold dFu
  split
  · exact isI_act h
  · exact h
end Go.Proofs.Ytaflmiopaiigbaa

/-
  The document's disk: what is wrong ahead of a call; Create. Own work.
-/
namespace Go.Proofs.Ytaflmiopaiigbaa
open Go.RowKit Go.Maps Go.ChangeMaps
theorem RFs.gq {w w' : World} {gr gq : Nat} {gs : Fs} {o : Bool} {x : Int} (h : RFs w gr (ptr gq) gs) (hp : RPw w gq o x) (ho : Only gq w w') : RFs w' gr (ptr gq) gs := by
  refine h.buts (Buts.only (S := [gq]) ho (by simp)) ?_ (fun k vs r => by simp; exact rne r hp (by decide)) (fun p hp2 h0 k hk => ?_)
  · obtain ⟨A, c, r, _⟩ := h
    simp
    exact rne r hp (by decide)
  · obtain ⟨A, c, _, l⟩ := h
    simp
    exact bs_not_row (c := p.2.c) (l.bs p hp2) h0 hp (by intro v hv x e; simp at hv; rcases hv with rfl | rfl <;> simp at e) k hk
/-- A new list is stored. -/
theorem RFs.set {w w' : World} {gr : Nat} {pv v0 : Value} {hs : Fs} {A : Option Addr} {c : Nat} (hp : Row w 34 gr [pv, v0]) (h1 : ∀ x, pv ≠ .int .u8 x) (h2 : ∀ x, v0 ≠ .int .u8 x) (l : LstAt w w.heap.size 0 (.slice A hs.length c) hs) (ho : Only gr w w') (hr : RDk w' gr pv A hs.length c) : RFs w' gr pv hs := by
  refine ⟨A, c, hr, ⟨l.row.1, l.row.2.imp id fun ⟨g, cap, cur, e1, q1, hg, q2⟩ => ⟨g, cap, cur, e1, q1, (ho.block g ?_).trans hg, q2⟩⟩, fun p hp2 => ?_⟩
  · have hb := bs_buts (c := p.2.c) (l.bs p hp2) (Buts.only (S := [gr]) ho (by simp)) (fun h0 k hk => by
      simp
      exact bs_not_row (c := p.2.c) (l.bs p hp2) h0 hp (by intro v hv x e; simp at hv; rcases hv with rfl | rfl; exact h1 x e; exact h2 x e) k hk) (Nat.le_refl _)
    exact hb.up (Nat.le_of_eq ho.size.symm)
  · obtain ⟨vs, r⟩ := lst_row l (k := g) (by rw [e1]; rfl)
    exact rne r hp (by decide)
theorem not_t {b : Bool} (h : true = !b) : b = false := by cases b <;> simp_all
theorem not_f {b : Bool} (h : false = !b) : b = true := by cases b <;> simp_all
theorem set1 {w : World} {t g : Nat} {x y z : Value} (h : Row w t g ([x, y].set 1 z)) : Row w t g [x, z] := h
/-- What a call of the document's disk leaves: e0 is what is wrong ahead of the act. -/
def RActed (w w' : World) (gq gr : Nat) (e0 : Int) (on : Bool) (fuse : Int) (gs gs1 : Fs) : Prop :=
  RPw w' gq (!(dOn e0 on fuse)) (max (dFu e0 on fuse) (-1)) ∧ RFs w' gr (ptr gq) (dFs e0 on fuse gs gs1) ∧ Buts [gq, gr] w w'
theorem RActed.err {w w' : World} {gq gr : Nat} {e0 : Int} {on : Bool} {fuse : Int} {gs gs1 : Fs} (hp : RPw w gq (!on) (max fuse (-1))) (h : RFs w gr (ptr gq) gs) (he : e0 ≠ 0) (hb : Below w.heap.size w w') : RActed w w' gq gr e0 on fuse gs gs1 := by
  refine ⟨?_, ?_, Buts.of hb _⟩
  · rw [show dOn e0 on fuse = on by unfold dOn; rw [if_neg he], show dFu e0 on fuse = fuse by unfold dFu; rw [if_neg he]]
    exact Row.later hp hb
  · rw [show dFs e0 on fuse gs gs1 = gs by unfold dFs; rw [if_neg he]]
    exact h.later hb
theorem RActed.off {w w' : World} {gq gr : Nat} {on : Bool} {fuse : Int} {gs gs1 : Fs} (ha : actE on fuse = 8) (hp : RPw w' gq (!(on && actOn on fuse)) (max (actF on fuse) (-1))) (h : RFs w' gr (ptr gq) gs) (hb : Buts [gq, gr] w w') : RActed w w' gq gr 0 on fuse gs gs1 := by
  refine ⟨hp, ?_, hb⟩
  rw [show dFs 0 on fuse gs gs1 = gs by unfold dFs; rw [if_pos rfl, ha]; rfl]
  exact h
theorem RActed.done {w w' : World} {gq gr : Nat} {on : Bool} {fuse : Int} {gs gs1 : Fs} (ha : actE on fuse = 0) (hp : RPw w' gq (!(on && actOn on fuse)) (max (actF on fuse) (-1))) (h : RFs w' gr (ptr gq) gs1) (hb : Buts [gq, gr] w w') : RActed w w' gq gr 0 on fuse gs gs1 := by
  refine ⟨hp, ?_, hb⟩
  rw [show dFs 0 on fuse gs gs1 = gs1 by unfold dFs; rw [if_pos rfl, ha]; rfl]
  exact h
theorem RFs.find {w : World} {gr : Nat} {pv : Value} {gs : Fs} (h : RFs w gr pv gs) (hl : gs.length ≤ 200) (n : Nm) : Calls Try.prog 67 #[ptr gr, encStr n] w fun e w' => e = .returned (.int .i64 (idxF gs n)) ∧ Below w.heap.size w w' := by
  obtain ⟨A, c, r, l⟩ := h
  obtain ⟨A', c', e, hF, _⟩ := l.fl (Nat.le_refl _)
  injection e with e1 e2 e3
  subst e1
  exact rfindD_any w w.heap.size gr pv A gs.length c gs n r (Nat.le_refl _) hF (by omega)
set_option maxRecDepth 100000 in
set_option maxHeartbeats 2000000 in
theorem ask_any (w : World) (gq gr : Nat) (on there : Bool) (fuse : Int) (gs : Fs) (n o : Nm) (hp : RPw w gq (!on) (max fuse (-1))) (h : RFs w gr (ptr gq) gs) (hl : gs.length ≤ 200) :
    Calls Try.prog 66 #[ptr gr, encStr n, encStr o, .bool there] w fun e w' => e = .returned (.int .i64 (askE gs n o on there)) ∧ Below w.heap.size w w' := by
  have HF := hide (h.find hl n)
  obtain ⟨A, c, r, _⟩ := h
  have k0 := r.cell (j := 0) rfl
  have hask : askE gs n o on there = if (okN n && okN o) = true then (if on = true then (if (there && !(atF gs n).isSome) = true then 9 else 0) else 8) else 1 := rfl
  have HA := hide hask
  have hidx : (∃ i : Nat, idxF gs n = (i : Int) ∧ (atF gs n).isSome = true) ∨ (idxF gs n = -1 ∧ (atF gs n).isSome = false) := by
    cases hq : atF gs n with
    | none => exact .inr ⟨idx_none hq, rfl⟩
    | some f =>
      obtain ⟨i, h1, _⟩ := idx_some hq
      exact .inl ⟨i, h1, rfl⟩
  have HI := hide hidx
  have hpo : ∃ b, b = !on ∧ w.cell? ⟨gq, 0, none⟩ = some (.bool b) := ⟨_, rfl, hp.cell (j := 0) rfl⟩
  obtain ⟨b, hb, p0⟩ := hpo
  have HB := hide hb
  clear hask hidx hb hp r
  go_enter Try.func66, Try.ntmps66
  go_wp2_with fail
  refine (namedR_any n w).mono ?_
  rintro e w1 ⟨rfl, rfl⟩
  cases hn : okN n with
  | false =>
    go_wp2_with fail
    go_ret
    exact ⟨by rw [HA.out, hn]; rfl, Below.refl _ _⟩
  | true =>
    go_wp2_with fail
    refine (namedR_any o w).mono ?_
    rintro e w1 ⟨rfl, rfl⟩
    cases ho : okN o with
    | false =>
      go_wp2_with fail
      go_ret
      exact ⟨by rw [HA.out, hn, ho]; rfl, Below.refl _ _⟩
    | true =>
      cases b with
      | true =>
        have hon : on = false := by exact not_t HB.out
        go_wp2_with fail
        go_ret
        exact ⟨by rw [HA.out, hn, ho, hon]; rfl, Below.refl _ _⟩
      | false =>
        have hon : on = true := by exact not_f HB.out
        cases there with
        | false =>
          go_wp2_with fail
          go_ret
          exact ⟨by rw [HA.out, hn, ho, hon]; rfl, Below.refl _ _⟩
        | true =>
          go_wp2_with fail
          refine HF.out.mono ?_
          rintro e w2 ⟨rfl, b2⟩
          rcases HI.out with ⟨i, hi, hs⟩ | ⟨hi, hs⟩
          · rw [hi]
            have hd : decide ((i : Int) < 0) = false := by simp
            go_wp2_with fail
            go_ret
            exact ⟨by rw [HA.out, hn, ho, hon, hs]; rfl, b2⟩
          · rw [hi]
            go_wp2_with fail
            go_ret
            exact ⟨by rw [HA.out, hn, ho, hon, hs]; rfl, b2⟩
end Go.Proofs.Ytaflmiopaiigbaa

/-
  The document's disk: Create, Remove, Edit. Own work.
-/
namespace Go.Proofs.Ytaflmiopaiigbaa
open Go.RowKit Go.Maps Go.ChangeMaps
/-- A put into the document's list, and the list behind it. -/
theorem put_list {w : World} {gr : Nat} {pv : Value} {gs : Fs} (h : RFs w gr pv gs) (hr : riseF gs) (hl : gs.length ≤ 200) (n : Nm) (f : FV) (hf : Bs w w.heap.size f.A f.n f.xs) : ∃ A c, RDk w gr pv A gs.length c ∧
    Calls Try.prog 53 #[.slice A gs.length c, .agg #[encStr n, .slice f.A f.n f.c, .int .i64 f.kept]] w fun e w' => ∃ A' c', e = .returned (.slice A' (putF gs n f).length c') ∧ LstAt w' w'.heap.size 0 (.slice A' (putF gs n f).length c') (putF gs n f) ∧ Below w.heap.size w w' := by
  obtain ⟨A, c, r, l⟩ := h
  obtain ⟨A', c', e, hF, _⟩ := l.fl (Nat.le_refl _)
  injection e with e1 e2 e3
  subst e1
  refine ⟨A, c, r, (rput_any w w.heap.size A gs.length c gs n f (Nat.le_refl _) hF l.bs hf hl hr).mono ?_⟩
  rintro e w' ⟨v, rfl, hO, b⟩
  obtain ⟨A2, c2, ev, _, _⟩ := hO.fl b.size
  rw [ev] at hO ⊢
  exact ⟨A2, c2, rfl, lst_up (hO.lo (Nat.zero_le _)) b.size, b⟩
theorem act_gq {w : World} {gr gq : Nat} {on : Bool} {fuse : Int} {gs : Fs} (hp : RPw w gq (!on) (max fuse (-1))) (h : RFs w gr (ptr gq) gs) (hf : isI fuse) : Calls Try.prog 24 #[ptr gq] w fun e w' => e = .returned (.int .i64 (actE on fuse)) ∧ RPw w' gq (!(on && actOn on fuse)) (max (actF on fuse) (-1)) ∧ RFs w' gr (ptr gq) gs ∧ Buts [gq, gr] w w' :=
  (rAct_any w gq on fuse hp hf).mono fun e w' ⟨h1, h2, h3⟩ => ⟨h1, h2, h.gq hp h3, Buts.only h3 (by simp)⟩
theorem builtF1 (n : Nm) : Try.prog.built 48 [(0, encStr n)] = some [encStr n, Value.slice none 0 0, Value.int .i64 0].toArray := by kernel_rfl
theorem nonu_ptr (g : Nat) : ∀ x, ptr g ≠ .int .u8 x := by intro x e; cases e
theorem nonu_sl (A : Option Addr) (n c : Nat) : ∀ x, Value.slice A n c ≠ .int .u8 x := by intro x e; cases e
theorem bs_nil (w : World) (B c : Nat) (A : Option Addr) : Bs w B A 0 [] := ⟨rfl, fun h => absurd h (by decide)⟩
theorem rp_gq {w w' : World} {gq gr : Nat} {o : Bool} {x : Int} {v : Value} (hp : RPw w gq o x) (r : Row w 34 gr [ptr gq, v]) (ho : Only gr w w') : RPw w' gq o x := hp.only ho (rne hp r (by decide))
set_option maxRecDepth 100000 in
set_option maxHeartbeats 4000000 in
theorem rcreate_any (w : World) (gq gr : Nat) (on : Bool) (fuse : Int) (gs : Fs) (n : Nm) (hp : RPw w gq (!on) (max fuse (-1))) (h : RFs w gr (ptr gq) gs) (hf : isI fuse) (hl : gs.length ≤ 64) (hr : riseF gs) :
    Calls Try.prog 38 #[ptr gr, encStr n] w fun e w' => e = .returned (.int .i64 (dE (creE gs n on) on fuse)) ∧ RActed w w' gq gr (creE gs n on) on fuse gs (putF gs n zV) := by
  have HA := hide (ask_any w gq gr on false fuse gs n n hp h (by omega))
  rw [ask_ref] at HA
  have HH := hide (And.intro hp h)
  have HR := hide hr
  have HF := hide hf
  have HC := hide (creE_cases gs n on)
  have hlI : (gs.length : Int) ≤ 64 := by omega
  clear hp h hr hf
  go_enter Try.func38, Try.ntmps38
  go_wp2_with fail
  refine HA.out.mono ?_
  rintro e w1 ⟨rfl, b1⟩
  have HH1 := hide (And.intro (Row.later HH.out.1 b1) (HH.out.2.later b1))
  rcases HC.out with ⟨h0, _, hcase⟩ | ⟨h1, h2⟩ | ⟨h1, h2⟩
  · rw [h0]
    have HFd := hide (HH1.out.2.find (n := n) (by omega))
    clear HC
    obtain ⟨A0, c0, r0, _⟩ := HH1.out.2
    have k1 := r0.cell (j := 1) rfl
    go_wp2_with fail
    refine HFd.out.mono ?_
    rintro e w2 ⟨rfl, b2⟩
    have B2 := b1.trans (b2.mono b1.size)
    have HH2 := hide (And.intro (Row.later HH1.out.1 b2) (HH1.out.2.later b2))
    obtain ⟨A1, c1, r1, l1⟩ := HH2.out.2
    have k2 := r1.cell (j := 1) rfl
    have k3 := r1.cell (j := 0) rfl
    have HAct := hide (act_gq HH2.out.1 HH2.out.2 HF.out)
    rcases hcase with ⟨hfull, he⟩ | ⟨hroom, he, hin⟩
    · have HE0 := hide he
      have hno : atF gs n = none := by
        cases hq : atF gs n with
        | none => rfl
        | some f => rw [hq] at hfull; simp at hfull
      have h64 : decide ((64 : Int) ≤ (gs.length : Int)) = true := by rw [hno] at hfull; simp at hfull ⊢; omega
      rw [idx_none hno]
      have hE : RActed w w2 gq gr 10 on fuse gs (putF gs n zV) := RActed.err HH.out.1 HH.out.2 (by decide) B2
      have HE := hide hE
      clear hE hfull hno he h0 r0 r1 k1 k3 l1 HAct
      go_wp2_with fail
      go_ret
      rw [HE0.out]
      exact ⟨rfl, HE.out⟩
    · have HE0 := hide he
      have hidx : (∃ i : Nat, idxF gs n = (i : Int)) ∨ (idxF gs n = -1 ∧ gs.length < 64) := by
        cases hq : atF gs n with
        | none =>
          refine .inr ⟨idx_none hq, ?_⟩
          rcases hin with h | h
          · rw [hq] at h; cases h
          · exact h
        | some f =>
          obtain ⟨i, h1, _⟩ := idx_some hq
          exact .inl ⟨i, h1⟩
      have hrest : ∀ (Q : Prop), Q → Q := fun _ h => h
      clear hroom hin he h0 r0 k1
      have HL := hide l1
      have hr1 := hide r1
      clear l1 r1
      rcases hidx with ⟨i, hi⟩ | ⟨hi, h64⟩
      · rw [hi]
        have hd : decide ((i : Int) < 0) = false := by simp
        clear hi k2
        go_wp2_with fail
        refine HAct.out.mono ?_
        rintro e w3 ⟨rfl, hp3, hR3, bu3⟩
        rcases actE_cases on fuse with ha | ha
        · rw [ha]
          obtain ⟨A3, c3, r3, HPut⟩ := put_list hR3 HR.out (by omega) n zV (bs_nil _ _ 0 _)
          have hc3 := r3.cell (j := 0) rfl
          have hc4 := r3.cell (j := 1) rfl
          have bF := builtF1 n
          have HPut := hide HPut
          have HX := hide (And.intro hp3 (And.intro bu3 ha))
          clear hp3 hR3 bu3 ha k3 HAct HL hr1
          go_wp2_with (first
            | ((with_reducible refine wl_build rfl 48 _ rfl _ ?hv _ bF ?hk); case hv => rfl))
          refine HPut.out.mono ?_
          rintro e w4 ⟨A4, c4, rfl, hL4, b4⟩
          have r4 := Row.later r3 b4
          go_wp2_with (first
            | (with_reducible refine wl_store rfl 32 (.tmp 44) (.tmp 42) gr 1 34 [ptr gq, .slice A3 gs.length c3] (.slice A4 (putF gs n zV).length c4) rfl szFl rfl rfl r4 (lt2 _ _ (by decide)) rfl ?_; intro w5 r5 o5))
          go_ret
          have hS := RFs.set r4 (nonu_ptr gq) (nonu_sl _ _ _) hL4 o5 (set1 r5)
          rw [HE0.out]
          refine ⟨by unfold dE; (rw [if_pos rfl, HX.out.2.2]) <;> rfl, RActed.done HX.out.2.2 (rp_gq (Row.later HX.out.1 b4) r4 o5) hS ?_⟩
          exact (((Buts.of B2 _).trans HX.out.2.1).trans (Buts.of b4 _)).trans (Buts.only o5 (by simp))
        · rw [ha]
          have HX := hide (And.intro hp3 (And.intro hR3 (And.intro bu3 ha)))
          clear hp3 hR3 bu3 ha k3 HAct HL hr1
          go_wp2_with fail
          go_ret
          rw [HE0.out]
          exact ⟨by unfold dE; (rw [if_pos rfl, HX.out.2.2.2]) <;> rfl, RActed.off HX.out.2.2.2 HX.out.1 HX.out.2.1 ((Buts.of B2 _).trans HX.out.2.2.1)⟩
      · rw [hi]
        have hd : decide ((64 : Int) ≤ (gs.length : Int)) = false := by simp; omega
        clear hi h64
        go_wp2_with fail
        refine HAct.out.mono ?_
        rintro e w3 ⟨rfl, hp3, hR3, bu3⟩
        rcases actE_cases on fuse with ha | ha
        · rw [ha]
          obtain ⟨A3, c3, r3, HPut⟩ := put_list hR3 HR.out (by omega) n zV (bs_nil _ _ 0 _)
          have hc3 := r3.cell (j := 0) rfl
          have hc4 := r3.cell (j := 1) rfl
          have bF := builtF1 n
          have HPut := hide HPut
          have HX := hide (And.intro hp3 (And.intro bu3 ha))
          clear hp3 hR3 bu3 ha k3 HAct HL hr1
          go_wp2_with (first
            | ((with_reducible refine wl_build rfl 48 _ rfl _ ?hv _ bF ?hk); case hv => rfl))
          refine HPut.out.mono ?_
          rintro e w4 ⟨A4, c4, rfl, hL4, b4⟩
          have r4 := Row.later r3 b4
          go_wp2_with (first
            | (with_reducible refine wl_store rfl 32 (.tmp 44) (.tmp 42) gr 1 34 [ptr gq, .slice A3 gs.length c3] (.slice A4 (putF gs n zV).length c4) rfl szFl rfl rfl r4 (lt2 _ _ (by decide)) rfl ?_; intro w5 r5 o5))
          go_ret
          have hS := RFs.set r4 (nonu_ptr gq) (nonu_sl _ _ _) hL4 o5 (set1 r5)
          rw [HE0.out]
          refine ⟨by unfold dE; (rw [if_pos rfl, HX.out.2.2]) <;> rfl, RActed.done HX.out.2.2 (rp_gq (Row.later HX.out.1 b4) r4 o5) hS ?_⟩
          exact (((Buts.of B2 _).trans HX.out.2.1).trans (Buts.of b4 _)).trans (Buts.only o5 (by simp))
        · rw [ha]
          have HX := hide (And.intro hp3 (And.intro hR3 (And.intro bu3 ha)))
          clear hp3 hR3 bu3 ha k3 HAct HL hr1
          go_wp2_with fail
          go_ret
          rw [HE0.out]
          exact ⟨by unfold dE; (rw [if_pos rfl, HX.out.2.2.2]) <;> rfl, RActed.off HX.out.2.2.2 HX.out.1 HX.out.2.1 ((Buts.of B2 _).trans HX.out.2.2.1)⟩
  · rw [h1]
    have HE0 := hide h2
    have hE : RActed w w1 gq gr 1 on fuse gs (putF gs n zV) := RActed.err HH.out.1 HH.out.2 (by decide) b1
    have HE := hide hE
    clear HC h1 h2 hE
    go_wp2_with fail
    go_ret
    rw [HE0.out]
    exact ⟨rfl, HE.out⟩
  · rw [h1]
    have HE0 := hide h2
    have hE : RActed w w1 gq gr 8 on fuse gs (putF gs n zV) := RActed.err HH.out.1 HH.out.2 (by decide) b1
    have HE := hide hE
    clear HC h1 h2 hE
    go_wp2_with fail
    go_ret
    rw [HE0.out]
    exact ⟨rfl, HE.out⟩
end Go.Proofs.Ytaflmiopaiigbaa

/-
  The document's disk: cut; Remove. Own work.
-/
namespace Go.Proofs.Ytaflmiopaiigbaa
open Go.RowKit Go.Maps Go.ChangeMaps
theorem del_snoc {l : Fs} {i : Nat} {p : Nm × FV} (n : Nm) (h : l[i]? = some p) : delF (l.take (i + 1)) n = if (p.1 == n) = true then delF (l.take i) n else delF (l.take i) n ++ [p] := by
  obtain ⟨hi, rfl⟩ := List.getElem?_eq_some_iff.1 h
  rw [List.take_succ_eq_append_getElem hi]
  unfold delF
  rw [List.filter_append]
  cases hq : l[i].1 == n <;> simp [hq]
theorem del_len (l : Fs) (n : Nm) : (delF l n).length ≤ l.length := List.length_filter_le _ _
set_option maxRecDepth 100000 in
set_option maxHeartbeats 4000000 in
theorem rcut_any (w : World) (B : Nat) (A : Option Addr) (m c : Nat) (fs : Fs) (n : Nm) (hBw : B ≤ w.heap.size) (hl : FlAt w w.heap.size A m fs) (hlb : ∀ p ∈ fs, Bs w B p.2.A p.2.n p.2.xs) (hm : m ≤ 200) :
    Calls Try.prog 68 #[.slice A m c, encStr n] w fun e w' => ∃ v, e = .returned v ∧ LstAt w' B w.heap.size v (delF fs n) ∧ Below w.heap.size w w' := by
  have HL := hide hl
  have hll := hl.1
  obtain ⟨ip, hip, hpz, hps, hpb⟩ := file_info
  have HLb := hide hlb
  have zs3 : (Value.agg #[.string ByteArray.empty, .slice none 0 0, .int .i64 0]).cells.size = 3 := rfl
  have h03 : 0 < 3 := by decide
  have hl3 : ∀ (n : Nm) (f : FV), ([encStr n, .slice f.A f.n f.c, .int .i64 f.kept] : List Value).length = 1 * 3 := fun _ _ => rfl
  have hmA : ∀ k, k ≤ 1000 → k + 1 ≤ maxLen := fun k hk => by simp only [maxLen]; omega
  have hmB : ∀ k, k ≤ 1000 → (k + 1) * 48 ≤ 140737488355328 := fun k hk => by omega
  clear hl hlb
  go_enter Try.func68, Try.ntmps68
  go_wp2_with fail
  go_loopw [5, 6] (fun lv iv wr => ∃ (i : Nat) (out : Fs), i ≤ m ∧ iv = .int .i64 i ∧ delF (fs.take i) n = out ∧ LstAt wr B w.heap.size lv out ∧ Below w.heap.size w wr) (fun _ iv _ => m - (intOf iv).toNat)
  case atStart => exact ⟨0, [], Nat.zero_le _, rfl, rfl, LstAt.nil _ _ _, Below.refl _ _⟩
  case round =>
    obtain ⟨i, out, hi, rfl, hst, hO, bW⟩ := hrel
    have hol : out.length ≤ i := by
      rw [← hst]
      refine Nat.le_trans (del_len _ _) ?_
      rw [List.length_take]
      omega
    have hO1 : out.length ≤ 1000 := by omega
    by_cases hlt : i < m
    · obtain ⟨p, hp⟩ : ∃ p, fs[i]? = some p := ⟨_, List.getElem?_eq_getElem (by omega)⟩
      have hsn := del_snoc n hp
      rw [hst] at hsn
      obtain ⟨b, o, rfl, hb, hcw0⟩ := HL.out.2.1 (by omega)
      have hcw := hcw0 i p hp
      have hpb := HLb.out p (List.mem_of_getElem? hp)
      obtain ⟨n', f'⟩ := p
      have HC : ∀ X, Below w.heap.size w X → ∀ j v, ([encStr n', .slice f'.A f'.n f'.c, .int .i64 f'.kept] : List Value)[j]? = some v → X.cell? ⟨b, o + i * 3 + j, none⟩ = some v := fun X hX j v hv => (hX.cell (p := ⟨b, o + i * 3 + j, none⟩) hb).trans (hcw j v hv)
      have c0 := HC wr bW 0 _ rfl
      rw [Nat.add_zero] at c0
      have HCw := HC wr bW
      have HP : Bs wr B f'.A f'.n f'.xs := hpb.below (bW.mono hBw)
      have HS := sizeFile
      have hTw : w.heap.size ≤ wr.heap.size := bW.size
      have hd1 : decide ((i : Int) < (m : Int)) = true := by simp; omega
      clear hcw hcw0 hpb hp HL HLb hst HC
      cases heq : n' == n with
      | true =>
        have hne : n' = n := by simpa using heq
        have HNE : ∀ w, (binOp .neq 9 (encStr n') (encStr n)).run Try.prog w = .ok (.bool false) w := fun w => by rw [neq_dec, heq]; rfl
        rw [if_pos (by rw [heq])] at hsn
        have HSn := hide hsn
        clear hsn hne
        go_wp2_with fail
        go_roundw
        case rel => exact ⟨i + 1, out, by omega, by go_num, HSn.out, hO, bW⟩
        case measure => simp [intOf]; omega
      | false =>
        have HNE : ∀ w, (binOp .neq 9 (encStr n') (encStr n)).run Try.prog w = .ok (.bool true) w := fun w => by rw [neq_dec, heq]; rfl
        rw [if_neg (by rw [heq]; simp)] at hsn
        have HSn := hide hsn
        clear hsn
        go_wp2_with (first
          | (with_reducible refine wl_load_cells (o := ⟨some 24, _, _, _, _, _⟩) rfl 48 (.tmp 23) b (o + i * 3) [encStr n', .slice f'.A f'.n f'.c, .int .i64 f'.kept] _ rfl rfl HCw Try.underlying48 rfl (szApi n' f') ?_)
          | ((with_reducible refine wl_build1S (o := ⟨some 25, _, _, _, _, _⟩) rfl 32 (.tmp 24) rfl 48 ip _ _ _ (encStr n') (.slice f'.A f'.n f'.c) (.int .i64 f'.kept) Try.underlying32 hip hpz hps rfl ?_); intro g9 w9 r9 p9 l9 b9; have O9 := LstAt.later hO (Nat.le_trans hBw hTw) b9; have hU9 := Nat.le_trans hTw b9.size)
          | ((at_builtin; with_reducible refine wl_append_at (o := ⟨some 26, _, _, _, _, _⟩) rfl (.tmp 20) (.tmp 25) 32 rfl w.heap.size 48 ip (.agg #[.string ByteArray.empty, .slice none 0 0, .int .i64 0]) 3 48 Try.underlying32 hip hpz hps hpb zs3 h03 u5 out.length _ rfl O9.row ⟨g9, 0, none⟩ 1 1 [encStr n', .slice f'.A f'.n f'.c, .int .i64 f'.kept] rfl (hl3 n' f') (row_src r9) (one_api n' f') (hmA out.length hO1) (hmB out.length hO1) hU9 ?_); intro v9 x9 own9 gr9 at9))
        obtain ⟨OX9, BX9⟩ := push_facts (p := (n', f')) O9 hBw hU9 (HP.below (b9.mono (Nat.le_trans hBw hTw))) own9 gr9 (bW.trans (b9.mono hTw))
        go_roundw
        case rel => exact ⟨i + 1, out ++ [(n', f')], by omega, by go_num, HSn.out, OX9, BX9⟩
        case measure => simp [intOf]; omega
    · obtain rfl : i = m := by omega
      rw [List.take_of_length_le (by omega)] at hst
      have HFn := hide hst
      have hd1 : decide ((i : Int) < (i : Int)) = false := by simp
      clear hst
      go_wp2_with fail
      go_ret
      exact ⟨_, rfl, by rw [HFn.out]; exact hO, bW⟩
/-- A file cut out of the document's list, and the list behind it. -/
theorem cut_list {w : World} {gr : Nat} {pv : Value} {gs : Fs} (h : RFs w gr pv gs) (hl : gs.length ≤ 200) (n : Nm) : ∃ A c, RDk w gr pv A gs.length c ∧
    Calls Try.prog 68 #[.slice A gs.length c, encStr n] w fun e w' => ∃ A' c', e = .returned (.slice A' (delF gs n).length c') ∧ LstAt w' w'.heap.size 0 (.slice A' (delF gs n).length c') (delF gs n) ∧ Below w.heap.size w w' := by
  obtain ⟨A, c, r, l⟩ := h
  obtain ⟨A', c', e, hF, _⟩ := l.fl (Nat.le_refl _)
  injection e with e1 e2 e3
  subst e1
  refine ⟨A, c, r, (rcut_any w w.heap.size A gs.length c gs n (Nat.le_refl _) hF l.bs hl).mono ?_⟩
  rintro e w' ⟨v, rfl, hO, b⟩
  obtain ⟨A2, c2, ev, _, _⟩ := hO.fl b.size
  rw [ev] at hO ⊢
  exact ⟨A2, c2, rfl, lst_up (hO.lo (Nat.zero_le _)) b.size, b⟩
end Go.Proofs.Ytaflmiopaiigbaa

/-
  The document's disk: Sync, Rename, Read. Own work.
-/
namespace Go.Proofs.Ytaflmiopaiigbaa
open Go.RowKit Go.Maps Go.ChangeMaps
theorem run_loadC3 {P : Program} {o : Oper} {a : Act} {w : World} (ty : TypeId) (x : Operand) (g off : Nat) (M : List Value) (d : TypeDesc) (ho : o.op = .load ty x) (hx : a.eval x = .pointer (some ⟨g, off, none⟩)) (h : ∀ j v, M[j]? = some v → w.cell? ⟨g, off + j, none⟩ = some v)
    (hu : P.underlying ty = some d) (hd : (match d with | .struct _ | .array _ _ => true | _ => false) = true) (hi : (P.info? ty).map (·.size) = some M.length) : (execOp a.eval o).run P w = .ok (.value (.agg M.toArray)) w := by
  unfold execOp
  simp only [ho, hx, Instr.loadAt, Instr.sureAddr, Sem.run_bind, Sem.run_pure, Result.andThen_ok, run_loadVar_cells ty g off M d h hu hd hi]
theorem run_indexS3 {P : Program} {w : World} {a : Act} {o : Oper} (t : TypeId) (x y : Operand) (e : TypeId) (b off len cap i n : Nat)
    (ho : o.op = .indexAddr t x y) (hu : P.underlying t = some (.slice e)) (hs : ∀ w, (sizeOf e).run P w = .ok n w) (hx : a.eval x = .slice (some ⟨b, off, none⟩) len cap) (hy : a.eval y = .int .i64 i) (hi : i < len) :
    (execOp a.eval o).run P w = .ok (.value (.pointer (some ⟨b, off + i * n, none⟩))) w := by
  unfold execOp
  simp only [ho, hx, hy]
  go_simp
theorem lt3 (x y z : Value) {j : Nat} (h : j < 3) : j < [x, y, z].length := h
/-- What a region keeps that puts into the list and stores it. -/
def JPt (w0 : World) (hs : Fs) (N : World → Prop) (bs : List Bool) (vs : List Value) (w : World) : Prop :=
  (bs.getD 1 false = false → Below w0.heap.size w0 w) ∧ (bs.getD 0 false = true → bs.getD 1 false = false → ∃ A c, vs.getD 0 undef = .slice A hs.length c ∧ LstAt w w.heap.size 0 (.slice A hs.length c) hs) ∧ (bs.getD 1 false = true → N w)
theorem JPt.start (w0 : World) (hs : Fs) (N : World → Prop) (vs : List Value) : JPt w0 hs N [false, false] vs w0.drew :=
  ⟨fun _ => (Below.refl _ _).drew, fun h => absurd (show false = true from h) (by decide), fun h => absurd (show false = true from h) (by decide)⟩
/-- The same, where a file is cut out ahead of it. -/
def JCt (w0 : World) (ds hs : Fs) (N : World → Prop) (bs : List Bool) (vs : List Value) (w : World) : Prop :=
  (bs.getD 2 false = false → Below w0.heap.size w0 w) ∧ (bs.getD 0 false = true → bs.getD 2 false = false → ∃ A c, vs.getD 0 undef = .slice A ds.length c ∧ LstAt w w.heap.size 0 (.slice A ds.length c) ds) ∧ (bs.getD 1 false = true → bs.getD 2 false = false → ∃ A c, vs.getD 1 undef = .slice A hs.length c ∧ LstAt w w.heap.size 0 (.slice A hs.length c) hs) ∧ (bs.getD 2 false = true → N w)
theorem JCt.start (w0 : World) (ds hs : Fs) (N : World → Prop) (vs : List Value) : JCt w0 ds hs N [false, false, false] vs w0.drew :=
  ⟨fun _ => (Below.refl _ _).drew, fun h => absurd (show false = true from h) (by decide), fun h => absurd (show false = true from h) (by decide), fun h => absurd (show false = true from h) (by decide)⟩
theorem lst_on {w w' : World} {v : Value} {gs : Fs} (l : LstAt w w.heap.size 0 v gs) (b : Below w.heap.size w w') : LstAt w' w'.heap.size 0 v gs := lst_up (l.later (Nat.le_refl _) b) b.size
/-- A put into a list that is one's own. -/
theorem put_at {w : World} {gs : Fs} {A : Option Addr} {c : Nat} (l : LstAt w w.heap.size 0 (.slice A gs.length c) gs) (hr : riseF gs) (hl : gs.length ≤ 200) (n : Nm) (f : FV) (hf : Bs w w.heap.size f.A f.n f.xs) :
    Calls Try.prog 53 #[.slice A gs.length c, .agg #[encStr n, .slice f.A f.n f.c, .int .i64 f.kept]] w fun e w' => ∃ A' c', e = .returned (.slice A' (putF gs n f).length c') ∧ LstAt w' w'.heap.size 0 (.slice A' (putF gs n f).length c') (putF gs n f) ∧ Below w.heap.size w w' := by
  obtain ⟨A', c', e, hF, _⟩ := l.fl (Nat.le_refl _)
  injection e with e1 e2 e3
  subst e1
  refine (rput_any w w.heap.size A gs.length c gs n f (Nat.le_refl _) hF l.bs hf hl hr).mono ?_
  rintro e w' ⟨v, rfl, hO, b⟩
  obtain ⟨A2, c2, ev, _, _⟩ := hO.fl b.size
  rw [ev] at hO ⊢
  exact ⟨A2, c2, rfl, lst_up (hO.lo (Nat.zero_le _)) b.size, b⟩
theorem cut_at {w : World} {gs : Fs} {A : Option Addr} {c : Nat} (l : LstAt w w.heap.size 0 (.slice A gs.length c) gs) (hl : gs.length ≤ 200) (n : Nm) :
    Calls Try.prog 68 #[.slice A gs.length c, encStr n] w fun e w' => ∃ A' c', e = .returned (.slice A' (delF gs n).length c') ∧ LstAt w' w'.heap.size 0 (.slice A' (delF gs n).length c') (delF gs n) ∧ Below w.heap.size w w' := by
  obtain ⟨A', c', e, hF, _⟩ := l.fl (Nat.le_refl _)
  injection e with e1 e2 e3
  subst e1
  refine (rcut_any w w.heap.size A gs.length c gs n (Nat.le_refl _) hF l.bs hl).mono ?_
  rintro e w' ⟨v, rfl, hO, b⟩
  obtain ⟨A2, c2, ev, _, _⟩ := hO.fl b.size
  rw [ev] at hO ⊢
  exact ⟨A2, c2, rfl, lst_up (hO.lo (Nat.zero_le _)) b.size, b⟩
theorem find_split {fs : Fs} {n : Nm} {ns : List Nm} {on : Bool} {ff : FV} {fe : Int} (h : findR fs n ns on = (ff, fe)) : (fe = 0 ∧ atF fs n = some ff) ∨ fe = 9 ∨ fe = 1 ∨ fe = 8 := by
  rcases findR_cases fs n ns on with ⟨_, _, ⟨f, h1, h2⟩ | ⟨_, h2⟩⟩ | ⟨_, h2⟩ | ⟨_, h2⟩
  · have := h.symm.trans h2
    injection this with e1 e2
    exact .inl ⟨e2, by rw [h1, e1]⟩
  all_goals
    have := h.symm.trans h2
    injection this with e1 e2
    subst e2
    simp
def SSyA (gq gr bb oo c0 i : Nat) (gs : Fs) (n : Nm) (f : FV) (opn : Nat) (v : Value) : Prop :=
  match opn with
  | 0 | 1 | 4 => v = ptr gr
  | 2 => v = .pointer (some ⟨gr, 1, none⟩)
  | 3 => v = .slice (some ⟨bb, oo, none⟩) gs.length c0
  | 5 => v = encStr n
  | 6 => v = .int .i64 (i : Int)
  | 7 => v = .pointer (some ⟨bb, oo + i * 3, none⟩)
  | 8 => v = .agg [encStr n, .slice f.A f.n f.c, .int .i64 f.kept].toArray
  | _ => True

def SSyB (gq gr gF bb oo c0 : Nat) (gs : Fs) (n : Nm) (f2 : FV) (opn : Nat) (v : Value) : Prop :=
  match opn with
  | 0 | 1 | 2 | 7 => v = ptr gr
  | 3 | 8 => v = .pointer (some ⟨gr, 1, none⟩)
  | 4 => v = .slice (some ⟨bb, oo, none⟩) gs.length c0
  | 5 => v = .agg [encStr n, .slice f2.A f2.n f2.c, .int .i64 f2.kept].toArray
  | _ => True

set_option maxRecDepth 100000 in
set_option maxHeartbeats 4000000 in
theorem rsync_any (w : World) (gq gr : Nat) (on : Bool) (fuse : Int) (gs : Fs) (n : Nm) (hp : RPw w gq (!on) (max fuse (-1))) (h : RFs w gr (ptr gq) gs) (hf : isI fuse) (hl : gs.length ≤ 64) (hr : riseF gs) :
    Calls Try.prog 39 #[ptr gr, encStr n] w fun e w' => e = .returned (.int .i64 (dE (findR gs n [] on).2 on fuse)) ∧ RActed w w' gq gr (findR gs n [] on).2 on fuse gs (putF gs n { (findR gs n [] on).1 with kept := ((findR gs n [] on).1.n : Int) }) := by
  have HA := hide (ask_any w gq gr on true fuse gs n n hp h (by omega))
  rw [ask_find] at HA
  obtain ⟨f, fe, hfr⟩ : ∃ ff fe, findR gs n [] on = (ff, fe) := ⟨_, _, rfl⟩
  have hsp := find_split hfr
  rw [hfr] at HA ⊢
  simp only at HA ⊢
  have HH := hide (And.intro hp h)
  have HR := hide hr
  have HF := hide hf
  clear hp h hr hf hfr
  rcases hsp with ⟨rfl, hat⟩ | rfl | rfl | rfl
  · have HAt := hide hat
    clear hat
    go_enter Try.func39, Try.ntmps39
    go_wp2_with fail
    refine HA.out.mono ?_
    rintro e w1 ⟨rfl, b1⟩
    have HAct := hide (act_gq (Row.later HH.out.1 b1) (HH.out.2.later b1) HF.out)
    obtain ⟨A0, cc0, r00, _⟩ := HH.out.2.later b1
    have k3 := r00.cell (j := 0) rfl
    go_wp2_with fail
    refine HAct.out.mono ?_
    rintro e w2 ⟨rfl, hp2, hR2, bu2⟩
    have B2 := (Buts.of b1 [gq, gr]).trans bu2
    clear k3 r00 HAct bu2 b1
    rcases actE_cases on fuse with ha | ha
    · rw [ha]
      have HX := hide (And.intro hp2 (And.intro B2 ha))
      obtain ⟨i, hix, hgi⟩ := idx_some HAt.out
      have HFd : ∀ X, Below w2.heap.size w2 X → Calls Try.prog 67 #[ptr gr, encStr n] X fun e w' => e = .returned (.int .i64 (i : Int)) ∧ Below X.heap.size X w' := fun X b => by
        have := (hR2.later b).find (n := n) (by omega)
        rwa [hix] at this
      obtain ⟨AL, c0, r0, l0⟩ := hR2
      obtain ⟨A', c', e', hFl, _⟩ := l0.fl (Nat.le_refl _)
      injection e' with q1 q2 q3
      subst q1
      have hi : i < gs.length := (List.getElem?_eq_some_iff.1 hgi).1
      obtain ⟨bb, oo, rfl, hbb, hcc⟩ := hFl.2.1 (by omega)
      have hcf := hcc i _ hgi
      have HC : ∀ X, Below w2.heap.size w2 X → ∀ j v, ([encStr n, .slice f.A f.n f.c, .int .i64 f.kept] : List Value)[j]? = some v → X.cell? ⟨bb, oo + i * 3 + j, none⟩ = some v := fun X hX j v hv => (hX.cell (p := ⟨bb, oo + i * 3 + j, none⟩) hbb).trans (hcf j v hv)
      have HBs : Bs w2 w2.heap.size f.A f.n f.xs := l0.bs _ (List.mem_of_getElem? hgi)
      have HL0 := hide l0
      clear hp2 B2 ha hix hgi l0 hFl hcc hcf
      go_wp2_with fail
      rename_i K1 hK1
      refine wp_region_vals [6, 9, 10] (SSyA gq gr bb oo c0 i gs n f) (JA w2 48 [.string ByteArray.empty, .slice none 0 0, .int .i64 0] [encStr n, .slice f.A f.n f.c, .int .i64 f.kept] 1 2) (by kernel_rfl) (by kernel_rfl) (by kernel_rfl) (by kernel_rfl) (by kernel_rfl) ⟨(Below.refl _ _).drew, fun h => absurd h (by decide)⟩ ?obsA ?heA
      case obsA =>
        refine ⟨?_, ?_, ?_, ?_, ?_, ?_, ?_, ?_, ?_, ?_, ?_, trivial⟩
        · exact .inl ⟨by kernel_rfl, fun L a1 w1 n' h => ⟨_, rfl, run_move (.tmp 0) rfl (h.var n' 0 (by kernel_rfl))⟩⟩
        · refine .inl ⟨by kernel_rfl, fun L a1 w1 n' h => ⟨ptr gr, rfl, ?_⟩⟩
          have e0 : a1.eval (.tmp 20) = _ := h.dep n' 0 20 (by kernel_rfl) rfl
          unfold execOp
          simp only [e0]
          go_simp
        · refine .inl ⟨by kernel_rfl, fun L a1 w1 n' h => ⟨.pointer (some ⟨gr, 1, none⟩), rfl, ?_⟩⟩
          have e0 : a1.eval (.tmp 21) = _ := h.dep n' 1 21 (by kernel_rfl) rfl
          unfold execOp
          simp only [e0]
          go_simp
        · exact .inl ⟨by kernel_rfl, fun L a1 w1 n' h => ⟨_, rfl, run_loadA 32 (.tmp 22) ⟨gr, 1, none⟩ rfl Try.isAgg32 (h.dep n' 2 22 (by kernel_rfl) rfl) ((Row.later r0 h.inv.1).cell (j := 1) (v := .slice (some ⟨bb, oo, none⟩) gs.length c0) rfl)⟩⟩
        · exact .inl ⟨by kernel_rfl, fun L a1 w1 n' h => ⟨_, rfl, run_move (.tmp 0) rfl (h.var n' 0 (by kernel_rfl))⟩⟩
        · exact .inl ⟨by kernel_rfl, fun L a1 w1 n' h => ⟨_, rfl, run_move (.tmp 1) rfl (h.var n' 1 (by kernel_rfl))⟩⟩
        · refine .inr fun L a1 w1 n' h K hK => ?_
          have e0 : a1.eval (.tmp 24) = ptr gr := h.dep n' 4 24 (by kernel_rfl) rfl
          have e1 : a1.eval (.tmp 25) = encStr n := h.dep n' 5 25 (by kernel_rfl) rfl
          refine st_call 67 _ _ #[ptr gr, encStr n] rfl Try.call67 ?_ (HFd w1 h.inv.1) ?_
          · simp only [List.map_toArray, List.map_cons, List.map_nil, e0, e1]
          · rintro e w3 ⟨rfl, b9⟩
            exact ⟨_, rfl, hK _ w3 rfl (JA.grow h.inv b9 rfl rfl rfl)⟩
        · exact .inl ⟨by kernel_rfl, fun L a1 w1 n' h => ⟨_, rfl, run_indexS3 32 (.tmp 23) (.tmp 26) 48 bb oo gs.length c0 i 3 rfl Try.underlying32 sizeFile (h.dep n' 3 23 (by kernel_rfl) rfl) (h.dep n' 6 26 (by kernel_rfl) rfl) hi⟩⟩
        · exact .inl ⟨by kernel_rfl, fun L a1 w1 n' h => ⟨_, rfl, run_loadC3 48 (.tmp 27) bb (oo + i * 3) [encStr n, .slice f.A f.n f.c, .int .i64 f.kept] _ rfl (h.dep n' 7 27 (by kernel_rfl) rfl) (HC w1 h.inv.1) Try.underlying48 rfl (szApi n f)⟩⟩
        · refine .inr fun L a1 w1 n' h K hK => ?_
          have no : L.getD 10 false = false := n'.later (by kernel_rfl)
          refine st_alloc 48 _ _ rfl zApi rfl ?_
          intro g7 w3 r7 a7 l7 b7
          exact hK _ _ trivial (JA.made h.inv b7 r7 a7 rfl no)
        · refine .inr fun L a1 w1 n' h K hK => ?_
          have yes : L.getD 9 false = true := n'.dep (by kernel_rfl)
          have no : L.getD 10 false = false := n'.not_yet
          obtain ⟨g7, p7, n7, r7⟩ := h.inv.2 yes
          have r7' : Row w1 48 g7 (bif L.getD 10 false then [encStr n, .slice f.A f.n f.c, .int .i64 f.kept] else _) := r7
          rw [no, cond_false] at r7'
          refine st_store_row 48 (.tmp 6) (.tmp 28) g7 48 _ ([encStr n, .slice f.A f.n f.c, .int .i64 f.kept]) rfl p7 (h.dep n' 8 28 (by kernel_rfl) rfl) r7' (szApi n f) (rfl) (one_api n f) ?_
          intro w3 r3 o3
          exact hK undef w3 trivial (JA.filled h.inv o3 n7 r3 p7 rfl)
      case heA =>
        intro V w5 hV hJ
        obtain ⟨gF, e4, p4, rF0⟩ := hJ.2 rfl
        have e4 : V 9 = ptr gF := e4
        have rF0 : Row w5 48 gF [encStr n, .slice f.A f.n f.c, .int .i64 f.kept] := rF0
        have b5 : Below w2.heap.size w2 w5 := hJ.1
        clear hV hJ
        simp only [putOps, List.setIfInBounds_toArray, List.set_cons_succ, List.set_cons_zero, Nat.reduceAdd]
        rw [e4]
        refine hK1 _ _ ?_
        generalize V 0 = v0
        generalize V 1 = v1
        generalize V 2 = v2
        generalize V 3 = v3
        generalize V 4 = v4
        generalize V 5 = v5
        generalize V 6 = v6
        generalize V 7 = v7
        generalize V 8 = v8
        generalize V 10 = v10
        have cF1 := rF0.cell (j := 1) rfl
        clear e4
        go_wp2_with (first
          | (with_reducible refine wl_store rfl 3 (.tmp 32) (.tmp 31) gF 2 48 [encStr n, .slice f.A f.n f.c, .int .i64 f.kept] (.int .i64 (f.n : Int)) rfl szInt rfl rfl rF0 (lt3 _ _ _ (by decide)) rfl ?_; intro w6 rF1 o6))
        obtain ⟨f2, hf2⟩ : ∃ f2 : FV, f2 = { f with kept := (f.n : Int) } := ⟨_, rfl⟩
        have b6 : Below w2.heap.size w2 w6 := b5.trans (o6.below p4)
        have rF : Row w6 48 gF [encStr n, .slice f2.A f2.n f2.c, .int .i64 f2.kept] := by rw [hf2]; exact rF1
        have hBs2 : Bs w2 w2.heap.size f2.A f2.n f2.xs := by rw [hf2]; exact HBs
        have HPut : ∀ X, Below w6.heap.size w6 X → Calls Try.prog 53 #[.slice (some ⟨bb, oo, none⟩) gs.length c0, .agg #[encStr n, .slice f2.A f2.n f2.c, .int .i64 f2.kept]] X fun e w' => ∃ A' c', e = .returned (.slice A' (putF gs n f2).length c') ∧ LstAt w' w'.heap.size 0 (.slice A' (putF gs n f2).length c') (putF gs n f2) ∧ Below X.heap.size X w' := fun X b => by
          have bX := b6.trans (b.mono b6.size)
          exact put_at (lst_on HL0.out bX) HR.out (by omega) n f2 ((hBs2.below bX).up bX.size)
        have HW := hide (And.intro hf2 b6)
        replace r0 := Row.later r0 b6
        clear rF0 rF1 o6 b5 hBs2 HBs HC HFd HL0 cF1 hf2
        go_wp2_with fail
        rename_i K2 hK2
        refine wp_region_vals [6, 9] (SSyB gq gr gF bb oo c0 gs n f2) (JPt w6 (putF gs n f2) (fun w' => RFs w' gr (ptr gq) (putF gs n f2) ∧ Buts [gr] w6 w')) (by kernel_rfl) (by kernel_rfl) (by kernel_rfl) (by kernel_rfl) (by kernel_rfl) (JPt.start _ _ _ _) ?obsB ?heB
        case obsB =>
          refine ⟨?_, ?_, ?_, ?_, ?_, ?_, ?_, ?_, ?_, ?_, trivial⟩
          · exact .inl ⟨by kernel_rfl, fun L a1 w1 n' h => ⟨_, rfl, run_move (.tmp 0) rfl (h.var n' 0 (by kernel_rfl))⟩⟩
          · exact .inl ⟨by kernel_rfl, fun L a1 w1 n' h => ⟨_, rfl, run_move (.tmp 0) rfl (h.var n' 0 (by kernel_rfl))⟩⟩
          · refine .inl ⟨by kernel_rfl, fun L a1 w1 n' h => ⟨ptr gr, rfl, ?_⟩⟩
            have e0 : a1.eval (.tmp 34) = _ := h.dep n' 1 34 (by kernel_rfl) rfl
            unfold execOp
            simp only [e0]
            go_simp
          · refine .inl ⟨by kernel_rfl, fun L a1 w1 n' h => ⟨.pointer (some ⟨gr, 1, none⟩), rfl, ?_⟩⟩
            have e0 : a1.eval (.tmp 35) = _ := h.dep n' 2 35 (by kernel_rfl) rfl
            unfold execOp
            simp only [e0]
            go_simp
          · exact .inl ⟨by kernel_rfl, fun L a1 w1 n' h => ⟨_, rfl, run_loadA 32 (.tmp 36) ⟨gr, 1, none⟩ rfl Try.isAgg32 (h.dep n' 3 36 (by kernel_rfl) rfl) ((Row.later r0 (h.inv.1 ((bits_at rfl).trans (n'.later (by kernel_rfl))))).cell (j := 1) (v := .slice (some ⟨bb, oo, none⟩) gs.length c0) rfl)⟩⟩
          · exact .inl ⟨by kernel_rfl, fun L a1 w1 n' h => ⟨_, rfl, run_loadRow 48 (.tmp 6) gF 48 _ _ rfl (h.var n' 6 (by kernel_rfl)) (Row.later rF (h.inv.1 ((bits_at rfl).trans (n'.later (by kernel_rfl))))) Try.underlying48 rfl (szApi n f2)⟩⟩
          · refine .inr fun L a1 w1 n' h K hK => ?_
            have no9 : L.getD 9 false = false := n'.later (by kernel_rfl)
            have b9 := h.inv.1 ((bits_at rfl).trans no9)
            have y0 : a1.eval (.tmp 37) = .slice (some ⟨bb, oo, none⟩) gs.length c0 := h.dep n' 4 37 (by kernel_rfl) rfl
            have y1 : a1.eval (.tmp 38) = .agg [encStr n, .slice f2.A f2.n f2.c, .int .i64 f2.kept].toArray := h.dep n' 5 38 (by kernel_rfl) rfl
            refine st_call 53 _ _ #[.slice (some ⟨bb, oo, none⟩) gs.length c0, .agg #[encStr n, .slice f2.A f2.n f2.c, .int .i64 f2.kept]] rfl Try.call53 ?_ (HPut w1 b9) ?_
            · simp only [List.map_toArray, List.map_cons, List.map_nil, y0, y1]
            · rintro e w3 ⟨A4, c4, rfl, hL4, b4⟩
              exact ⟨_, rfl, hK _ w3 trivial ⟨fun _ => b9.trans (b4.mono b9.size), fun _ _ => ⟨A4, c4, rfl, hL4⟩, fun h0 => absurd (no9.symm.trans h0) (by decide)⟩⟩
          · refine .inl ⟨by kernel_rfl, fun L a1 w1 n' h => ⟨ptr gr, rfl, ?_⟩⟩
            have e0 : a1.eval (.tmp 33) = _ := h.dep n' 0 33 (by kernel_rfl) rfl
            unfold execOp
            simp only [e0]
            go_simp
          · refine .inl ⟨by kernel_rfl, fun L a1 w1 n' h => ⟨.pointer (some ⟨gr, 1, none⟩), rfl, ?_⟩⟩
            have e0 : a1.eval (.tmp 40) = _ := h.dep n' 7 40 (by kernel_rfl) rfl
            unfold execOp
            simp only [e0]
            go_simp
          · refine .inr fun L a1 w1 n' h K hK => ?_
            have yes6 : L.getD 6 false = true := n'.dep (by kernel_rfl)
            have no9 : L.getD 9 false = false := n'.not_yet
            have b9 := h.inv.1 ((bits_at rfl).trans no9)
            obtain ⟨A4, c4, ev, hL4⟩ := h.inv.2.1 ((bits_at rfl).trans yes6) ((bits_at rfl).trans no9)
            have y2 : a1.eval (.tmp 39) = .slice A4 _ c4 := ev
            have r9 := Row.later r0 b9
            refine st_store 32 (.tmp 41) (.tmp 39) gr 1 34 [ptr gq, .slice (some ⟨bb, oo, none⟩) gs.length c0] _ rfl szFl (h.dep n' 8 41 (by kernel_rfl) rfl) y2 r9 (lt2 _ _ (by decide)) rfl ?_
            intro w3 r3 o3
            exact hK undef w3 trivial ⟨fun h0 => absurd (show true = false from h0) (by decide), fun _ h0 => absurd (show true = false from h0) (by decide), fun _ => ⟨RFs.set r9 (nonu_ptr gq) (nonu_sl _ _ _) hL4 o3 (set1 r3), (Buts.of b9 _).trans (Buts.only o3 (by simp))⟩⟩
        case heB =>
          intro V w7 hV hJ
          obtain ⟨hS7, bu7⟩ := hJ.2.2 rfl
          clear hV hJ
          simp only [putOps, List.setIfInBounds_toArray, List.set_cons_succ, List.set_cons_zero, Nat.reduceAdd]
          refine hK2 _ _ ?_
          go_wp2_with fail
          go_ret
          refine ⟨by unfold dE; (rw [if_pos rfl, HX.out.2.2]) <;> rfl, RActed.done HX.out.2.2 ((Row.later HX.out.1 HW.out.2).buts bu7 (by simp; exact rne (Row.later HX.out.1 HW.out.2) r0 (by decide))) (by rw [← HW.out.1]; exact hS7) ?_⟩
          exact (HX.out.2.1.trans (Buts.of HW.out.2 _)).trans (bu7.sub (by simp))
    · rw [ha]
      have HX := hide (And.intro hp2 (And.intro hR2 (And.intro B2 ha)))
      clear hp2 hR2 B2 ha
      go_wp2_with fail
      go_ret
      exact ⟨by unfold dE; (rw [if_pos rfl, HX.out.2.2.2]) <;> rfl, RActed.off HX.out.2.2.2 HX.out.1 HX.out.2.1 HX.out.2.2.1⟩
  · go_enter Try.func39, Try.ntmps39
    go_wp2_with fail
    refine HA.out.mono ?_
    rintro e w1 ⟨rfl, b1⟩
    go_wp2_with fail
    go_ret
    exact ⟨rfl, RActed.err HH.out.1 HH.out.2 (by decide) b1⟩
  · go_enter Try.func39, Try.ntmps39
    go_wp2_with fail
    refine HA.out.mono ?_
    rintro e w1 ⟨rfl, b1⟩
    go_wp2_with fail
    go_ret
    exact ⟨rfl, RActed.err HH.out.1 HH.out.2 (by decide) b1⟩
  · go_enter Try.func39, Try.ntmps39
    go_wp2_with fail
    refine HA.out.mono ?_
    rintro e w1 ⟨rfl, b1⟩
    go_wp2_with fail
    go_ret
    exact ⟨rfl, RActed.err HH.out.1 HH.out.2 (by decide) b1⟩
end Go.Proofs.Ytaflmiopaiigbaa

/-
  The document's disk: Rename. Own work.
-/
namespace Go.Proofs.Ytaflmiopaiigbaa
open Go.RowKit Go.Maps Go.ChangeMaps
def SRnA (gq gr bb oo c0 i : Nat) (gs : Fs) (n n2 : Nm) (f : FV) (opn : Nat) (v : Value) : Prop :=
  match opn with
  | 0 | 1 | 4 => v = ptr gr
  | 2 => v = .pointer (some ⟨gr, 1, none⟩)
  | 3 => v = .slice (some ⟨bb, oo, none⟩) gs.length c0
  | 5 => v = encStr n
  | 6 => v = .int .i64 (i : Int)
  | 7 => v = .pointer (some ⟨bb, oo + i * 3, none⟩)
  | 8 => v = .agg [encStr n, .slice f.A f.n f.c, .int .i64 f.kept].toArray
  | _ => True

def SRnB (gq gr gF bb oo c0 : Nat) (gs : Fs) (n n2 : Nm) (f : FV) (opn : Nat) (v : Value) : Prop :=
  match opn with
  | 0 | 1 | 2 | 9 => v = ptr gr
  | 3 | 10 => v = .pointer (some ⟨gr, 1, none⟩)
  | 4 => v = .slice (some ⟨bb, oo, none⟩) gs.length c0
  | 5 => v = encStr n
  | 7 => v = .agg [encStr n2, .slice f.A f.n f.c, .int .i64 f.kept].toArray
  | _ => True

theorem szSt : (Try.prog.info? 9).map (·.size) = some 1 := by kernel_rfl
theorem set0c {w : World} {t g : Nat} {x y z u : Value} (h : Row w t g ([x, y, z].set 0 u)) : Row w t g [u, y, z] := h
set_option maxRecDepth 100000 in
set_option maxHeartbeats 4000000 in
theorem rrename_any (w : World) (gq gr : Nat) (on : Bool) (fuse : Int) (gs : Fs) (n n2 : Nm) (hp : RPw w gq (!on) (max fuse (-1))) (h : RFs w gr (ptr gq) gs) (hf : isI fuse) (hl : gs.length ≤ 64) (hr : riseF gs) :
    Calls Try.prog 40 #[ptr gr, encStr n, encStr n2] w fun e w' => e = .returned (.int .i64 (dE (findR gs n [n2] on).2 on fuse)) ∧ RActed w w' gq gr (findR gs n [n2] on).2 on fuse gs (putF (delF gs n) n2 (findR gs n [n2] on).1) := by
  have HA := hide (ask_any w gq gr on true fuse gs n n2 hp h (by omega))
  rw [ask_find2] at HA
  obtain ⟨f, fe, hfr⟩ : ∃ ff fe, findR gs n [n2] on = (ff, fe) := ⟨_, _, rfl⟩
  have hsp := find_split hfr
  rw [hfr] at HA ⊢
  simp only at HA ⊢
  have HH := hide (And.intro hp h)
  have HR := hide hr
  have HF := hide hf
  clear hp h hr hf hfr
  rcases hsp with ⟨rfl, hat⟩ | rfl | rfl | rfl
  · have HAt := hide hat
    clear hat
    go_enter Try.func40, Try.ntmps40
    go_wp2_with fail
    refine HA.out.mono ?_
    rintro e w1 ⟨rfl, b1⟩
    have HAct := hide (act_gq (Row.later HH.out.1 b1) (HH.out.2.later b1) HF.out)
    obtain ⟨A0, cc0, r00, _⟩ := HH.out.2.later b1
    have k3 := r00.cell (j := 0) rfl
    go_wp2_with fail
    refine HAct.out.mono ?_
    rintro e w2 ⟨rfl, hp2, hR2, bu2⟩
    have B2 := (Buts.of b1 [gq, gr]).trans bu2
    clear k3 r00 HAct bu2 b1
    rcases actE_cases on fuse with ha | ha
    · rw [ha]
      have HX := hide (And.intro hp2 (And.intro B2 ha))
      obtain ⟨i, hix, hgi⟩ := idx_some HAt.out
      have HFd : ∀ X, Below w2.heap.size w2 X → Calls Try.prog 67 #[ptr gr, encStr n] X fun e w' => e = .returned (.int .i64 (i : Int)) ∧ Below X.heap.size X w' := fun X b => by
        have := (hR2.later b).find (n := n) (by omega)
        rwa [hix] at this
      obtain ⟨AL, c0, r0, l0⟩ := hR2
      obtain ⟨A', c', e', hFl, _⟩ := l0.fl (Nat.le_refl _)
      injection e' with q1 q2 q3
      subst q1
      have hi : i < gs.length := (List.getElem?_eq_some_iff.1 hgi).1
      obtain ⟨bb, oo, rfl, hbb, hcc⟩ := hFl.2.1 (by omega)
      have hcf := hcc i _ hgi
      have HC : ∀ X, Below w2.heap.size w2 X → ∀ j v, ([encStr n, .slice f.A f.n f.c, .int .i64 f.kept] : List Value)[j]? = some v → X.cell? ⟨bb, oo + i * 3 + j, none⟩ = some v := fun X hX j v hv => (hX.cell (p := ⟨bb, oo + i * 3 + j, none⟩) hbb).trans (hcf j v hv)
      have HBs : Bs w2 w2.heap.size f.A f.n f.xs := l0.bs _ (List.mem_of_getElem? hgi)
      have HL0 := hide l0
      clear hp2 B2 ha hix hgi l0 hFl hcc hcf
      go_wp2_with fail
      rename_i K1 hK1
      refine wp_region_vals [6, 9, 10] (SRnA gq gr bb oo c0 i gs n n2 f) (JA w2 48 [.string ByteArray.empty, .slice none 0 0, .int .i64 0] [encStr n, .slice f.A f.n f.c, .int .i64 f.kept] 1 2) (by kernel_rfl) (by kernel_rfl) (by kernel_rfl) (by kernel_rfl) (by kernel_rfl) ⟨(Below.refl _ _).drew, fun h => absurd h (by decide)⟩ ?obsA ?heA
      case obsA =>
        refine ⟨?_, ?_, ?_, ?_, ?_, ?_, ?_, ?_, ?_, ?_, ?_, trivial⟩
        · exact .inl ⟨by kernel_rfl, fun L a1 w1 n' h => ⟨_, rfl, run_move (.tmp 0) rfl (h.var n' 0 (by kernel_rfl))⟩⟩
        · refine .inl ⟨by kernel_rfl, fun L a1 w1 n' h => ⟨ptr gr, rfl, ?_⟩⟩
          have e0 : a1.eval (.tmp 22) = _ := h.dep n' 0 22 (by kernel_rfl) rfl
          unfold execOp
          simp only [e0]
          go_simp
        · refine .inl ⟨by kernel_rfl, fun L a1 w1 n' h => ⟨.pointer (some ⟨gr, 1, none⟩), rfl, ?_⟩⟩
          have e0 : a1.eval (.tmp 23) = _ := h.dep n' 1 23 (by kernel_rfl) rfl
          unfold execOp
          simp only [e0]
          go_simp
        · exact .inl ⟨by kernel_rfl, fun L a1 w1 n' h => ⟨_, rfl, run_loadA 32 (.tmp 24) ⟨gr, 1, none⟩ rfl Try.isAgg32 (h.dep n' 2 24 (by kernel_rfl) rfl) ((Row.later r0 h.inv.1).cell (j := 1) (v := .slice (some ⟨bb, oo, none⟩) gs.length c0) rfl)⟩⟩
        · exact .inl ⟨by kernel_rfl, fun L a1 w1 n' h => ⟨_, rfl, run_move (.tmp 0) rfl (h.var n' 0 (by kernel_rfl))⟩⟩
        · exact .inl ⟨by kernel_rfl, fun L a1 w1 n' h => ⟨_, rfl, run_move (.tmp 1) rfl (h.var n' 1 (by kernel_rfl))⟩⟩
        · refine .inr fun L a1 w1 n' h K hK => ?_
          have e0 : a1.eval (.tmp 26) = ptr gr := h.dep n' 4 26 (by kernel_rfl) rfl
          have e1 : a1.eval (.tmp 27) = encStr n := h.dep n' 5 27 (by kernel_rfl) rfl
          refine st_call 67 _ _ #[ptr gr, encStr n] rfl Try.call67 ?_ (HFd w1 h.inv.1) ?_
          · simp only [List.map_toArray, List.map_cons, List.map_nil, e0, e1]
          · rintro e w3 ⟨rfl, b9⟩
            exact ⟨_, rfl, hK _ w3 rfl (JA.grow h.inv b9 rfl rfl rfl)⟩
        · exact .inl ⟨by kernel_rfl, fun L a1 w1 n' h => ⟨_, rfl, run_indexS3 32 (.tmp 25) (.tmp 28) 48 bb oo gs.length c0 i 3 rfl Try.underlying32 sizeFile (h.dep n' 3 25 (by kernel_rfl) rfl) (h.dep n' 6 28 (by kernel_rfl) rfl) hi⟩⟩
        · exact .inl ⟨by kernel_rfl, fun L a1 w1 n' h => ⟨_, rfl, run_loadC3 48 (.tmp 29) bb (oo + i * 3) [encStr n, .slice f.A f.n f.c, .int .i64 f.kept] _ rfl (h.dep n' 7 29 (by kernel_rfl) rfl) (HC w1 h.inv.1) Try.underlying48 rfl (szApi n f)⟩⟩
        · refine .inr fun L a1 w1 n' h K hK => ?_
          have no : L.getD 10 false = false := n'.later (by kernel_rfl)
          refine st_alloc 48 _ _ rfl zApi rfl ?_
          intro g7 w3 r7 a7 l7 b7
          exact hK _ _ trivial (JA.made h.inv b7 r7 a7 rfl no)
        · refine .inr fun L a1 w1 n' h K hK => ?_
          have yes : L.getD 9 false = true := n'.dep (by kernel_rfl)
          have no : L.getD 10 false = false := n'.not_yet
          obtain ⟨g7, p7, n7, r7⟩ := h.inv.2 yes
          have r7' : Row w1 48 g7 (bif L.getD 10 false then [encStr n, .slice f.A f.n f.c, .int .i64 f.kept] else _) := r7
          rw [no, cond_false] at r7'
          refine st_store_row 48 (.tmp 8) (.tmp 30) g7 48 _ ([encStr n, .slice f.A f.n f.c, .int .i64 f.kept]) rfl p7 (h.dep n' 8 30 (by kernel_rfl) rfl) r7' (szApi n f) (rfl) (one_api n f) ?_
          intro w3 r3 o3
          exact hK undef w3 trivial (JA.filled h.inv o3 n7 r3 p7 rfl)
      case heA =>
        intro V w5 hV hJ
        obtain ⟨gF, e4, p4, rF0⟩ := hJ.2 rfl
        have e4 : V 9 = ptr gF := e4
        have rF0 : Row w5 48 gF [encStr n, .slice f.A f.n f.c, .int .i64 f.kept] := rF0
        have b5 : Below w2.heap.size w2 w5 := hJ.1
        clear hV hJ
        simp only [putOps, List.setIfInBounds_toArray, List.set_cons_succ, List.set_cons_zero, Nat.reduceAdd]
        rw [e4]
        refine hK1 _ _ ?_
        generalize V 0 = v0
        generalize V 1 = v1
        generalize V 2 = v2
        generalize V 3 = v3
        generalize V 4 = v4
        generalize V 5 = v5
        generalize V 6 = v6
        generalize V 7 = v7
        generalize V 8 = v8
        generalize V 10 = v10
        clear e4
        go_wp2_with (first
          | (with_reducible refine wl_store rfl 9 (.tmp 32) (.tmp 31) gF 0 48 [encStr n, .slice f.A f.n f.c, .int .i64 f.kept] (encStr n2) rfl szSt rfl rfl rF0 (lt3 _ _ _ (by decide)) rfl ?_; intro w6 rF1 o6))
        have b6 : Below w2.heap.size w2 w6 := b5.trans (o6.below p4)
        have rF : Row w6 48 gF [encStr n2, .slice f.A f.n f.c, .int .i64 f.kept] := set0c rF1
        have HCut : ∀ X, Below w6.heap.size w6 X → Calls Try.prog 68 #[.slice (some ⟨bb, oo, none⟩) gs.length c0, encStr n] X fun e w' => ∃ A' c', e = .returned (.slice A' (delF gs n).length c') ∧ LstAt w' w'.heap.size 0 (.slice A' (delF gs n).length c') (delF gs n) ∧ Below X.heap.size X w' := fun X b => cut_at (lst_on HL0.out (b6.trans (b.mono b6.size))) (by omega) n
        have hdl := del_len gs n
        have HPut : ∀ X, Below w6.heap.size w6 X → ∀ A5 c5, LstAt X X.heap.size 0 (.slice A5 (delF gs n).length c5) (delF gs n) → Calls Try.prog 53 #[.slice A5 (delF gs n).length c5, .agg #[encStr n2, .slice f.A f.n f.c, .int .i64 f.kept]] X fun e w' => ∃ A' c', e = .returned (.slice A' (putF (delF gs n) n2 f).length c') ∧ LstAt w' w'.heap.size 0 (.slice A' (putF (delF gs n) n2 f).length c') (putF (delF gs n) n2 f) ∧ Below X.heap.size X w' := fun X b A5 c5 l5 => by
          have bX := b6.trans (b.mono b6.size)
          exact put_at l5 (HR.out.filter _) (by omega) n2 f ((HBs.below bX).up bX.size)
        have HW := hide b6
        replace r0 := Row.later r0 b6
        clear rF0 rF1 o6 b5 HBs HC HFd HL0 hdl
        go_wp2_with fail
        rename_i K2 hK2
        refine wp_region_vals [6, 8, 11] (SRnB gq gr gF bb oo c0 gs n n2 f) (JCt w6 (delF gs n) (putF (delF gs n) n2 f) (fun w' => RFs w' gr (ptr gq) (putF (delF gs n) n2 f) ∧ Buts [gr] w6 w')) (by kernel_rfl) (by kernel_rfl) (by kernel_rfl) (by kernel_rfl) (by kernel_rfl) (JCt.start _ _ _ _ _) ?obsB ?heB
        case obsB =>
          refine ⟨?_, ?_, ?_, ?_, ?_, ?_, ?_, ?_, ?_, ?_, ?_, ?_, trivial⟩
          · exact .inl ⟨by kernel_rfl, fun L a1 w1 n' h => ⟨_, rfl, run_move (.tmp 0) rfl (h.var n' 0 (by kernel_rfl))⟩⟩
          · exact .inl ⟨by kernel_rfl, fun L a1 w1 n' h => ⟨_, rfl, run_move (.tmp 0) rfl (h.var n' 0 (by kernel_rfl))⟩⟩
          · refine .inl ⟨by kernel_rfl, fun L a1 w1 n' h => ⟨ptr gr, rfl, ?_⟩⟩
            have e0 : a1.eval (.tmp 34) = _ := h.dep n' 1 34 (by kernel_rfl) rfl
            unfold execOp
            simp only [e0]
            go_simp
          · refine .inl ⟨by kernel_rfl, fun L a1 w1 n' h => ⟨.pointer (some ⟨gr, 1, none⟩), rfl, ?_⟩⟩
            have e0 : a1.eval (.tmp 35) = _ := h.dep n' 2 35 (by kernel_rfl) rfl
            unfold execOp
            simp only [e0]
            go_simp
          · exact .inl ⟨by kernel_rfl, fun L a1 w1 n' h => ⟨_, rfl, run_loadA 32 (.tmp 36) ⟨gr, 1, none⟩ rfl Try.isAgg32 (h.dep n' 3 36 (by kernel_rfl) rfl) ((Row.later r0 (h.inv.1 ((bits_at rfl).trans (n'.later (by kernel_rfl))))).cell (j := 1) (v := .slice (some ⟨bb, oo, none⟩) gs.length c0) rfl)⟩⟩
          · exact .inl ⟨by kernel_rfl, fun L a1 w1 n' h => ⟨_, rfl, run_move (.tmp 1) rfl (h.var n' 1 (by kernel_rfl))⟩⟩
          · refine .inr fun L a1 w1 n' h K hK => ?_
            have no6 : L.getD 6 false = false := n'.not_yet
            have no8 : L.getD 8 false = false := n'.later (by kernel_rfl)
            have no9 : L.getD 11 false = false := n'.later (by kernel_rfl)
            have b9 := h.inv.1 ((bits_at rfl).trans no9)
            have y0 : a1.eval (.tmp 37) = .slice (some ⟨bb, oo, none⟩) gs.length c0 := h.dep n' 4 37 (by kernel_rfl) rfl
            have y1 : a1.eval (.tmp 38) = encStr n := h.dep n' 5 38 (by kernel_rfl) rfl
            refine st_call 68 _ _ #[.slice (some ⟨bb, oo, none⟩) gs.length c0, encStr n] rfl Try.call68 ?_ (HCut w1 b9) ?_
            · simp only [List.map_toArray, List.map_cons, List.map_nil, y0, y1]
            · rintro e w3 ⟨A4, c4, rfl, hL4, b4⟩
              exact ⟨_, rfl, hK _ w3 trivial ⟨fun _ => b9.trans (b4.mono b9.size), fun _ _ => ⟨A4, c4, rfl, hL4⟩, fun h0 => absurd (no8.symm.trans h0) (by decide), fun h0 => absurd (no9.symm.trans h0) (by decide)⟩⟩
          · exact .inl ⟨by kernel_rfl, fun L a1 w1 n' h => ⟨_, rfl, run_loadRow 48 (.tmp 8) gF 48 _ _ rfl (h.var n' 8 (by kernel_rfl)) (Row.later rF (h.inv.1 ((bits_at rfl).trans (n'.later (by kernel_rfl))))) Try.underlying48 rfl (szApi n2 f)⟩⟩
          · refine .inr fun L a1 w1 n' h K hK => ?_
            have yes6 : L.getD 6 false = true := n'.dep (by kernel_rfl)
            have no9 : L.getD 11 false = false := n'.later (by kernel_rfl)
            have b9 := h.inv.1 ((bits_at rfl).trans no9)
            obtain ⟨A5, c5, ev5, hL5⟩ := h.inv.2.1 ((bits_at rfl).trans yes6) ((bits_at rfl).trans no9)
            have y0 : a1.eval (.tmp 39) = .slice A5 (delF gs n).length c5 := ev5
            have y1 : a1.eval (.tmp 40) = .agg [encStr n2, .slice f.A f.n f.c, .int .i64 f.kept].toArray := h.dep n' 7 40 (by kernel_rfl) rfl
            refine st_call 53 _ _ #[.slice A5 (delF gs n).length c5, .agg #[encStr n2, .slice f.A f.n f.c, .int .i64 f.kept]] rfl Try.call53 ?_ (HPut w1 b9 A5 c5 hL5) ?_
            · simp only [List.map_toArray, List.map_cons, List.map_nil, y0, y1]
            · rintro e w3 ⟨A4, c4, rfl, hL4, b4⟩
              exact ⟨_, rfl, hK _ w3 trivial ⟨fun _ => b9.trans (b4.mono b9.size), fun _ _ => ⟨A5, c5, ev5, lst_on hL5 b4⟩, fun _ _ => ⟨A4, c4, rfl, hL4⟩, fun h0 => absurd (no9.symm.trans h0) (by decide)⟩⟩
          · refine .inl ⟨by kernel_rfl, fun L a1 w1 n' h => ⟨ptr gr, rfl, ?_⟩⟩
            have e0 : a1.eval (.tmp 33) = _ := h.dep n' 0 33 (by kernel_rfl) rfl
            unfold execOp
            simp only [e0]
            go_simp
          · refine .inl ⟨by kernel_rfl, fun L a1 w1 n' h => ⟨.pointer (some ⟨gr, 1, none⟩), rfl, ?_⟩⟩
            have e0 : a1.eval (.tmp 42) = _ := h.dep n' 9 42 (by kernel_rfl) rfl
            unfold execOp
            simp only [e0]
            go_simp
          · refine .inr fun L a1 w1 n' h K hK => ?_
            have yes6 : L.getD 8 false = true := n'.dep (by kernel_rfl)
            have no9 : L.getD 11 false = false := n'.not_yet
            have b9 := h.inv.1 ((bits_at rfl).trans no9)
            obtain ⟨A4, c4, ev, hL4⟩ := h.inv.2.2.1 ((bits_at rfl).trans yes6) ((bits_at rfl).trans no9)
            have y2 : a1.eval (.tmp 41) = .slice A4 _ c4 := ev
            have r9 := Row.later r0 b9
            refine st_store 32 (.tmp 43) (.tmp 41) gr 1 34 [ptr gq, .slice (some ⟨bb, oo, none⟩) gs.length c0] _ rfl szFl (h.dep n' 10 43 (by kernel_rfl) rfl) y2 r9 (lt2 _ _ (by decide)) rfl ?_
            intro w3 r3 o3
            exact hK undef w3 trivial ⟨fun h0 => absurd (show true = false from h0) (by decide), fun _ h0 => absurd (show true = false from h0) (by decide), fun _ h0 => absurd (show true = false from h0) (by decide), fun _ => ⟨RFs.set r9 (nonu_ptr gq) (nonu_sl _ _ _) hL4 o3 (set1 r3), (Buts.of b9 _).trans (Buts.only o3 (by simp))⟩⟩
        case heB =>
          intro V w7 hV hJ
          obtain ⟨hS7, bu7⟩ := hJ.2.2.2 rfl
          clear hV hJ
          simp only [putOps, List.setIfInBounds_toArray, List.set_cons_succ, List.set_cons_zero, Nat.reduceAdd]
          refine hK2 _ _ ?_
          go_wp2_with fail
          go_ret
          refine ⟨by unfold dE; (rw [if_pos rfl, HX.out.2.2]) <;> rfl, RActed.done HX.out.2.2 ((Row.later HX.out.1 HW.out).buts bu7 (by simp; exact rne (Row.later HX.out.1 HW.out) r0 (by decide))) hS7 ?_⟩
          exact (HX.out.2.1.trans (Buts.of HW.out _)).trans (bu7.sub (by simp))
    · rw [ha]
      have HX := hide (And.intro hp2 (And.intro hR2 (And.intro B2 ha)))
      clear hp2 hR2 B2 ha
      go_wp2_with fail
      go_ret
      exact ⟨by unfold dE; (rw [if_pos rfl, HX.out.2.2.2]) <;> rfl, RActed.off HX.out.2.2.2 HX.out.1 HX.out.2.1 HX.out.2.2.1⟩
  · go_enter Try.func40, Try.ntmps40
    go_wp2_with fail
    refine HA.out.mono ?_
    rintro e w1 ⟨rfl, b1⟩
    go_wp2_with fail
    go_ret
    exact ⟨rfl, RActed.err HH.out.1 HH.out.2 (by decide) b1⟩
  · go_enter Try.func40, Try.ntmps40
    go_wp2_with fail
    refine HA.out.mono ?_
    rintro e w1 ⟨rfl, b1⟩
    go_wp2_with fail
    go_ret
    exact ⟨rfl, RActed.err HH.out.1 HH.out.2 (by decide) b1⟩
  · go_enter Try.func40, Try.ntmps40
    go_wp2_with fail
    refine HA.out.mono ?_
    rintro e w1 ⟨rfl, b1⟩
    go_wp2_with fail
    go_ret
    exact ⟨rfl, RActed.err HH.out.1 HH.out.2 (by decide) b1⟩
end Go.Proofs.Ytaflmiopaiigbaa

/-
  The document's disk: Remove, Edit, Read. Own work.
-/
namespace Go.Proofs.Ytaflmiopaiigbaa
open Go.RowKit Go.Maps Go.ChangeMaps
set_option maxRecDepth 100000 in
set_option maxHeartbeats 4000000 in
theorem rremove_any (w : World) (gq gr : Nat) (on : Bool) (fuse : Int) (gs : Fs) (n : Nm) (hp : RPw w gq (!on) (max fuse (-1))) (h : RFs w gr (ptr gq) gs) (hf : isI fuse) (hl : gs.length ≤ 64) :
    Calls Try.prog 41 #[ptr gr, encStr n] w fun e w' => e = .returned (.int .i64 (dE (findR gs n [] on).2 on fuse)) ∧ RActed w w' gq gr (findR gs n [] on).2 on fuse gs (delF gs n) := by
  have HA := hide (ask_any w gq gr on true fuse gs n n hp h (by omega))
  rw [ask_find] at HA
  obtain ⟨f, fe, hfr⟩ : ∃ ff fe, findR gs n [] on = (ff, fe) := ⟨_, _, rfl⟩
  have hsp := find_split hfr
  rw [hfr] at HA ⊢
  simp only at HA ⊢
  have HH := hide (And.intro hp h)
  have HF := hide hf
  clear hp h hf hfr
  rcases hsp with ⟨rfl, hat⟩ | rfl | rfl | rfl
  · clear hat
    go_enter Try.func41, Try.ntmps41
    go_wp2_with fail
    refine HA.out.mono ?_
    rintro e w1 ⟨rfl, b1⟩
    have HAct := hide (act_gq (Row.later HH.out.1 b1) (HH.out.2.later b1) HF.out)
    obtain ⟨A0, cc0, r00, _⟩ := HH.out.2.later b1
    have k3 := r00.cell (j := 0) rfl
    go_wp2_with fail
    refine HAct.out.mono ?_
    rintro e w2 ⟨rfl, hp2, hR2, bu2⟩
    have B2 := (Buts.of b1 [gq, gr]).trans bu2
    clear k3 r00 HAct bu2 b1
    rcases actE_cases on fuse with ha | ha
    · rw [ha]
      have HX := hide (And.intro hp2 (And.intro B2 ha))
      obtain ⟨AL, c0, r0, l0⟩ := hR2
      have k1 := r0.cell (j := 1) rfl
      have HCut := hide (cut_at l0 (by omega) n)
      clear hp2 B2 ha l0
      go_wp2_with fail
      refine HCut.out.mono ?_
      rintro e w4 ⟨A4, c4, rfl, hL4, b4⟩
      have r4 := Row.later r0 b4
      go_wp2_with (first
        | (with_reducible refine wl_store rfl 32 (.tmp 27) (.tmp 25) gr 1 34 [ptr gq, .slice AL gs.length c0] (.slice A4 (delF gs n).length c4) rfl szFl rfl rfl r4 (lt2 _ _ (by decide)) rfl ?_; intro w5 r5 o5))
      go_ret
      have hS := RFs.set r4 (nonu_ptr gq) (nonu_sl _ _ _) hL4 o5 (set1 r5)
      refine ⟨by unfold dE; (rw [if_pos rfl, HX.out.2.2]) <;> rfl, RActed.done HX.out.2.2 (rp_gq (Row.later HX.out.1 b4) r4 o5) hS ?_⟩
      exact (HX.out.2.1.trans (Buts.of b4 _)).trans (Buts.only o5 (by simp))
    · rw [ha]
      have HX := hide (And.intro hp2 (And.intro hR2 (And.intro B2 ha)))
      clear hp2 hR2 B2 ha
      go_wp2_with fail
      go_ret
      exact ⟨by unfold dE; (rw [if_pos rfl, HX.out.2.2.2]) <;> rfl, RActed.off HX.out.2.2.2 HX.out.1 HX.out.2.1 HX.out.2.2.1⟩
  · go_enter Try.func41, Try.ntmps41
    go_wp2_with fail
    refine HA.out.mono ?_
    rintro e w1 ⟨rfl, b1⟩
    go_wp2_with fail
    go_ret
    exact ⟨rfl, RActed.err HH.out.1 HH.out.2 (by decide) b1⟩
  · go_enter Try.func41, Try.ntmps41
    go_wp2_with fail
    refine HA.out.mono ?_
    rintro e w1 ⟨rfl, b1⟩
    go_wp2_with fail
    go_ret
    exact ⟨rfl, RActed.err HH.out.1 HH.out.2 (by decide) b1⟩
  · go_enter Try.func41, Try.ntmps41
    go_wp2_with fail
    refine HA.out.mono ?_
    rintro e w1 ⟨rfl, b1⟩
    go_wp2_with fail
    go_ret
    exact ⟨rfl, RActed.err HH.out.1 HH.out.2 (by decide) b1⟩
/-- What the document's Edit leaves. -/
def RRes (w w' : World) (gq gr : Nat) (o : Bool) (x : Int) (gs : Fs) : Prop := RPw w' gq o x ∧ RFs w' gr (ptr gq) gs ∧ Buts [gq, gr] w w'
theorem RRes.same {w w' : World} {gq gr : Nat} {o : Bool} {x : Int} {gs : Fs} (hp : RPw w gq o x) (h : RFs w gr (ptr gq) gs) (b : Below w.heap.size w w') : RRes w w' gq gr o x gs := ⟨Row.later hp b, h.later b, Buts.of b _⟩
def edFs (gs : Fs) (n : Nm) (f : FV) : Fs := if edE gs n f.n = 0 then putF gs n f else gs
theorem builtF3 (n : Nm) (A : Option Addr) (m c : Nat) (k : Int) : Try.prog.built 48 [(0, encStr n), (1, .slice A m c), (2, .int .i64 k)] = some [encStr n, Value.slice A m c, Value.int .i64 k].toArray := by kernel_rfl
set_option maxRecDepth 100000 in
set_option maxHeartbeats 4000000 in
theorem redit_any (w : World) (gq gr : Nat) (o : Bool) (x : Int) (gs : Fs) (n : Nm) (A : Option Addr) (m c : Nat) (ys : List Int) (hp : RPw w gq o x) (h : RFs w gr (ptr gq) gs) (hl : gs.length ≤ 64) (hr : riseF gs) (hy : Bs w w.heap.size A m ys) :
    Calls Try.prog 43 #[ptr gr, encStr n, .slice A m c] w fun e w' => e = .returned (.int .i64 (edE gs n m)) ∧ RRes w w' gq gr o x (edFs gs n ⟨A, m, c, ys, (m : Int)⟩) := by
  have HH := hide (And.intro hp (And.intro h hy))
  have HR := hide hr
  have hE : edE gs n m = if okN n && decide (m ≤ 1048576) then (if (!(atF gs n).isSome && decide (64 ≤ gs.length)) then 10 else 0) else 1 := rfl
  have HE := hide hE
  have hF : edFs gs n ⟨A, m, c, ys, (m : Int)⟩ = if edE gs n m = 0 then putF gs n ⟨A, m, c, ys, (m : Int)⟩ else gs := rfl
  have HFs := hide hF
  have hlI : (gs.length : Int) ≤ 64 := by omega
  have HFd := hide (h.find (n := n) (by omega))
  clear hp h hr hE hF hy
  go_enter Try.func43, Try.ntmps43
  go_wp2_with fail
  refine (namedR_any n w).mono ?_
  rintro e w1 ⟨rfl, rfl⟩
  cases hn : okN n with
  | false =>
    have he : edE gs n m = 1 := by rw [HE.out, hn]; rfl
    have HE0 := hide he
    clear he
    go_wp2_with fail
    go_ret
    rw [HFs.out, HE0.out]
    exact ⟨rfl, RRes.same HH.out.1 HH.out.2.1 (Below.refl _ _)⟩
  | true =>
    by_cases hm : m ≤ 1048576
    · have hd : decide ((1048576 : Int) < (m : Int)) = false := by simp; omega
      have hd2 : decide (m ≤ 1048576) = true := by simp; omega
      have HD := hide hd2
      have HM := hide hm
      clear hd2 hm
      go_wp2_with fail
      refine HFd.out.mono ?_
      rintro e w2 ⟨rfl, b2⟩
      have HH2 := hide (And.intro (Row.later HH.out.1 b2) (And.intro (HH.out.2.1.later b2) (HH.out.2.2.below b2)))
      obtain ⟨AL, c0, r0, l0⟩ := HH2.out.2.1
      have k1 := r0.cell (j := 1) rfl
      have HL := hide l0
      have bF := builtF3 n A m c (m : Int)
      have HPut := hide (put_at l0 HR.out (by omega) n ⟨A, m, c, ys, (m : Int)⟩ (HH2.out.2.2.up b2.size))
      have hidx : (∃ i : Nat, idxF gs n = (i : Int) ∧ (atF gs n).isSome = true) ∨ (idxF gs n = -1 ∧ (atF gs n).isSome = false) := by
        cases hq : atF gs n with
        | none => exact .inr ⟨idx_none hq, rfl⟩
        | some f =>
          obtain ⟨i, h1, _⟩ := idx_some hq
          exact .inl ⟨i, h1, rfl⟩
      clear l0
      rcases hidx with ⟨i, hi, hs⟩ | ⟨hi, hs⟩
      · rw [hi]
        have hdi : decide ((i : Int) < 0) = false := by simp
        have he : edE gs n m = 0 := by rw [HE.out, hn, HD.out, hs]; rfl
        have HE0 := hide he
        clear he hi hs
        go_wp2_with (first
          | ((with_reducible refine wl_build rfl 48 _ rfl _ ?hv _ bF ?hk); case hv => rfl))
        refine HPut.out.mono ?_
        rintro e w4 ⟨A4, c4, rfl, hL4, b4⟩
        have r4 := Row.later r0 b4
        go_wp2_with (first
          | (with_reducible refine wl_store rfl 32 (.tmp 39) (.tmp 37) gr 1 34 [ptr gq, .slice AL gs.length c0] (.slice A4 (putF gs n ⟨A, m, c, ys, (m : Int)⟩).length c4) rfl szFl rfl rfl r4 (lt2 _ _ (by decide)) rfl ?_; intro w5 r5 o5))
        go_ret
        have hS := RFs.set r4 (nonu_ptr gq) (nonu_sl _ _ _) hL4 o5 (set1 r5)
        rw [HFs.out, HE0.out]
        exact ⟨rfl, rp_gq (Row.later HH2.out.1 b4) r4 o5, hS, ((Buts.of b2 _).trans (Buts.of b4 _)).trans (Buts.only o5 (by simp))⟩
      · rw [hi]
        by_cases h64 : 64 ≤ gs.length
        · have hd6 : decide ((64 : Int) ≤ (gs.length : Int)) = true := by simp; omega
          have he : edE gs n m = 10 := by rw [HE.out, hn, HD.out, hs, show decide (64 ≤ gs.length) = true by simp; omega]; rfl
          have HE0 := hide he
          clear he hi hs h64 bF
          go_wp2_with fail
          go_ret
          rw [HFs.out, HE0.out]
          exact ⟨rfl, RRes.same HH.out.1 HH.out.2.1 b2⟩
        · have hd6 : decide ((64 : Int) ≤ (gs.length : Int)) = false := by simp; omega
          have he : edE gs n m = 0 := by rw [HE.out, hn, HD.out, hs, show decide (64 ≤ gs.length) = false by simp; omega]; rfl
          have HE0 := hide he
          clear he hi hs h64
          go_wp2_with (first
            | ((with_reducible refine wl_build rfl 48 _ rfl _ ?hv _ bF ?hk); case hv => rfl))
          refine HPut.out.mono ?_
          rintro e w4 ⟨A4, c4, rfl, hL4, b4⟩
          have r4 := Row.later r0 b4
          go_wp2_with (first
            | (with_reducible refine wl_store rfl 32 (.tmp 39) (.tmp 37) gr 1 34 [ptr gq, .slice AL gs.length c0] (.slice A4 (putF gs n ⟨A, m, c, ys, (m : Int)⟩).length c4) rfl szFl rfl rfl r4 (lt2 _ _ (by decide)) rfl ?_; intro w5 r5 o5))
          go_ret
          have hS := RFs.set r4 (nonu_ptr gq) (nonu_sl _ _ _) hL4 o5 (set1 r5)
          rw [HFs.out, HE0.out]
          exact ⟨rfl, rp_gq (Row.later HH2.out.1 b4) r4 o5, hS, ((Buts.of b2 _).trans (Buts.of b4 _)).trans (Buts.only o5 (by simp))⟩
    · have hd : decide ((1048576 : Int) < (m : Int)) = true := by simp; omega
      have he : edE gs n m = 1 := by rw [HE.out, hn, show decide (m ≤ 1048576) = false by simp; omega]; rfl
      have HE0 := hide he
      clear he hm
      go_wp2_with fail
      go_ret
      rw [HFs.out, HE0.out]
      exact ⟨rfl, RRes.same HH.out.1 HH.out.2.1 (Below.refl _ _)⟩
theorem find_zero {fs : Fs} {n : Nm} {ns : List Nm} {on : Bool} {ff : FV} {fe : Int} (h : findR fs n ns on = (ff, fe)) (he : fe ≠ 0) : ff = zV := by
  rcases findR_cases fs n ns on with ⟨_, _, ⟨f, _, h2⟩ | ⟨_, h2⟩⟩ | ⟨_, h2⟩ | ⟨_, h2⟩ <;> (have := h.symm.trans h2; injection this with e1 e2) <;> first | exact e1 | exact absurd e2 he
def SRd (gq gr bb oo c0 i : Nat) (gs : Fs) (n : Nm) (f : FV) (opn : Nat) (v : Value) : Prop :=
  match opn with
  | 0 | 1 | 4 => v = ptr gr
  | 2 => v = .pointer (some ⟨gr, 1, none⟩)
  | 3 => v = .slice (some ⟨bb, oo, none⟩) gs.length c0
  | 5 => v = encStr n
  | 6 => v = .int .i64 (i : Int)
  | 7 => v = .pointer (some ⟨bb, oo + i * 3, none⟩)
  | 8 => v = .pointer (some ⟨bb, oo + i * 3 + 1, none⟩)
  | 9 | 10 => v = .slice f.A f.n f.c
  | 11 => v = .int .i64 0
  | _ => True

set_option maxRecDepth 100000 in
set_option maxHeartbeats 4000000 in
/-- What the document's Read tells. -/
theorem rread_any (w : World) (gq gr : Nat) (on : Bool) (fuse : Int) (gs : Fs) (n : Nm) (hp : RPw w gq (!on) (max fuse (-1))) (h : RFs w gr (ptr gq) gs) (hl : gs.length ≤ 64) :
    Calls Try.prog 44 #[ptr gr, encStr n] w fun e w' => ∃ A c, e = .returned (.tuple #[.slice A (findR gs n [] on).1.n c, .int .i64 (findR gs n [] on).2]) ∧ Bs w' w'.heap.size A (findR gs n [] on).1.n (findR gs n [] on).1.xs ∧ Below w.heap.size w w' := by
  have HA := hide (ask_any w gq gr on true fuse gs n n hp h (by omega))
  rw [ask_find] at HA
  obtain ⟨f, fe, hfr⟩ : ∃ ff fe, findR gs n [] on = (ff, fe) := ⟨_, _, rfl⟩
  have hsp := find_split hfr
  have hzz := find_zero hfr
  rw [hfr] at HA ⊢
  simp only at HA ⊢
  have HH := hide (And.intro hp h)
  clear hp h hfr
  rcases hsp with ⟨rfl, hat⟩ | rfl | rfl | rfl
  · have HAt := hide hat
    clear hat hzz
    go_enter Try.func44, Try.ntmps44
    go_wp2_with fail
    refine HA.out.mono ?_
    rintro e w2 ⟨rfl, b1⟩
    obtain ⟨i, hix, hgi⟩ := idx_some HAt.out
    have hR2 := HH.out.2.later b1
    have HFd : ∀ X, Below w2.heap.size w2 X → Calls Try.prog 67 #[ptr gr, encStr n] X fun e w' => e = .returned (.int .i64 (i : Int)) ∧ Below X.heap.size X w' := fun X b => by
      have := (hR2.later b).find (n := n) (by omega)
      rwa [hix] at this
    obtain ⟨AL, c0, r0, l0⟩ := hR2
    obtain ⟨A', c', e', hFl, _⟩ := l0.fl (Nat.le_refl _)
    injection e' with q1 q2 q3
    subst q1
    have hi : i < gs.length := (List.getElem?_eq_some_iff.1 hgi).1
    obtain ⟨bb, oo, rfl, hbb, hcc⟩ := hFl.2.1 (by omega)
    have hcf := hcc i _ hgi
    have HC : ∀ X, Below w2.heap.size w2 X → ∀ j v, ([encStr n, .slice f.A f.n f.c, .int .i64 f.kept] : List Value)[j]? = some v → X.cell? ⟨bb, oo + i * 3 + j, none⟩ = some v := fun X hX j v hv => (hX.cell (p := ⟨bb, oo + i * 3 + j, none⟩) hbb).trans (hcf j v hv)
    have HBs := hide (show Bs w2 w2.heap.size f.A f.n f.xs from l0.bs _ (List.mem_of_getElem? hgi))
    have HB1 := hide b1
    clear hix hgi l0 hFl hcc hcf b1
    go_wp2_with fail
    rename_i K1 hK1
    refine wp_region_vals [6] (SRd gq gr bb oo c0 i gs n f) (fun _ _ w' => Below w2.heap.size w2 w') (by kernel_rfl) (by kernel_rfl) (by kernel_rfl) (by kernel_rfl) (by kernel_rfl) (Below.refl _ _).drew ?obsA ?heA
    case obsA =>
      refine ⟨?_, ?_, ?_, ?_, ?_, ?_, ?_, ?_, ?_, ?_, ?_, ?_, trivial⟩
      · exact .inl ⟨by kernel_rfl, fun L a1 w1 n' h => ⟨_, rfl, run_move (.tmp 0) rfl (h.var n' 0 (by kernel_rfl))⟩⟩
      · refine .inl ⟨by kernel_rfl, fun L a1 w1 n' h => ⟨ptr gr, rfl, ?_⟩⟩
        have e0 : a1.eval (.tmp 14) = _ := h.dep n' 0 14 (by kernel_rfl) rfl
        unfold execOp
        simp only [e0]
        go_simp
      · refine .inl ⟨by kernel_rfl, fun L a1 w1 n' h => ⟨.pointer (some ⟨gr, 1, none⟩), rfl, ?_⟩⟩
        have e0 : a1.eval (.tmp 15) = _ := h.dep n' 1 15 (by kernel_rfl) rfl
        unfold execOp
        simp only [e0]
        go_simp
      · exact .inl ⟨by kernel_rfl, fun L a1 w1 n' h => ⟨_, rfl, run_loadA 32 (.tmp 16) ⟨gr, 1, none⟩ rfl Try.isAgg32 (h.dep n' 2 16 (by kernel_rfl) rfl) ((Row.later r0 h.inv).cell (j := 1) (v := .slice (some ⟨bb, oo, none⟩) gs.length c0) rfl)⟩⟩
      · exact .inl ⟨by kernel_rfl, fun L a1 w1 n' h => ⟨_, rfl, run_move (.tmp 0) rfl (h.var n' 0 (by kernel_rfl))⟩⟩
      · exact .inl ⟨by kernel_rfl, fun L a1 w1 n' h => ⟨_, rfl, run_move (.tmp 1) rfl (h.var n' 1 (by kernel_rfl))⟩⟩
      · refine .inr fun L a1 w1 n' h K hK => ?_
        have e0 : a1.eval (.tmp 18) = ptr gr := h.dep n' 4 18 (by kernel_rfl) rfl
        have e1 : a1.eval (.tmp 19) = encStr n := h.dep n' 5 19 (by kernel_rfl) rfl
        refine st_call 67 _ _ #[ptr gr, encStr n] rfl Try.call67 ?_ (HFd w1 h.inv) ?_
        · simp only [List.map_toArray, List.map_cons, List.map_nil, e0, e1]
        · rintro e w3 ⟨rfl, b9⟩
          exact ⟨_, rfl, hK _ w3 rfl (h.inv.trans (b9.mono h.inv.size))⟩
      · exact .inl ⟨by kernel_rfl, fun L a1 w1 n' h => ⟨_, rfl, run_indexS3 32 (.tmp 17) (.tmp 20) 48 bb oo gs.length c0 i 3 rfl Try.underlying32 sizeFile (h.dep n' 3 17 (by kernel_rfl) rfl) (h.dep n' 6 20 (by kernel_rfl) rfl) hi⟩⟩
      · refine .inl ⟨by kernel_rfl, fun L a1 w1 n' h => ⟨.pointer (some ⟨bb, oo + i * 3 + 1, none⟩), rfl, ?_⟩⟩
        have e0 : a1.eval (.tmp 21) = _ := h.dep n' 7 21 (by kernel_rfl) rfl
        unfold execOp
        simp only [e0]
        go_simp
      · exact .inl ⟨by kernel_rfl, fun L a1 w1 n' h => ⟨_, rfl, run_loadA 35 (.tmp 22) ⟨bb, oo + i * 3 + 1, none⟩ rfl Try.isAgg35 (h.dep n' 8 22 (by kernel_rfl) rfl) (HC w1 h.inv 1 _ rfl)⟩⟩
      · exact .inl ⟨by kernel_rfl, fun L a1 w1 n' h => ⟨_, rfl, run_assign (.tmp 23) rfl (h.dep n' 9 23 (by kernel_rfl) rfl)⟩⟩
      · exact .inl ⟨by kernel_rfl, fun L a1 w1 n' h => ⟨_, rfl, run_assign (.const (.int .i64 0)) rfl rfl⟩⟩
    case heA =>
      intro V w5 hV hJ
      have h4 : V 10 = .slice f.A f.n f.c := hV 10 4 rfl
      have h5 : V 11 = .int .i64 0 := hV 11 5 rfl
      have b5 : Below w2.heap.size w2 w5 := hJ
      clear hV hJ
      simp only [putOps, List.setIfInBounds_toArray, List.set_cons_succ, List.set_cons_zero, Nat.reduceAdd]
      rw [h4, h5]
      refine hK1 _ _ ?_
      go_wp2_with fail
      go_ret2
      exact ⟨f.A, f.c, rfl, (HBs.out.below b5).up b5.size, HB1.out.trans (b5.mono HB1.out.size)⟩
  · have hz := hzz (by decide)
    clear hzz
    have HZ := hide hz
    clear hz
    go_enter Try.func44, Try.ntmps44
    go_wp2_with fail
    refine HA.out.mono ?_
    rintro e w1 ⟨rfl, b1⟩
    go_wp2_with fail
    go_ret2
    rw [HZ.out]
    exact ⟨none, 0, rfl, bs_nil _ _ 0 _, b1⟩
  · have hz := hzz (by decide)
    clear hzz
    have HZ := hide hz
    clear hz
    go_enter Try.func44, Try.ntmps44
    go_wp2_with fail
    refine HA.out.mono ?_
    rintro e w1 ⟨rfl, b1⟩
    go_wp2_with fail
    go_ret2
    rw [HZ.out]
    exact ⟨none, 0, rfl, bs_nil _ _ 0 _, b1⟩
  · have hz := hzz (by decide)
    clear hzz
    have HZ := hide hz
    clear hz
    go_enter Try.func44, Try.ntmps44
    go_wp2_with fail
    refine HA.out.mono ?_
    rintro e w1 ⟨rfl, b1⟩
    go_wp2_with fail
    go_ret2
    rw [HZ.out]
    exact ⟨none, 0, rfl, bs_nil _ _ 0 _, b1⟩
end Go.Proofs.Ytaflmiopaiigbaa

/-
  The document's disk: Append. Own work.
-/
namespace Go.Proofs.Ytaflmiopaiigbaa
open Go.RowKit Go.Maps Go.ChangeMaps
set_option maxRecDepth 100000 in
set_option maxHeartbeats 2000000 in
theorem rboth_any (w : World) (A A' : Option Addr) (m c m' c' : Nat) (xs ys : List Int) (hx : Bs w w.heap.size A m xs) (hy : Bs w w.heap.size A' m' ys) (hm : m ≤ 2000000) (hm' : m' ≤ 2000000) :
    Calls Try.prog 69 #[.slice A m c, .slice A' m' c'] w fun e w' => ∃ v, e = .returned v ∧ w'.ownsRow w.heap.size 5 1 v (m + m') (bv (xs ++ ys)) ∧ Below w.heap.size w w' := by
  obtain ⟨i0, hi, hz, hsz, hby⟩ := byte_info
  have own0 : w.ownsRow w.heap.size 5 1 (.slice none 0 0) 0 (bv []) := World.ownsRow_nil _ _ _ _
  have hl1 : 0 + m ≤ 140737488355328 := by omega
  have hl2 : 0 + m + m' ≤ 140737488355328 := by omega
  go_enter Try.func69, Try.ntmps69
  go_wp2_with (first
    | (at_builtin; refine wpList_append_bs (o := ⟨some 8, _, _, _, _, _⟩) rfl (.tmp 6) (.tmp 7) 35 rfl w.heap.size 5 i0 Try.underlying35 hi hz hsz hby (.slice none 0 0) 0 [] rfl own0 w.heap.size A m c xs rfl hx hl1 (Nat.le_refl _) ?_; intro v1 w1 own1 hg1; have b1 := grown_below (Below.refl _ _) own0 (Nat.le_refl _) hg1; have hy1 := (hy.below b1).up b1.size)
    | (at_builtin; refine wpList_append_bs (o := ⟨some 11, _, _, _, _, _⟩) rfl (.tmp 9) (.tmp 10) 35 rfl w.heap.size 5 i0 Try.underlying35 hi hz hsz hby v1 (0 + m) _ rfl own1 w1.heap.size A' m' c' ys rfl hy1 hl2 b1.size ?_; intro v2 w2 own2 hg2; have b2 := grown_below b1 own1 (Nat.le_refl _) hg2))
  go_ret
  refine ⟨_, rfl, ?_, b2⟩
  have := own2
  rw [Nat.zero_add, List.nil_append] at this
  exact this
/-- The file that an Append made. -/
def ApF (w w' : World) (ff : FV) (ys : List Int) (f' : FV) : Prop := f'.n = ff.n + ys.length ∧ f'.xs = ff.xs ++ ys ∧ f'.kept = ff.kept ∧ f'.n ≤ f'.c ∧ ∀ k ∈ f'.bk, w.heap.size ≤ k ∧ k < w'.heap.size
/-- What an Append of the document's disk leaves. -/
def ApRes (w w' : World) (gq gr : Nat) (er : Int) (on : Bool) (fuse : Int) (gs : Fs) (n : Nm) (ff : FV) (ys : List Int) : Prop := ∃ f' : FV, RActed w w' gq gr er on fuse gs (putF gs n f') ∧ (er = 0 → actE on fuse = 0 → ApF w w' ff ys f')
theorem ApRes.err {w w' : World} {gq gr : Nat} {er : Int} {on : Bool} {fuse : Int} {gs : Fs} {n : Nm} {ff : FV} {ys : List Int} (hp : RPw w gq (!on) (max fuse (-1))) (h : RFs w gr (ptr gq) gs) (he : er ≠ 0) (b : Below w.heap.size w w') : ApRes w w' gq gr er on fuse gs n ff ys := ⟨zV, RActed.err hp h he b, fun h => absurd h he⟩
theorem lst_buts3 {w w' : World} {S : List Nat} {v : Value} {gs : Fs} (l : LstAt w w.heap.size 0 v gs) (hb : Buts S w w') (h1 : ∀ k, v.ownBlock = some k → k ∉ S) (h3 : ∀ p ∈ gs, 0 < p.2.n → ∀ k ∈ p.2.bk, k ∉ S) : LstAt w' w'.heap.size 0 v gs :=
  ⟨⟨l.row.1, l.row.2.imp id fun ⟨g, cap, cur, e1, q1, hg, q2⟩ => ⟨g, cap, cur, e1, q1, (hb.block g (Array.getElem?_eq_some_iff.1 hg).1 (h1 g (by rw [e1]; rfl))).trans hg, q2⟩⟩, fun p hp => (bs_buts (c := p.2.c) (l.bs p hp) hb (h3 p hp) (Nat.le_refl _)).up hb.size⟩
theorem buts_new {S : List Nat} {g : Nat} {w a b : World} (h1 : Buts S w a) (h2 : Buts [g] a b) (hg : w.heap.size ≤ g) : Buts S w b :=
  ⟨h2.os.trans h1.os, h2.tape.trans h1.tape, h2.output.trans h1.output, Nat.le_trans h1.size h2.size, fun k hk hn => (h2.block k (Nat.lt_of_lt_of_le hk h1.size) (by simp; omega)).trans (h1.block k hk hn)⟩
theorem own_ap {w : World} {T n : Nat} {v : Value} {xs : List Int} (kept : Int) (h : w.ownsRow T 5 1 v n (bv xs)) : ∃ f : FV, v = .slice f.A f.n f.c ∧ f.n = n ∧ f.xs = xs ∧ f.kept = kept ∧ Bs w w.heap.size f.A f.n f.xs ∧ f.n ≤ f.c ∧ ∀ k ∈ f.bk, T ≤ k ∧ k < w.heap.size := by
  obtain ⟨f, e1, e2, e3, e4, ho⟩ := own_fv kept h
  refine ⟨f, e1, e2, e3, e4, owf_bs ho, owf_cap ho, fun k hk => ?_⟩
  obtain ⟨h1, h2, _⟩ := owf_lo ho k hk
  exact ⟨h1, h2⟩
theorem set1c {w : World} {t g : Nat} {x y z u : Value} (h : Row w t g ([x, y, z].set 1 u)) : Row w t g [x, u, z] := h
theorem szBy : (Try.prog.info? 35).map (·.size) = some 1 := by kernel_rfl
theorem appE_big {k m : Nat} (h : 1048576 < k + m) : appE 0 k m = 10 := by unfold appE; rw [if_pos rfl, if_pos h]
theorem appE_ok {k m : Nat} (h : ¬ 1048576 < k + m) : appE 0 k m = 0 := by unfold appE; rw [if_pos rfl, if_neg h]
theorem appE_err {e : Int} {k m : Nat} (h : e ≠ 0) : appE e k m = e := by unfold appE; rw [if_neg h]
def SApA (gq gr bb oo c0 i m c : Nat) (A : Option Addr) (gs : Fs) (n : Nm) (f : FV) (opn : Nat) (v : Value) : Prop :=
  match opn with
  | 0 | 1 | 4 => v = ptr gr
  | 2 => v = .pointer (some ⟨gr, 1, none⟩)
  | 3 => v = .slice (some ⟨bb, oo, none⟩) gs.length c0
  | 5 => v = encStr n
  | 6 => v = .int .i64 (i : Int)
  | 7 => v = .pointer (some ⟨bb, oo + i * 3, none⟩)
  | 8 => v = .agg [encStr n, .slice f.A f.n f.c, .int .i64 f.kept].toArray
  | _ => True

def SApB (gq gr gF bb oo c0 m c : Nat) (A : Option Addr) (gs : Fs) (n : Nm) (f2 : FV) (opn : Nat) (v : Value) : Prop :=
  match opn with
  | 0 | 1 | 2 | 7 => v = ptr gr
  | 3 | 8 => v = .pointer (some ⟨gr, 1, none⟩)
  | 4 => v = .slice (some ⟨bb, oo, none⟩) gs.length c0
  | 5 => v = .agg [encStr n, .slice f2.A f2.n f2.c, .int .i64 f2.kept].toArray
  | _ => True

set_option maxRecDepth 100000 in
set_option maxHeartbeats 8000000 in
theorem rappend_any (w : World) (gq gr : Nat) (on : Bool) (fuse : Int) (gs : Fs) (n : Nm) (A : Option Addr) (m c : Nat) (ys : List Int) (hp : RPw w gq (!on) (max fuse (-1))) (h : RFs w gr (ptr gq) gs) (hf : isI fuse) (hl : gs.length ≤ 64) (hr : riseF gs) (hy : Bs w w.heap.size A m ys) (hm : m ≤ 1000000) (hbd : ∀ p ∈ gs, p.2.n ≤ 1048576) :
    Calls Try.prog 45 #[ptr gr, encStr n, .slice A m c] w fun e w' => e = .returned (.int .i64 (dE (appE (findR gs n [] on).2 (findR gs n [] on).1.n m) on fuse)) ∧ ApRes w w' gq gr (appE (findR gs n [] on).2 (findR gs n [] on).1.n m) on fuse gs n (findR gs n [] on).1 ys := by
  have HA := hide (ask_any w gq gr on true fuse gs n n hp h (by omega))
  rw [ask_find] at HA
  obtain ⟨f, fe, hfr⟩ : ∃ ff fe, findR gs n [] on = (ff, fe) := ⟨_, _, rfl⟩
  have hsp := find_split hfr
  rw [hfr] at HA ⊢
  simp only at HA ⊢
  have HH := hide (And.intro hp h)
  have HR := hide hr
  have HF := hide hf
  have HY := hide hy
  have HBd := hide hbd
  clear hp h hr hf hfr hy hbd
  rcases hsp with ⟨rfl, hat⟩ | rfl | rfl | rfl
  · have HAt := hide hat
    have hfn := HBd.out _ (atF_mem hat)
    simp only at hfn
    have HE : (1048576 < f.n + m ∧ appE 0 f.n m = 10) ∨ (¬ 1048576 < f.n + m ∧ appE 0 f.n m = 0) := by
      by_cases h : 1048576 < f.n + m
      · exact .inl ⟨h, appE_big h⟩
      · exact .inr ⟨h, appE_ok h⟩
    obtain ⟨er, her⟩ : ∃ er, appE 0 f.n m = er := ⟨_, rfl⟩
    rw [her] at HE ⊢
    clear hat her
    have HE := hide HE
    go_enter Try.func45, Try.ntmps45
    go_wp2_with fail
    refine HA.out.mono ?_
    rintro e w2 ⟨rfl, b1⟩
    have hR2 := HH.out.2.later b1
    have HAct := hide (show ∀ X, Below w2.heap.size w2 X → Calls Try.prog 24 #[ptr gq] X fun e w' => e = .returned (.int .i64 (actE on fuse)) ∧ RPw w' gq (!(on && actOn on fuse)) (max (actF on fuse) (-1)) ∧ RFs w' gr (ptr gq) gs ∧ Buts [gq, gr] X w' ∧ Only gq X w' from fun X b => (rAct_any X gq on fuse (Row.later (Row.later HH.out.1 b1) b) HF.out).mono fun e w' ⟨h1, h2, h3⟩ => ⟨h1, h2, (hR2.later b).gq (Row.later (Row.later HH.out.1 b1) b) h3, Buts.only h3 (by simp), h3⟩)
    have HNP := hide (show gr ≠ gq from by
      obtain ⟨_, _, rr, _⟩ := hR2
      exact rne rr (Row.later HH.out.1 b1) (by decide))
    obtain ⟨i, hix, hgi⟩ := idx_some HAt.out
    have HFd : ∀ X, Below w2.heap.size w2 X → Calls Try.prog 67 #[ptr gr, encStr n] X fun e w' => e = .returned (.int .i64 (i : Int)) ∧ Below X.heap.size X w' := fun X b => by
      have := (hR2.later b).find (n := n) (by omega)
      rwa [hix] at this
    have HR2 := hide hR2
    obtain ⟨AL, c0, r0, l0⟩ := hR2
    obtain ⟨A', c', e', hFl, _⟩ := l0.fl (Nat.le_refl _)
    injection e' with q1 q2 q3
    subst q1
    have hi : i < gs.length := (List.getElem?_eq_some_iff.1 hgi).1
    obtain ⟨bb, oo, rfl, hbb, hcc⟩ := hFl.2.1 (by omega)
    have hcf := hcc i _ hgi
    have HC : ∀ X, Below w2.heap.size w2 X → ∀ j v, ([encStr n, .slice f.A f.n f.c, .int .i64 f.kept] : List Value)[j]? = some v → X.cell? ⟨bb, oo + i * 3 + j, none⟩ = some v := fun X hX j v hv => (hX.cell (p := ⟨bb, oo + i * 3 + j, none⟩) hbb).trans (hcf j v hv)
    have HBs := hide (show Bs w2 w2.heap.size f.A f.n f.xs from l0.bs _ (List.mem_of_getElem? hgi))
    have HFm := hide (List.mem_of_getElem? hgi)
    have HB1 := hide b1
    clear hix hgi l0 hFl hcc hcf b1
    go_wp2_with fail
    rename_i K1 hK1
    refine wp_region_vals [6, 9, 10] (SApA gq gr bb oo c0 i m c A gs n f) (JA w2 48 [.string ByteArray.empty, .slice none 0 0, .int .i64 0] [encStr n, .slice f.A f.n f.c, .int .i64 f.kept] 1 2) (by kernel_rfl) (by kernel_rfl) (by kernel_rfl) (by kernel_rfl) (by kernel_rfl) ⟨(Below.refl _ _).drew, fun h => absurd h (by decide)⟩ ?obsA ?heA
    case obsA =>
      refine ⟨?_, ?_, ?_, ?_, ?_, ?_, ?_, ?_, ?_, ?_, ?_, trivial⟩
      · exact .inl ⟨by kernel_rfl, fun L a1 w1 n' h => ⟨_, rfl, run_move (.tmp 0) rfl (h.var n' 0 (by kernel_rfl))⟩⟩
      · refine .inl ⟨by kernel_rfl, fun L a1 w1 n' h => ⟨ptr gr, rfl, ?_⟩⟩
        have e0 : a1.eval (.tmp 16) = _ := h.dep n' 0 16 (by kernel_rfl) rfl
        unfold execOp
        simp only [e0]
        go_simp
      · refine .inl ⟨by kernel_rfl, fun L a1 w1 n' h => ⟨.pointer (some ⟨gr, 1, none⟩), rfl, ?_⟩⟩
        have e0 : a1.eval (.tmp 17) = _ := h.dep n' 1 17 (by kernel_rfl) rfl
        unfold execOp
        simp only [e0]
        go_simp
      · exact .inl ⟨by kernel_rfl, fun L a1 w1 n' h => ⟨_, rfl, run_loadA 32 (.tmp 18) ⟨gr, 1, none⟩ rfl Try.isAgg32 (h.dep n' 2 18 (by kernel_rfl) rfl) ((Row.later r0 h.inv.1).cell (j := 1) (v := .slice (some ⟨bb, oo, none⟩) gs.length c0) rfl)⟩⟩
      · exact .inl ⟨by kernel_rfl, fun L a1 w1 n' h => ⟨_, rfl, run_move (.tmp 0) rfl (h.var n' 0 (by kernel_rfl))⟩⟩
      · exact .inl ⟨by kernel_rfl, fun L a1 w1 n' h => ⟨_, rfl, run_move (.tmp 1) rfl (h.var n' 1 (by kernel_rfl))⟩⟩
      · refine .inr fun L a1 w1 n' h K hK => ?_
        have e0 : a1.eval (.tmp 20) = ptr gr := h.dep n' 4 20 (by kernel_rfl) rfl
        have e1 : a1.eval (.tmp 21) = encStr n := h.dep n' 5 21 (by kernel_rfl) rfl
        refine st_call 67 _ _ #[ptr gr, encStr n] rfl Try.call67 ?_ (HFd w1 h.inv.1) ?_
        · simp only [List.map_toArray, List.map_cons, List.map_nil, e0, e1]
        · rintro e w3 ⟨rfl, b9⟩
          exact ⟨_, rfl, hK _ w3 rfl (JA.grow h.inv b9 rfl rfl rfl)⟩
      · exact .inl ⟨by kernel_rfl, fun L a1 w1 n' h => ⟨_, rfl, run_indexS3 32 (.tmp 19) (.tmp 22) 48 bb oo gs.length c0 i 3 rfl Try.underlying32 sizeFile (h.dep n' 3 19 (by kernel_rfl) rfl) (h.dep n' 6 22 (by kernel_rfl) rfl) hi⟩⟩
      · exact .inl ⟨by kernel_rfl, fun L a1 w1 n' h => ⟨_, rfl, run_loadC3 48 (.tmp 23) bb (oo + i * 3) [encStr n, .slice f.A f.n f.c, .int .i64 f.kept] _ rfl (h.dep n' 7 23 (by kernel_rfl) rfl) (HC w1 h.inv.1) Try.underlying48 rfl (szApi n f)⟩⟩
      · refine .inr fun L a1 w1 n' h K hK => ?_
        have no : L.getD 10 false = false := n'.later (by kernel_rfl)
        refine st_alloc 48 _ _ rfl zApi rfl ?_
        intro g7 w3 r7 a7 l7 b7
        exact hK _ _ trivial (JA.made h.inv b7 r7 a7 rfl no)
      · refine .inr fun L a1 w1 n' h K hK => ?_
        have yes : L.getD 9 false = true := n'.dep (by kernel_rfl)
        have no : L.getD 10 false = false := n'.not_yet
        obtain ⟨g7, p7, n7, r7⟩ := h.inv.2 yes
        have r7' : Row w1 48 g7 (bif L.getD 10 false then [encStr n, .slice f.A f.n f.c, .int .i64 f.kept] else _) := r7
        rw [no, cond_false] at r7'
        refine st_store_row 48 (.tmp 8) (.tmp 24) g7 48 _ ([encStr n, .slice f.A f.n f.c, .int .i64 f.kept]) rfl p7 (h.dep n' 8 24 (by kernel_rfl) rfl) r7' (szApi n f) (rfl) (one_api n f) ?_
        intro w3 r3 o3
        exact hK undef w3 trivial (JA.filled h.inv o3 n7 r3 p7 rfl)
    case heA =>
      intro V w5 hV hJ
      obtain ⟨gF, e4, p4, rF0⟩ := hJ.2 rfl
      have e4 : V 9 = ptr gF := e4
      have rF0 : Row w5 48 gF [encStr n, .slice f.A f.n f.c, .int .i64 f.kept] := rF0
      have b5 : Below w2.heap.size w2 w5 := hJ.1
      clear hV hJ
      simp only [putOps, List.setIfInBounds_toArray, List.set_cons_succ, List.set_cons_zero, Nat.reduceAdd]
      rw [e4]
      refine hK1 _ _ ?_
      generalize V 0 = v0
      generalize V 1 = v1
      generalize V 2 = v2
      generalize V 3 = v3
      generalize V 4 = v4
      generalize V 5 = v5
      generalize V 6 = v6
      generalize V 7 = v7
      generalize V 8 = v8
      generalize V 10 = v10
      have cF1 := rF0.cell (j := 1) rfl
      clear e4
      have k3 := (Row.later r0 b5).cell (j := 0) rfl
      rcases HE.out with ⟨hbig, rfl⟩ | ⟨hbig, rfl⟩
      · have hd1 : decide ((1048576 : Int) < (f.n : Int) + (m : Int)) = true := by simp; omega
        have HB5 := hide (HB1.out.trans (b5.mono HB1.out.size))
        clear hbig b5 rF0 HFd HC
        go_wp2_with fail
        go_ret
        exact ⟨rfl, ApRes.err HH.out.1 HH.out.2 (by decide) HB5.out⟩
      · have hd1 : decide ((1048576 : Int) < (f.n : Int) + (m : Int)) = false := by simp; omega
        have HB5 := hide (HB1.out.trans (b5.mono HB1.out.size))
        have HAc := hide (HAct.out w5 b5)
        have hfn2 : f.n ≤ 2000000 := by omega
        clear HFd HC HAct
        go_wp2_with fail
        refine HAc.out.mono ?_
        rintro e w6 ⟨rfl, hp6, hR6, bu6, o6⟩
        have B6 := hide ((Buts.of HB5.out [gq, gr]).trans bu6)
        rcases actE_cases on fuse with ha | ha
        · rw [ha]
          have hneF : gF ≠ gq := fun e => by
            have h1 := (Row.later (Row.later HH.out.1 HB1.out) b5)
            exact rne rF0 h1 (by decide) e
          have rF6 := rF0.only o6 hneF
          have cF6 := rF6.cell (j := 1) rfl
          have b56 : Below w2.heap.size w2 w6 ∨ True := .inr trivial
          have HX := hide (And.intro hp6 (And.intro hR6 ha))
          have r06 := (Row.later r0 b5).only o6 HNP.out
          have l06 : LstAt w6 w6.heap.size 0 (.slice (some ⟨bb, oo, none⟩) gs.length c0) gs := by
            obtain ⟨AQ, cQ, rQ, lQ⟩ := hR6
            have hq := rQ.symm.trans r06
            simp at hq
            obtain ⟨rfl, rfl⟩ := hq
            exact lQ
          have hBs6 : Bs w6 w6.heap.size f.A f.n f.xs := l06.bs _ HFm.out
          have hY5 : Bs w5 w5.heap.size A m ys := (HY.out.below HB5.out).up HB5.out.size
          have hp5 := Row.later (Row.later HH.out.1 HB1.out) b5
          have hY6 : Bs w6 w6.heap.size A m ys := (bs_buts (c := c) hY5 (Buts.only (S := [gq]) o6 (by simp)) (fun h0 k hk => by simp; exact bs_not_row (c := c) hY5 h0 hp5 (by intro v hv x e; simp at hv; rcases hv with rfl | rfl <;> simp at e) k hk) (Nat.le_refl _)).up (Nat.le_of_eq o6.size.symm)
          have HL6 := hide l06
          have p6 : w2.heap.size ≤ gF := p4
          have hs6 : w.heap.size ≤ w6.heap.size := B6.out.size
          have HLy := hide hY6.1
          clear hp6 hR6 ha bu6 o6 rF0 cF1 b5 l06 hY5 hp5 r0 hneF HBs b56
          go_wp2_with fail
          refine (rboth_any w6 f.A A f.n f.c m c f.xs ys hBs6 hY6 hfn2 (by omega)).mono ?_
          rintro e w7 ⟨v7, rfl, own7, b7⟩
          obtain ⟨f2, rfl, g1, g2, g3, hBs7, g4, g5⟩ := own_ap f.kept own7
          have rF7 := Row.later rF6 b7
          have HG := hide (And.intro g1 (And.intro g2 (And.intro g3 (And.intro g4 g5))))
          have hs7 := b7.size
          clear g1 g2 g3 g4 g5 own7
          go_wp2_with (first
            | (with_reducible refine wl_store rfl 35 (.tmp 43) (.tmp 42) gF 1 48 [encStr n, .slice f.A f.n f.c, .int .i64 f.kept] (.slice f2.A f2.n f2.c) rfl szBy rfl rfl rF7 (lt3 _ _ _ (by decide)) rfl ?_; intro w8 rF8 o8))
          have rF : Row w8 48 gF [encStr n, .slice f2.A f2.n f2.c, .int .i64 f2.kept] := by rw [HG.out.2.2.1]; exact set1c rF8
          have bu8 : Buts [gF] w6 w8 := (Buts.of b7 _).trans (Buts.only o8 (by simp))
          have r0 : Row w8 34 gr [ptr gq, .slice (some ⟨bb, oo, none⟩) gs.length c0] := r06.buts bu8 (by simp; exact rne r06 rF6 (by decide))
          have l08 : LstAt w8 w8.heap.size 0 (.slice (some ⟨bb, oo, none⟩) gs.length c0) gs := by
            refine lst_buts3 HL6.out bu8 (fun k hk => by
              simp [Value.ownBlock] at hk
              simp
              omega) (fun p hp2 h0 k hk => by
              simp
              exact bs_not_row (c := p.2.c) (HL6.out.bs p hp2) h0 rF6 (by intro v hv x e; simp at hv; rcases hv with rfl | rfl | rfl <;> simp [encStr] at e) k hk)
          have hBs8 : Bs w8 w8.heap.size f2.A f2.n f2.xs := by
            refine (bs_buts (c := f2.c) hBs7 (Buts.only (S := [gF]) o8 (by simp)) (fun h0 k hk => by
              have := (HG.out.2.2.2.2 k hk).1
              have := rF6.lt
              simp
              omega) (Nat.le_refl _)).up (Nat.le_of_eq o8.size.symm)
          have HPut : ∀ X, Below w8.heap.size w8 X → Calls Try.prog 53 #[.slice (some ⟨bb, oo, none⟩) gs.length c0, .agg #[encStr n, .slice f2.A f2.n f2.c, .int .i64 f2.kept]] X fun e w' => ∃ A' c', e = .returned (.slice A' (putF gs n f2).length c') ∧ LstAt w' w'.heap.size 0 (.slice A' (putF gs n f2).length c') (putF gs n f2) ∧ Below X.heap.size X w' := fun X b =>
            put_at (lst_on l08 b) HR.out (by omega) n f2 ((hBs8.below b).up b.size)
          have HBu := hide bu8
          have HP8 := hide (show RPw w8 gq (!(on && actOn on fuse)) (max (actF on fuse) (-1)) from HX.out.1.buts bu8 (by simp; exact rne HX.out.1 rF6 (by decide)))
          have hs8 := o8.size
          have hgF6 := rF6.lt
          clear rF8 o8 rF7 rF6 b7 bu8 l08 hBs8 hBs7 r06 hBs6 hY6 cF6 HL6
          go_wp2_with fail
          rename_i K2 hK2
          refine wp_region_vals [6, 9] (SApB gq gr gF bb oo c0 m c A gs n f2) (JPt w8 (putF gs n f2) (fun w' => RFs w' gr (ptr gq) (putF gs n f2) ∧ Buts [gr] w8 w')) (by kernel_rfl) (by kernel_rfl) (by kernel_rfl) (by kernel_rfl) (by kernel_rfl) (JPt.start _ _ _ _) ?obsB ?heB
          case obsB =>
            refine ⟨?_, ?_, ?_, ?_, ?_, ?_, ?_, ?_, ?_, ?_, trivial⟩
            · exact .inl ⟨by kernel_rfl, fun L a1 w1 n' h => ⟨_, rfl, run_move (.tmp 0) rfl (h.var n' 0 (by kernel_rfl))⟩⟩
            · exact .inl ⟨by kernel_rfl, fun L a1 w1 n' h => ⟨_, rfl, run_move (.tmp 0) rfl (h.var n' 0 (by kernel_rfl))⟩⟩
            · refine .inl ⟨by kernel_rfl, fun L a1 w1 n' h => ⟨ptr gr, rfl, ?_⟩⟩
              have e0 : a1.eval (.tmp 45) = _ := h.dep n' 1 45 (by kernel_rfl) rfl
              unfold execOp
              simp only [e0]
              go_simp
            · refine .inl ⟨by kernel_rfl, fun L a1 w1 n' h => ⟨.pointer (some ⟨gr, 1, none⟩), rfl, ?_⟩⟩
              have e0 : a1.eval (.tmp 46) = _ := h.dep n' 2 46 (by kernel_rfl) rfl
              unfold execOp
              simp only [e0]
              go_simp
            · exact .inl ⟨by kernel_rfl, fun L a1 w1 n' h => ⟨_, rfl, run_loadA 32 (.tmp 47) ⟨gr, 1, none⟩ rfl Try.isAgg32 (h.dep n' 3 47 (by kernel_rfl) rfl) ((Row.later r0 (h.inv.1 ((bits_at rfl).trans (n'.later (by kernel_rfl))))).cell (j := 1) (v := .slice (some ⟨bb, oo, none⟩) gs.length c0) rfl)⟩⟩
            · exact .inl ⟨by kernel_rfl, fun L a1 w1 n' h => ⟨_, rfl, run_loadRow 48 (.tmp 8) gF 48 _ _ rfl (h.var n' 8 (by kernel_rfl)) (Row.later rF (h.inv.1 ((bits_at rfl).trans (n'.later (by kernel_rfl))))) Try.underlying48 rfl (szApi n f2)⟩⟩
            · refine .inr fun L a1 w1 n' h K hK => ?_
              have no9 : L.getD 9 false = false := n'.later (by kernel_rfl)
              have b9 := h.inv.1 ((bits_at rfl).trans no9)
              have y0 : a1.eval (.tmp 48) = .slice (some ⟨bb, oo, none⟩) gs.length c0 := h.dep n' 4 48 (by kernel_rfl) rfl
              have y1 : a1.eval (.tmp 49) = .agg [encStr n, .slice f2.A f2.n f2.c, .int .i64 f2.kept].toArray := h.dep n' 5 49 (by kernel_rfl) rfl
              refine st_call 53 _ _ #[.slice (some ⟨bb, oo, none⟩) gs.length c0, .agg #[encStr n, .slice f2.A f2.n f2.c, .int .i64 f2.kept]] rfl Try.call53 ?_ (HPut w1 b9) ?_
              · simp only [List.map_toArray, List.map_cons, List.map_nil, y0, y1]
              · rintro e w3 ⟨A4, c4, rfl, hL4, b4⟩
                exact ⟨_, rfl, hK _ w3 trivial ⟨fun _ => b9.trans (b4.mono b9.size), fun _ _ => ⟨A4, c4, rfl, hL4⟩, fun h0 => absurd (no9.symm.trans h0) (by decide)⟩⟩
            · refine .inl ⟨by kernel_rfl, fun L a1 w1 n' h => ⟨ptr gr, rfl, ?_⟩⟩
              have e0 : a1.eval (.tmp 44) = _ := h.dep n' 0 44 (by kernel_rfl) rfl
              unfold execOp
              simp only [e0]
              go_simp
            · refine .inl ⟨by kernel_rfl, fun L a1 w1 n' h => ⟨.pointer (some ⟨gr, 1, none⟩), rfl, ?_⟩⟩
              have e0 : a1.eval (.tmp 51) = _ := h.dep n' 7 51 (by kernel_rfl) rfl
              unfold execOp
              simp only [e0]
              go_simp
            · refine .inr fun L a1 w1 n' h K hK => ?_
              have yes6 : L.getD 6 false = true := n'.dep (by kernel_rfl)
              have no9 : L.getD 9 false = false := n'.not_yet
              have b9 := h.inv.1 ((bits_at rfl).trans no9)
              obtain ⟨A4, c4, ev, hL4⟩ := h.inv.2.1 ((bits_at rfl).trans yes6) ((bits_at rfl).trans no9)
              have y2 : a1.eval (.tmp 50) = .slice A4 _ c4 := ev
              have r9 := Row.later r0 b9
              refine st_store 32 (.tmp 52) (.tmp 50) gr 1 34 [ptr gq, .slice (some ⟨bb, oo, none⟩) gs.length c0] _ rfl szFl (h.dep n' 8 52 (by kernel_rfl) rfl) y2 r9 (lt2 _ _ (by decide)) rfl ?_
              intro w3 r3 o3
              exact hK undef w3 trivial ⟨fun h0 => absurd (show true = false from h0) (by decide), fun _ h0 => absurd (show true = false from h0) (by decide), fun _ => ⟨RFs.set r9 (nonu_ptr gq) (nonu_sl _ _ _) hL4 o3 (set1 r3), (Buts.of b9 _).trans (Buts.only o3 (by simp))⟩⟩
          case heB =>
            intro V w9 hV hJ
            obtain ⟨hS9, bu9⟩ := hJ.2.2 rfl
            clear hV hJ
            simp only [putOps, List.setIfInBounds_toArray, List.set_cons_succ, List.set_cons_zero, Nat.reduceAdd]
            refine hK2 _ _ ?_
            have hs9 := bu9.size
            go_wp2_with fail
            go_ret
            refine ⟨by unfold dE; (rw [if_pos rfl, HX.out.2.2]) <;> rfl, f2, RActed.done HX.out.2.2 (HP8.out.buts bu9 (by simp; exact rne HP8.out r0 (by decide))) hS9 ?_, fun _ _ => ⟨?_, HG.out.2.1, HG.out.2.2.1, HG.out.2.2.2.1, fun k hk => ?_⟩⟩
            · exact (buts_new B6.out HBu.out (Nat.le_trans HB1.out.size p6)).trans (bu9.sub (by simp))
            · rw [HG.out.1, HLy.out]
            · have := HG.out.2.2.2.2 k hk
              omega
        · rw [ha]
          have HX := hide (And.intro hp6 (And.intro hR6 ha))
          clear hp6 hR6 ha bu6 o6 rF0 cF1 b5
          go_wp2_with fail
          go_ret
          exact ⟨by unfold dE; (rw [if_pos rfl, HX.out.2.2]) <;> rfl, zV, RActed.off HX.out.2.2 HX.out.1 HX.out.2.1 B6.out, fun _ h => absurd (h.symm.trans HX.out.2.2) (by decide)⟩
  · rw [appE_err (by decide)]
    go_enter Try.func45, Try.ntmps45
    go_wp2_with fail
    refine HA.out.mono ?_
    rintro e w1 ⟨rfl, b1⟩
    go_wp2_with fail
    go_ret
    exact ⟨rfl, ApRes.err HH.out.1 HH.out.2 (by decide) b1⟩
  · rw [appE_err (by decide)]
    go_enter Try.func45, Try.ntmps45
    go_wp2_with fail
    refine HA.out.mono ?_
    rintro e w1 ⟨rfl, b1⟩
    go_wp2_with fail
    go_ret
    exact ⟨rfl, ApRes.err HH.out.1 HH.out.2 (by decide) b1⟩
  · rw [appE_err (by decide)]
    go_enter Try.func45, Try.ntmps45
    go_wp2_with fail
    refine HA.out.mono ?_
    rintro e w1 ⟨rfl, b1⟩
    go_wp2_with fail
    go_ret
    exact ⟨rfl, ApRes.err HH.out.1 HH.out.2 (by decide) b1⟩
end Go.Proofs.Ytaflmiopaiigbaa

/-
  The document's disk: Crash. Own work.
-/
namespace Go.Proofs.Ytaflmiopaiigbaa
open Go.RowKit Go.Maps Go.ChangeMaps
theorem crash_snoc {gs : Fs} (cs : List Int) {i : Nat} {n : Nm} {f : FV} (h : gs[i]? = some (n, f)) : (crashF gs cs).take (i + 1) = (crashF gs cs).take i ++ [(n, tornV f (cs.getD i 0))] := by
  have hi := (List.getElem?_eq_some_iff.1 h).1
  have hl : (crashF gs cs).length = gs.length := crashTo_len _ _ _
  have hg : (crashF gs cs)[i]? = some (n, tornV f (cs.getD i 0)) := by
    unfold crashF crashTo
    rw [List.getElem?_mapIdx, h]
    simp [hi]
  rw [List.take_succ_eq_append_getElem (by omega)]
  congr 1
  have := List.getElem?_eq_getElem (l := crashF gs cs) (i := i) (by omega)
  rw [this] at hg
  injection hg with hg
  rw [hg]
theorem tornR_nil (d : Nat) : tornR 0 d = 0 := by
  unfold tornR
  have : IntKind.u64.wrap 0 = 0 := by decide
  rw [this]
  simp
theorem getD_off {cs : List Int} {i m : Nat} (hl : cs.length = m) (h : m ≤ i) : cs.getD i 0 = 0 := by
  rw [List.getD_eq_getElem?_getD, List.getElem?_eq_none (by omega)]
  rfl
theorem set0p {w : World} {t g : Nat} {x y u : Value} (h : Row w t g ([x, y].set 0 u)) : Row w t g [u, y] := h
theorem set2c {w : World} {t g : Nat} {x y z u : Value} (h : Row w t g ([x, y, z].set 2 u)) : Row w t g [x, y, u] := h
theorem run_len3 {P : Program} {w : World} {a : Act} {o : Oper} (T e : Nat) (hu : P.underlying T = some (.slice e)) (x : Operand) {A : Option Addr} {n c : Nat} (ho : o.op = .call { callee := .builtin .len, args := #[x], argTypes := #[T] }) (hx : a.eval x = .slice A n c) : (execOp a.eval o).run P w = .ok (.value (.int .i64 (n : Int))) w := by
  unfold execOp
  simp only [ho, resolve, invoke, builtin, Sem.run_bind, Sem.run_pure, Result.andThen_ok, List.map_toArray, List.map_cons, List.map_nil, hx]
  simp [Builtin.len_, run_underlying hu, goInt]
def SRcr (gF cb co m c i kk dd rr : Nat) (cut : Int) (n : Nm) (f : FV) (opn : Nat) (v : Value) : Prop :=
  match opn with
  | 0 => v = .slice (some ⟨cb, co, none⟩) m c
  | 1 => v = .int .i64 (i : Int)
  | 2 => v = .pointer (some ⟨cb, co + i * 1, none⟩)
  | 3 => v = .int .i64 cut
  | 4 => v = .int .u64 (IntKind.u64.wrap cut)
  | 5 => v = .pointer (some ⟨gF, 1, none⟩)
  | 6 => v = .slice f.A f.n f.c
  | 7 => v = .int .i64 (f.n : Int)
  | 8 => v = .pointer (some ⟨gF, 2, none⟩)
  | 9 => v = .int .i64 (kk : Int)
  | 10 => v = .int .i64 ((f.n : Int) - (kk : Int))
  | 11 => v = .int .i64 ((dd : Int) + 1)
  | 12 => v = .int .u64 ((dd : Int) + 1)
  | 13 => v = .int .u64 (rr : Int)
  | 14 | 15 => v = .int .i64 (rr : Int)
  | _ => True

theorem szF3 (n : Nm) (A : Option Addr) (m c : Nat) (k : Int) : (Try.prog.info? 48).map (·.size) = some [encStr n, Value.slice A m c, Value.int .i64 k].length := by kernel_rfl
theorem one3 (n : Nm) (A : Option Addr) (m c : Nat) (k : Int) : ∀ u ∈ [encStr n, Value.slice A m c, Value.int .i64 k], u.oneCell' = true := by
  intro u hu
  simp at hu
  rcases hu with rfl | rfl | rfl <;> rfl
set_option maxRecDepth 100000 in
set_option maxHeartbeats 8000000 in
theorem rcrash_any (w : World) (gq gr : Nat) (o : Bool) (x : Int) (gs : Fs) (A : Option Addr) (m c : Nat) (cs : List Int) (hc : IsAt w w.heap.size A m cs) (hp : RPw w gq o x) (h : RFs w gr (ptr gq) gs) (hl : gs.length ≤ 64) (hok : ∀ p ∈ gs, p.2.ok ∧ p.2.n ≤ p.2.c) :
    Calls Try.prog 42 #[ptr gr, .slice A m c] w fun e w' => e = .returned (.tuple #[]) ∧ RPw w' gq false (-1) ∧ RFs w' gr (ptr gq) (crashF gs cs) ∧ Buts [gq, gr] w w' := by
  obtain ⟨ip, hip, hpz, hps, hpb⟩ := file_info
  obtain ⟨AL, c0, r0, l0⟩ := h
  obtain ⟨A', c', e', hFl, _⟩ := l0.fl (Nat.le_refl _)
  injection e' with q1 q2 q3
  subst q1
  have HL := hide hFl
  have HL0 := hide l0
  have HOk := hide hok
  have HCs := hide hc
  have hcl := hc.1
  have zs3 : (Value.agg #[.string ByteArray.empty, .slice none 0 0, .int .i64 0]).cells.size = 3 := rfl
  have h03 : 0 < 3 := by decide
  have hl3 : ∀ (n : Nm) (A : Option Addr) (m c : Nat) (k : Int), ([encStr n, .slice A m c, .int .i64 k] : List Value).length = 1 * 3 := fun _ _ _ _ _ => rfl
  have hmA : ∀ k, k ≤ 1000 → k + 1 ≤ maxLen := fun k hk => by simp only [maxLen]; omega
  have hmB : ∀ k, k ≤ 1000 → (k + 1) * 48 ≤ 140737488355328 := fun k hk => by omega
  have hcln : (crashF gs cs).length = gs.length := crashTo_len _ _ _
  have HCl := hide hcln
  have HCL := hide hcl
  clear hFl hok hc l0 hcln hcl
  go_enter Try.func42, Try.ntmps42
  go_wp2_with fail
  go_loopw [4, 5] (fun lv iv wr => ∃ (i : Nat) (out : Fs), i ≤ gs.length ∧ iv = .int .i64 i ∧ (crashF gs cs).take i = out ∧ LstAt wr w.heap.size w.heap.size lv out ∧ Below w.heap.size w wr) (fun _ iv _ => gs.length - (intOf iv).toNat)
  case atStart => exact ⟨0, [], Nat.zero_le _, rfl, rfl, LstAt.nil _ _ _, Below.refl _ _⟩
  case round =>
    obtain ⟨i, out, hi, rfl, hst, hO, bW⟩ := hrel
    have hol : out.length ≤ i := by
      rw [← hst, List.length_take]
      omega
    have hO1 : out.length ≤ 1000 := by omega
    have k1 := (Row.later r0 bW).cell (j := 1) rfl
    by_cases hlt : i < gs.length
    · obtain ⟨p, hgi⟩ : ∃ p, gs[i]? = some p := ⟨_, List.getElem?_eq_getElem (by omega)⟩
      obtain ⟨n, f⟩ := p
      have hsn := crash_snoc cs hgi
      rw [hst] at hsn
      obtain ⟨cut, hcut⟩ : ∃ cut, cut = cs.getD i 0 := ⟨_, rfl⟩
      rw [← hcut] at hsn
      have HSn := hide hsn
      have HCu := hide hcut
      obtain ⟨bb, oo, rfl, hbb, hcc⟩ := HL.out.2.1 (by omega)
      have hmem := List.mem_of_getElem? hgi
      have hcw : ∀ j v, ([encStr n, .slice f.A f.n f.c, .int .i64 f.kept] : List Value)[j]? = some v → wr.cell? ⟨bb, oo + i * 3 + j, none⟩ = some v := fun j v hv => (bW.cell (p := ⟨bb, oo + i * 3 + j, none⟩) hbb).trans (hcc i _ hgi j v hv)
      obtain ⟨⟨hk0, hk1, hk2⟩, hnc⟩ := HOk.out _ hmem
      have HBs := hide (show Bs w w.heap.size f.A f.n f.xs from HL0.out.bs _ hmem)
      obtain ⟨kk, hkk⟩ : ∃ kk : Nat, f.kept = (kk : Int) := ⟨f.kept.toNat, by simp only at hk0; omega⟩
      have HKk := hide hkk
      simp only at hk1 hk2 hnc
      rw [hkk] at hcw
      have hkn : kk ≤ f.n := by omega
      have hxl := HBs.out.1
      have HS := sizeFile
      have hd1 : decide ((i : Int) < (gs.length : Int)) = true := by simp; omega
      clear hsn hcut hcc hgi hmem hk0 hk1 hkk hst
      by_cases hcm : i < m
      · have hd2 : decide ((i : Int) < (m : Int)) = true := by simp; omega
        obtain ⟨cb, co, rfl, hcb, hcx⟩ := HCs.out.2 (by omega)
        have hcx := hcx i hcm
        rw [← HCu.out] at hcx
        have HCx := hide hcx
        clear hcx
        go_wp2_with (first
          | (with_reducible refine wl_load_cells (o := ⟨some 23, _, _, _, _, _⟩) rfl 48 (.tmp 22) bb (oo + i * 3) [encStr n, .slice f.A f.n f.c, .int .i64 (kk : Int)] _ rfl rfl hcw Try.underlying48 rfl (szF3 _ _ _ _ _) ?_)
          | ((with_reducible refine wl_alloc rfl 48 _ [.string ByteArray.empty, .slice none 0 0, .int .i64 0] rfl zApi rfl ?_); intro gF w2 r9 p9 l9 b9)
          | ((with_reducible refine wl_store_row rfl 48 (.tmp 6) (.tmp 23) gF 48 _ [encStr n, .slice f.A f.n f.c, .int .i64 (kk : Int)] rfl rfl rfl r9 (szF3 _ _ _ _ _) rfl (one3 _ _ _ _ _) ?_); intro w3 rF o9; have b5 := b9.trans (o9.below p9); have cF1 := rF.cell (j := 1) rfl; have cF2 := rF.cell (j := 2) rfl; have pF : w.heap.size ≤ gF := Nat.le_trans bW.size p9; have hgW := p9; have BW := bW.trans (b5.mono bW.size)))
        have HCut : ∀ X, Below w3.heap.size w3 X → X.cell? ⟨cb, co + i * 1, none⟩ = some (.int .i64 cut) := fun X hX => by
          rw [Nat.mul_one]
          exact ((BW.trans (hX.mono BW.size)).cell (p := ⟨cb, co + i, none⟩) hcb).trans HCx.out
        have hiM := hcm
        obtain ⟨hrq, hrle⟩ := tornR_eq cut (f.n - kk)
        obtain ⟨dd, hdd⟩ : ∃ dd, dd = f.n - kk := ⟨_, rfl⟩
        obtain ⟨rr, hrr⟩ : ∃ rr, rr = tornR cut (f.n - kk) := ⟨_, rfl⟩
        have HRr := hide hrr.symm
        rw [← hdd] at hrq
        rw [hdd, ← hrr, ← hdd] at hrq
        rw [← hrr] at hrle
        have hwc := wrap_u64_nonneg cut
        have hA6 : IntKind.i64.wrap ((f.n : Int) - (kk : Int)) = (f.n : Int) - (kk : Int) := w64i _ ⟨by omega, by omega⟩
        have hA7 : IntKind.i64.wrap ((f.n : Int) - (kk : Int) + 1) = (dd : Int) + 1 := by rw [w64i _ ⟨by omega, by omega⟩]; omega
        have hA8 : IntKind.u64.wrap ((dd : Int) + 1) = (dd : Int) + 1 := w64u _ ⟨by omega, by omega⟩
        have hA9 : ¬ (dd : Int) + 1 = 0 := by omega
        have hA10 : IntKind.i64.wrap (rr : Int) = (rr : Int) := w64i _ ⟨by omega, by omega⟩
        clear hrr hdd
        rename_i K1 hK1
        refine wp_region_vals [] (SRcr gF cb co m c i kk dd rr cut n f) (fun _ _ w' => Below w3.heap.size w3 w') (by kernel_rfl) (by kernel_rfl) (by kernel_rfl) (by kernel_rfl) (by kernel_rfl) (Below.refl _ _).drew ?obsA ?heA
        case obsA =>
          refine ⟨?_, ?_, ?_, ?_, ?_, ?_, ?_, ?_, ?_, ?_, ?_, ?_, ?_, ?_, ?_, ?_, trivial⟩
          · exact .inl ⟨by kernel_rfl, fun L a1 w1 n' h => ⟨_, rfl, run_move (.tmp 1) rfl (h.var n' 1 (by kernel_rfl))⟩⟩
          · exact .inl ⟨by kernel_rfl, fun L a1 w1 n' h => ⟨_, rfl, run_move (.tmp 5) rfl (h.var n' 5 (by kernel_rfl))⟩⟩
          · exact .inl ⟨by kernel_rfl, fun L a1 w1 n' h => ⟨_, rfl, run_indexS3 36 (.tmp 28) (.tmp 29) 3 cb co m c i 1 rfl Try.underlying36 Try.sizeOf3 (h.dep n' 0 28 (by kernel_rfl) rfl) (h.dep n' 1 29 (by kernel_rfl) rfl) hiM⟩⟩
          · exact .inl ⟨by kernel_rfl, fun L a1 w1 n' h => ⟨_, rfl, run_loadA 3 (.tmp 30) ⟨cb, co + i * 1, none⟩ rfl Try.isAgg3 (h.dep n' 2 30 (by kernel_rfl) rfl) (HCut w1 h.inv)⟩⟩
          · refine .inl ⟨by kernel_rfl, fun L a1 w1 n' h => ⟨.int .u64 (IntKind.u64.wrap cut), rfl, ?_⟩⟩
            have e0 : a1.eval (.tmp 31) = _ := h.dep n' 3 31 (by kernel_rfl) rfl
            unfold execOp
            simp only [e0]
            go_simp
          · refine .inl ⟨by kernel_rfl, fun L a1 w1 n' h => ⟨.pointer (some ⟨gF, 1, none⟩), rfl, ?_⟩⟩
            have e0 : a1.eval (.tmp 6) = _ := h.var n' 6 (by kernel_rfl)
            unfold execOp
            simp only [e0]
            go_simp
          · exact .inl ⟨by kernel_rfl, fun L a1 w1 n' h => ⟨_, rfl, run_loadA 35 (.tmp 33) ⟨gF, 1, none⟩ rfl Try.isAgg35 (h.dep n' 5 33 (by kernel_rfl) rfl) ((Row.later rF h.inv).cell (j := 1) (v := .slice f.A f.n f.c) rfl)⟩⟩
          · exact .inl ⟨by kernel_rfl, fun L a1 w1 n' h => ⟨_, rfl, run_len3 35 5 Try.underlying35 (.tmp 34) rfl (h.dep n' 6 34 (by kernel_rfl) rfl)⟩⟩
          · refine .inl ⟨by kernel_rfl, fun L a1 w1 n' h => ⟨.pointer (some ⟨gF, 2, none⟩), rfl, ?_⟩⟩
            have e0 : a1.eval (.tmp 6) = _ := h.var n' 6 (by kernel_rfl)
            unfold execOp
            simp only [e0]
            go_simp
          · exact .inl ⟨by kernel_rfl, fun L a1 w1 n' h => ⟨_, rfl, run_loadA 3 (.tmp 36) ⟨gF, 2, none⟩ rfl Try.isAgg3 (h.dep n' 8 36 (by kernel_rfl) rfl) ((Row.later rF h.inv).cell (j := 2) (v := .int .i64 (kk : Int)) rfl)⟩⟩
          · refine .inl ⟨by kernel_rfl, fun L a1 w1 n' h => ⟨.int .i64 ((f.n : Int) - (kk : Int)), rfl, ?_⟩⟩
            have e0 : a1.eval (.tmp 35) = _ := h.dep n' 7 35 (by kernel_rfl) rfl
            have e1 : a1.eval (.tmp 37) = _ := h.dep n' 9 37 (by kernel_rfl) rfl
            unfold execOp
            simp only [e0, e1]
            go_simp
          · refine .inl ⟨by kernel_rfl, fun L a1 w1 n' h => ⟨.int .i64 ((dd : Int) + 1), rfl, ?_⟩⟩
            have e0 : a1.eval (.tmp 38) = _ := h.dep n' 10 38 (by kernel_rfl) rfl
            unfold execOp
            simp only [e0]
            go_simp
          · refine .inl ⟨by kernel_rfl, fun L a1 w1 n' h => ⟨.int .u64 ((dd : Int) + 1), rfl, ?_⟩⟩
            have e0 : a1.eval (.tmp 39) = _ := h.dep n' 11 39 (by kernel_rfl) rfl
            unfold execOp
            simp only [e0]
            go_simp
          · refine .inl ⟨by kernel_rfl, fun L a1 w1 n' h => ⟨.int .u64 (rr : Int), rfl, ?_⟩⟩
            have e0 : a1.eval (.tmp 32) = _ := h.dep n' 4 32 (by kernel_rfl) rfl
            have e1 : a1.eval (.tmp 40) = _ := h.dep n' 12 40 (by kernel_rfl) rfl
            unfold execOp
            simp only [e0, e1]
            go_simp
          · refine .inl ⟨by kernel_rfl, fun L a1 w1 n' h => ⟨.int .i64 (rr : Int), rfl, ?_⟩⟩
            have e0 : a1.eval (.tmp 41) = _ := h.dep n' 13 41 (by kernel_rfl) rfl
            unfold execOp
            simp only [e0]
            go_simp
          · exact .inl ⟨by kernel_rfl, fun L a1 w1 n' h => ⟨_, rfl, run_assign (.tmp 42) rfl (h.dep n' 14 42 (by kernel_rfl) rfl)⟩⟩
        case heA =>
          intro V w5 hV hJ
          have h7 : V 15 = .int .i64 (rr : Int) := hV 15 7 rfl
          have bq : Below w3.heap.size w3 w5 := hJ
          clear hV hJ
          simp only [putOps, List.setIfInBounds_toArray, List.set_cons_succ, List.set_cons_zero, Nat.reduceAdd]
          rw [h7]
          refine hK1 _ _ ?_
          generalize V 0 = v0
          generalize V 1 = v1
          generalize V 2 = v2
          generalize V 3 = v3
          generalize V 4 = v4
          generalize V 5 = v5
          generalize V 6 = v6
          generalize V 7 = v7
          generalize V 8 = v8
          generalize V 9 = v9
          generalize V 10 = v10
          generalize V 11 = v11
          generalize V 12 = v12
          generalize V 13 = v13
          generalize V 14 = v14
          clear h7 hA6 hA7 hA8 hA9 hA10 hrq hwc HCut
          replace rF := rF.later bq
          replace cF1 := rF.cell (j := 1) rfl
          replace cF2 := rF.cell (j := 2) rfl
          have BW := BW.trans (bq.mono BW.size)
          have b5 := b5.trans (bq.mono b5.size)
          have hA11 : IntKind.i64.wrap ((kk : Int) + (rr : Int)) = (kk : Int) + (rr : Int) := w64i _ ⟨by omega, by omega⟩
          have hS1 := fun w => run_sliceTo (P := Try.prog) w 35 5 1 Try.underlying35 Try.sizeOf5 f.A f.n f.c .i64 ((kk : Int) + (rr : Int)) (kk + rr) (by omega) (by omega)
          go_wp2_with (first
            | (with_reducible refine wl_store rfl 3 (.tmp 47) (.tmp 46) gF 2 48 [encStr n, .slice f.A f.n f.c, .int .i64 (kk : Int)] (.int .i64 ((kk : Int) + (rr : Int))) rfl szInt rfl rfl rF (lt3 _ _ _ (by decide)) rfl ?_; intro w6 rF6 o6; have rF6 := set2c rF6; have c61 := rF6.cell (j := 1) rfl; have c62 := rF6.cell (j := 2) rfl)
            | (with_reducible refine wl_store rfl 35 (.tmp 53) (.tmp 52) gF 1 48 [encStr n, .slice f.A f.n f.c, .int .i64 ((kk : Int) + (rr : Int))] (.slice f.A (kk + rr) f.c) rfl szBy rfl rfl rF6 (lt3 _ _ _ (by decide)) rfl ?_; intro w7 rF7 o7; have rF7 := set1c rF7; have B7 := BW.trans ((o6.below pF).trans (o7.below pF)); have O7 := LstAt.later hO bW.size ((b5.trans (o6.below hgW)).trans (o7.below hgW)))
            | (with_reducible refine wl_load_row (o := ⟨some 55, _, _, _, _, _⟩) rfl 48 (.tmp 6) gF 48 [encStr n, .slice f.A (kk + rr) f.c, .int .i64 ((kk : Int) + (rr : Int))] _ rfl rfl rF7 Try.underlying48 rfl (szF3 n f.A (kk + rr) f.c _) ?_)
            | ((with_reducible refine wl_build1S (o := ⟨some 56, _, _, _, _, _⟩) rfl 32 (.tmp 55) rfl 48 ip _ _ _ (encStr n) (.slice f.A (kk + rr) f.c) (.int .i64 ((kk : Int) + (rr : Int))) Try.underlying32 hip hpz hps rfl ?_); intro g9 w9 r9 p9 l9 b9; have O9 := LstAt.later O7 B7.size b9; have hU9 := Nat.le_trans B7.size b9.size)
            | ((at_builtin; with_reducible refine wl_append_at (o := ⟨some 57, _, _, _, _, _⟩) rfl (.tmp 54) (.tmp 56) 32 rfl w.heap.size 48 ip (.agg #[.string ByteArray.empty, .slice none 0 0, .int .i64 0]) 3 48 Try.underlying32 hip hpz hps hpb zs3 h03 u4 out.length _ rfl O9.row ⟨g9, 0, none⟩ 1 1 [encStr n, .slice f.A (kk + rr) f.c, .int .i64 ((kk : Int) + (rr : Int))] rfl (hl3 n f.A (kk + rr) f.c _) (row_src r9) (one3 n f.A (kk + rr) f.c _) (hmA out.length hO1) (hmB out.length hO1) hU9 ?_); intro v9 x9 own9 gr9 at9))
          have hT : tornV f cut = ⟨f.A, kk + rr, f.c, f.xs.take (kk + rr), (kk : Int) + (rr : Int)⟩ := by
            unfold tornV tornN
            rw [HKk.out, show ((kk : Int)).toNat = kk from rfl, HRr.out]
            simp
          obtain ⟨OX9, BX9⟩ := push_facts (p := (n, (⟨f.A, kk + rr, f.c, f.xs.take (kk + rr), (kk : Int) + (rr : Int)⟩ : FV))) O9 (Nat.le_refl _) hU9 (((HBs.out.below (B7.trans (b9.mono B7.size))).take (k := kk + rr) (by omega))) own9 gr9 (B7.trans (b9.mono B7.size))
          rw [← hT] at OX9
          have HO := hide OX9
          have HB := hide BX9
          clear OX9 BX9 hT own9 gr9 O9 O7 r9 rF7 rF6 c61 c62
          go_roundw
          case rel => exact ⟨i + 1, out ++ [(n, tornV f cut)], by omega, by go_num, HSn.out, HO.out, HB.out⟩
          case measure => simp [intOf]; omega
      · have hd2 : decide ((i : Int) < (m : Int)) = false := by simp; omega
        have HRr := hide (show tornR cut (f.n - kk) = 0 from by rw [HCu.out, getD_off HCL.out (by omega)]; exact tornR_nil _)
        have hA11 : IntKind.i64.wrap ((kk : Int) + 0) = (kk : Int) + 0 := w64i _ ⟨by omega, by omega⟩
        have hS1 := fun w => run_sliceTo (P := Try.prog) w 35 5 1 Try.underlying35 Try.sizeOf5 f.A f.n f.c .i64 ((kk : Int)) (kk + 0) (by omega) (by omega)
        go_wp2_with (first
          | (with_reducible refine wl_load_cells (o := ⟨some 23, _, _, _, _, _⟩) rfl 48 (.tmp 22) bb (oo + i * 3) [encStr n, .slice f.A f.n f.c, .int .i64 (kk : Int)] _ rfl rfl hcw Try.underlying48 rfl (szF3 _ _ _ _ _) ?_)
          | ((with_reducible refine wl_alloc rfl 48 _ [.string ByteArray.empty, .slice none 0 0, .int .i64 0] rfl zApi rfl ?_); intro gF w2 r9 p9 l9 b9)
          | ((with_reducible refine wl_store_row rfl 48 (.tmp 6) (.tmp 23) gF 48 _ [encStr n, .slice f.A f.n f.c, .int .i64 (kk : Int)] rfl rfl rfl r9 (szF3 _ _ _ _ _) rfl (one3 _ _ _ _ _) ?_); intro w3 rF o9; have b5 := b9.trans (o9.below p9); have cF1 := rF.cell (j := 1) rfl; have cF2 := rF.cell (j := 2) rfl; have pF : w.heap.size ≤ gF := Nat.le_trans bW.size p9; have hgW := p9; have BW := bW.trans (b5.mono bW.size))
          | (with_reducible refine wl_store rfl 3 (.tmp 47) (.tmp 46) gF 2 48 [encStr n, .slice f.A f.n f.c, .int .i64 (kk : Int)] (.int .i64 ((kk : Int))) rfl szInt rfl rfl rF (lt3 _ _ _ (by decide)) rfl ?_; intro w6 rF6 o6; have rF6 := set2c rF6; have c61 := rF6.cell (j := 1) rfl; have c62 := rF6.cell (j := 2) rfl)
          | (with_reducible refine wl_store rfl 35 (.tmp 53) (.tmp 52) gF 1 48 [encStr n, .slice f.A f.n f.c, .int .i64 ((kk : Int))] (.slice f.A kk f.c) rfl szBy rfl rfl rF6 (lt3 _ _ _ (by decide)) rfl ?_; intro w7 rF7 o7; have rF7 := set1c rF7; have B7 := BW.trans ((o6.below pF).trans (o7.below pF)); have O7 := LstAt.later hO bW.size ((b5.trans (o6.below hgW)).trans (o7.below hgW)))
          | (with_reducible refine wl_load_row (o := ⟨some 55, _, _, _, _, _⟩) rfl 48 (.tmp 6) gF 48 [encStr n, .slice f.A kk f.c, .int .i64 ((kk : Int))] _ rfl rfl rF7 Try.underlying48 rfl (szF3 n f.A kk f.c _) ?_)
          | ((with_reducible refine wl_build1S (o := ⟨some 56, _, _, _, _, _⟩) rfl 32 (.tmp 55) rfl 48 ip _ _ _ (encStr n) (.slice f.A kk f.c) (.int .i64 ((kk : Int))) Try.underlying32 hip hpz hps rfl ?_); intro g9 w9 r9 p9 l9 b9; have O9 := LstAt.later O7 B7.size b9; have hU9 := Nat.le_trans B7.size b9.size)
          | ((at_builtin; with_reducible refine wl_append_at (o := ⟨some 57, _, _, _, _, _⟩) rfl (.tmp 54) (.tmp 56) 32 rfl w.heap.size 48 ip (.agg #[.string ByteArray.empty, .slice none 0 0, .int .i64 0]) 3 48 Try.underlying32 hip hpz hps hpb zs3 h03 u4 out.length _ rfl O9.row ⟨g9, 0, none⟩ 1 1 [encStr n, .slice f.A kk f.c, .int .i64 ((kk : Int))] rfl (hl3 n f.A kk f.c _) (row_src r9) (one3 n f.A kk f.c _) (hmA out.length hO1) (hmB out.length hO1) hU9 ?_); intro v9 x9 own9 gr9 at9))
        have hT : tornV f cut = ⟨f.A, kk, f.c, f.xs.take (kk), (kk : Int)⟩ := by
          unfold tornV tornN
          rw [HKk.out, show ((kk : Int)).toNat = kk from rfl, HRr.out]
          simp
        obtain ⟨OX9, BX9⟩ := push_facts (p := (n, (⟨f.A, kk, f.c, f.xs.take (kk), (kk : Int)⟩ : FV))) O9 (Nat.le_refl _) hU9 (((HBs.out.below (B7.trans (b9.mono B7.size))).take (k := kk) (by omega))) own9 gr9 (B7.trans (b9.mono B7.size))
        rw [← hT] at OX9
        have HO := hide OX9
        have HB := hide BX9
        clear OX9 BX9 hT own9 gr9 O9 O7 r9 rF7 rF6 c61 c62
        go_roundw
        case rel => exact ⟨i + 1, out ++ [(n, tornV f cut)], by omega, by go_num, HSn.out, HO.out, HB.out⟩
        case measure => simp [intOf]; omega
    · obtain rfl : i = gs.length := by omega
      rw [← HCl.out, List.take_length] at hst
      have HFn := hide hst
      have hd1 : decide ((gs.length : Int) < (gs.length : Int)) = false := by simp
      have rr0 := Row.later r0 bW
      have hl5 : LstAt wr wr.heap.size 0 u4 (crashF gs cs) := by rw [HFn.out]; exact lst_up (hO.lo (Nat.zero_le _)) bW.size
      obtain ⟨A5, c5, ev, _, _⟩ := hl5.fl (Nat.le_refl _)
      rw [ev] at hl5
      subst ev
      have HL5 := hide hl5
      have HP := hide (Row.later hp bW)
      have hPc := HP.out
      clear hl5 hst hO hol hO1 HL HL0 HOk HCs
      go_wp2_with (first
        | (with_reducible refine wl_store rfl 32 (.tmp 61) (.tmp 59) gr 1 34 [ptr gq, .slice (_) gs.length _] (.slice A5 (crashF gs cs).length c5) rfl szFl rfl rfl rr0 (lt2 _ _ (by decide)) rfl ?_; intro w5 r5 o5; have r5 := set1 r5; have k5 := r5.cell (j := 0) rfl; have hP5 := rp_gq hPc rr0 o5)
        | (with_reducible refine wl_store rfl 4 (.tmp 67) (.const (.bool false)) gq 0 42 [.bool o, .int .i64 x] (.bool false) rfl szBool rfl rfl hP5 (lt2 _ _ (by decide)) rfl ?_; intro w6 hP6 o6; have hP6 := set0p hP6; have k6 := (Row.only r5 o6 (rne r5 hP5 (by decide))).cell (j := 0) rfl)
        | (with_reducible refine wl_store rfl 3 (.tmp 73) (.const (.int .i64 (-1))) gq 1 42 [.bool false, .int .i64 x] (.int .i64 (-1)) rfl szInt rfl rfl hP6 (lt2 _ _ (by decide)) rfl ?_; intro w7 hP7 o7))
      first | go_end0 | refine bodyPost_ret (results_none rfl _ _ _) rfl ?_
      have hS5 := RFs.set rr0 (nonu_ptr gq) (nonu_sl _ _ _) HL5.out o5 r5
      have hS7 := (hS5.gq hP5 o6).gq hP6 o7
      exact ⟨rfl, set1 hP7, hS7, (((Buts.of bW _).trans (Buts.only o5 (by simp))).trans (Buts.only o6 (by simp))).trans (Buts.only o7 (by simp))⟩
end Go.Proofs.Ytaflmiopaiigbaa
