/-
  Several own texts in one: ValA, ValB, ValC, ValD, ValE, ValF, ValG, ValH, ValI. Own work.
-/
import Derived.Test.YtpbkejmffddelaaGreatGC
import Derived.Test.YtpbkejmffddelaaGreatGA
set_option linter.unusedVariables false
set_option linter.unusedSimpArgs false
/-
  Plain values: what they are, and how lists of them lie in memory. Own work.
-/
namespace Go.Proofs.YtpbkejmffddelaaGreat
open Go.RowKit Go.Shelf
/-- A list in memory, k cells an element, below block B. -/
def SlV {α : Type} (cl : α → List Value) (k : Nat) (w : World) (B : Nat) (v : Value) (l : List α) : Prop :=
  ∃ A c, v = .slice A l.length c ∧ (0 < l.length → ∃ g off, A = some ⟨g, off, none⟩ ∧ g < B ∧ ∀ (i : Nat) (a : α), l[i]? = some a → ∀ (j : Nat) (u : Value), (cl a)[j]? = some u → w.cell? ⟨g, off + i * k + j, none⟩ = some u)
section
variable {α : Type} {cl : α → List Value} {k : Nat} {w w' : World} {B B' : Nat} {v : Value} {l : List α}
theorem SlV.keep (h : SlV cl k w B v l) (hk : ∀ p : Addr, p.block < B → w'.cell? p = w.cell? p) : SlV cl k w' B v l := by
  obtain ⟨A, c, e, h⟩ := h
  refine ⟨A, c, e, fun h0 => ?_⟩
  obtain ⟨g, off, eA, hg, hc⟩ := h h0
  exact ⟨g, off, eA, hg, fun i a hi j u hj => (hk _ hg).trans (hc i a hi j u hj)⟩
theorem SlV.below (h : SlV cl k w B v l) (hb : Below B w w') : SlV cl k w' B v l := h.keep fun _ hp => hb.cell hp
theorem SlV.up (h : SlV cl k w B v l) (hB : B ≤ B') : SlV cl k w B' v l := by
  obtain ⟨A, c, e, h⟩ := h
  refine ⟨A, c, e, fun h0 => ?_⟩
  obtain ⟨g, off, eA, hg, hc⟩ := h h0
  exact ⟨g, off, eA, Nat.lt_of_lt_of_le hg hB, hc⟩
theorem SlV.later (h : SlV cl k w w.heap.size v l) (hb : Below w.heap.size w w') : SlV cl k w' w'.heap.size v l := (h.below hb).up hb.size
theorem SlV.sl (h : SlV cl k w B v l) : ∃ A c, v = .slice A l.length c := by
  obtain ⟨A, c, e, _⟩ := h
  exact ⟨A, c, e⟩
theorem SlV.nil (A : Option Addr) (c : Nat) : SlV cl k w B (.slice A 0 c) [] := ⟨A, c, rfl, fun h => absurd h (by simp)⟩
/-- The i-th. -/
theorem SlV.at {A : Option Addr} {n c i : Nat} {a : α} (h : SlV cl k w B (.slice A n c) l) (hi : l[i]? = some a) : n = l.length ∧ ∃ g off, A = some ⟨g, off, none⟩ ∧ g < B ∧ ∀ (j : Nat) (u : Value), (cl a)[j]? = some u → w.cell? ⟨g, off + i * k + j, none⟩ = some u := by
  obtain ⟨A', c', e, h⟩ := h
  injection e with q1 q2 q3
  subst q1
  obtain ⟨g, off, eA, hg, hc⟩ := h (by have := (List.getElem?_eq_some_iff.1 hi).1; omega)
  exact ⟨q2, g, off, eA, hg, hc i a hi⟩
end
/-- A field with its text. -/
structure Pr where
  f : Nm
  t : Nm
deriving DecidableEq
instance : Inhabited Pr := ⟨⟨[], []⟩⟩
abbrev Pr.cells (p : Pr) : List Value := [encStr p.f, encStr p.t]
abbrev cS (n : Nm) : List Value := [encStr n]
/-- A plain value. -/
structure Vl where
  k : Int
  t : Nm
  ps : List Pr
  ls : List Nm
  ss : List Sc
deriving DecidableEq
/-- A plain value in memory: its five parts. -/
structure VlM (w : World) (B : Nat) (x : Vl) (vp vl vs : Value) : Prop where
  p : SlV Pr.cells 2 w B vp x.ps
  l : SlV cS 1 w B vl x.ls
  s : SlV Sc.cells 2 w B vs x.ss
abbrev vlC (x : Vl) (vp vl vs : Value) : List Value := [.int .i64 x.k, encStr x.t, vp, vl, vs]
abbrev vlV (x : Vl) (vp vl vs : Value) : Value := .agg (vlC x vp vl vs).toArray
section
variable {w w' : World} {B B' : Nat} {x : Vl} {vp vl vs : Value}
theorem VlM.below (h : VlM w B x vp vl vs) (hb : Below B w w') : VlM w' B x vp vl vs := ⟨h.p.below hb, h.l.below hb, h.s.below hb⟩
theorem VlM.up (h : VlM w B x vp vl vs) (hB : B ≤ B') : VlM w B' x vp vl vs := ⟨h.p.up hB, h.l.up hB, h.s.up hB⟩
theorem VlM.later (h : VlM w w.heap.size x vp vl vs) (hb : Below w.heap.size w w') : VlM w' w'.heap.size x vp vl vs := (h.below hb).up hb.size
end
/-- How many elements a value has. -/
abbrev Vl.n (x : Vl) : Nat := x.ps.length + x.ls.length + x.ss.length
/-- What a value of this kind may have. -/
def Vl.own (x : Vl) : Vl := ⟨x.k, if x.k = 1 then x.t else [], if x.k = 2 then x.ps else [], if x.k = 3 ∨ x.k = 4 then x.ls else [], if x.k = 5 then x.ss else []⟩
/-- Lengths that the machine allows. -/
structure Vl.Fits (x : Vl) : Prop where
  p : x.ps.length ≤ 140737488355328
  l : x.ls.length ≤ 140737488355328
  s : x.ss.length ≤ 140737488355328
  t : x.t.length ≤ 140737488355328
theorem run_idxO {P : Program} {w : World} {a : Act} {o : Oper} (t : TypeId) (x y : Operand) (e : TypeId) (z : Nat) (b off len cap i : Nat)
    (ho : o.op = .indexAddr t x y) (hu : P.underlying t = some (.slice e)) (hs : ∀ w, (sizeOf e).run P w = .ok z w) (hx : a.eval x = .slice (some ⟨b, off, none⟩) len cap) (hy : a.eval y = .int .i64 i) (hi : i < len) :
    (execOp a.eval o).run P w = .ok (.value (.pointer (some ⟨b, off + i * z, none⟩))) w := by
  unfold execOp
  simp only [ho, hx, hy]
  go_simp
end Go.Proofs.YtpbkejmffddelaaGreat

/-
  Lists that are equal: slices.Equal, and the document's Same of members. Own work.
-/
namespace Go.Proofs.YtpbkejmffddelaaGreat
open Go.RowKit Go.Shelf
set_option maxRecDepth 100000 in
theorem eqScore (a b : Sc) (w : World) : (Op.equalIn 10000 99 (.agg a.cells.toArray) (.agg b.cells.toArray)).run Tryz.prog w = .ok (decide (a = b)) w := by
  rw [show (10000 : Nat) = 9999 + 1 from rfl, run_equalIn_struct w 9999 _ _ _ Tryz.underlying99 (by kernel_rfl)]
  have hs9 : ∀ (x y : ByteArray) (w : World), (Op.equalIn 9999 9 (.string x) (.string y)).run Tryz.prog w = .ok (x.toList == y.toList) w := fun x y w => run_equalIn_string w 9998 _ x y Tryz.underlying9
  have he9 : ∀ (x y : Int) (w : World), (Op.equalIn 9999 3 (.int .i64 x) (.int .i64 y)).run Tryz.prog w = .ok (x == y) w := fun x y w => run_equalIn_int w 9998 _ .i64 .i64 x y Tryz.underlying3
  obtain ⟨am, sa⟩ := a
  obtain ⟨bm, sb⟩ := b
  go_simp
  by_cases h0 : am = bm
  · by_cases h1 : sa = sb <;> simp [h0, h1]
  · simp [h0]
set_option maxRecDepth 100000 in
theorem eqPair (a b : Pr) (w : World) : (Op.equalIn 10000 87 (.agg a.cells.toArray) (.agg b.cells.toArray)).run Tryz.prog w = .ok (decide (a = b)) w := by
  rw [show (10000 : Nat) = 9999 + 1 from rfl, run_equalIn_struct w 9999 _ _ _ Tryz.underlying87 (by kernel_rfl)]
  have hs9 : ∀ (x y : ByteArray) (w : World), (Op.equalIn 9999 9 (.string x) (.string y)).run Tryz.prog w = .ok (x.toList == y.toList) w := fun x y w => run_equalIn_string w 9998 _ x y Tryz.underlying9
  obtain ⟨am, sa⟩ := a
  obtain ⟨bm, sb⟩ := b
  go_simp
  by_cases h0 : am = bm
  · by_cases h1 : sa = sb <;> simp [h0, h1]
  · simp [h0]
theorem szPr (a : Pr) : (Tryz.prog.info? 87).map (·.size) = some a.cells.length := by kernel_rfl
theorem run_loadCs {P : Program} {w : World} {a : Act} {o : Oper} (ty : TypeId) (x : Operand) (g off : Nat) (M : List Value) (d : TypeDesc) (ho : o.op = .load ty x) (hx : a.eval x = .pointer (some ⟨g, off, none⟩)) (h : ∀ j v, M[j]? = some v → w.cell? ⟨g, off + j, none⟩ = some v)
    (hu : P.underlying ty = some d) (hd : (match d with | .struct _ | .array _ _ => true | _ => false) = true) (hi : (P.info? ty).map (·.size) = some M.length) : (execOp a.eval o).run P w = .ok (.value (.agg M.toArray)) w := by
  unfold execOp
  simp only [ho, hx, Instr.loadAt, Instr.sureAddr, Sem.run_bind, Sem.run_pure, Result.andThen_ok, run_loadVar_cells ty g off M d h hu hd hi]
def SequalP_any (ga gb oa ob i c c2 : Nat) (l l2 : List Pr) (a b : Pr) (rr : Bool) (opn : Nat) (v : Value) : Prop :=
  match opn with
  | 0 => v = .slice (some ⟨ga, oa, none⟩) l.length c
  | 1 | 5 => v = .int .i64 (i : Int)
  | 2 => v = .pointer (some ⟨ga, oa + i * 2, none⟩)
  | 3 => v = .agg a.cells.toArray
  | 4 => v = .slice (some ⟨gb, ob, none⟩) l2.length c2
  | 6 => v = .pointer (some ⟨gb, ob + i * 2, none⟩)
  | 7 => v = .agg b.cells.toArray
  | 8 => v = .bool rr
  | _ => True

set_option maxRecDepth 100000 in
set_option maxHeartbeats 1000000 in
theorem equalP_any (w : World) (v v2 : Value) (l l2 : List Pr) (h : SlV Pr.cells 2 w w.heap.size v l) (h2 : SlV Pr.cells 2 w w.heap.size v2 l2) (hl : l.length ≤ 140737488355328) (hl2 : l2.length ≤ 140737488355328) : Calls Tryz.prog 140 #[v, v2] w fun e w' => e = .returned (.bool (decide (l = l2))) ∧ Below w.heap.size w w' := by
  obtain ⟨A, c, rfl⟩ := h.sl
  obtain ⟨A2, c2, rfl⟩ := h2.sl
  have hlI : (l.length : Int) ≤ 140737488355328 := by omega
  have hlI2 : (l2.length : Int) ≤ 140737488355328 := by omega
  by_cases hne : l.length = l2.length
  · have hne1 : (l.length : Int) = (l2.length : Int) := by omega
    have hne2 : decide ((l.length : Int) = (l2.length : Int)) = true := decide_eq_true hne1
    have hne3 : ((l.length : Int) == (l2.length : Int)) = true := by simp [hne1]
    have hne4 : decide (l.length = l2.length) = true := decide_eq_true hne
    replace hne := hide hne
    clear hne1
    go_enter Tryz.func140, Tryz.ntmps140
    go_wp2_with fail
    clear hne2 hne3 hne4
    go_loopw [13] (fun iv wr => ∃ i : Nat, i ≤ l.length ∧ iv = .int .i64 (i : Int) ∧ l.take i = l2.take i ∧ Below w.heap.size w wr) (fun iv _ => l.length - (intOf iv).toNat)
    case atStart => exact ⟨0, by omega, rfl, rfl, Below.refl _ _⟩
    case round =>
      obtain ⟨i, hi, rfl, hsame, BW⟩ := hrel
      have hwb := BW.size
      by_cases hlt : i < l.length
      · have hltI : (i : Int) < (l.length : Int) := by omega
        have hlt2 : i < l2.length := by rw [← hne.out]; exact hlt
        obtain ⟨a, ha⟩ : ∃ a, l[i]? = some a := ⟨_, List.getElem?_eq_getElem hlt⟩
        obtain ⟨b, hb⟩ : ∃ b, l2[i]? = some b := ⟨_, List.getElem?_eq_getElem hlt2⟩
        obtain ⟨x1, ga, oa, rfl, hga, hca⟩ := h.at ha
        obtain ⟨x2, gb, ob, rfl, hgb, hcb⟩ := h2.at hb
        clear x1 x2
        have hac : ∀ w1, Below wr.heap.size wr w1 → ∀ j u, a.cells[j]? = some u → w1.cell? ⟨ga, (oa + i * 2) + j, none⟩ = some u := fun w1 hb1 j u hj => ((BW.trans (hb1.mono hwb)).cell (p := ⟨ga, _, none⟩) hga).trans (hca j u hj)
        have hbc : ∀ w1, Below wr.heap.size wr w1 → ∀ j u, b.cells[j]? = some u → w1.cell? ⟨gb, (ob + i * 2) + j, none⟩ = some u := fun w1 hb1 j u hj => ((BW.trans (hb1.mono hwb)).cell (p := ⟨gb, _, none⟩) hgb).trans (hcb j u hj)
        clear hca hcb hga hgb
        obtain ⟨rr, hrr⟩ : ∃ rr, rr = !decide (a = b) := ⟨_, rfl⟩
        have heq : ∀ w, (Op.equalIn 10000 87 (.agg a.cells.toArray) (.agg b.cells.toArray)).run Tryz.prog w = .ok (!rr) w := by
          intro w; rw [hrr, Bool.not_not]; exact eqPair a b w
        replace hlt := hide hlt
        replace hlt2 := hide hlt2
        replace ha := hide ha
        replace hb := hide hb
        replace hsame := hide hsame
        replace hrr := hide hrr
        go_wp2_with fail
        rename_i K6 hK6
        refine wp_region_vals [] (SequalP_any ga gb oa ob i c c2 l l2 a b rr) (fun _ _ wz => Below wr.heap.size wr wz) (by kernel_rfl) (by kernel_rfl) (by kernel_rfl) (by kernel_rfl) (by kernel_rfl) ((Below.refl _ _).drew) ?obs6 ?he6
        case obs6 =>
          refine ⟨?_, ?_, ?_, ?_, ?_, ?_, ?_, ?_, ?_, trivial⟩
          · exact .inl ⟨by kernel_rfl, fun L a1 w1 n h => ⟨_, rfl, run_move (.tmp 0) rfl (h.var n 0 (by kernel_rfl))⟩⟩
          · exact .inl ⟨by kernel_rfl, fun L a1 w1 n h => ⟨_, rfl, run_move (.tmp 5) rfl (h.var n 5 (by kernel_rfl))⟩⟩
          · exact .inl ⟨by kernel_rfl, fun L a1 w1 n h => ⟨_, rfl, run_idxO 22 (.tmp 16) (.tmp 17) 87 2 ga oa l.length c i rfl Tryz.underlying22 Tryz.sizeOf87 (h.dep n 0 16 (by kernel_rfl) rfl) (h.dep n 1 17 (by kernel_rfl) rfl) hlt.out⟩⟩
          · exact .inl ⟨by kernel_rfl, fun L a1 w1 n h => ⟨_, rfl, run_loadCs 87 (.tmp 18) ga (oa + i * 2) a.cells _ rfl (h.dep n 2 18 (by kernel_rfl) rfl) (hac w1 h.inv) Tryz.underlying87 rfl (szPr a)⟩⟩
          · exact .inl ⟨by kernel_rfl, fun L a1 w1 n h => ⟨_, rfl, run_move (.tmp 1) rfl (h.var n 1 (by kernel_rfl))⟩⟩
          · exact .inl ⟨by kernel_rfl, fun L a1 w1 n h => ⟨_, rfl, run_move (.tmp 5) rfl (h.var n 5 (by kernel_rfl))⟩⟩
          · exact .inl ⟨by kernel_rfl, fun L a1 w1 n h => ⟨_, rfl, run_idxO 22 (.tmp 20) (.tmp 21) 87 2 gb ob l2.length c2 i rfl Tryz.underlying22 Tryz.sizeOf87 (h.dep n 4 20 (by kernel_rfl) rfl) (h.dep n 5 21 (by kernel_rfl) rfl) hlt2.out⟩⟩
          · exact .inl ⟨by kernel_rfl, fun L a1 w1 n h => ⟨_, rfl, run_loadCs 87 (.tmp 22) gb (ob + i * 2) b.cells _ rfl (h.dep n 6 22 (by kernel_rfl) rfl) (hbc w1 h.inv) Tryz.underlying87 rfl (szPr b)⟩⟩
          · exact .inl ⟨by kernel_rfl, fun L a1 w1 n h => ⟨_, rfl, run_neqS (.tmp 19) (.tmp 23) rfl heq (h.dep n 3 19 (by kernel_rfl) rfl) (h.dep n 7 23 (by kernel_rfl) rfl) (by kernel_rfl)⟩⟩
        case he6 =>
          intro V w11 hV hJ
          have b11 : Below wr.heap.size wr w11 := hJ
          have hE : V 8 = .bool rr := hV 8 _ rfl
          clear hV hJ
          simp only [putOps, List.setIfInBounds_toArray, List.set_cons_succ, List.set_cons_zero, Nat.reduceAdd]
          rw [hE]
          refine hK6 _ _ ?_
          have B11 := BW.trans (b11.mono hwb)
          cases rr with
          | true =>
            go_wp2_with fail
            go_ret
            have hab : a ≠ b := by have := hrr.out; simpa using this.symm
            have : ¬ l = l2 := fun e => by
              have h1 := ha.out; rw [e, hb.out] at h1
              exact hab (Option.some.inj h1).symm
            exact ⟨by rw [decide_eq_false this]; rfl, B11⟩
          | false =>
            go_wp2_with fail
            go_roundw
            case rel =>
              have hab : a = b := by have := hrr.out; simpa using this.symm
              exact ⟨i + 1, by have := hlt.out; omega, by go_num, by rw [take_more ha.out, take_more hb.out, hsame.out, hab], B11⟩
            case measure => have := hlt.out; simp [intOf]; omega
      · obtain rfl : i = l.length := by omega
        go_wp2_with fail
        go_ret
        have : l = l2 := by
          rw [List.take_of_length_le (Nat.le_refl _), List.take_of_length_le (by rw [hne.out]; exact Nat.le_refl _)] at hsame
          exact hsame
        exact ⟨by rw [decide_eq_true this]; rfl, BW⟩
  · have hne1 : ¬ (l.length : Int) = (l2.length : Int) := by omega
    have hne2 : decide ((l.length : Int) = (l2.length : Int)) = false := decide_eq_false hne1
    have hne3 : ((l.length : Int) == (l2.length : Int)) = false := by simpa using hne1
    have hne4 : decide (l.length = l2.length) = false := decide_eq_false hne
    have hno : ¬ l = l2 := fun e => hne (by rw [e])
    rw [decide_eq_false hno]
    clear hno hne
    go_enter Tryz.func140, Tryz.ntmps140
    go_wp2_with fail
    go_ret
    exact ⟨rfl, Below.refl _ _⟩

def SequalW_any (ga gb oa ob i c c2 : Nat) (l l2 : List Nm) (a b : Nm) (rr : Bool) (opn : Nat) (v : Value) : Prop :=
  match opn with
  | 0 => v = .slice (some ⟨ga, oa, none⟩) l.length c
  | 1 | 5 => v = .int .i64 (i : Int)
  | 2 => v = .pointer (some ⟨ga, oa + i * 1, none⟩)
  | 3 => v = encStr a
  | 4 => v = .slice (some ⟨gb, ob, none⟩) l2.length c2
  | 6 => v = .pointer (some ⟨gb, ob + i * 1, none⟩)
  | 7 => v = encStr b
  | 8 => v = .bool rr
  | _ => True

set_option maxRecDepth 100000 in
set_option maxHeartbeats 1000000 in
theorem equalW_any (w : World) (v v2 : Value) (l l2 : List Nm) (h : SlV cS 1 w w.heap.size v l) (h2 : SlV cS 1 w w.heap.size v2 l2) (hl : l.length ≤ 140737488355328) (hl2 : l2.length ≤ 140737488355328) : Calls Tryz.prog 141 #[v, v2] w fun e w' => e = .returned (.bool (decide (l = l2))) ∧ Below w.heap.size w w' := by
  obtain ⟨A, c, rfl⟩ := h.sl
  obtain ⟨A2, c2, rfl⟩ := h2.sl
  have hlI : (l.length : Int) ≤ 140737488355328 := by omega
  have hlI2 : (l2.length : Int) ≤ 140737488355328 := by omega
  by_cases hne : l.length = l2.length
  · have hne1 : (l.length : Int) = (l2.length : Int) := by omega
    have hne2 : decide ((l.length : Int) = (l2.length : Int)) = true := decide_eq_true hne1
    have hne3 : ((l.length : Int) == (l2.length : Int)) = true := by simp [hne1]
    have hne4 : decide (l.length = l2.length) = true := decide_eq_true hne
    replace hne := hide hne
    clear hne1
    go_enter Tryz.func141, Tryz.ntmps141
    go_wp2_with fail
    clear hne2 hne3 hne4
    go_loopw [13] (fun iv wr => ∃ i : Nat, i ≤ l.length ∧ iv = .int .i64 (i : Int) ∧ l.take i = l2.take i ∧ Below w.heap.size w wr) (fun iv _ => l.length - (intOf iv).toNat)
    case atStart => exact ⟨0, by omega, rfl, rfl, Below.refl _ _⟩
    case round =>
      obtain ⟨i, hi, rfl, hsame, BW⟩ := hrel
      have hwb := BW.size
      by_cases hlt : i < l.length
      · have hltI : (i : Int) < (l.length : Int) := by omega
        have hlt2 : i < l2.length := by rw [← hne.out]; exact hlt
        obtain ⟨a, ha⟩ : ∃ a, l[i]? = some a := ⟨_, List.getElem?_eq_getElem hlt⟩
        obtain ⟨b, hb⟩ : ∃ b, l2[i]? = some b := ⟨_, List.getElem?_eq_getElem hlt2⟩
        obtain ⟨x1, ga, oa, rfl, hga, hca⟩ := h.at ha
        obtain ⟨x2, gb, ob, rfl, hgb, hcb⟩ := h2.at hb
        clear x1 x2
        have hac : ∀ w1, Below wr.heap.size wr w1 → w1.cell? ⟨ga, oa + i * 1, none⟩ = some (encStr a) := fun w1 hb1 => ((BW.trans (hb1.mono hwb)).cell (p := ⟨ga, _, none⟩) hga).trans (hca 0 _ rfl)
        have hbc : ∀ w1, Below wr.heap.size wr w1 → w1.cell? ⟨gb, ob + i * 1, none⟩ = some (encStr b) := fun w1 hb1 => ((BW.trans (hb1.mono hwb)).cell (p := ⟨gb, _, none⟩) hgb).trans (hcb 0 _ rfl)
        clear hca hcb hga hgb
        obtain ⟨rr, hrr⟩ : ∃ rr, rr = !decide (a = b) := ⟨_, rfl⟩
        replace hlt := hide hlt
        replace hlt2 := hide hlt2
        replace ha := hide ha
        replace hb := hide hb
        replace hsame := hide hsame
        replace hrr := hide hrr
        go_wp2_with fail
        rename_i K6 hK6
        refine wp_region_vals [] (SequalW_any ga gb oa ob i c c2 l l2 a b rr) (fun _ _ wz => Below wr.heap.size wr wz) (by kernel_rfl) (by kernel_rfl) (by kernel_rfl) (by kernel_rfl) (by kernel_rfl) ((Below.refl _ _).drew) ?obs6 ?he6
        case obs6 =>
          refine ⟨?_, ?_, ?_, ?_, ?_, ?_, ?_, ?_, ?_, trivial⟩
          · exact .inl ⟨by kernel_rfl, fun L a1 w1 n h => ⟨_, rfl, run_move (.tmp 0) rfl (h.var n 0 (by kernel_rfl))⟩⟩
          · exact .inl ⟨by kernel_rfl, fun L a1 w1 n h => ⟨_, rfl, run_move (.tmp 5) rfl (h.var n 5 (by kernel_rfl))⟩⟩
          · exact .inl ⟨by kernel_rfl, fun L a1 w1 n h => ⟨_, rfl, run_idxO 23 (.tmp 16) (.tmp 17) 9 1 ga oa l.length c i rfl Tryz.underlying23 Tryz.sizeOf9 (h.dep n 0 16 (by kernel_rfl) rfl) (h.dep n 1 17 (by kernel_rfl) rfl) hlt.out⟩⟩
          · exact .inl ⟨by kernel_rfl, fun L a1 w1 n h => ⟨_, rfl, run_load1 9 (.tmp 18) ga (oa + i * 1) (encStr a) rfl Tryz.isAgg9 (h.dep n 2 18 (by kernel_rfl) rfl) (hac w1 h.inv)⟩⟩
          · exact .inl ⟨by kernel_rfl, fun L a1 w1 n h => ⟨_, rfl, run_move (.tmp 1) rfl (h.var n 1 (by kernel_rfl))⟩⟩
          · exact .inl ⟨by kernel_rfl, fun L a1 w1 n h => ⟨_, rfl, run_move (.tmp 5) rfl (h.var n 5 (by kernel_rfl))⟩⟩
          · exact .inl ⟨by kernel_rfl, fun L a1 w1 n h => ⟨_, rfl, run_idxO 23 (.tmp 20) (.tmp 21) 9 1 gb ob l2.length c2 i rfl Tryz.underlying23 Tryz.sizeOf9 (h.dep n 4 20 (by kernel_rfl) rfl) (h.dep n 5 21 (by kernel_rfl) rfl) hlt2.out⟩⟩
          · exact .inl ⟨by kernel_rfl, fun L a1 w1 n h => ⟨_, rfl, run_load1 9 (.tmp 22) gb (ob + i * 1) (encStr b) rfl Tryz.isAgg9 (h.dep n 6 22 (by kernel_rfl) rfl) (hbc w1 h.inv)⟩⟩
          · exact .inl ⟨by kernel_rfl, fun L a1 w1 n h => ⟨_, rfl, run_neStr (.tmp 19) (.tmp 23) rfl (h.dep n 3 19 (by kernel_rfl) rfl) (h.dep n 7 23 (by kernel_rfl) rfl) hrr.out.symm⟩⟩
        case he6 =>
          intro V w11 hV hJ
          have b11 : Below wr.heap.size wr w11 := hJ
          have hE : V 8 = .bool rr := hV 8 _ rfl
          clear hV hJ
          simp only [putOps, List.setIfInBounds_toArray, List.set_cons_succ, List.set_cons_zero, Nat.reduceAdd]
          rw [hE]
          refine hK6 _ _ ?_
          have B11 := BW.trans (b11.mono hwb)
          cases rr with
          | true =>
            go_wp2_with fail
            go_ret
            have hab : a ≠ b := by have := hrr.out; simpa using this.symm
            have : ¬ l = l2 := fun e => by
              have h1 := ha.out; rw [e, hb.out] at h1
              exact hab (Option.some.inj h1).symm
            exact ⟨by rw [decide_eq_false this]; rfl, B11⟩
          | false =>
            go_wp2_with fail
            go_roundw
            case rel =>
              have hab : a = b := by have := hrr.out; simpa using this.symm
              exact ⟨i + 1, by have := hlt.out; omega, by go_num, by rw [take_more ha.out, take_more hb.out, hsame.out, hab], B11⟩
            case measure => have := hlt.out; simp [intOf]; omega
      · obtain rfl : i = l.length := by omega
        go_wp2_with fail
        go_ret
        have : l = l2 := by
          rw [List.take_of_length_le (Nat.le_refl _), List.take_of_length_le (by rw [hne.out]; exact Nat.le_refl _)] at hsame
          exact hsame
        exact ⟨by rw [decide_eq_true this]; rfl, BW⟩
  · have hne1 : ¬ (l.length : Int) = (l2.length : Int) := by omega
    have hne2 : decide ((l.length : Int) = (l2.length : Int)) = false := decide_eq_false hne1
    have hne3 : ((l.length : Int) == (l2.length : Int)) = false := by simpa using hne1
    have hne4 : decide (l.length = l2.length) = false := decide_eq_false hne
    have hno : ¬ l = l2 := fun e => hne (by rw [e])
    rw [decide_eq_false hno]
    clear hno hne
    go_enter Tryz.func141, Tryz.ntmps141
    go_wp2_with fail
    go_ret
    exact ⟨rfl, Below.refl _ _⟩

def SequalS_any (ga gb oa ob i c c2 : Nat) (l l2 : List Sc) (a b : Sc) (rr : Bool) (opn : Nat) (v : Value) : Prop :=
  match opn with
  | 0 => v = .slice (some ⟨ga, oa, none⟩) l.length c
  | 1 | 5 => v = .int .i64 (i : Int)
  | 2 => v = .pointer (some ⟨ga, oa + i * 2, none⟩)
  | 3 => v = .agg a.cells.toArray
  | 4 => v = .slice (some ⟨gb, ob, none⟩) l2.length c2
  | 6 => v = .pointer (some ⟨gb, ob + i * 2, none⟩)
  | 7 => v = .agg b.cells.toArray
  | 8 => v = .bool rr
  | _ => True

set_option maxRecDepth 100000 in
set_option maxHeartbeats 1000000 in
theorem equalS_any (w : World) (v v2 : Value) (l l2 : List Sc) (h : SlV Sc.cells 2 w w.heap.size v l) (h2 : SlV Sc.cells 2 w w.heap.size v2 l2) (hl : l.length ≤ 140737488355328) (hl2 : l2.length ≤ 140737488355328) : Calls Tryz.prog 142 #[v, v2] w fun e w' => e = .returned (.bool (decide (l = l2))) ∧ Below w.heap.size w w' := by
  obtain ⟨A, c, rfl⟩ := h.sl
  obtain ⟨A2, c2, rfl⟩ := h2.sl
  have hlI : (l.length : Int) ≤ 140737488355328 := by omega
  have hlI2 : (l2.length : Int) ≤ 140737488355328 := by omega
  by_cases hne : l.length = l2.length
  · have hne1 : (l.length : Int) = (l2.length : Int) := by omega
    have hne2 : decide ((l.length : Int) = (l2.length : Int)) = true := decide_eq_true hne1
    have hne3 : ((l.length : Int) == (l2.length : Int)) = true := by simp [hne1]
    have hne4 : decide (l.length = l2.length) = true := decide_eq_true hne
    replace hne := hide hne
    clear hne1
    go_enter Tryz.func142, Tryz.ntmps142
    go_wp2_with fail
    clear hne2 hne3 hne4
    go_loopw [13] (fun iv wr => ∃ i : Nat, i ≤ l.length ∧ iv = .int .i64 (i : Int) ∧ l.take i = l2.take i ∧ Below w.heap.size w wr) (fun iv _ => l.length - (intOf iv).toNat)
    case atStart => exact ⟨0, by omega, rfl, rfl, Below.refl _ _⟩
    case round =>
      obtain ⟨i, hi, rfl, hsame, BW⟩ := hrel
      have hwb := BW.size
      by_cases hlt : i < l.length
      · have hltI : (i : Int) < (l.length : Int) := by omega
        have hlt2 : i < l2.length := by rw [← hne.out]; exact hlt
        obtain ⟨a, ha⟩ : ∃ a, l[i]? = some a := ⟨_, List.getElem?_eq_getElem hlt⟩
        obtain ⟨b, hb⟩ : ∃ b, l2[i]? = some b := ⟨_, List.getElem?_eq_getElem hlt2⟩
        obtain ⟨x1, ga, oa, rfl, hga, hca⟩ := h.at ha
        obtain ⟨x2, gb, ob, rfl, hgb, hcb⟩ := h2.at hb
        clear x1 x2
        have hac : ∀ w1, Below wr.heap.size wr w1 → ∀ j u, a.cells[j]? = some u → w1.cell? ⟨ga, (oa + i * 2) + j, none⟩ = some u := fun w1 hb1 j u hj => ((BW.trans (hb1.mono hwb)).cell (p := ⟨ga, _, none⟩) hga).trans (hca j u hj)
        have hbc : ∀ w1, Below wr.heap.size wr w1 → ∀ j u, b.cells[j]? = some u → w1.cell? ⟨gb, (ob + i * 2) + j, none⟩ = some u := fun w1 hb1 j u hj => ((BW.trans (hb1.mono hwb)).cell (p := ⟨gb, _, none⟩) hgb).trans (hcb j u hj)
        clear hca hcb hga hgb
        obtain ⟨rr, hrr⟩ : ∃ rr, rr = !decide (a = b) := ⟨_, rfl⟩
        have heq : ∀ w, (Op.equalIn 10000 99 (.agg a.cells.toArray) (.agg b.cells.toArray)).run Tryz.prog w = .ok (!rr) w := by
          intro w; rw [hrr, Bool.not_not]; exact eqScore a b w
        replace hlt := hide hlt
        replace hlt2 := hide hlt2
        replace ha := hide ha
        replace hb := hide hb
        replace hsame := hide hsame
        replace hrr := hide hrr
        go_wp2_with fail
        rename_i K6 hK6
        refine wp_region_vals [] (SequalS_any ga gb oa ob i c c2 l l2 a b rr) (fun _ _ wz => Below wr.heap.size wr wz) (by kernel_rfl) (by kernel_rfl) (by kernel_rfl) (by kernel_rfl) (by kernel_rfl) ((Below.refl _ _).drew) ?obs6 ?he6
        case obs6 =>
          refine ⟨?_, ?_, ?_, ?_, ?_, ?_, ?_, ?_, ?_, trivial⟩
          · exact .inl ⟨by kernel_rfl, fun L a1 w1 n h => ⟨_, rfl, run_move (.tmp 0) rfl (h.var n 0 (by kernel_rfl))⟩⟩
          · exact .inl ⟨by kernel_rfl, fun L a1 w1 n h => ⟨_, rfl, run_move (.tmp 5) rfl (h.var n 5 (by kernel_rfl))⟩⟩
          · exact .inl ⟨by kernel_rfl, fun L a1 w1 n h => ⟨_, rfl, run_idxO 24 (.tmp 16) (.tmp 17) 99 2 ga oa l.length c i rfl Tryz.underlying24 Tryz.sizeOf99 (h.dep n 0 16 (by kernel_rfl) rfl) (h.dep n 1 17 (by kernel_rfl) rfl) hlt.out⟩⟩
          · exact .inl ⟨by kernel_rfl, fun L a1 w1 n h => ⟨_, rfl, run_loadCs 99 (.tmp 18) ga (oa + i * 2) a.cells _ rfl (h.dep n 2 18 (by kernel_rfl) rfl) (hac w1 h.inv) Tryz.underlying99 rfl (szSc a)⟩⟩
          · exact .inl ⟨by kernel_rfl, fun L a1 w1 n h => ⟨_, rfl, run_move (.tmp 1) rfl (h.var n 1 (by kernel_rfl))⟩⟩
          · exact .inl ⟨by kernel_rfl, fun L a1 w1 n h => ⟨_, rfl, run_move (.tmp 5) rfl (h.var n 5 (by kernel_rfl))⟩⟩
          · exact .inl ⟨by kernel_rfl, fun L a1 w1 n h => ⟨_, rfl, run_idxO 24 (.tmp 20) (.tmp 21) 99 2 gb ob l2.length c2 i rfl Tryz.underlying24 Tryz.sizeOf99 (h.dep n 4 20 (by kernel_rfl) rfl) (h.dep n 5 21 (by kernel_rfl) rfl) hlt2.out⟩⟩
          · exact .inl ⟨by kernel_rfl, fun L a1 w1 n h => ⟨_, rfl, run_loadCs 99 (.tmp 22) gb (ob + i * 2) b.cells _ rfl (h.dep n 6 22 (by kernel_rfl) rfl) (hbc w1 h.inv) Tryz.underlying99 rfl (szSc b)⟩⟩
          · exact .inl ⟨by kernel_rfl, fun L a1 w1 n h => ⟨_, rfl, run_neqS (.tmp 19) (.tmp 23) rfl heq (h.dep n 3 19 (by kernel_rfl) rfl) (h.dep n 7 23 (by kernel_rfl) rfl) (by kernel_rfl)⟩⟩
        case he6 =>
          intro V w11 hV hJ
          have b11 : Below wr.heap.size wr w11 := hJ
          have hE : V 8 = .bool rr := hV 8 _ rfl
          clear hV hJ
          simp only [putOps, List.setIfInBounds_toArray, List.set_cons_succ, List.set_cons_zero, Nat.reduceAdd]
          rw [hE]
          refine hK6 _ _ ?_
          have B11 := BW.trans (b11.mono hwb)
          cases rr with
          | true =>
            go_wp2_with fail
            go_ret
            have hab : a ≠ b := by have := hrr.out; simpa using this.symm
            have : ¬ l = l2 := fun e => by
              have h1 := ha.out; rw [e, hb.out] at h1
              exact hab (Option.some.inj h1).symm
            exact ⟨by rw [decide_eq_false this]; rfl, B11⟩
          | false =>
            go_wp2_with fail
            go_roundw
            case rel =>
              have hab : a = b := by have := hrr.out; simpa using this.symm
              exact ⟨i + 1, by have := hlt.out; omega, by go_num, by rw [take_more ha.out, take_more hb.out, hsame.out, hab], B11⟩
            case measure => have := hlt.out; simp [intOf]; omega
      · obtain rfl : i = l.length := by omega
        go_wp2_with fail
        go_ret
        have : l = l2 := by
          rw [List.take_of_length_le (Nat.le_refl _), List.take_of_length_le (by rw [hne.out]; exact Nat.le_refl _)] at hsame
          exact hsame
        exact ⟨by rw [decide_eq_true this]; rfl, BW⟩
  · have hne1 : ¬ (l.length : Int) = (l2.length : Int) := by omega
    have hne2 : decide ((l.length : Int) = (l2.length : Int)) = false := decide_eq_false hne1
    have hne3 : ((l.length : Int) == (l2.length : Int)) = false := by simpa using hne1
    have hne4 : decide (l.length = l2.length) = false := decide_eq_false hne
    have hno : ¬ l = l2 := fun e => hne (by rw [e])
    rw [decide_eq_false hno]
    clear hno hne
    go_enter Tryz.func142, Tryz.ntmps142
    go_wp2_with fail
    go_ret
    exact ⟨rfl, Below.refl _ _⟩

def SsameS_any (ga gb oa ob i c c2 : Nat) (l l2 : List Sc) (a b : Sc) (rr : Bool) (opn : Nat) (v : Value) : Prop :=
  match opn with
  | 0 => v = .slice (some ⟨ga, oa, none⟩) l.length c
  | 1 | 5 => v = .int .i64 (i : Int)
  | 2 => v = .pointer (some ⟨ga, oa + i * 2, none⟩)
  | 3 => v = .agg a.cells.toArray
  | 4 => v = .slice (some ⟨gb, ob, none⟩) l2.length c2
  | 6 => v = .pointer (some ⟨gb, ob + i * 2, none⟩)
  | 7 => v = .agg b.cells.toArray
  | 8 => v = .bool rr
  | _ => True

set_option maxRecDepth 100000 in
set_option maxHeartbeats 1000000 in
theorem sameS_any (w : World) (v v2 : Value) (l l2 : List Sc) (h : SlV Sc.cells 2 w w.heap.size v l) (h2 : SlV Sc.cells 2 w w.heap.size v2 l2) (hl : l.length ≤ 140737488355328) (hl2 : l2.length ≤ 140737488355328) : Calls Tryz.prog 88 #[v, v2] w fun e w' => e = .returned (.bool (decide (l = l2))) ∧ Below w.heap.size w w' := by
  obtain ⟨A, c, rfl⟩ := h.sl
  obtain ⟨A2, c2, rfl⟩ := h2.sl
  have hlI : (l.length : Int) ≤ 140737488355328 := by omega
  have hlI2 : (l2.length : Int) ≤ 140737488355328 := by omega
  by_cases hne : l.length = l2.length
  · have hne1 : (l.length : Int) = (l2.length : Int) := by omega
    have hne2 : decide ((l.length : Int) = (l2.length : Int)) = true := decide_eq_true hne1
    have hne3 : ((l.length : Int) == (l2.length : Int)) = true := by simp [hne1]
    have hne4 : decide (l.length = l2.length) = true := decide_eq_true hne
    replace hne := hide hne
    clear hne1
    go_enter Tryz.func88, Tryz.ntmps88
    go_wp2_with fail
    clear hne2 hne3 hne4
    go_loopw [5] (fun iv wr => ∃ i : Nat, i ≤ l.length ∧ iv = .int .i64 (i : Int) ∧ l.take i = l2.take i ∧ Below w.heap.size w wr) (fun iv _ => l.length - (intOf iv).toNat)
    case atStart => exact ⟨0, by omega, rfl, rfl, Below.refl _ _⟩
    case round =>
      obtain ⟨i, hi, rfl, hsame, BW⟩ := hrel
      have hwb := BW.size
      by_cases hlt : i < l.length
      · have hltI : (i : Int) < (l.length : Int) := by omega
        have hlt2 : i < l2.length := by rw [← hne.out]; exact hlt
        obtain ⟨a, ha⟩ : ∃ a, l[i]? = some a := ⟨_, List.getElem?_eq_getElem hlt⟩
        obtain ⟨b, hb⟩ : ∃ b, l2[i]? = some b := ⟨_, List.getElem?_eq_getElem hlt2⟩
        obtain ⟨x1, ga, oa, rfl, hga, hca⟩ := h.at ha
        obtain ⟨x2, gb, ob, rfl, hgb, hcb⟩ := h2.at hb
        clear x1 x2
        have hac : ∀ w1, Below wr.heap.size wr w1 → ∀ j u, a.cells[j]? = some u → w1.cell? ⟨ga, (oa + i * 2) + j, none⟩ = some u := fun w1 hb1 j u hj => ((BW.trans (hb1.mono hwb)).cell (p := ⟨ga, _, none⟩) hga).trans (hca j u hj)
        have hbc : ∀ w1, Below wr.heap.size wr w1 → ∀ j u, b.cells[j]? = some u → w1.cell? ⟨gb, (ob + i * 2) + j, none⟩ = some u := fun w1 hb1 j u hj => ((BW.trans (hb1.mono hwb)).cell (p := ⟨gb, _, none⟩) hgb).trans (hcb j u hj)
        clear hca hcb hga hgb
        obtain ⟨rr, hrr⟩ : ∃ rr, rr = !decide (a = b) := ⟨_, rfl⟩
        have heq : ∀ w, (Op.equalIn 10000 99 (.agg a.cells.toArray) (.agg b.cells.toArray)).run Tryz.prog w = .ok (!rr) w := by
          intro w; rw [hrr, Bool.not_not]; exact eqScore a b w
        replace hlt := hide hlt
        replace hlt2 := hide hlt2
        replace ha := hide ha
        replace hb := hide hb
        replace hsame := hide hsame
        replace hrr := hide hrr
        go_wp2_with fail
        rename_i K6 hK6
        refine wp_region_vals [] (SsameS_any ga gb oa ob i c c2 l l2 a b rr) (fun _ _ wz => Below wr.heap.size wr wz) (by kernel_rfl) (by kernel_rfl) (by kernel_rfl) (by kernel_rfl) (by kernel_rfl) ((Below.refl _ _).drew) ?obs6 ?he6
        case obs6 =>
          refine ⟨?_, ?_, ?_, ?_, ?_, ?_, ?_, ?_, ?_, trivial⟩
          · exact .inl ⟨by kernel_rfl, fun L a1 w1 n h => ⟨_, rfl, run_move (.tmp 0) rfl (h.var n 0 (by kernel_rfl))⟩⟩
          · exact .inl ⟨by kernel_rfl, fun L a1 w1 n h => ⟨_, rfl, run_move (.tmp 5) rfl (h.var n 5 (by kernel_rfl))⟩⟩
          · exact .inl ⟨by kernel_rfl, fun L a1 w1 n h => ⟨_, rfl, run_idxO 24 (.tmp 17) (.tmp 18) 99 2 ga oa l.length c i rfl Tryz.underlying24 Tryz.sizeOf99 (h.dep n 0 17 (by kernel_rfl) rfl) (h.dep n 1 18 (by kernel_rfl) rfl) hlt.out⟩⟩
          · exact .inl ⟨by kernel_rfl, fun L a1 w1 n h => ⟨_, rfl, run_loadCs 99 (.tmp 19) ga (oa + i * 2) a.cells _ rfl (h.dep n 2 19 (by kernel_rfl) rfl) (hac w1 h.inv) Tryz.underlying99 rfl (szSc a)⟩⟩
          · exact .inl ⟨by kernel_rfl, fun L a1 w1 n h => ⟨_, rfl, run_move (.tmp 1) rfl (h.var n 1 (by kernel_rfl))⟩⟩
          · exact .inl ⟨by kernel_rfl, fun L a1 w1 n h => ⟨_, rfl, run_move (.tmp 5) rfl (h.var n 5 (by kernel_rfl))⟩⟩
          · exact .inl ⟨by kernel_rfl, fun L a1 w1 n h => ⟨_, rfl, run_idxO 24 (.tmp 21) (.tmp 22) 99 2 gb ob l2.length c2 i rfl Tryz.underlying24 Tryz.sizeOf99 (h.dep n 4 21 (by kernel_rfl) rfl) (h.dep n 5 22 (by kernel_rfl) rfl) hlt2.out⟩⟩
          · exact .inl ⟨by kernel_rfl, fun L a1 w1 n h => ⟨_, rfl, run_loadCs 99 (.tmp 23) gb (ob + i * 2) b.cells _ rfl (h.dep n 6 23 (by kernel_rfl) rfl) (hbc w1 h.inv) Tryz.underlying99 rfl (szSc b)⟩⟩
          · exact .inl ⟨by kernel_rfl, fun L a1 w1 n h => ⟨_, rfl, run_neqS (.tmp 20) (.tmp 24) rfl heq (h.dep n 3 20 (by kernel_rfl) rfl) (h.dep n 7 24 (by kernel_rfl) rfl) (by kernel_rfl)⟩⟩
        case he6 =>
          intro V w11 hV hJ
          have b11 : Below wr.heap.size wr w11 := hJ
          have hE : V 8 = .bool rr := hV 8 _ rfl
          clear hV hJ
          simp only [putOps, List.setIfInBounds_toArray, List.set_cons_succ, List.set_cons_zero, Nat.reduceAdd]
          rw [hE]
          refine hK6 _ _ ?_
          have B11 := BW.trans (b11.mono hwb)
          cases rr with
          | true =>
            go_wp2_with fail
            go_ret
            have hab : a ≠ b := by have := hrr.out; simpa using this.symm
            have : ¬ l = l2 := fun e => by
              have h1 := ha.out; rw [e, hb.out] at h1
              exact hab (Option.some.inj h1).symm
            exact ⟨by rw [decide_eq_false this]; rfl, B11⟩
          | false =>
            go_wp2_with fail
            go_roundw
            case rel =>
              have hab : a = b := by have := hrr.out; simpa using this.symm
              exact ⟨i + 1, by have := hlt.out; omega, by go_num, by rw [take_more ha.out, take_more hb.out, hsame.out, hab], B11⟩
            case measure => have := hlt.out; simp [intOf]; omega
      · obtain rfl : i = l.length := by omega
        go_wp2_with fail
        go_ret
        have : l = l2 := by
          rw [List.take_of_length_le (Nat.le_refl _), List.take_of_length_le (by rw [hne.out]; exact Nat.le_refl _)] at hsame
          exact hsame
        exact ⟨by rw [decide_eq_true this]; rfl, BW⟩
  · have hne1 : ¬ (l.length : Int) = (l2.length : Int) := by omega
    have hne2 : decide ((l.length : Int) = (l2.length : Int)) = false := decide_eq_false hne1
    have hne3 : ((l.length : Int) == (l2.length : Int)) = false := by simpa using hne1
    have hne4 : decide (l.length = l2.length) = false := decide_eq_false hne
    have hno : ¬ l = l2 := fun e => hne (by rw [e])
    rw [decide_eq_false hno]
    clear hno hne
    go_enter Tryz.func88, Tryz.ntmps88
    go_wp2_with fail
    go_ret
    exact ⟨rfl, Below.refl _ _⟩

end Go.Proofs.YtpbkejmffddelaaGreat

/-
  Whether two values are the same: the program's Same. Own work.
-/
namespace Go.Proofs.YtpbkejmffddelaaGreat
open Go.RowKit Go.Shelf
theorem szVl (x : Vl) (vp vl vs : Value) : (Tryz.prog.info? 26).map (·.size) = some (vlC x vp vl vs).length := by kernel_rfl
theorem cellsVl (x : Vl) (vp vl vs : Value) : (vlV x vp vl vs).cells = (vlC x vp vl vs).toArray := rfl
theorem Vl.ne_of {x y : Vl} (h : x.k ≠ y.k ∨ x.t ≠ y.t ∨ x.ps ≠ y.ps ∨ x.ls ≠ y.ls ∨ x.ss ≠ y.ss) : decide (x = y) = false := by
  apply decide_eq_false
  rintro rfl
  rcases h with h | h | h | h | h <;> exact h rfl
theorem Vl.eq_of {x y : Vl} (h1 : x.k = y.k) (h2 : x.t = y.t) (h3 : x.ps = y.ps) (h4 : x.ls = y.ls) (h5 : x.ss = y.ss) : x = y := by
  obtain ⟨a, b, c, d, e⟩ := x
  obtain ⟨a', b', c', d', e'⟩ := y
  subst h1 h2 h3 h4 h5
  rfl
set_option maxRecDepth 100000 in
set_option maxHeartbeats 2000000 in
theorem same_any (w : World) (x y : Vl) (vp vl vs vp' vl' vs' : Value) (h : VlM w w.heap.size x vp vl vs) (h2 : VlM w w.heap.size y vp' vl' vs') (fx : x.Fits) (fy : y.Fits) : Calls Tryz.prog 121 #[vlV x vp vl vs, vlV y vp' vl' vs'] w fun e w' => e = .returned (.bool (decide (x = y))) ∧ Below w.heap.size w w' := by
  by_cases hk : x.k = y.k
  · have hk1 : decide (x.k = y.k) = true := decide_eq_true hk
    have hk2 : (x.k == y.k) = true := by simp [hk]
    replace hk := hide hk
    by_cases ht : x.t = y.t
    · have ht1 : decide (x.t = y.t) = true := decide_eq_true ht
      have ht2 : (x.t == y.t) = true := by simp [ht]
      replace ht := hide ht
      go_enter Tryz.func121, Tryz.ntmps121
      go_wp2_with (first
      | (with_reducible refine wl_box (o := ⟨some 2, _, _, _, _, _⟩) rfl 26 (.tmp 0) _ (vlC x vp vl vs) rfl rfl rfl ?_; intro g2 w2 r2 p2 l2 b2)
      | (with_reducible refine wl_box (o := ⟨some 3, _, _, _, _, _⟩) rfl 26 (.tmp 1) _ (vlC y vp' vl' vs') rfl rfl rfl ?_; intro g3 w3 r3 p3 l3 b3; have r2b := r2.later b3; have B3 := b2.trans (b3.mono b2.size); have c0 := r2b.cell (j := 0) rfl; have c1 := r2b.cell (j := 1) rfl; have c2 := r2b.cell (j := 2) rfl; have c3 := r2b.cell (j := 3) rfl; have c4 := r2b.cell (j := 4) rfl; have d0 := r3.cell (j := 0) rfl; have d1 := r3.cell (j := 1) rfl; have d2 := r3.cell (j := 2) rfl; have d3 := r3.cell (j := 3) rfl; have d4 := r3.cell (j := 4) rfl; clear p2 p3 l2 l3))
      clear hk1 hk2 ht1 ht2
      refine (equalP_any w3 vp vp' x.ps y.ps (h.p.later B3) (h2.p.later B3) fx.p fy.p).mono ?_
      rintro e w4 ⟨rfl, b4⟩
      obtain ⟨bp, hbp⟩ : ∃ b, b = decide (x.ps = y.ps) := ⟨_, rfl⟩
      rw [← hbp]
      replace hbp := hide hbp
      have B4 := B3.trans (b4.mono B3.size)
      have r2c := r2b.later b4
      have r3c := r3.later b4
      clear c0 c1 c2 c3 c4 d0 d1 d2 d3 d4
      have c3 := r2c.cell (j := 3) rfl
      have d3 := r3c.cell (j := 3) rfl
      cases bp with
      | false =>
        go_wp2_with fail
        go_ret
        exact ⟨by rw [Vl.ne_of (.inr (.inr (.inl (of_decide_eq_false hbp.out.symm))))]; rfl, B4⟩
      | true =>
        go_wp2_with fail
        refine (equalW_any w4 vl vl' x.ls y.ls (h.l.later B4) (h2.l.later B4) fx.l fy.l).mono ?_
        rintro e w5 ⟨rfl, b5⟩
        obtain ⟨bl, hbl⟩ : ∃ b, b = decide (x.ls = y.ls) := ⟨_, rfl⟩
        rw [← hbl]
        replace hbl := hide hbl
        have B5 := B4.trans (b5.mono B4.size)
        have r2d := r2c.later b5
        have r3d := r3c.later b5
        clear c3 d3
        have c4 := r2d.cell (j := 4) rfl
        have d4 := r3d.cell (j := 4) rfl
        cases bl with
        | false =>
          go_wp2_with fail
          go_ret
          exact ⟨by rw [Vl.ne_of (.inr (.inr (.inr (.inl (of_decide_eq_false hbl.out.symm)))))]; rfl, B5⟩
        | true =>
          go_wp2_with fail
          refine (equalS_any w5 vs vs' x.ss y.ss (h.s.later B5) (h2.s.later B5) fx.s fy.s).mono ?_
          rintro e w6 ⟨rfl, b6⟩
          have B6 := B5.trans (b6.mono B5.size)
          obtain ⟨bs, hbs⟩ : ∃ b, b = decide (x.ss = y.ss) := ⟨_, rfl⟩
          rw [← hbs]
          replace hbs := hide hbs
          cases bs with
          | false =>
            go_wp2_with fail
            go_ret
            exact ⟨by rw [Vl.ne_of (.inr (.inr (.inr (.inr (of_decide_eq_false hbs.out.symm)))))]; rfl, B6⟩
          | true =>
            go_wp2_with fail
            go_ret
            have : x = y := Vl.eq_of hk.out ht.out (of_decide_eq_true hbp.out.symm) (of_decide_eq_true hbl.out.symm) (of_decide_eq_true hbs.out.symm)
            exact ⟨by rw [decide_eq_true this]; rfl, B6⟩
    · have ht1 : decide (x.t = y.t) = false := decide_eq_false ht
      have ht2 : (x.t == y.t) = false := by simpa using ht
      rw [Vl.ne_of (.inr (.inl ht))]
      replace ht := hide ht
      replace hk := hide hk
      go_enter Tryz.func121, Tryz.ntmps121
      go_wp2_with (first
      | (with_reducible refine wl_box (o := ⟨some 2, _, _, _, _, _⟩) rfl 26 (.tmp 0) _ (vlC x vp vl vs) rfl rfl rfl ?_; intro g2 w2 r2 p2 l2 b2)
      | (with_reducible refine wl_box (o := ⟨some 3, _, _, _, _, _⟩) rfl 26 (.tmp 1) _ (vlC y vp' vl' vs') rfl rfl rfl ?_; intro g3 w3 r3 p3 l3 b3; have r2b := r2.later b3; have B3 := b2.trans (b3.mono b2.size); have c0 := r2b.cell (j := 0) rfl; have c1 := r2b.cell (j := 1) rfl; have c2 := r2b.cell (j := 2) rfl; have c3 := r2b.cell (j := 3) rfl; have c4 := r2b.cell (j := 4) rfl; have d0 := r3.cell (j := 0) rfl; have d1 := r3.cell (j := 1) rfl; have d2 := r3.cell (j := 2) rfl; have d3 := r3.cell (j := 3) rfl; have d4 := r3.cell (j := 4) rfl; clear p2 p3 l2 l3))
      go_ret
      exact ⟨rfl, B3⟩
  · have hk1 : decide (x.k = y.k) = false := decide_eq_false hk
    have hk2 : (x.k == y.k) = false := by simpa using hk
    rw [Vl.ne_of (.inl hk)]
    replace hk := hide hk
    go_enter Tryz.func121, Tryz.ntmps121
    go_wp2_with (first
      | (with_reducible refine wl_box (o := ⟨some 2, _, _, _, _, _⟩) rfl 26 (.tmp 0) _ (vlC x vp vl vs) rfl rfl rfl ?_; intro g2 w2 r2 p2 l2 b2)
      | (with_reducible refine wl_box (o := ⟨some 3, _, _, _, _, _⟩) rfl 26 (.tmp 1) _ (vlC y vp' vl' vs') rfl rfl rfl ?_; intro g3 w3 r3 p3 l3 b3; have r2b := r2.later b3; have B3 := b2.trans (b3.mono b2.size); have c0 := r2b.cell (j := 0) rfl; have c1 := r2b.cell (j := 1) rfl; have c2 := r2b.cell (j := 2) rfl; have c3 := r2b.cell (j := 3) rfl; have c4 := r2b.cell (j := 4) rfl; have d0 := r3.cell (j := 0) rfl; have d1 := r3.cell (j := 1) rfl; have d2 := r3.cell (j := 2) rfl; have d3 := r3.cell (j := 3) rfl; have d4 := r3.cell (j := 4) rfl; clear p2 p3 l2 l3))
    go_ret
    exact ⟨rfl, B3⟩
end Go.Proofs.YtpbkejmffddelaaGreat

/-
  Whether two values are the same: the document's Same. Own work.
-/
namespace Go.Proofs.YtpbkejmffddelaaGreat
open Go.RowKit Go.Shelf
def SDp (g2 g3 ga gb oa ob i c c2 : Nat) (l l2 : List Pr) (a b : Pr) (rr : Bool) (opn : Nat) (v : Value) : Prop :=
  match opn with
  | 0 => v = .pointer (some ⟨g2, 2, none⟩)
  | 1 => v = .slice (some ⟨ga, oa, none⟩) l.length c
  | 2 | 7 => v = .int .i64 (i : Int)
  | 3 => v = .pointer (some ⟨ga, oa + i * 2, none⟩)
  | 4 => v = .agg a.cells.toArray
  | 5 => v = .pointer (some ⟨g3, 2, none⟩)
  | 6 => v = .slice (some ⟨gb, ob, none⟩) l2.length c2
  | 8 => v = .pointer (some ⟨gb, ob + i * 2, none⟩)
  | 9 => v = .agg b.cells.toArray
  | 10 => v = .bool rr
  | _ => True

def SDl (g2 g3 ga gb oa ob i c c2 : Nat) (l l2 : List Nm) (a b : Nm) (rr : Bool) (opn : Nat) (v : Value) : Prop :=
  match opn with
  | 0 => v = .pointer (some ⟨g2, 3, none⟩)
  | 1 => v = .slice (some ⟨ga, oa, none⟩) l.length c
  | 2 | 7 => v = .int .i64 (i : Int)
  | 3 => v = .pointer (some ⟨ga, oa + i * 1, none⟩)
  | 4 => v = encStr a
  | 5 => v = .pointer (some ⟨g3, 3, none⟩)
  | 6 => v = .slice (some ⟨gb, ob, none⟩) l2.length c2
  | 8 => v = .pointer (some ⟨gb, ob + i * 1, none⟩)
  | 9 => v = encStr b
  | 10 => v = .bool rr
  | _ => True

set_option maxRecDepth 100000 in
set_option maxHeartbeats 4000000 in
theorem rsameV_any (w : World) (x y : Vl) (vp vl vs vp' vl' vs' : Value) (h : VlM w w.heap.size x vp vl vs) (h2 : VlM w w.heap.size y vp' vl' vs') (fx : x.Fits) (fy : y.Fits) : Calls Tryz.prog 24 #[vlV x vp vl vs, vlV y vp' vl' vs'] w fun e w' => e = .returned (.bool (decide (x = y))) ∧ Below w.heap.size w w' := by
  obtain ⟨A2, C2, rfl⟩ := h.p.sl
  obtain ⟨A3, C3, rfl⟩ := h.l.sl
  obtain ⟨A4, C4, rfl⟩ := h.s.sl
  obtain ⟨A2', D2, rfl⟩ := h2.p.sl
  obtain ⟨A3', D3, rfl⟩ := h2.l.sl
  obtain ⟨A4', D4, rfl⟩ := h2.s.sl
  have fpI : (x.ps.length : Int) ≤ 140737488355328 := by have := fx.p; omega
  have flI : (x.ls.length : Int) ≤ 140737488355328 := by have := fx.l; omega
  by_cases hk : x.k = y.k
  · have hk1 : decide (x.k = y.k) = true := decide_eq_true hk
    have hk2 : (x.k == y.k) = true := by simp [hk]
    replace hk := hide hk
    by_cases ht : x.t = y.t
    · have ht1 : decide (x.t = y.t) = true := decide_eq_true ht
      have ht2 : (x.t == y.t) = true := by simp [ht]
      replace ht := hide ht
      by_cases hl2 : x.ps.length = y.ps.length
      · have hq1 : decide ((x.ps.length : Int) = (y.ps.length : Int)) = true := decide_eq_true (by omega)
        have hq2 : ((x.ps.length : Int) == (y.ps.length : Int)) = true := by simp [hl2]
        have hq3 : decide (x.ps.length = y.ps.length) = true := decide_eq_true hl2
        have hq8 : ((x.ps.length : Int) != (y.ps.length : Int)) = false := by simp [hl2]
        replace hl2 := hide hl2
        by_cases hl3 : x.ls.length = y.ls.length
        · have hq4 : decide ((x.ls.length : Int) = (y.ls.length : Int)) = true := decide_eq_true (by omega)
          have hq5 : ((x.ls.length : Int) == (y.ls.length : Int)) = true := by simp [hl3]
          have hq6 : decide (x.ls.length = y.ls.length) = true := decide_eq_true hl3
          have hq9 : ((x.ls.length : Int) != (y.ls.length : Int)) = false := by simp [hl3]
          replace hl3 := hide hl3
          go_enter Tryz.func24, Tryz.ntmps24
          go_wp2_with (first
      | (with_reducible refine wl_box (o := ⟨some 2, _, _, _, _, _⟩) rfl 26 (.tmp 0) _ (vlC x (.slice A2 x.ps.length C2) (.slice A3 x.ls.length C3) (.slice A4 x.ss.length C4)) rfl rfl rfl ?_; intro g2 w2 r2 p2 l2 b2)
      | (with_reducible refine wl_box (o := ⟨some 3, _, _, _, _, _⟩) rfl 26 (.tmp 1) _ (vlC y (.slice A2' y.ps.length D2) (.slice A3' y.ls.length D3) (.slice A4' y.ss.length D4)) rfl rfl rfl ?_; intro g3 w3 r3 p3 l3 b3; have r2b := r2.later b3; have B3 := b2.trans (b3.mono b2.size); have c0 := r2b.cell (j := 0) rfl; have c1 := r2b.cell (j := 1) rfl; have c2 := r2b.cell (j := 2) rfl; have c3 := r2b.cell (j := 3) rfl; have c4 := r2b.cell (j := 4) rfl; have d0 := r3.cell (j := 0) rfl; have d1 := r3.cell (j := 1) rfl; have d2 := r3.cell (j := 2) rfl; have d3 := r3.cell (j := 3) rfl; have d4 := r3.cell (j := 4) rfl; clear p2 p3 l2 l3))
          clear hk1 hk2 ht1 ht2 hq1 hq2 hq3 hq4 hq5 hq6 hq8 hq9
          refine (sameS_any w3 _ _ x.ss y.ss (h.s.later B3) (h2.s.later B3) fx.s fy.s).mono ?_
          rintro e w6 ⟨rfl, b6⟩
          have B6 := B3.trans (b6.mono B3.size)
          have r2d := r2b.later b6
          have r3d := r3.later b6
          obtain ⟨bs, hbs⟩ : ∃ b, b = decide (x.ss = y.ss) := ⟨_, rfl⟩
          rw [← hbs]
          replace hbs := hide hbs
          have h6 := h.later B6
          have h26 := h2.later B6
          clear c0 c1 c2 c3 c4 d0 d1 d2 d3 d4 h h2 fx fy b2 b3 r2 r2b r3
          cases bs with
          | false =>
            go_wp2_with fail
            go_ret
            exact ⟨by rw [Vl.ne_of (.inr (.inr (.inr (.inr (of_decide_eq_false hbs.out.symm)))))]; rfl, B6⟩
          | true =>
          go_wp2_with fail
          go_loopw [5] (fun iv wr => ∃ i : Nat, i ≤ x.ps.length ∧ iv = .int .i64 (i : Int) ∧ x.ps.take i = y.ps.take i ∧ Below w6.heap.size w6 wr) (fun iv _ => x.ps.length - (intOf iv).toNat)
          case atStart => exact ⟨0, by omega, rfl, rfl, Below.refl _ _⟩
          case round =>
            skip
            obtain ⟨i, hi, rfl, hsame, BW⟩ := hrel
            have hwb := BW.size
            have r2w := r2d.later BW
            have r3w := r3d.later BW
            have cc2 := r2w.cell (j := 2) rfl
            have dd2 := r3w.cell (j := 2) rfl
            by_cases hlt : i < x.ps.length
            · have hltI : (i : Int) < (x.ps.length : Int) := by omega
              have hlt2 : i < y.ps.length := by rw [← hl2.out]; exact hlt
              obtain ⟨a, ha⟩ : ∃ a, x.ps[i]? = some a := ⟨_, List.getElem?_eq_getElem hlt⟩
              obtain ⟨b, hb⟩ : ∃ b, y.ps[i]? = some b := ⟨_, List.getElem?_eq_getElem hlt2⟩
              obtain ⟨x1, ga, oa, rfl, hga, hca⟩ := h6.p.at ha
              obtain ⟨x2, gb, ob, rfl, hgb, hcb⟩ := h26.p.at hb
              clear x1 x2
              have hac : ∀ w1, Below wr.heap.size wr w1 → ∀ j u, a.cells[j]? = some u → w1.cell? ⟨ga, (oa + i * 2) + j, none⟩ = some u := fun w1 hb1 j u hj => ((BW.trans (hb1.mono hwb)).cell (p := ⟨ga, _, none⟩) hga).trans (hca j u hj)
              have hbc : ∀ w1, Below wr.heap.size wr w1 → ∀ j u, b.cells[j]? = some u → w1.cell? ⟨gb, (ob + i * 2) + j, none⟩ = some u := fun w1 hb1 j u hj => ((BW.trans (hb1.mono hwb)).cell (p := ⟨gb, _, none⟩) hgb).trans (hcb j u hj)
              clear hca hcb hga hgb
              have hma : ∀ w1, Below wr.heap.size wr w1 → w1.cell? ⟨g2, 2, none⟩ = some (.slice (some ⟨ga, oa, none⟩) x.ps.length C2) := fun w1 hb1 => (r2w.later hb1).cell rfl
              have hmb : ∀ w1, Below wr.heap.size wr w1 → w1.cell? ⟨g3, 2, none⟩ = some (.slice (some ⟨gb, ob, none⟩) y.ps.length D2) := fun w1 hb1 => (r3w.later hb1).cell rfl
              obtain ⟨rr, hrr⟩ : ∃ rr, rr = !decide (a = b) := ⟨_, rfl⟩
              have heq : ∀ w, (Op.equalIn 10000 87 (.agg a.cells.toArray) (.agg b.cells.toArray)).run Tryz.prog w = .ok (!rr) w := by
                intro w; rw [hrr, Bool.not_not]; exact eqPair a b w
              replace hlt := hide hlt
              replace hlt2 := hide hlt2
              replace ha := hide ha
              replace hb := hide hb
              replace hsame := hide hsame
              replace hrr := hide hrr
              clear h6 h26
              go_wp2_with fail
              rename_i K6 hK6
              refine wp_region_vals [] (SDp g2 g3 ga gb oa ob i C2 D2 x.ps y.ps a b rr) (fun _ _ wz => Below wr.heap.size wr wz) (by kernel_rfl) (by kernel_rfl) (by kernel_rfl) (by kernel_rfl) (by kernel_rfl) ((Below.refl _ _).drew) ?obs2 ?he2
              case obs2 =>
                refine ⟨?_, ?_, ?_, ?_, ?_, ?_, ?_, ?_, ?_, ?_, ?_, trivial⟩
                · refine .inl ⟨by kernel_rfl, fun L a1 w1 n h => ⟨.pointer (some ⟨g2, 2, none⟩), rfl, ?_⟩⟩
                  have e0 : a1.eval (.tmp 2) = _ := h.var n 2 (by kernel_rfl)
                  unfold execOp
                  simp only [e0]
                  go_simp
                · exact .inl ⟨by kernel_rfl, fun L a1 w1 n h => ⟨_, rfl, run_load1 22 (.tmp 52) g2 2 _ rfl Tryz.isAgg22 (h.dep n 0 52 (by kernel_rfl) rfl) (hma w1 h.inv)⟩⟩
                · exact .inl ⟨by kernel_rfl, fun L a1 w1 n h => ⟨_, rfl, run_move (.tmp 5) rfl (h.var n 5 (by kernel_rfl))⟩⟩
                · exact .inl ⟨by kernel_rfl, fun L a1 w1 n h => ⟨_, rfl, run_idxO 22 (.tmp 53) (.tmp 54) 87 2 ga oa _ _ i rfl Tryz.underlying22 Tryz.sizeOf87 (h.dep n 1 53 (by kernel_rfl) rfl) (h.dep n 2 54 (by kernel_rfl) rfl) hlt.out⟩⟩
                · exact .inl ⟨by kernel_rfl, fun L a1 w1 n h => ⟨_, rfl, run_loadCs 87 (.tmp 55) ga (oa + i * 2) a.cells _ rfl (h.dep n 3 55 (by kernel_rfl) rfl) (hac w1 h.inv) Tryz.underlying87 rfl (szPr a)⟩⟩
                · refine .inl ⟨by kernel_rfl, fun L a1 w1 n h => ⟨.pointer (some ⟨g3, 2, none⟩), rfl, ?_⟩⟩
                  have e0 : a1.eval (.tmp 3) = _ := h.var n 3 (by kernel_rfl)
                  unfold execOp
                  simp only [e0]
                  go_simp
                · exact .inl ⟨by kernel_rfl, fun L a1 w1 n h => ⟨_, rfl, run_load1 22 (.tmp 57) g3 2 _ rfl Tryz.isAgg22 (h.dep n 5 57 (by kernel_rfl) rfl) (hmb w1 h.inv)⟩⟩
                · exact .inl ⟨by kernel_rfl, fun L a1 w1 n h => ⟨_, rfl, run_move (.tmp 5) rfl (h.var n 5 (by kernel_rfl))⟩⟩
                · exact .inl ⟨by kernel_rfl, fun L a1 w1 n h => ⟨_, rfl, run_idxO 22 (.tmp 58) (.tmp 59) 87 2 gb ob _ _ i rfl Tryz.underlying22 Tryz.sizeOf87 (h.dep n 6 58 (by kernel_rfl) rfl) (h.dep n 7 59 (by kernel_rfl) rfl) hlt2.out⟩⟩
                · exact .inl ⟨by kernel_rfl, fun L a1 w1 n h => ⟨_, rfl, run_loadCs 87 (.tmp 60) gb (ob + i * 2) b.cells _ rfl (h.dep n 8 60 (by kernel_rfl) rfl) (hbc w1 h.inv) Tryz.underlying87 rfl (szPr b)⟩⟩
                · exact .inl ⟨by kernel_rfl, fun L a1 w1 n h => ⟨_, rfl, run_neqS (.tmp 56) (.tmp 61) rfl heq (h.dep n 4 56 (by kernel_rfl) rfl) (h.dep n 9 61 (by kernel_rfl) rfl) (by kernel_rfl)⟩⟩
              case he2 =>
                intro V w11 hV hJ
                have b11 : Below wr.heap.size wr w11 := hJ
                have hE : V 10 = .bool rr := hV 10 _ rfl
                clear hV hJ
                simp only [putOps, List.setIfInBounds_toArray, List.set_cons_succ, List.set_cons_zero, Nat.reduceAdd]
                rw [hE]
                refine hK6 _ _ ?_
                have B11 := BW.trans (b11.mono hwb)
                cases rr with
                | true =>
                  go_wp2_with fail
                  go_ret
                  have hab : a ≠ b := by have := hrr.out; simpa using this.symm
                  have : x.ps ≠ y.ps := fun e => by
                    have h1 := ha.out; rw [e, hb.out] at h1
                    exact hab (Option.some.inj h1).symm
                  exact ⟨by rw [Vl.ne_of (.inr (.inr (.inl this)))]; rfl, B6.trans (B11.mono B6.size)⟩
                | false =>
                  go_wp2_with fail
                  go_roundw
                  case rel =>
                    have hab : a = b := by have := hrr.out; simpa using this.symm
                    exact ⟨i + 1, by have := hlt.out; omega, by go_num, by rw [take_more ha.out, take_more hb.out, hsame.out, hab], B11⟩
                  case measure => have := hlt.out; simp [intOf]; omega
            · obtain rfl : i = x.ps.length := by omega
              have heq2 : x.ps = y.ps := by
                rw [List.take_of_length_le (Nat.le_refl _), List.take_of_length_le (by rw [hl2.out]; exact Nat.le_refl _)] at hsame
                exact hsame
              clear hsame
              replace heq2 := hide heq2
              go_wp2_with fail
              go_loopw [6] (fun iv wr => ∃ i : Nat, i ≤ x.ls.length ∧ iv = .int .i64 (i : Int) ∧ x.ls.take i = y.ls.take i ∧ Below w6.heap.size w6 wr) (fun iv _ => x.ls.length - (intOf iv).toNat)
              case atStart => exact ⟨0, by omega, rfl, rfl, BW⟩
              case round =>
                clear BW r2w r3w cc2 dd2 hwb
                obtain ⟨i, hi, rfl, hsame, BW⟩ := hrel
                have hwb := BW.size
                have r2w := r2d.later BW
                have r3w := r3d.later BW
                have cc3 := r2w.cell (j := 3) rfl
                have dd3 := r3w.cell (j := 3) rfl
                by_cases hlt : i < x.ls.length
                · have hltI : (i : Int) < (x.ls.length : Int) := by omega
                  have hlt2 : i < y.ls.length := by rw [← hl3.out]; exact hlt
                  obtain ⟨a, ha⟩ : ∃ a, x.ls[i]? = some a := ⟨_, List.getElem?_eq_getElem hlt⟩
                  obtain ⟨b, hb⟩ : ∃ b, y.ls[i]? = some b := ⟨_, List.getElem?_eq_getElem hlt2⟩
                  obtain ⟨x1, ga, oa, rfl, hga, hca⟩ := h6.l.at ha
                  obtain ⟨x2, gb, ob, rfl, hgb, hcb⟩ := h26.l.at hb
                  clear x1 x2
                  have hac : ∀ w1, Below wr.heap.size wr w1 → w1.cell? ⟨ga, oa + i * 1, none⟩ = some (encStr a) := fun w1 hb1 => ((BW.trans (hb1.mono hwb)).cell (p := ⟨ga, _, none⟩) hga).trans (hca 0 _ rfl)
                  have hbc : ∀ w1, Below wr.heap.size wr w1 → w1.cell? ⟨gb, ob + i * 1, none⟩ = some (encStr b) := fun w1 hb1 => ((BW.trans (hb1.mono hwb)).cell (p := ⟨gb, _, none⟩) hgb).trans (hcb 0 _ rfl)
                  clear hca hcb hga hgb
                  have hma : ∀ w1, Below wr.heap.size wr w1 → w1.cell? ⟨g2, 3, none⟩ = some (.slice (some ⟨ga, oa, none⟩) x.ls.length C3) := fun w1 hb1 => (r2w.later hb1).cell rfl
                  have hmb : ∀ w1, Below wr.heap.size wr w1 → w1.cell? ⟨g3, 3, none⟩ = some (.slice (some ⟨gb, ob, none⟩) y.ls.length D3) := fun w1 hb1 => (r3w.later hb1).cell rfl
                  obtain ⟨rr, hrr⟩ : ∃ rr, rr = !decide (a = b) := ⟨_, rfl⟩
                  replace hlt := hide hlt
                  replace hlt2 := hide hlt2
                  replace ha := hide ha
                  replace hb := hide hb
                  replace hsame := hide hsame
                  replace hrr := hide hrr
                  clear h6 h26
                  go_wp2_with fail
                  rename_i K6 hK6
                  refine wp_region_vals [] (SDl g2 g3 ga gb oa ob i C3 D3 x.ls y.ls a b rr) (fun _ _ wz => Below wr.heap.size wr wz) (by kernel_rfl) (by kernel_rfl) (by kernel_rfl) (by kernel_rfl) (by kernel_rfl) ((Below.refl _ _).drew) ?obs3 ?he3
                  case obs3 =>
                    refine ⟨?_, ?_, ?_, ?_, ?_, ?_, ?_, ?_, ?_, ?_, ?_, trivial⟩
                    · refine .inl ⟨by kernel_rfl, fun L a1 w1 n h => ⟨.pointer (some ⟨g2, 3, none⟩), rfl, ?_⟩⟩
                      have e0 : a1.eval (.tmp 2) = _ := h.var n 2 (by kernel_rfl)
                      unfold execOp
                      simp only [e0]
                      go_simp
                    · exact .inl ⟨by kernel_rfl, fun L a1 w1 n h => ⟨_, rfl, run_load1 23 (.tmp 70) g2 3 _ rfl Tryz.isAgg23 (h.dep n 0 70 (by kernel_rfl) rfl) (hma w1 h.inv)⟩⟩
                    · exact .inl ⟨by kernel_rfl, fun L a1 w1 n h => ⟨_, rfl, run_move (.tmp 6) rfl (h.var n 6 (by kernel_rfl))⟩⟩
                    · exact .inl ⟨by kernel_rfl, fun L a1 w1 n h => ⟨_, rfl, run_idxO 23 (.tmp 71) (.tmp 72) 9 1 ga oa _ _ i rfl Tryz.underlying23 Tryz.sizeOf9 (h.dep n 1 71 (by kernel_rfl) rfl) (h.dep n 2 72 (by kernel_rfl) rfl) hlt.out⟩⟩
                    · exact .inl ⟨by kernel_rfl, fun L a1 w1 n h => ⟨_, rfl, run_load1 9 (.tmp 73) ga (oa + i * 1) (encStr a) rfl Tryz.isAgg9 (h.dep n 3 73 (by kernel_rfl) rfl) (hac w1 h.inv)⟩⟩
                    · refine .inl ⟨by kernel_rfl, fun L a1 w1 n h => ⟨.pointer (some ⟨g3, 3, none⟩), rfl, ?_⟩⟩
                      have e0 : a1.eval (.tmp 3) = _ := h.var n 3 (by kernel_rfl)
                      unfold execOp
                      simp only [e0]
                      go_simp
                    · exact .inl ⟨by kernel_rfl, fun L a1 w1 n h => ⟨_, rfl, run_load1 23 (.tmp 75) g3 3 _ rfl Tryz.isAgg23 (h.dep n 5 75 (by kernel_rfl) rfl) (hmb w1 h.inv)⟩⟩
                    · exact .inl ⟨by kernel_rfl, fun L a1 w1 n h => ⟨_, rfl, run_move (.tmp 6) rfl (h.var n 6 (by kernel_rfl))⟩⟩
                    · exact .inl ⟨by kernel_rfl, fun L a1 w1 n h => ⟨_, rfl, run_idxO 23 (.tmp 76) (.tmp 77) 9 1 gb ob _ _ i rfl Tryz.underlying23 Tryz.sizeOf9 (h.dep n 6 76 (by kernel_rfl) rfl) (h.dep n 7 77 (by kernel_rfl) rfl) hlt2.out⟩⟩
                    · exact .inl ⟨by kernel_rfl, fun L a1 w1 n h => ⟨_, rfl, run_load1 9 (.tmp 78) gb (ob + i * 1) (encStr b) rfl Tryz.isAgg9 (h.dep n 8 78 (by kernel_rfl) rfl) (hbc w1 h.inv)⟩⟩
                    · exact .inl ⟨by kernel_rfl, fun L a1 w1 n h => ⟨_, rfl, run_neStr (.tmp 74) (.tmp 79) rfl (h.dep n 4 74 (by kernel_rfl) rfl) (h.dep n 9 79 (by kernel_rfl) rfl) hrr.out.symm⟩⟩
                  case he3 =>
                    intro V w11 hV hJ
                    have b11 : Below wr.heap.size wr w11 := hJ
                    have hE : V 10 = .bool rr := hV 10 _ rfl
                    clear hV hJ
                    simp only [putOps, List.setIfInBounds_toArray, List.set_cons_succ, List.set_cons_zero, Nat.reduceAdd]
                    rw [hE]
                    refine hK6 _ _ ?_
                    have B11 := BW.trans (b11.mono hwb)
                    cases rr with
                    | true =>
                      go_wp2_with fail
                      go_ret
                      have hab : a ≠ b := by have := hrr.out; simpa using this.symm
                      have : x.ls ≠ y.ls := fun e => by
                        have h1 := ha.out; rw [e, hb.out] at h1
                        exact hab (Option.some.inj h1).symm
                      exact ⟨by rw [Vl.ne_of (.inr (.inr (.inr (.inl this))))]; rfl, B6.trans (B11.mono B6.size)⟩
                    | false =>
                      go_wp2_with fail
                      go_roundw
                      case rel =>
                        have hab : a = b := by have := hrr.out; simpa using this.symm
                        exact ⟨i + 1, by have := hlt.out; omega, by go_num, by rw [take_more ha.out, take_more hb.out, hsame.out, hab], B11⟩
                      case measure => have := hlt.out; simp [intOf]; omega
                · obtain rfl : i = x.ls.length := by omega
                  have heq3 : x.ls = y.ls := by
                    rw [List.take_of_length_le (Nat.le_refl _), List.take_of_length_le (by rw [hl3.out]; exact Nat.le_refl _)] at hsame
                    exact hsame
                  clear hsame
                  replace heq3 := hide heq3
                  go_wp2_with fail
                  go_ret
                  have : x = y := Vl.eq_of hk.out ht.out heq2.out heq3.out (of_decide_eq_true hbs.out.symm)
                  exact ⟨by rw [decide_eq_true this]; rfl, B6.trans (BW.mono B6.size)⟩
              
        · have hq4 : decide ((x.ls.length : Int) = (y.ls.length : Int)) = false := decide_eq_false (by omega)
          have hq5 : ((x.ls.length : Int) == (y.ls.length : Int)) = false := beq_eq_false_iff_ne.2 (by omega)
          have hq7 : ((x.ls.length : Int) != (y.ls.length : Int)) = true := bne_iff_ne.2 (by omega)
          have hq6 : decide (x.ls.length = y.ls.length) = false := decide_eq_false hl3
          rw [Vl.ne_of (.inr (.inr (.inr (.inl fun e => hl3 (by rw [e])))))]
          replace hl3 := hide hl3
          go_enter Tryz.func24, Tryz.ntmps24
          go_wp2_with (first
                | (with_reducible refine wl_box (o := ⟨some 2, _, _, _, _, _⟩) rfl 26 (.tmp 0) _ (vlC x (.slice A2 x.ps.length C2) (.slice A3 x.ls.length C3) (.slice A4 x.ss.length C4)) rfl rfl rfl ?_; intro g2 w2 r2 p2 l2 b2)
                | (with_reducible refine wl_box (o := ⟨some 3, _, _, _, _, _⟩) rfl 26 (.tmp 1) _ (vlC y (.slice A2' y.ps.length D2) (.slice A3' y.ls.length D3) (.slice A4' y.ss.length D4)) rfl rfl rfl ?_; intro g3 w3 r3 p3 l3 b3; have r2b := r2.later b3; have B3 := b2.trans (b3.mono b2.size); have c0 := r2b.cell (j := 0) rfl; have c1 := r2b.cell (j := 1) rfl; have c2 := r2b.cell (j := 2) rfl; have c3 := r2b.cell (j := 3) rfl; have c4 := r2b.cell (j := 4) rfl; have d0 := r3.cell (j := 0) rfl; have d1 := r3.cell (j := 1) rfl; have d2 := r3.cell (j := 2) rfl; have d3 := r3.cell (j := 3) rfl; have d4 := r3.cell (j := 4) rfl; clear p2 p3 l2 l3))
          go_ret
          exact ⟨rfl, B3⟩
      · have hq1 : decide ((x.ps.length : Int) = (y.ps.length : Int)) = false := decide_eq_false (by omega)
        have hq2 : ((x.ps.length : Int) == (y.ps.length : Int)) = false := beq_eq_false_iff_ne.2 (by omega)
        have hq7 : ((x.ps.length : Int) != (y.ps.length : Int)) = true := bne_iff_ne.2 (by omega)
        have hq3 : decide (x.ps.length = y.ps.length) = false := decide_eq_false hl2
        rw [Vl.ne_of (.inr (.inr (.inl fun e => hl2 (by rw [e]))))]
        replace hl2 := hide hl2
        go_enter Tryz.func24, Tryz.ntmps24
        go_wp2_with (first
              | (with_reducible refine wl_box (o := ⟨some 2, _, _, _, _, _⟩) rfl 26 (.tmp 0) _ (vlC x (.slice A2 x.ps.length C2) (.slice A3 x.ls.length C3) (.slice A4 x.ss.length C4)) rfl rfl rfl ?_; intro g2 w2 r2 p2 l2 b2)
              | (with_reducible refine wl_box (o := ⟨some 3, _, _, _, _, _⟩) rfl 26 (.tmp 1) _ (vlC y (.slice A2' y.ps.length D2) (.slice A3' y.ls.length D3) (.slice A4' y.ss.length D4)) rfl rfl rfl ?_; intro g3 w3 r3 p3 l3 b3; have r2b := r2.later b3; have B3 := b2.trans (b3.mono b2.size); have c0 := r2b.cell (j := 0) rfl; have c1 := r2b.cell (j := 1) rfl; have c2 := r2b.cell (j := 2) rfl; have c3 := r2b.cell (j := 3) rfl; have c4 := r2b.cell (j := 4) rfl; have d0 := r3.cell (j := 0) rfl; have d1 := r3.cell (j := 1) rfl; have d2 := r3.cell (j := 2) rfl; have d3 := r3.cell (j := 3) rfl; have d4 := r3.cell (j := 4) rfl; clear p2 p3 l2 l3))
        go_ret
        exact ⟨rfl, B3⟩
    · have ht1 : decide (x.t = y.t) = false := decide_eq_false ht
      have ht2 : (x.t == y.t) = false := by simpa using ht
      rw [Vl.ne_of (.inr (.inl ht))]
      replace ht := hide ht
      replace hk := hide hk
      go_enter Tryz.func24, Tryz.ntmps24
      go_wp2_with (first
            | (with_reducible refine wl_box (o := ⟨some 2, _, _, _, _, _⟩) rfl 26 (.tmp 0) _ (vlC x (.slice A2 x.ps.length C2) (.slice A3 x.ls.length C3) (.slice A4 x.ss.length C4)) rfl rfl rfl ?_; intro g2 w2 r2 p2 l2 b2)
            | (with_reducible refine wl_box (o := ⟨some 3, _, _, _, _, _⟩) rfl 26 (.tmp 1) _ (vlC y (.slice A2' y.ps.length D2) (.slice A3' y.ls.length D3) (.slice A4' y.ss.length D4)) rfl rfl rfl ?_; intro g3 w3 r3 p3 l3 b3; have r2b := r2.later b3; have B3 := b2.trans (b3.mono b2.size); have c0 := r2b.cell (j := 0) rfl; have c1 := r2b.cell (j := 1) rfl; have c2 := r2b.cell (j := 2) rfl; have c3 := r2b.cell (j := 3) rfl; have c4 := r2b.cell (j := 4) rfl; have d0 := r3.cell (j := 0) rfl; have d1 := r3.cell (j := 1) rfl; have d2 := r3.cell (j := 2) rfl; have d3 := r3.cell (j := 3) rfl; have d4 := r3.cell (j := 4) rfl; clear p2 p3 l2 l3))
      go_ret
      exact ⟨rfl, B3⟩
  · have hk1 : decide (x.k = y.k) = false := decide_eq_false hk
    have hk2 : (x.k == y.k) = false := by simpa using hk
    rw [Vl.ne_of (.inl hk)]
    replace hk := hide hk
    go_enter Tryz.func24, Tryz.ntmps24
    go_wp2_with (first
          | (with_reducible refine wl_box (o := ⟨some 2, _, _, _, _, _⟩) rfl 26 (.tmp 0) _ (vlC x (.slice A2 x.ps.length C2) (.slice A3 x.ls.length C3) (.slice A4 x.ss.length C4)) rfl rfl rfl ?_; intro g2 w2 r2 p2 l2 b2)
          | (with_reducible refine wl_box (o := ⟨some 3, _, _, _, _, _⟩) rfl 26 (.tmp 1) _ (vlC y (.slice A2' y.ps.length D2) (.slice A3' y.ls.length D3) (.slice A4' y.ss.length D4)) rfl rfl rfl ?_; intro g3 w3 r3 p3 l3 b3; have r2b := r2.later b3; have B3 := b2.trans (b3.mono b2.size); have c0 := r2b.cell (j := 0) rfl; have c1 := r2b.cell (j := 1) rfl; have c2 := r2b.cell (j := 2) rfl; have c3 := r2b.cell (j := 3) rfl; have c4 := r2b.cell (j := 4) rfl; have d0 := r3.cell (j := 0) rfl; have d1 := r3.cell (j := 1) rfl; have d2 := r3.cell (j := 2) rfl; have d3 := r3.cell (j := 3) rfl; have d4 := r3.cell (j := 4) rfl; clear p2 p3 l2 l3))
    go_ret
    exact ⟨rfl, B3⟩
end Go.Proofs.YtpbkejmffddelaaGreat

/-
  The document's texts of a value; which values are light. Own work.
-/
namespace Go.Proofs.YtpbkejmffddelaaGreat
open Go.RowKit Go.Shelf
def prT (ps : List Pr) : List Nm := ps.flatMap fun p => [p.f, p.t]
/-- All texts of a value. -/
def Vl.texts (x : Vl) : List Nm := ([x.t] ++ prT x.ps ++ x.ls) ++ x.ss.map Sc.m
theorem prT_len (ps : List Pr) : (prT ps).length = 2 * ps.length := by
  induction ps with
  | nil => rfl
  | cons a r ih => rw [prT, List.flatMap_cons, List.length_append, show (r.flatMap fun p => [p.f, p.t]).length = _ from ih]; simp; omega
theorem prT_more {l : List Pr} {i : Nat} {p : Pr} (h : l[i]? = some p) : prT (l.take (i + 1)) = prT (l.take i) ++ [p.f, p.t] := by
  rw [take_more h, prT, prT, List.flatMap_append]; rfl
set_option maxRecDepth 100000 in
set_option maxHeartbeats 1000000 in
theorem rcount_any (w : World) (x : Vl) (vp vl vs : Value) (h : VlM w w.heap.size x vp vl vs) (fx : x.Fits) : Calls Tryz.prog 39 #[vlV x vp vl vs] w fun e w' => e = .returned (.int .i64 ((x.ps.length : Int) + x.ls.length + x.ss.length)) ∧ Below w.heap.size w w' := by
  obtain ⟨A2, C2, rfl⟩ := h.p.sl
  obtain ⟨A3, C3, rfl⟩ := h.l.sl
  obtain ⟨A4, C4, rfl⟩ := h.s.sl
  have f1 : (x.ps.length : Int) ≤ 140737488355328 := by have := fx.p; omega
  have f2 : (x.ls.length : Int) ≤ 140737488355328 := by have := fx.l; omega
  have f3 : (x.ss.length : Int) ≤ 140737488355328 := by have := fx.s; omega
  clear h fx
  go_enter Tryz.func39, Tryz.ntmps39
  go_wp2_with (first
    | (with_reducible refine wl_box (o := ⟨some 1, _, _, _, _, _⟩) rfl 26 (.tmp 0) _ (vlC x (.slice A2 x.ps.length C2) (.slice A3 x.ls.length C3) (.slice A4 x.ss.length C4)) rfl rfl rfl ?_; intro g2 w2 r2 p2 l2 b2; have c2 := r2.cell (j := 2) rfl; have c3 := r2.cell (j := 3) rfl; have c4 := r2.cell (j := 4) rfl))
  go_ret
  exact ⟨rfl, b2⟩
theorem info_partsV {P : Program} {t : Nat} {z : Value} {n b : Nat} (h : (P.info? t).map (fun i => (i.zero, i.size, i.bytes)) = some (some z, n, b)) : ∃ i, P.info? t = some i ∧ i.zero = some z ∧ i.size = n ∧ i.bytes = b := by
  cases hq : P.info? t with
  | none => rw [hq] at h; cases h
  | some i =>
    rw [hq] at h
    simp only [Option.map_some, Option.some.injEq, Prod.mk.injEq] at h
    exact ⟨i, rfl, h.1, h.2.1, h.2.2⟩
theorem wordI : ∃ i, Tryz.prog.info? 9 = some i ∧ i.zero = some (.string ByteArray.empty) ∧ i.size = 1 ∧ i.bytes = 16 :=
  info_partsV (show (Tryz.prog.info? 9).map (fun i => (i.zero, i.size, i.bytes)) = some (some (.string ByteArray.empty), 1, 16) by kernel_rfl)
/-- Words in a row of one's own. -/
abbrev OwnW (w : World) (T : Nat) (v : Value) (l : List Nm) : Prop := w.ownsRow T 9 1 v l.length (l.map encStr)
theorem SlV.srcW {w : World} {B n c : Nat} {A : Option Addr} {l : List Nm} (h : SlV cS 1 w B (.slice A n c) l) : ∀ ad, A = some ad → ∀ j u, (l.map encStr)[j]? = some u → w.cell? (ad.add j) = some u := by
  intro ad hA j u hj
  rw [List.getElem?_map] at hj
  obtain ⟨a, ha, rfl⟩ := Option.map_eq_some_iff.1 hj
  obtain ⟨_, g, off, e, _, hc⟩ := h.at ha
  obtain rfl := Option.some.inj (hA.symm.trans e)
  rw [addr_plain]
  simpa using hc 0 _ rfl
theorem SlV.none0 {α : Type} {cl : α → List Value} {k : Nat} {w : World} {B n c : Nat} {A : Option Addr} {l : List α} (h : SlV cl k w B (.slice A n c) l) : A = none → n = 0 := by
  intro hA
  obtain ⟨A', c', e, h⟩ := h
  injection e with q1 q2 q3
  subst q1
  rcases Nat.eq_zero_or_pos l.length with h0 | h0
  · rw [q2, h0]
  · obtain ⟨g, off, eA, _⟩ := h h0
    rw [hA] at eA; cases eA
theorem OwnW.slv {w : World} {T : Nat} {v : Value} {l : List Nm} (h : OwnW w T v l) : SlV cS 1 w w.heap.size v l := by
  rcases h.2 with ⟨rfl, h0⟩ | ⟨g, cap, cur, rfl, hT, hg, h1, h2, h3, h4⟩
  · exact ⟨none, 0, by rw [h0], fun h => by omega⟩
  · refine ⟨_, cap, rfl, fun _ => ⟨g, 0, rfl, (Array.getElem?_eq_some_iff.1 hg).1, fun i a hi j u hj => ?_⟩⟩
    have hil : i < l.length := (List.getElem?_eq_some_iff.1 hi).1
    obtain rfl : j = 0 := by have := (List.getElem?_eq_some_iff.1 hj).1; simpa using this
    obtain rfl : encStr a = u := by simpa using hj
    have e2 : (cur.toList.take (l.length * 1))[i]? = some (encStr a) := by rw [h4, List.getElem?_map, hi]; rfl
    rw [List.getElem?_take, if_pos (by omega)] at e2
    rw [show 0 + i * 1 + 0 = i by omega, cell_of_row w g _ cur _ (0, 0) hg, ← Array.getElem?_toList]
    exact e2
/-- Few elements. -/
structure Vl.Few (x : Vl) : Prop where
  p : x.ps.length ≤ 220
  l : x.ls.length ≤ 220
  s : x.ss.length ≤ 220
def SEt (g2 ga oa i c : Nat) (ov : Value) (l : List Pr) (a : Pr) (opn : Nat) (v : Value) : Prop :=
  match opn with
  | 0 => v = ov
  | 1 | 7 => v = .pointer (some ⟨g2, 2, none⟩)
  | 2 | 8 => v = .slice (some ⟨ga, oa, none⟩) l.length c
  | 3 | 9 => v = .int .i64 (i : Int)
  | 4 | 5 | 10 => v = .pointer (some ⟨ga, oa + i * 2, none⟩)
  | 6 => v = encStr a.f
  | 11 => v = .pointer (some ⟨ga, oa + i * 2 + 1, none⟩)
  | 12 => v = encStr a.t
  | _ => True

set_option maxRecDepth 100000 in
set_option maxHeartbeats 2000000 in
theorem texts_any (w : World) (x : Vl) (vp vl vs : Value) (h : VlM w w.heap.size x vp vl vs) (fx : x.Few) : Calls Tryz.prog 40 #[vlV x vp vl vs] w fun e w' => ∃ v, e = .returned v ∧ OwnW w' w.heap.size v x.texts ∧ Below w.heap.size w w' := by
  obtain ⟨A2, C2, rfl⟩ := h.p.sl
  obtain ⟨A3, C3, rfl⟩ := h.l.sl
  obtain ⟨A4, C4, rfl⟩ := h.s.sl
  obtain ⟨ip, hip, hiz, his, hib⟩ := wordI
  have f1 : (x.ps.length : Int) ≤ 220 := by have := fx.p; omega
  have f2 : (x.ls.length : Int) ≤ 220 := by have := fx.l; omega
  have f3 : (x.ss.length : Int) ≤ 220 := by have := fx.s; omega
  unfold Vl.texts
  go_enter Tryz.func40, Tryz.ntmps40
  go_wp2_with (first
    | (with_reducible refine wl_box (o := ⟨some 1, _, _, _, _, _⟩) rfl 26 (.tmp 0) _ (vlC x (.slice A2 x.ps.length C2) (.slice A3 x.ls.length C3) (.slice A4 x.ss.length C4)) rfl rfl rfl ?_; intro g2 w2 r2 p2 l2 b2; have c1 := r2.cell (j := 1) rfl)
    | ((with_reducible refine wl_build1 (o := ⟨some 8, _, _, _, _, _⟩) rfl 23 (.tmp 7) rfl 9 ip (.string ByteArray.empty) (encStr x.t) Tryz.underlying23 hip hiz his rfl rfl rfl ?_); intro g6 w6 r6 p6 l6 b6; have own6 := r6.owns (base := w.heap.size) (n := 1) (size := 1) (Nat.le_trans b2.size p6) rfl (by simp only [maxLen]; omega); have B6 := b2.trans (b6.mono b2.size); have r26 := r2.later b6))
  clear c1 r2 r6 b6 b2 p2 l2 p6 l6
  go_loopw [3, 4] (fun ov iv wr => ∃ i : Nat, i ≤ x.ps.length ∧ iv = .int .i64 (i : Int) ∧ OwnW wr w.heap.size ov ([x.t] ++ prT (x.ps.take i)) ∧ Row wr 26 g2 (vlC x (.slice A2 x.ps.length C2) (.slice A3 x.ls.length C3) (.slice A4 x.ss.length C4)) ∧ Below w.heap.size w wr) (fun _ iv _ => x.ps.length - (intOf iv).toNat)
  case atStart => exact ⟨0, by omega, rfl, own6, r26, B6⟩
  case round =>
    clear own6 r26 B6
    obtain ⟨i, hi, rfl, own, r2, BW⟩ := hrel
    have hwb := BW.size
    have cc2 := r2.cell (j := 2) rfl
    by_cases hlt : i < x.ps.length
    · have hltI : (i : Int) < (x.ps.length : Int) := by omega
      obtain ⟨a, ha⟩ : ∃ a, x.ps[i]? = some a := ⟨_, List.getElem?_eq_getElem hlt⟩
      obtain ⟨x1, ga, oa, rfl, hga, hca⟩ := h.p.at ha
      clear x1
      have hac0 : ∀ w1, Below wr.heap.size wr w1 → w1.cell? ⟨ga, oa + i * 2, none⟩ = some (encStr a.f) := fun w1 hb1 => ((BW.trans (hb1.mono hwb)).cell (p := ⟨ga, _, none⟩) hga).trans (hca 0 _ rfl)
      have hac1 : ∀ w1, Below wr.heap.size wr w1 → w1.cell? ⟨ga, oa + i * 2 + 1, none⟩ = some (encStr a.t) := fun w1 hb1 => ((BW.trans (hb1.mono hwb)).cell (p := ⟨ga, _, none⟩) hga).trans (hca 1 _ rfl)
      have hma : ∀ w1, Below wr.heap.size wr w1 → w1.cell? ⟨g2, 2, none⟩ = some (.slice (some ⟨ga, oa, none⟩) x.ps.length C2) := fun w1 hb1 => (r2.later hb1).cell rfl
      have hlen : ([x.t] ++ prT (x.ps.take i)).length ≤ 441 := by rw [List.length_append, prT_len, List.length_take]; simp; omega
      have hm1 : ([x.t] ++ prT (x.ps.take i)).length + 2 ≤ maxLen := by simp only [maxLen]; omega
      have hm2 : (([x.t] ++ prT (x.ps.take i)).length + 2) * 16 ≤ 140737488355328 := by omega
      have hmore := hide (prT_more ha)
      generalize u3 = ov at *
      replace hlt := hide hlt
      replace ha := hide ha
      clear hca hga hlen
      go_wp2_with fail
      rename_i K6 hK6
      refine wp_region_vals [13, 14, 15] (SEt g2 ga oa i C2 ov x.ps a) (JBA w wr w.heap.size 9 1 ([x.t] ++ prT (x.ps.take i)).length 2 (([x.t] ++ prT (x.ps.take i)).map encStr) [encStr a.f, encStr a.t] 0 1 2) (by kernel_rfl) (by kernel_rfl) (by kernel_rfl) (by kernel_rfl) (by kernel_rfl) (JBA.start _ _ _ _ _ _ _ _ _ _) ?obs6 ?he6
      case obs6 =>
        refine ⟨?_, ?_, ?_, ?_, ?_, ?_, ?_, ?_, ?_, ?_, ?_, ?_, ?_, ?_, ?_, ?_, trivial⟩
        · exact .inl ⟨by kernel_rfl, fun L a1 w1 n' h => ⟨_, rfl, run_move (.tmp 3) rfl (h.var n' 3 (by kernel_rfl))⟩⟩
        · refine .inl ⟨by kernel_rfl, fun L a1 w1 n' h => ⟨.pointer (some ⟨g2, 2, none⟩), rfl, ?_⟩⟩
          have e0 : a1.eval (.tmp 1) = _ := h.var n' 1 (by kernel_rfl)
          unfold execOp
          simp only [e0]
          go_simp
        · exact .inl ⟨by kernel_rfl, fun L a1 w1 n' h => ⟨_, rfl, run_load1 22 (.tmp 17) g2 2 _ rfl Tryz.isAgg22 (h.dep n' 1 17 (by kernel_rfl) rfl) (hma w1 (h.inv.1 ((bits_at rfl).trans (n'.later (by kernel_rfl)))))⟩⟩
        · exact .inl ⟨by kernel_rfl, fun L a1 w1 n' h => ⟨_, rfl, run_move (.tmp 4) rfl (h.var n' 4 (by kernel_rfl))⟩⟩
        · exact .inl ⟨by kernel_rfl, fun L a1 w1 n' h => ⟨_, rfl, run_idxO 22 (.tmp 18) (.tmp 19) 87 2 ga oa _ _ i rfl Tryz.underlying22 Tryz.sizeOf87 (h.dep n' 2 18 (by kernel_rfl) rfl) (h.dep n' 3 19 (by kernel_rfl) rfl) hlt.out⟩⟩
        · refine .inl ⟨by kernel_rfl, fun L a1 w1 n' h => ⟨.pointer (some ⟨ga, oa + i * 2, none⟩), rfl, ?_⟩⟩
          have e0 : a1.eval (.tmp 20) = _ := h.dep n' 4 20 (by kernel_rfl) rfl
          unfold execOp
          simp only [e0]
          go_simp
        · exact .inl ⟨by kernel_rfl, fun L a1 w1 n' h => ⟨_, rfl, run_load1 9 (.tmp 21) ga (oa + i * 2) _ rfl Tryz.isAgg9 (h.dep n' 5 21 (by kernel_rfl) rfl) (hac0 w1 (h.inv.1 ((bits_at rfl).trans (n'.later (by kernel_rfl)))))⟩⟩
        · refine .inl ⟨by kernel_rfl, fun L a1 w1 n' h => ⟨.pointer (some ⟨g2, 2, none⟩), rfl, ?_⟩⟩
          have e0 : a1.eval (.tmp 1) = _ := h.var n' 1 (by kernel_rfl)
          unfold execOp
          simp only [e0]
          go_simp
        · exact .inl ⟨by kernel_rfl, fun L a1 w1 n' h => ⟨_, rfl, run_load1 22 (.tmp 23) g2 2 _ rfl Tryz.isAgg22 (h.dep n' 7 23 (by kernel_rfl) rfl) (hma w1 (h.inv.1 ((bits_at rfl).trans (n'.later (by kernel_rfl)))))⟩⟩
        · exact .inl ⟨by kernel_rfl, fun L a1 w1 n' h => ⟨_, rfl, run_move (.tmp 4) rfl (h.var n' 4 (by kernel_rfl))⟩⟩
        · exact .inl ⟨by kernel_rfl, fun L a1 w1 n' h => ⟨_, rfl, run_idxO 22 (.tmp 24) (.tmp 25) 87 2 ga oa _ _ i rfl Tryz.underlying22 Tryz.sizeOf87 (h.dep n' 8 24 (by kernel_rfl) rfl) (h.dep n' 9 25 (by kernel_rfl) rfl) hlt.out⟩⟩
        · refine .inl ⟨by kernel_rfl, fun L a1 w1 n' h => ⟨.pointer (some ⟨ga, oa + i * 2 + 1, none⟩), rfl, ?_⟩⟩
          have e0 : a1.eval (.tmp 26) = _ := h.dep n' 10 26 (by kernel_rfl) rfl
          unfold execOp
          simp only [e0]
          go_simp
        · exact .inl ⟨by kernel_rfl, fun L a1 w1 n' h => ⟨_, rfl, run_load1 9 (.tmp 27) ga (oa + i * 2 + 1) _ rfl Tryz.isAgg9 (h.dep n' 11 27 (by kernel_rfl) rfl) (hac1 w1 (h.inv.1 ((bits_at rfl).trans (n'.later (by kernel_rfl)))))⟩⟩
        · refine .inr fun L a1 w1 n' h K hK => ?_
          have noa : L.getD 14 false = false := n'.later (by kernel_rfl)
          have nos : L.getD 15 false = false := n'.later (by kernel_rfl)
          have b9 := h.inv.1 ((bits_at rfl).trans noa)
          have y0 : a1.eval (.tmp 22) = encStr a.f := h.dep n' 6 22 (by kernel_rfl) rfl
          have y1 : a1.eval (.tmp 28) = encStr a.t := h.dep n' 12 28 (by kernel_rfl) rfl
          refine st_buildN 23 2 [(0, .tmp 22), (1, .tmp 28)] rfl 9 ip (.string ByteArray.empty) 1 [encStr a.f, encStr a.t] [[encStr a.f], [encStr a.t]] Tryz.underlying23 hip hiz rfl his (by decide) (by decide) (by decide) (by simp only [List.map_cons, List.map_nil, numb]; rw [y0, y1]) rfl (⟨rfl, rfl, rfl, rfl, trivial⟩) ?_
          intro g2 w3 r3 p3 l3 b3
          exact hK _ w3 trivial ⟨fun _ => b9.trans (b3.mono b9.size), fun _ _ => ⟨g2, rfl, r3⟩, fun h0 => absurd (noa.symm.trans h0) (by decide), fun h0 => absurd (nos.symm.trans h0) (by decide)⟩
        · refine .inr fun L a1 w1 n' h K hK => ?_
          have yesb : L.getD 13 false = true := n'.dep (by kernel_rfl)
          have noa : L.getD 14 false = false := n'.not_yet
          have nos : L.getD 15 false = false := n'.later (by kernel_rfl)
          have b9 := h.inv.1 ((bits_at rfl).trans noa)
          obtain ⟨g2, eu, r2⟩ := h.inv.2.1 ((bits_at rfl).trans yesb) ((bits_at rfl).trans noa)
          have own2 := own_later own b9
          refine st_append_at (.tmp 16) (.tmp 29) 23 rfl w.heap.size 9 ip (.string ByteArray.empty) 1 16 Tryz.underlying23 hip hiz his hib rfl (by decide) ov ([x.t] ++ prT (x.ps.take i)).length (([x.t] ++ prT (x.ps.take i)).map encStr) (h.dep n' 0 16 (by kernel_rfl) rfl) own2 ⟨g2, 0, none⟩ 2 2 [encStr a.f, encStr a.t] eu rfl (row_src r2) (by simp [Value.oneCell', encStr]) hm1 hm2 (Nat.le_trans hwb b9.size) ?_
          intro v' w3 own3 gr3 at3
          exact hK _ w3 trivial ⟨fun h0 => absurd (show true = false from h0) (by decide), fun _ h0 => absurd (show true = false from h0) (by decide), fun _ => ⟨own3, (BW.trans (b9.mono hwb)).grown gr3 (Nat.le_trans hwb b9.size) fun k hk => (own2.lt k hk).1, fun t g us r ht => (r.later b9).grownS own2 ht gr3⟩, fun h0 => absurd (nos.symm.trans h0) (by decide)⟩
        · refine .inr fun L a1 w1 n' h K hK => ?_
          have yesa : L.getD 14 false = true := n'.dep (by kernel_rfl)
          have hrun := fun (o : Oper) (ho : o.op = .assign (.tmp 30)) => run_assign (P := Tryz.prog) (o := o) (a := a1) (w := w1) (.tmp 30) ho rfl
          unfold Oper.wp
          rw [hrun _ rfl]
          exact hK _ w1 trivial ⟨h.inv.1, h.inv.2.1, h.inv.2.2.1, fun _ => rfl⟩
      case he6 =>
        intro V w9 hV hJ
        obtain ⟨own9, B9, kp9⟩ := hJ.2.2.1 rfl
        have e15 : V 15 = V 14 := hJ.2.2.2 rfl
        have own9 : w9.ownsRow w.heap.size 9 1 (V 14) (([x.t] ++ prT (x.ps.take i)).length + 2) ((([x.t] ++ prT (x.ps.take i)).map encStr) ++ [encStr a.f, encStr a.t]) := own9
        have r29 := kp9 _ _ _ r2 (by decide)
        clear hV hJ kp9
        simp only [putOps, List.setIfInBounds_toArray, List.set_cons_succ, List.set_cons_zero, Nat.reduceAdd]
        rw [e15]
        refine hK6 _ _ ?_
        clear e15
        generalize V 14 = v9 at *
        go_wp2_with fail
        go_roundw
        case rel =>
          refine ⟨i + 1, by have := hlt.out; omega, by go_num, ?_, r29, B9⟩
          rw [hmore.out, ← List.append_assoc, OwnW, List.length_append, List.map_append]
          exact own9
        case measure => have := hlt.out; simp [intOf]; omega
    · obtain rfl : i = x.ps.length := by omega
      rw [List.take_length] at own
      have hlen : ([x.t] ++ prT x.ps).length ≤ 441 := by rw [List.length_append, prT_len]; simp; omega
      have hm1 : ([x.t] ++ prT x.ps).length + x.ls.length ≤ maxLen := by simp only [maxLen]; omega
      have hm2 : (([x.t] ++ prT x.ps).length + x.ls.length) * 16 ≤ 140737488355328 := by omega
      have hsr := hide (h.l.below BW).srcW
      have hn0 := hide h.l.none0
      have ho1 : ∀ u ∈ x.ls.map encStr, u.oneCell' = true := by intro u hu; obtain ⟨a, _, rfl⟩ := List.mem_map.1 hu; rfl
      have hyl : (x.ls.map encStr).length = x.ls.length * 1 := by simp
      have cc3 := r2.cell (j := 3) rfl
      have h01 : 0 < 1 := by decide
      generalize u3 = ov at *
      replace own := hide own
      clear hlen
      go_wp2_with (first
        | ((at_builtin; with_reducible refine wl_append_src (o := ⟨some 34, _, _, _, _, _⟩) rfl (.tmp 31) (.tmp 33) 23 rfl w.heap.size 9 ip (.string ByteArray.empty) 1 16 Tryz.underlying23 hip hiz his hib rfl h01 ov _ _ rfl own.out A3 x.ls.length C3 (x.ls.map encStr) rfl hyl hn0.out hsr.out ho1 hm1 hm2 hwb ?_); intro v7 w7 own7 gr7; have B7 : Below w.heap.size w w7 := BW.grown gr7 hwb (fun k hk => (own.out.lt k hk).1); have r27 := r2.grownS own.out (by decide) gr7))
      clear cc2 cc3 hsr hn0 ho1 hyl hm1 hm2 own r2 gr7
      have own7 : OwnW w7 w.heap.size v7 (([x.t] ++ prT x.ps) ++ x.ls) := by rw [OwnW, List.length_append, List.map_append]; exact own7
      have B7w := B7.size
      go_loopw [3, 5] (fun ov iv wr => ∃ i : Nat, i ≤ x.ss.length ∧ iv = .int .i64 (i : Int) ∧ OwnW wr w.heap.size ov (([x.t] ++ prT x.ps ++ x.ls) ++ (x.ss.take i).map Sc.m) ∧ Row wr 26 g2 (vlC x (.slice A2 x.ps.length C2) (.slice A3 x.ls.length C3) (.slice A4 x.ss.length C4)) ∧ Below w.heap.size w wr) (fun _ iv _ => x.ss.length - (intOf iv).toNat)
      case atStart => exact ⟨0, by omega, rfl, by simpa using own7, r27, B7⟩
      case round =>
        clear own7 r27 B7 B7w BW hwb
        obtain ⟨i, hi, rfl, own, r2, BW⟩ := hrel
        have hwb := BW.size
        have cc4 := r2.cell (j := 4) rfl
        by_cases hlt : i < x.ss.length
        · have hltI : (i : Int) < (x.ss.length : Int) := by omega
          obtain ⟨a, ha⟩ : ∃ a, x.ss[i]? = some a := ⟨_, List.getElem?_eq_getElem hlt⟩
          obtain ⟨x1, ga, oa, rfl, hga, hca⟩ := (h.s.below BW).at ha
          have c0 := hca 0 _ rfl
          rw [Nat.add_zero] at c0
          clear x1 hca hga
          have hlen : (([x.t] ++ prT x.ps ++ x.ls) ++ (x.ss.take i).map Sc.m).length ≤ 881 := by rw [List.length_append, List.length_append, List.length_append, prT_len, List.length_map, List.length_take]; simp; omega
          have hm1 : (([x.t] ++ prT x.ps ++ x.ls) ++ (x.ss.take i).map Sc.m).length + 1 ≤ maxLen := by simp only [maxLen]; omega
          have hm2 : ((([x.t] ++ prT x.ps ++ x.ls) ++ (x.ss.take i).map Sc.m).length + 1) * 16 ≤ 140737488355328 := by omega
          have hmore := hide (take_more ha)
          have ho1 : ∀ u ∈ [encStr a.m], u.oneCell' = true := by simp [Value.oneCell', encStr]
          generalize u3 = ov at *
          replace own := hide own
          have hlt9 := hide hlt
          clear ha hlen
          go_wp2_with (first
            | (with_reducible refine wl_run (o := ⟨some 46, _, _, _, _, _⟩) rfl (.pointer (some ⟨ga, oa + i * 2, none⟩)) (run_idxO 24 (.tmp 44) (.tmp 45) 99 2 ga oa x.ss.length C4 i rfl Tryz.underlying24 Tryz.sizeOf99 rfl rfl hlt) ?_)
            | ((with_reducible refine wl_build1 (o := ⟨some 49, _, _, _, _, _⟩) rfl 23 (.tmp 48) rfl 9 ip (.string ByteArray.empty) (encStr a.m) Tryz.underlying23 hip hiz his rfl rfl rfl ?_); intro g6 w6 r6 p6 l6 b6; have own6 := own_later own.out b6; have hwb6 := Nat.le_trans hwb b6.size)
            | ((at_builtin; with_reducible refine wl_append_at (o := ⟨some 50, _, _, _, _, _⟩) rfl (.tmp 42) (.tmp 49) 23 rfl w.heap.size 9 ip _ 1 16 Tryz.underlying23 hip hiz his hib rfl h01 ov _ _ rfl own6 ⟨g6, 0, none⟩ 1 1 [encStr a.m] rfl rfl (row_src r6) ho1 hm1 hm2 hwb6 ?_); intro v7 w7 own7 gr7 at7; have B7 : Below w.heap.size w w7 := (BW.trans (b6.mono hwb)).grown gr7 hwb6 (fun k hk => (own6.lt k hk).1); have r27 := (r2.later b6).grownS own6 (by decide) gr7))
          go_roundw
          case rel =>
            refine ⟨i + 1, by have := hlt9.out; omega, by go_num, ?_, r27, B7⟩
            rw [hmore.out, List.map_append, ← List.append_assoc, OwnW, List.length_append, List.map_append]
            exact own7
          case measure => have := hlt9.out; simp [intOf]; omega
        · obtain rfl : i = x.ss.length := by omega
          rw [List.take_length] at own
          generalize u3 = ov at *
          go_wp2_with fail
          go_ret
          exact ⟨_, rfl, own, BW⟩
end Go.Proofs.YtpbkejmffddelaaGreat

/-
  Which values are light. Own work.
-/
namespace Go.Proofs.YtpbkejmffddelaaGreat
open Go.RowKit Go.Shelf
theorem run_min2 {P : Program} {w : World} {a : Act} {o : Oper} {u v z : Int} (x y : Operand) (t1 t2 : TypeId) (ho : o.op = .call { callee := .builtin .min, args := #[x, y], argTypes := #[t1, t2] }) (hx : a.eval x = .int .i64 u) (hy : a.eval y = .int .i64 v) (hz : min u v = z) : (execOp a.eval o).run P w = .ok (.value (.int .i64 z)) w := by
  subst hz
  unfold execOp
  simp only [ho, resolve, invoke, List.map_toArray, List.map_cons, List.map_nil, hx, hy]
  go_simp
theorem texts_len (x : Vl) : x.texts.length = 1 + 2 * x.ps.length + x.ls.length + x.ss.length := by
  simp only [Vl.texts, List.length_append, prT_len, List.length_map, List.length_cons, List.length_nil]
set_option maxRecDepth 100000 in
set_option maxHeartbeats 2000000 in
theorem light_any (w : World) (x : Vl) (vp vl vs : Value) (h : VlM w w.heap.size x vp vl vs) (fx : x.Fits) : Calls Tryz.prog 9 #[vlV x vp vl vs] w fun e w' => (∃ b : Bool, e = .returned (.bool b) ∧ (b = true → x.Few)) ∧ Below w.heap.size w w' := by
  have f1 : (x.ps.length : Int) ≤ 140737488355328 := by have := fx.p; omega
  have f2 : (x.ls.length : Int) ≤ 140737488355328 := by have := fx.l; omega
  have f3 : (x.ss.length : Int) ≤ 140737488355328 := by have := fx.s; omega
  have hsz := szVl x vp vl vs
  by_cases hn : (220 : Int) < (x.ps.length : Int) + x.ls.length + x.ss.length
  · go_enter Tryz.func9, Tryz.ntmps9
    go_wp2_with (first
      | (with_reducible refine wl_box (o := ⟨some 1, _, _, _, _, _⟩) rfl 26 (.tmp 0) _ (vlC x vp vl vs) rfl rfl rfl ?_; intro g2 w2 r2 p2 l2 b2)
      | (with_reducible refine wl_load_row (o := ⟨some 6, _, _, _, _, _⟩) rfl 26 (.tmp 1) g2 26 (vlC x vp vl vs) _ rfl rfl r2 Tryz.underlying26 rfl hsz ?_))
    refine (rcount_any w2 x vp vl vs (h.later b2) fx).mono ?_
    rintro e w3 ⟨rfl, b3⟩
    go_wp2_with fail
    go_ret
    exact ⟨⟨false, rfl, fun h => by cases h⟩, b2.trans (b3.mono b2.size)⟩
  · have few : x.Few := ⟨by omega, by omega, by omega⟩
    have hlenT := texts_len x
    have hT : x.texts.length ≤ 881 := by omega
    have hTI : (x.texts.length : Int) ≤ 881 := by omega
    replace hlenT := hide hlenT
    go_enter Tryz.func9, Tryz.ntmps9
    go_wp2_with (first
      | (with_reducible refine wl_box (o := ⟨some 1, _, _, _, _, _⟩) rfl 26 (.tmp 0) _ (vlC x vp vl vs) rfl rfl rfl ?_; intro g2 w2 r2 p2 l2 b2)
      | (with_reducible refine wl_load_row (o := ⟨some 6, _, _, _, _, _⟩) rfl 26 (.tmp 1) g2 26 (vlC x vp vl vs) _ rfl rfl r2 Tryz.underlying26 rfl hsz ?_))
    refine (rcount_any w2 x vp vl vs (h.later b2) fx).mono ?_
    rintro e w3 ⟨rfl, b3⟩
    have r23 := r2.later b3
    have B3 := b2.trans (b3.mono b2.size)
    go_wp2_with (first
      | (with_reducible refine wl_load_row (o := ⟨some 9, _, _, _, _, _⟩) rfl 26 (.tmp 1) g2 26 (vlC x vp vl vs) _ rfl rfl r23 Tryz.underlying26 rfl hsz ?_))
    refine (texts_any w3 x vp vl vs (h.later B3) few).mono ?_
    rintro e w4 ⟨v4, rfl, own4, b4⟩
    have B4 := B3.trans (b4.mono B3.size)
    have sl4 := OwnW.slv own4
    obtain ⟨A5, C5, rfl⟩ := sl4.sl
    clear own4 r2 r23 b2 b3 b4 p2 l2 B3 h fx f1 f2 f3
    have hwb4 := B4.size
    go_wp2_with fail
    go_loopw [4, 5] (fun sv iv wr => ∃ (i : Nat) (s : Int), i ≤ x.texts.length ∧ iv = .int .i64 (i : Int) ∧ sv = .int .i64 s ∧ 0 ≤ s ∧ s ≤ 5000 * i ∧ Below w4.heap.size w4 wr) (fun _ iv _ => x.texts.length - (intOf iv).toNat)
    case atStart => exact ⟨0, 0, by omega, rfl, rfl, by omega, by omega, Below.refl _ _⟩
    case round =>
      obtain ⟨i, s, hi, rfl, rfl, hs0, hs1, BW⟩ := hrel
      by_cases hlt : i < x.texts.length
      · have hltI : (i : Int) < (x.texts.length : Int) := by omega
        obtain ⟨a, ha⟩ : ∃ a, x.texts[i]? = some a := ⟨_, List.getElem?_eq_getElem hlt⟩
        obtain ⟨x1, ga, oa, rfl, hga, hca⟩ := (sl4.below BW).at ha
        have c0 := hca 0 _ rfl
        rw [Nat.add_zero, Nat.mul_one] at c0
        obtain ⟨z, hz⟩ : ∃ z, min (a.length : Int) 5000 = z := ⟨_, rfl⟩
        have hz0 : 0 ≤ z := by omega
        have hz1 : z ≤ 5000 := by omega
        have hadd := hide (show IntKind.i64.wrap (s + z) = s + z from wrap_id (by omega) (by omega) (by omega))
        have hst := str_len a
        replace hz := hide hz
        clear ha hca hga x1
        have hlt9 := hide hlt
        have hs19 := hide hs1
        have hi9 := hide hi
        clear hs1 hi
        go_wp2_with (first
          | (with_reducible refine wl_run (o := ⟨some 20, _, _, _, _, _⟩) rfl (.pointer (some ⟨ga, oa + i * 1, none⟩)) (run_idxO 23 (.tmp 18) (.tmp 19) 9 1 ga oa x.texts.length C5 i rfl Tryz.underlying23 Tryz.sizeOf9 rfl rfl hlt) ?_)
          | (with_reducible refine wl_run (o := ⟨some 23, _, _, _, _, _⟩) rfl (.int .i64 z) (run_min2 (.tmp 22) _ _ _ rfl rfl rfl hz.out) ?_)
          | (with_reducible refine wl_run (o := ⟨some 24, _, _, _, _, _⟩) rfl (.int .i64 (s + z)) (run_addZ (.tmp 17) (.tmp 23) rfl rfl rfl hadd.out) ?_))
        go_roundw
        case rel => exact ⟨i + 1, s + z, by have := hlt9.out; omega, by go_num, rfl, by omega, by have := hs19.out; omega, BW⟩
        case measure => have := hlt9.out; simp [intOf]; omega
      · obtain rfl : i = x.texts.length := by omega
        obtain ⟨b, hb⟩ : ∃ b, b = decide (s ≤ 5000) := ⟨_, rfl⟩
        clear hs1 hT hTI hi hlt
        go_wp2_with fail
        go_ret
        exact ⟨⟨_, rfl, fun _ => few⟩, B4.trans (BW.mono hwb4)⟩
end Go.Proofs.YtpbkejmffddelaaGreat

/-
  What a value of its kind has; how many elements. Own work.
-/
namespace Go.Proofs.YtpbkejmffddelaaGreat
open Go.RowKit Go.Shelf
abbrev nilS : Value := .slice none 0 0
abbrev Vl.op (x : Vl) (v : Value) : Value := if x.k = 2 then v else nilS
abbrev Vl.ol (x : Vl) (v : Value) : Value := if x.k = 3 ∨ x.k = 4 then v else nilS
abbrev Vl.os (x : Vl) (v : Value) : Value := if x.k = 5 then v else nilS
theorem VlM.own {w : World} {B : Nat} {x : Vl} {vp vl vs : Value} (h : VlM w B x vp vl vs) : VlM w B x.own (x.op vp) (x.ol vl) (x.os vs) := by
  unfold Vl.own Vl.op Vl.ol Vl.os
  refine ⟨?_, ?_, ?_⟩
  · by_cases h2 : x.k = 2
    · simp only [h2, if_true]; exact h.p
    · simp only [if_neg h2]; exact SlV.nil _ _
  · by_cases h2 : x.k = 3 ∨ x.k = 4
    · simp only [if_pos h2]; exact h.l
    · simp only [if_neg h2]; exact SlV.nil _ _
  · by_cases h2 : x.k = 5
    · simp only [h2, if_true]; exact h.s
    · simp only [if_neg h2]; exact SlV.nil _ _
theorem Vl.Fits.own {x : Vl} (h : x.Fits) : x.own.Fits := by
  unfold Vl.own
  refine ⟨?_, ?_, ?_, ?_⟩
  · show (if x.k = 2 then x.ps else []).length ≤ _
    split <;> simp [h.p]
  · show (if x.k = 3 ∨ x.k = 4 then x.ls else []).length ≤ _
    split <;> simp [h.l]
  · show (if x.k = 5 then x.ss else []).length ≤ _
    split <;> simp [h.s]
  · show (if x.k = 1 then x.t else []).length ≤ _
    split <;> simp [h.t]
theorem Vl.Few.own {x : Vl} (h : x.Few) : x.own.Few := by
  unfold Vl.own
  refine ⟨?_, ?_, ?_⟩
  · show (if x.k = 2 then x.ps else []).length ≤ _
    split <;> simp [h.p]
  · show (if x.k = 3 ∨ x.k = 4 then x.ls else []).length ≤ _
    split <;> simp [h.l]
  · show (if x.k = 5 then x.ss else []).length ≤ _
    split <;> simp [h.s]
theorem VlM.one {w : World} {B : Nat} {x : Vl} {vp vl vs : Value} (h : VlM w B x vp vl vs) : ∀ u ∈ vlC x vp vl vs, u.oneCell' = true := by
  obtain ⟨A2, C2, rfl⟩ := h.p.sl
  obtain ⟨A3, C3, rfl⟩ := h.l.sl
  obtain ⟨A4, C4, rfl⟩ := h.s.sl
  simp [Value.oneCell', encStr]
theorem zeroVl : (Tryz.prog.info? 26).map (fun i => i.zero) = some (some (.agg [.int .i64 0, encStr [], nilS, nilS, nilS].toArray)) := by kernel_rfl
theorem builtVl0 (k : Int) : Tryz.prog.built 26 [(0, .int .i64 k)] = some [.int .i64 k, encStr [], nilS, nilS, nilS].toArray := by kernel_rfl
set_option maxRecDepth 100000 in
set_option maxHeartbeats 2000000 in
theorem own_any (w : World) (x : Vl) (vp vl vs : Value) (h : VlM w w.heap.size x vp vl vs) : Calls Tryz.prog 104 #[vlV x vp vl vs] w fun e w' => e = .returned (vlV x.own (x.op vp) (x.ol vl) (x.os vs)) ∧ Below w.heap.size w w' := by
  obtain ⟨A2, C2, rfl⟩ := h.p.sl
  obtain ⟨A3, C3, rfl⟩ := h.l.sl
  obtain ⟨A4, C4, rfl⟩ := h.s.sl
  clear h
  have hone0 : ∀ u ∈ [Value.int .i64 x.k, encStr [], nilS, nilS, nilS], u.oneCell' = true := by simp [Value.oneCell', encStr]
  by_cases k1 : x.k = 1
  · have e1 : decide (x.k = 1) = true := decide_eq_true k1
    have f1 : (x.k == 1) = true := by simp [k1]
    replace k1 := hide k1
    go_enter Tryz.func104, Tryz.ntmps104
    go_wp2_with (first
      | (with_reducible refine wl_box (o := ⟨some 1, _, _, _, _, _⟩) rfl 26 (.tmp 0) _ (vlC x (.slice A2 x.ps.length C2) (.slice A3 x.ls.length C3) (.slice A4 x.ss.length C4)) rfl rfl rfl ?_; intro g1 w1 r1 p1 l1 b1)
      | (with_reducible refine wl_alloc (o := ⟨some 2, _, _, _, _, _⟩) rfl 26 _ [.int .i64 0, encStr [], nilS, nilS, nilS] rfl zeroVl rfl ?_; intro g2 w2 r2 p2 l2 b2; have r1b := r1.later b2; have c0 := r1b.cell (j := 0) rfl)
      | (with_reducible refine wl_build (o := ⟨some 6, _, _, _, _, _⟩) rfl 26 [(0, .tmp 5)] rfl [(0, .int .i64 x.k)] rfl [.int .i64 x.k, encStr [], nilS, nilS, nilS] (builtVl0 x.k) ?_)
      | (with_reducible refine wl_alloc (o := ⟨some 3, _, _, _, _, _⟩) rfl 26 _ [.int .i64 0, encStr [], nilS, nilS, nilS] rfl zeroVl rfl ?_; intro g3 w3 r3 p3 l3 b3; have r1c := r1b.later b3; have r2c := r2.later b3)
      | (with_reducible refine wl_store_row rfl 26 (.tmp 3) (.tmp 6) g3 26 _ [.int .i64 x.k, encStr [], nilS, nilS, nilS] rfl rfl rfl r3 (by kernel_rfl) rfl hone0 ?_; intro w4 r4 o4; have b4 := b3.trans ((o4.below p3).mono (Nat.le_refl _)); have r1d := r1b.later b4; have r2d := r2.later b4; have d0 := r1d.cell (j := 0) rfl; have d1 := r1d.cell (j := 1) rfl; have d2 := r1d.cell (j := 2) rfl; have d3 := r1d.cell (j := 3) rfl; have d4 := r1d.cell (j := 4) rfl)
      | ((with_reducible refine wl_store rfl 9 (.tmp 13) (.tmp 12) g3 1 26 [.int .i64 x.k, encStr [], nilS, nilS, nilS] (encStr x.t) rfl (by kernel_rfl) rfl rfl r4 (by simp) rfl ?_); intro w5 r5 o5; replace r5 : Row w5 26 g3 [.int .i64 x.k, encStr x.t, nilS, nilS, nilS] := r5; have b5 := b4.trans ((o5.below p3).mono (Nat.le_refl _)); have r2e := r2.later b5)
      | (with_reducible refine wl_load_row (o := ⟨some 30, _, _, _, _, _⟩) rfl 26 (.tmp 3) g3 26 [.int .i64 x.k, encStr x.t, nilS, nilS, nilS] _ rfl rfl r5 Tryz.underlying26 rfl (by kernel_rfl) ?_)
      | (with_reducible refine wl_store_row rfl 26 (.tmp 2) (.tmp 30) g2 26 _ [.int .i64 x.k, encStr x.t, nilS, nilS, nilS] rfl rfl rfl r2e (by kernel_rfl) rfl (by simp [Value.oneCell', encStr]) ?_; intro w6 r6 o6))
    refine bodyPost_ret (v := .agg [.int .i64 x.k, encStr x.t, nilS, nilS, nilS].toArray) ?_ rfl ⟨?_, ?_⟩
    · exact results_cell_row Tryz.results104 _ _ g2 26 _ (0, 0) _ rfl r6 Tryz.underlying26 rfl (by kernel_rfl)
    · simp only [Vl.own, Vl.op, Vl.ol, Vl.os, vlC, k1.out]; first | rfl | simp
    · exact b1.trans ((b2.trans (b5.mono b2.size)).mono b1.size |>.trans ((o6.below (Nat.le_trans b1.size p2)).mono (Nat.le_refl _)))
  · skip
    by_cases k2 : x.k = 2
    · have e1 : decide (x.k = 1) = false := decide_eq_false k1
      have f1 : (x.k == 1) = false := beq_eq_false_iff_ne.2 k1
      have e2 : decide (x.k = 2) = true := decide_eq_true k2
      have f2 : (x.k == 2) = true := by simp [k2]
      replace k1 := hide k1
      replace k2 := hide k2
      go_enter Tryz.func104, Tryz.ntmps104
      go_wp2_with (first
        | (with_reducible refine wl_box (o := ⟨some 1, _, _, _, _, _⟩) rfl 26 (.tmp 0) _ (vlC x (.slice A2 x.ps.length C2) (.slice A3 x.ls.length C3) (.slice A4 x.ss.length C4)) rfl rfl rfl ?_; intro g1 w1 r1 p1 l1 b1)
        | (with_reducible refine wl_alloc (o := ⟨some 2, _, _, _, _, _⟩) rfl 26 _ [.int .i64 0, encStr [], nilS, nilS, nilS] rfl zeroVl rfl ?_; intro g2 w2 r2 p2 l2 b2; have r1b := r1.later b2; have c0 := r1b.cell (j := 0) rfl)
        | (with_reducible refine wl_build (o := ⟨some 6, _, _, _, _, _⟩) rfl 26 [(0, .tmp 5)] rfl [(0, .int .i64 x.k)] rfl [.int .i64 x.k, encStr [], nilS, nilS, nilS] (builtVl0 x.k) ?_)
        | (with_reducible refine wl_alloc (o := ⟨some 3, _, _, _, _, _⟩) rfl 26 _ [.int .i64 0, encStr [], nilS, nilS, nilS] rfl zeroVl rfl ?_; intro g3 w3 r3 p3 l3 b3; have r1c := r1b.later b3; have r2c := r2.later b3)
        | (with_reducible refine wl_store_row rfl 26 (.tmp 3) (.tmp 6) g3 26 _ [.int .i64 x.k, encStr [], nilS, nilS, nilS] rfl rfl rfl r3 (by kernel_rfl) rfl hone0 ?_; intro w4 r4 o4; have b4 := b3.trans ((o4.below p3).mono (Nat.le_refl _)); have r1d := r1b.later b4; have r2d := r2.later b4; have d0 := r1d.cell (j := 0) rfl; have d1 := r1d.cell (j := 1) rfl; have d2 := r1d.cell (j := 2) rfl; have d3 := r1d.cell (j := 3) rfl; have d4 := r1d.cell (j := 4) rfl)
        | ((with_reducible refine wl_store rfl 22 (.tmp 18) (.tmp 17) g3 2 26 [.int .i64 x.k, encStr [], nilS, nilS, nilS] (.slice A2 x.ps.length C2) rfl (by kernel_rfl) rfl rfl r4 (by simp) rfl ?_); intro w5 r5 o5; replace r5 : Row w5 26 g3 [.int .i64 x.k, encStr [], .slice A2 x.ps.length C2, nilS, nilS] := r5; have b5 := b4.trans ((o5.below p3).mono (Nat.le_refl _)); have r2e := r2.later b5)
        | (with_reducible refine wl_load_row (o := ⟨some 30, _, _, _, _, _⟩) rfl 26 (.tmp 3) g3 26 [.int .i64 x.k, encStr [], .slice A2 x.ps.length C2, nilS, nilS] _ rfl rfl r5 Tryz.underlying26 rfl (by kernel_rfl) ?_)
        | (with_reducible refine wl_store_row rfl 26 (.tmp 2) (.tmp 30) g2 26 _ [.int .i64 x.k, encStr [], .slice A2 x.ps.length C2, nilS, nilS] rfl rfl rfl r2e (by kernel_rfl) rfl (by simp [Value.oneCell', encStr]) ?_; intro w6 r6 o6))
      refine bodyPost_ret (v := .agg [.int .i64 x.k, encStr [], .slice A2 x.ps.length C2, nilS, nilS].toArray) ?_ rfl ⟨?_, ?_⟩
      · exact results_cell_row Tryz.results104 _ _ g2 26 _ (0, 0) _ rfl r6 Tryz.underlying26 rfl (by kernel_rfl)
      · simp only [Vl.own, Vl.op, Vl.ol, Vl.os, vlC, eq_false k1.out, k2.out]; first | rfl | simp
      · exact b1.trans ((b2.trans (b5.mono b2.size)).mono b1.size |>.trans ((o6.below (Nat.le_trans b1.size p2)).mono (Nat.le_refl _)))
    · skip
      by_cases k3 : x.k = 3
      · have e1 : decide (x.k = 1) = false := decide_eq_false k1
        have f1 : (x.k == 1) = false := beq_eq_false_iff_ne.2 k1
        have e2 : decide (x.k = 2) = false := decide_eq_false k2
        have f2 : (x.k == 2) = false := beq_eq_false_iff_ne.2 k2
        have e3 : decide (x.k = 3) = true := decide_eq_true k3
        have f3 : (x.k == 3) = true := by simp [k3]
        replace k1 := hide k1
        replace k2 := hide k2
        replace k3 := hide k3
        go_enter Tryz.func104, Tryz.ntmps104
        go_wp2_with (first
          | (with_reducible refine wl_box (o := ⟨some 1, _, _, _, _, _⟩) rfl 26 (.tmp 0) _ (vlC x (.slice A2 x.ps.length C2) (.slice A3 x.ls.length C3) (.slice A4 x.ss.length C4)) rfl rfl rfl ?_; intro g1 w1 r1 p1 l1 b1)
          | (with_reducible refine wl_alloc (o := ⟨some 2, _, _, _, _, _⟩) rfl 26 _ [.int .i64 0, encStr [], nilS, nilS, nilS] rfl zeroVl rfl ?_; intro g2 w2 r2 p2 l2 b2; have r1b := r1.later b2; have c0 := r1b.cell (j := 0) rfl)
          | (with_reducible refine wl_build (o := ⟨some 6, _, _, _, _, _⟩) rfl 26 [(0, .tmp 5)] rfl [(0, .int .i64 x.k)] rfl [.int .i64 x.k, encStr [], nilS, nilS, nilS] (builtVl0 x.k) ?_)
          | (with_reducible refine wl_alloc (o := ⟨some 3, _, _, _, _, _⟩) rfl 26 _ [.int .i64 0, encStr [], nilS, nilS, nilS] rfl zeroVl rfl ?_; intro g3 w3 r3 p3 l3 b3; have r1c := r1b.later b3; have r2c := r2.later b3)
          | (with_reducible refine wl_store_row rfl 26 (.tmp 3) (.tmp 6) g3 26 _ [.int .i64 x.k, encStr [], nilS, nilS, nilS] rfl rfl rfl r3 (by kernel_rfl) rfl hone0 ?_; intro w4 r4 o4; have b4 := b3.trans ((o4.below p3).mono (Nat.le_refl _)); have r1d := r1b.later b4; have r2d := r2.later b4; have d0 := r1d.cell (j := 0) rfl; have d1 := r1d.cell (j := 1) rfl; have d2 := r1d.cell (j := 2) rfl; have d3 := r1d.cell (j := 3) rfl; have d4 := r1d.cell (j := 4) rfl)
          | ((with_reducible refine wl_store rfl 23 (.tmp 24) (.tmp 23) g3 3 26 [.int .i64 x.k, encStr [], nilS, nilS, nilS] (.slice A3 x.ls.length C3) rfl (by kernel_rfl) rfl rfl r4 (by simp) rfl ?_); intro w5 r5 o5; replace r5 : Row w5 26 g3 [.int .i64 x.k, encStr [], nilS, .slice A3 x.ls.length C3, nilS] := r5; have b5 := b4.trans ((o5.below p3).mono (Nat.le_refl _)); have r2e := r2.later b5)
          | (with_reducible refine wl_load_row (o := ⟨some 30, _, _, _, _, _⟩) rfl 26 (.tmp 3) g3 26 [.int .i64 x.k, encStr [], nilS, .slice A3 x.ls.length C3, nilS] _ rfl rfl r5 Tryz.underlying26 rfl (by kernel_rfl) ?_)
          | (with_reducible refine wl_store_row rfl 26 (.tmp 2) (.tmp 30) g2 26 _ [.int .i64 x.k, encStr [], nilS, .slice A3 x.ls.length C3, nilS] rfl rfl rfl r2e (by kernel_rfl) rfl (by simp [Value.oneCell', encStr]) ?_; intro w6 r6 o6))
        refine bodyPost_ret (v := .agg [.int .i64 x.k, encStr [], nilS, .slice A3 x.ls.length C3, nilS].toArray) ?_ rfl ⟨?_, ?_⟩
        · exact results_cell_row Tryz.results104 _ _ g2 26 _ (0, 0) _ rfl r6 Tryz.underlying26 rfl (by kernel_rfl)
        · simp only [Vl.own, Vl.op, Vl.ol, Vl.os, vlC, eq_false k1.out, eq_false k2.out, k3.out]; first | rfl | simp
        · exact b1.trans ((b2.trans (b5.mono b2.size)).mono b1.size |>.trans ((o6.below (Nat.le_trans b1.size p2)).mono (Nat.le_refl _)))
      · skip
        by_cases k4 : x.k = 4
        · have e1 : decide (x.k = 1) = false := decide_eq_false k1
          have f1 : (x.k == 1) = false := beq_eq_false_iff_ne.2 k1
          have e2 : decide (x.k = 2) = false := decide_eq_false k2
          have f2 : (x.k == 2) = false := beq_eq_false_iff_ne.2 k2
          have e3 : decide (x.k = 3) = false := decide_eq_false k3
          have f3 : (x.k == 3) = false := beq_eq_false_iff_ne.2 k3
          have e4 : decide (x.k = 4) = true := decide_eq_true k4
          have f4 : (x.k == 4) = true := by simp [k4]
          replace k1 := hide k1
          replace k2 := hide k2
          replace k3 := hide k3
          replace k4 := hide k4
          go_enter Tryz.func104, Tryz.ntmps104
          go_wp2_with (first
            | (with_reducible refine wl_box (o := ⟨some 1, _, _, _, _, _⟩) rfl 26 (.tmp 0) _ (vlC x (.slice A2 x.ps.length C2) (.slice A3 x.ls.length C3) (.slice A4 x.ss.length C4)) rfl rfl rfl ?_; intro g1 w1 r1 p1 l1 b1)
            | (with_reducible refine wl_alloc (o := ⟨some 2, _, _, _, _, _⟩) rfl 26 _ [.int .i64 0, encStr [], nilS, nilS, nilS] rfl zeroVl rfl ?_; intro g2 w2 r2 p2 l2 b2; have r1b := r1.later b2; have c0 := r1b.cell (j := 0) rfl)
            | (with_reducible refine wl_build (o := ⟨some 6, _, _, _, _, _⟩) rfl 26 [(0, .tmp 5)] rfl [(0, .int .i64 x.k)] rfl [.int .i64 x.k, encStr [], nilS, nilS, nilS] (builtVl0 x.k) ?_)
            | (with_reducible refine wl_alloc (o := ⟨some 3, _, _, _, _, _⟩) rfl 26 _ [.int .i64 0, encStr [], nilS, nilS, nilS] rfl zeroVl rfl ?_; intro g3 w3 r3 p3 l3 b3; have r1c := r1b.later b3; have r2c := r2.later b3)
            | (with_reducible refine wl_store_row rfl 26 (.tmp 3) (.tmp 6) g3 26 _ [.int .i64 x.k, encStr [], nilS, nilS, nilS] rfl rfl rfl r3 (by kernel_rfl) rfl hone0 ?_; intro w4 r4 o4; have b4 := b3.trans ((o4.below p3).mono (Nat.le_refl _)); have r1d := r1b.later b4; have r2d := r2.later b4; have d0 := r1d.cell (j := 0) rfl; have d1 := r1d.cell (j := 1) rfl; have d2 := r1d.cell (j := 2) rfl; have d3 := r1d.cell (j := 3) rfl; have d4 := r1d.cell (j := 4) rfl)
            | ((with_reducible refine wl_store rfl 23 (.tmp 24) (.tmp 23) g3 3 26 [.int .i64 x.k, encStr [], nilS, nilS, nilS] (.slice A3 x.ls.length C3) rfl (by kernel_rfl) rfl rfl r4 (by simp) rfl ?_); intro w5 r5 o5; replace r5 : Row w5 26 g3 [.int .i64 x.k, encStr [], nilS, .slice A3 x.ls.length C3, nilS] := r5; have b5 := b4.trans ((o5.below p3).mono (Nat.le_refl _)); have r2e := r2.later b5)
            | (with_reducible refine wl_load_row (o := ⟨some 30, _, _, _, _, _⟩) rfl 26 (.tmp 3) g3 26 [.int .i64 x.k, encStr [], nilS, .slice A3 x.ls.length C3, nilS] _ rfl rfl r5 Tryz.underlying26 rfl (by kernel_rfl) ?_)
            | (with_reducible refine wl_store_row rfl 26 (.tmp 2) (.tmp 30) g2 26 _ [.int .i64 x.k, encStr [], nilS, .slice A3 x.ls.length C3, nilS] rfl rfl rfl r2e (by kernel_rfl) rfl (by simp [Value.oneCell', encStr]) ?_; intro w6 r6 o6))
          refine bodyPost_ret (v := .agg [.int .i64 x.k, encStr [], nilS, .slice A3 x.ls.length C3, nilS].toArray) ?_ rfl ⟨?_, ?_⟩
          · exact results_cell_row Tryz.results104 _ _ g2 26 _ (0, 0) _ rfl r6 Tryz.underlying26 rfl (by kernel_rfl)
          · simp only [Vl.own, Vl.op, Vl.ol, Vl.os, vlC, eq_false k1.out, eq_false k2.out, eq_false k3.out, k4.out]; first | rfl | simp
          · exact b1.trans ((b2.trans (b5.mono b2.size)).mono b1.size |>.trans ((o6.below (Nat.le_trans b1.size p2)).mono (Nat.le_refl _)))
        · skip
          by_cases k5 : x.k = 5
          · have e1 : decide (x.k = 1) = false := decide_eq_false k1
            have f1 : (x.k == 1) = false := beq_eq_false_iff_ne.2 k1
            have e2 : decide (x.k = 2) = false := decide_eq_false k2
            have f2 : (x.k == 2) = false := beq_eq_false_iff_ne.2 k2
            have e3 : decide (x.k = 3) = false := decide_eq_false k3
            have f3 : (x.k == 3) = false := beq_eq_false_iff_ne.2 k3
            have e4 : decide (x.k = 4) = false := decide_eq_false k4
            have f4 : (x.k == 4) = false := beq_eq_false_iff_ne.2 k4
            have e5 : decide (x.k = 5) = true := decide_eq_true k5
            have f5 : (x.k == 5) = true := by simp [k5]
            replace k1 := hide k1
            replace k2 := hide k2
            replace k3 := hide k3
            replace k4 := hide k4
            replace k5 := hide k5
            go_enter Tryz.func104, Tryz.ntmps104
            go_wp2_with (first
              | (with_reducible refine wl_box (o := ⟨some 1, _, _, _, _, _⟩) rfl 26 (.tmp 0) _ (vlC x (.slice A2 x.ps.length C2) (.slice A3 x.ls.length C3) (.slice A4 x.ss.length C4)) rfl rfl rfl ?_; intro g1 w1 r1 p1 l1 b1)
              | (with_reducible refine wl_alloc (o := ⟨some 2, _, _, _, _, _⟩) rfl 26 _ [.int .i64 0, encStr [], nilS, nilS, nilS] rfl zeroVl rfl ?_; intro g2 w2 r2 p2 l2 b2; have r1b := r1.later b2; have c0 := r1b.cell (j := 0) rfl)
              | (with_reducible refine wl_build (o := ⟨some 6, _, _, _, _, _⟩) rfl 26 [(0, .tmp 5)] rfl [(0, .int .i64 x.k)] rfl [.int .i64 x.k, encStr [], nilS, nilS, nilS] (builtVl0 x.k) ?_)
              | (with_reducible refine wl_alloc (o := ⟨some 3, _, _, _, _, _⟩) rfl 26 _ [.int .i64 0, encStr [], nilS, nilS, nilS] rfl zeroVl rfl ?_; intro g3 w3 r3 p3 l3 b3; have r1c := r1b.later b3; have r2c := r2.later b3)
              | (with_reducible refine wl_store_row rfl 26 (.tmp 3) (.tmp 6) g3 26 _ [.int .i64 x.k, encStr [], nilS, nilS, nilS] rfl rfl rfl r3 (by kernel_rfl) rfl hone0 ?_; intro w4 r4 o4; have b4 := b3.trans ((o4.below p3).mono (Nat.le_refl _)); have r1d := r1b.later b4; have r2d := r2.later b4; have d0 := r1d.cell (j := 0) rfl; have d1 := r1d.cell (j := 1) rfl; have d2 := r1d.cell (j := 2) rfl; have d3 := r1d.cell (j := 3) rfl; have d4 := r1d.cell (j := 4) rfl)
              | ((with_reducible refine wl_store rfl 24 (.tmp 29) (.tmp 28) g3 4 26 [.int .i64 x.k, encStr [], nilS, nilS, nilS] (.slice A4 x.ss.length C4) rfl (by kernel_rfl) rfl rfl r4 (by simp) rfl ?_); intro w5 r5 o5; replace r5 : Row w5 26 g3 [.int .i64 x.k, encStr [], nilS, nilS, .slice A4 x.ss.length C4] := r5; have b5 := b4.trans ((o5.below p3).mono (Nat.le_refl _)); have r2e := r2.later b5)
              | (with_reducible refine wl_load_row (o := ⟨some 30, _, _, _, _, _⟩) rfl 26 (.tmp 3) g3 26 [.int .i64 x.k, encStr [], nilS, nilS, .slice A4 x.ss.length C4] _ rfl rfl r5 Tryz.underlying26 rfl (by kernel_rfl) ?_)
              | (with_reducible refine wl_store_row rfl 26 (.tmp 2) (.tmp 30) g2 26 _ [.int .i64 x.k, encStr [], nilS, nilS, .slice A4 x.ss.length C4] rfl rfl rfl r2e (by kernel_rfl) rfl (by simp [Value.oneCell', encStr]) ?_; intro w6 r6 o6))
            refine bodyPost_ret (v := .agg [.int .i64 x.k, encStr [], nilS, nilS, .slice A4 x.ss.length C4].toArray) ?_ rfl ⟨?_, ?_⟩
            · exact results_cell_row Tryz.results104 _ _ g2 26 _ (0, 0) _ rfl r6 Tryz.underlying26 rfl (by kernel_rfl)
            · simp only [Vl.own, Vl.op, Vl.ol, Vl.os, vlC, eq_false k1.out, eq_false k2.out, eq_false k3.out, eq_false k4.out, k5.out]; first | rfl | simp
            · exact b1.trans ((b2.trans (b5.mono b2.size)).mono b1.size |>.trans ((o6.below (Nat.le_trans b1.size p2)).mono (Nat.le_refl _)))
          · have e1 : decide (x.k = 1) = false := decide_eq_false k1
            have f1 : (x.k == 1) = false := beq_eq_false_iff_ne.2 k1
            have e2 : decide (x.k = 2) = false := decide_eq_false k2
            have f2 : (x.k == 2) = false := beq_eq_false_iff_ne.2 k2
            have e3 : decide (x.k = 3) = false := decide_eq_false k3
            have f3 : (x.k == 3) = false := beq_eq_false_iff_ne.2 k3
            have e4 : decide (x.k = 4) = false := decide_eq_false k4
            have f4 : (x.k == 4) = false := beq_eq_false_iff_ne.2 k4
            have e5 : decide (x.k = 5) = false := decide_eq_false k5
            have f5 : (x.k == 5) = false := beq_eq_false_iff_ne.2 k5
            replace k1 := hide k1
            replace k2 := hide k2
            replace k3 := hide k3
            replace k4 := hide k4
            replace k5 := hide k5
            go_enter Tryz.func104, Tryz.ntmps104
            go_wp2_with (first
              | (with_reducible refine wl_box (o := ⟨some 1, _, _, _, _, _⟩) rfl 26 (.tmp 0) _ (vlC x (.slice A2 x.ps.length C2) (.slice A3 x.ls.length C3) (.slice A4 x.ss.length C4)) rfl rfl rfl ?_; intro g1 w1 r1 p1 l1 b1)
              | (with_reducible refine wl_alloc (o := ⟨some 2, _, _, _, _, _⟩) rfl 26 _ [.int .i64 0, encStr [], nilS, nilS, nilS] rfl zeroVl rfl ?_; intro g2 w2 r2 p2 l2 b2; have r1b := r1.later b2; have c0 := r1b.cell (j := 0) rfl)
              | (with_reducible refine wl_build (o := ⟨some 6, _, _, _, _, _⟩) rfl 26 [(0, .tmp 5)] rfl [(0, .int .i64 x.k)] rfl [.int .i64 x.k, encStr [], nilS, nilS, nilS] (builtVl0 x.k) ?_)
              | (with_reducible refine wl_alloc (o := ⟨some 3, _, _, _, _, _⟩) rfl 26 _ [.int .i64 0, encStr [], nilS, nilS, nilS] rfl zeroVl rfl ?_; intro g3 w3 r3 p3 l3 b3; have r1c := r1b.later b3; have r2c := r2.later b3)
              | (with_reducible refine wl_store_row rfl 26 (.tmp 3) (.tmp 6) g3 26 _ [.int .i64 x.k, encStr [], nilS, nilS, nilS] rfl rfl rfl r3 (by kernel_rfl) rfl hone0 ?_; intro w4 r4 o4; have b4 := b3.trans ((o4.below p3).mono (Nat.le_refl _)); have r1d := r1b.later b4; have r2d := r2.later b4; have d0 := r1d.cell (j := 0) rfl; have d1 := r1d.cell (j := 1) rfl; have d2 := r1d.cell (j := 2) rfl; have d3 := r1d.cell (j := 3) rfl; have d4 := r1d.cell (j := 4) rfl)
              | (with_reducible refine wl_load_row (o := ⟨some 30, _, _, _, _, _⟩) rfl 26 (.tmp 3) g3 26 [.int .i64 x.k, encStr [], nilS, nilS, nilS] _ rfl rfl r4 Tryz.underlying26 rfl (by kernel_rfl) ?_)
              | (with_reducible refine wl_store_row rfl 26 (.tmp 2) (.tmp 30) g2 26 _ [.int .i64 x.k, encStr [], nilS, nilS, nilS] rfl rfl rfl r2d (by kernel_rfl) rfl (by simp [Value.oneCell', encStr]) ?_; intro w6 r6 o6))
            refine bodyPost_ret (v := .agg [.int .i64 x.k, encStr [], nilS, nilS, nilS].toArray) ?_ rfl ⟨?_, ?_⟩
            · exact results_cell_row Tryz.results104 _ _ g2 26 _ (0, 0) _ rfl r6 Tryz.underlying26 rfl (by kernel_rfl)
            · simp only [Vl.own, Vl.op, Vl.ol, Vl.os, vlC, eq_false k1.out, eq_false k2.out, eq_false k3.out, eq_false k4.out, eq_false k5.out]; first | rfl | simp
            · exact b1.trans ((b2.trans (b4.mono b2.size)).mono b1.size |>.trans ((o6.below (Nat.le_trans b1.size p2)).mono (Nat.le_refl _)))
end Go.Proofs.YtpbkejmffddelaaGreat

/-
  How many elements a value has; which kinds there are. Own work.
-/
namespace Go.Proofs.YtpbkejmffddelaaGreat
open Go.RowKit Go.Shelf
/-- own, and how it lies. -/
theorem own_ex (w : World) (x : Vl) (vp vl vs : Value) (B : Nat) (h : VlM w B x vp vl vs) (hB : B ≤ w.heap.size) : Calls Tryz.prog 104 #[vlV x vp vl vs] w fun e w' => ∃ vp' vl' vs', e = .returned (vlV x.own vp' vl' vs') ∧ VlM w' B x.own vp' vl' vs' ∧ Below w.heap.size w w' :=
  (own_any w x vp vl vs (h.up hB)).mono fun e w' ⟨he, hb⟩ => ⟨_, _, _, he, (h.below (hb.mono hB)).own, hb⟩
set_option maxRecDepth 100000 in
set_option maxHeartbeats 2000000 in
theorem count_any (w : World) (x : Vl) (vp vl vs : Value) (h : VlM w w.heap.size x vp vl vs) (fx : x.own.Fits) : Calls Tryz.prog 47 #[vlV x vp vl vs] w fun e w' => e = .returned (.int .i64 ((x.own.ps.length : Int) + x.own.ls.length + x.own.ss.length)) ∧ Below w.heap.size w w' := by
  have hsz := szVl x vp vl vs
  have HO := fun (w1 : World) (hb : Below w.heap.size w w1) => own_ex w1 x vp vl vs w.heap.size (h.below hb) hb.size
  generalize x.own = y at *
  have f1 : (y.ps.length : Int) ≤ 140737488355328 := by have := fx.p; omega
  have f2 : (y.ls.length : Int) ≤ 140737488355328 := by have := fx.l; omega
  have f3 : (y.ss.length : Int) ≤ 140737488355328 := by have := fx.s; omega
  replace HO := hide HO
  go_enter Tryz.func47, Tryz.ntmps47
  go_wp2_with (first
    | (with_reducible refine wl_box (o := ⟨some 1, _, _, _, _, _⟩) rfl 26 (.tmp 0) _ (vlC x vp vl vs) rfl rfl rfl ?_; intro g1 w1 r1 p1 l1 b1)
    | (with_reducible refine wl_load_row (o := ⟨some 4, _, _, _, _, _⟩) rfl 26 (.tmp 1) g1 26 (vlC x vp vl vs) _ rfl rfl r1 Tryz.underlying26 rfl hsz ?_))
  refine (HO.out w1 b1).mono ?_
  rintro e w2 ⟨vp', vl', vs', rfl, hy, b2⟩
  obtain ⟨A2, C2, rfl⟩ := hy.p.sl
  obtain ⟨A3, C3, rfl⟩ := hy.l.sl
  obtain ⟨A4, C4, rfl⟩ := hy.s.sl
  have hone := hy.one
  have B2 := b1.trans (b2.mono b1.size)
  clear r1 p1 l1 b2 HO hy h fx
  go_wp2_with (first
    | ((with_reducible refine wl_alloc (o := ⟨some 3, _, _, _, _, _⟩) rfl 26 _ [.int .i64 0, encStr [], nilS, nilS, nilS] rfl zeroVl rfl ?_); intro g3 w3 r3 p3 l3 b3)
    | ((with_reducible refine wl_store_row rfl 26 (.tmp 3) (.tmp 5) g3 26 _ (vlC y (.slice A2 y.ps.length C2) (.slice A3 y.ls.length C3) (.slice A4 y.ss.length C4)) rfl rfl rfl r3 (by kernel_rfl) rfl hone ?_); intro w4 r4 o4; have d2 := r4.cell (j := 2) rfl; have d3 := r4.cell (j := 3) rfl; have d4 := r4.cell (j := 4) rfl))
  go_ret
  exact ⟨rfl, B2.trans ((b3.trans ((o4.below p3).mono (Nat.le_refl _))).mono B2.size)⟩
set_option maxRecDepth 100000 in
theorem isKind_any (w : World) (k : Int) : Calls Tryz.prog 64 #[.int .i64 k] w fun e w' => e = .returned (.bool (decide (1 ≤ k ∧ k ≤ 5))) ∧ w = w' := by
  by_cases h1 : 1 ≤ k
  · by_cases h2 : k ≤ 5
    · rw [decide_eq_true ⟨h1, h2⟩]
      go_enter Tryz.func64, Tryz.ntmps64
      go_wp2_with fail
      go_ret
      exact ⟨rfl, rfl⟩
    · rw [decide_eq_false (fun c => h2 c.2)]
      have h3 : 5 < k := by omega
      go_enter Tryz.func64, Tryz.ntmps64
      go_wp2_with fail
      go_ret
      exact ⟨rfl, rfl⟩
  · rw [decide_eq_false (fun c => h1 c.1)]
    have h3 : k < 1 := by omega
    go_enter Tryz.func64, Tryz.ntmps64
    go_wp2_with fail
    go_ret
    exact ⟨rfl, rfl⟩
end Go.Proofs.YtpbkejmffddelaaGreat

/-
  each: a closure is told of each element. Own work.
-/
namespace Go.Proofs.YtpbkejmffddelaaGreat
open Go.RowKit Go.Shelf
/-- What is told of a value, that has what its kind has. -/
def Vl.tells (y : Vl) : List (List Int × List Nm) :=
  (if y.k = 1 then [([], [y.t])] else []) ++ (y.ps.map (fun p => (([] : List Int), [p.f, p.t])) ++ (y.ls.map (fun t => (([] : List Int), [t])) ++ y.ss.map (fun a => (highB (IntKind.u64.wrap a.s) 8, [a.m]))))
/-- A closure that is told of these, one by one; it turns one block. -/
structure Tell (f : FuncId) (caps : Array Value) (gc : Nat) (T : List (List Int × List Nm)) (I : Nat → World → Prop) : Prop where
  call : ∀ (xs : Array Value) (w : World), (callFunc f xs).run Tryz.prog w = .ok (.enter f xs) w
  stay : ∀ i w w', I i w → Below w.heap.size w w' → I i w'
  step : ∀ (i : Nat) (sc : List Int) (ts : List Nm) (w : World) (A : Option Addr) (n c : Nat) (tv : Value), T[i]? = some (sc, ts) → I i w → Bs w w.heap.size A n sc → SlV cS 1 w w.heap.size tv ts →
    Calls Tryz.prog f (#[.slice A n c, tv] ++ caps) w fun e w' => e = .returned (.tuple #[]) ∧ I (i + 1) w' ∧ But gc w w'
theorem wl_callF2 {ops : Array Oper} {rest : List Oper} {o : Oper} {a : Act} {w : World} {Q : Exit → Act → World → Prop} (hgd : o.guard = none) (f : FuncId) (x y z : Operand) (t u : TypeId) (v1 v2 : Value) (caps : Array Value) (ho : o.op = .call { callee := .value x, args := #[y, z], argTypes := #[t, u] }) (hx : a.eval x = .func (.func f) #[] caps) (hy : a.eval y = v1) (hz : a.eval z = v2)
    (hf : ∀ (xs : Array Value) (w : World), (callFunc f xs).run Tryz.prog w = .ok (.enter f xs) w)
    {R : Ending → World → Prop} (hc : Calls Tryz.prog f (#[v1, v2] ++ caps) w R) (hk : ∀ e w', R e w' → ∃ v, e = .returned v ∧ wpList Tryz.prog ops Q rest (a.put o.dst v) w') : wpList Tryz.prog ops Q (o :: rest) a w :=
  wpList_plain hgd fun K hK => st_callF2 f x y z t u v1 v2 caps ho hx hy hz hf hc fun e w' h => let ⟨v, he, h2⟩ := hk e w' h; ⟨v, he, hK _ _ h2⟩
theorem Row.slW {w : World} {g : Nat} {ts : List Nm} {n : Nat} (h : Row w 9 g (ts.map encStr)) (hn : n = ts.length) (hm : ts.length ≤ maxLen) : SlV cS 1 w w.heap.size (.slice (some ⟨g, 0, none⟩) n n) ts := by
  subst hn
  exact OwnW.slv (T := 0) (h.owns (base := 0) (size := 1) (Nat.zero_le _) (by simp) hm)
theorem tells_p {y : Vl} {s0 i : Nat} {p : Pr} (hs : (if y.k = 1 then [(([] : List Int), [y.t])] else []).length = s0) (hp : y.ps[i]? = some p) : y.tells[s0 + i]? = some ([], [p.f, p.t]) := by
  have hi := (List.getElem?_eq_some_iff.1 hp).1
  unfold Vl.tells
  rw [List.getElem?_append_right (by omega), hs, Nat.add_sub_cancel_left, List.getElem?_append_left (by simpa using hi), List.getElem?_map, hp]; rfl
theorem tells_l {y : Vl} {s0 i : Nat} {p : Nm} (hs : (if y.k = 1 then [(([] : List Int), [y.t])] else []).length = s0) (hp : y.ls[i]? = some p) : y.tells[s0 + y.ps.length + i]? = some ([], [p]) := by
  have hi := (List.getElem?_eq_some_iff.1 hp).1
  unfold Vl.tells
  rw [List.getElem?_append_right (by omega), hs, List.getElem?_append_right (by simp; omega), List.length_map, show s0 + y.ps.length + i - s0 - y.ps.length = i by omega, List.getElem?_append_left (by simpa using hi), List.getElem?_map, hp]; rfl
theorem tells_s {y : Vl} {s0 i : Nat} {p : Sc} (hs : (if y.k = 1 then [(([] : List Int), [y.t])] else []).length = s0) (hp : y.ss[i]? = some p) : y.tells[s0 + y.ps.length + y.ls.length + i]? = some (highB (IntKind.u64.wrap p.s) 8, [p.m]) := by
  have hi := (List.getElem?_eq_some_iff.1 hp).1
  unfold Vl.tells
  rw [List.getElem?_append_right (by omega), hs, List.getElem?_append_right (by simp; omega), List.length_map, List.getElem?_append_right (by simp; omega), List.length_map, show s0 + y.ps.length + y.ls.length + i - s0 - y.ps.length - y.ls.length = i by omega, List.getElem?_map, hp]; rfl
theorem tells_len {y : Vl} {s0 : Nat} (hs : (if y.k = 1 then [(([] : List Int), [y.t])] else []).length = s0) : y.tells.length = s0 + y.ps.length + y.ls.length + y.ss.length := by
  unfold Vl.tells
  rw [List.length_append, hs]; simp; omega
theorem zeroPr : (Tryz.prog.info? 87).map (fun i => i.zero) = some (some (.agg [encStr [], encStr []].toArray)) := by kernel_rfl
theorem zeroSc : (Tryz.prog.info? 99).map (fun i => i.zero) = some (some (.agg [encStr [], .int .i64 0].toArray)) := by kernel_rfl
theorem wrap_u64 (s : Int) : 0 ≤ IntKind.u64.wrap s ∧ IntKind.u64.wrap s < 2 ^ 64 := by
  show 0 ≤ s % 18446744073709551616 ∧ s % 18446744073709551616 < 2 ^ 64
  omega
/-- The region that tells of a score: Put64, the literal, the closure's call. -/
def JTl (w0 : World) (gc : Nat) (I : World → Prop) (xs : List Int) (m : Nm) (bs : List Bool) (vs : List Value) (w : World) : Prop :=
  (bs.getD 2 false = false → Below w0.heap.size w0 w) ∧ (bs.getD 0 false = true → bs.getD 2 false = false → ∃ A n c, vs.getD 0 undef = .slice A n c ∧ Bs w w.heap.size A n xs) ∧
  (bs.getD 1 false = true → bs.getD 2 false = false → ∃ g, vs.getD 1 undef = .slice (some ⟨g, 0, none⟩) 1 1 ∧ Row w 9 g [encStr m]) ∧ (bs.getD 2 false = true → I w ∧ But gc w0 w)
theorem JTl.start (w : World) (gc : Nat) (I : World → Prop) (xs : List Int) (m : Nm) (vs : List Value) : JTl w gc I xs m [false, false, false] vs w.drew :=
  ⟨fun _ => (Below.refl _ _).drew, fun h => absurd h (by decide), fun h => absurd h (by decide), fun h => absurd h (by decide)⟩
def STl (f : FuncId) (caps : Array Value) (gA : Nat) (a : Sc) (opn : Nat) (v : Value) : Prop :=
  match opn with
  | 0 => v = .func (.func f) #[] caps
  | 1 => v = .pointer (some ⟨gA, 1, none⟩)
  | 2 => v = .int .i64 a.s
  | 3 => v = .int .u64 (IntKind.u64.wrap a.s)
  | 5 => v = .pointer (some ⟨gA, 0, none⟩)
  | 6 => v = encStr a.m
  | _ => True

set_option maxRecDepth 100000 in
set_option maxHeartbeats 4000000 in
theorem each_any (w : World) (x : Vl) (vp vl vs : Value) (B gc : Nat) (h : VlM w B x vp vl vs) (hB : B ≤ gc) (hgw : gc < w.heap.size) (few : x.own.Few) (f : FuncId) (caps : Array Value) (I : Nat → World → Prop) (HT : Tell f caps gc x.own.tells I) (h0 : I 0 w) :
    Calls Tryz.prog 48 #[vlV x vp vl vs, .func (.func f) #[] caps] w fun e w' => e = .returned (.tuple #[]) ∧ I x.own.tells.length w' ∧ But gc w w' := by
  have hsz := szVl x vp vl vs
  have HO := fun (w1 : World) (hb : Below w.heap.size w w1) => own_ex w1 x vp vl vs B (h.below (hb.mono (Nat.le_trans hB (Nat.le_of_lt hgw)))) (Nat.le_trans hB (Nat.le_trans (Nat.le_of_lt hgw) hb.size))
  obtain ⟨ip, hip, hiz, his, hib⟩ := wordI
  generalize x.own = y at *
  have f1 : (y.ps.length : Int) ≤ 220 := by have := few.p; omega
  have f2 : (y.ls.length : Int) ≤ 220 := by have := few.l; omega
  have f3 : (y.ss.length : Int) ≤ 220 := by have := few.s; omega
  have hcok1 : ∀ a : Nm, cellsOk 1 [encStr a] [[encStr a]] := fun a => ⟨rfl, rfl, trivial⟩
  have hcok2 : ∀ a b : Nm, cellsOk 1 [encStr a, encStr b] [[encStr a], [encStr b]] := fun a b => ⟨rfl, rfl, rfl, rfl, trivial⟩
  have hoP : ∀ {a : Pr}, ∀ u ∈ a.cells, u.oneCell' = true := by intro a; simp [Value.oneCell', encStr]
  have hoS : ∀ {a : Sc}, ∀ u ∈ a.cells, u.oneCell' = true := by intro a; simp [Value.oneCell', encStr]
  replace HO := hide HO
  replace HT := hide HT
  clear few
  by_cases k1 : y.k = 1
  · have e1 : decide (y.k = 1) = true := decide_eq_true k1
    have f1 : (y.k == 1) = true := by simp [k1]
    have hT0 : y.tells[0]? = some ([], [y.t]) := by unfold Vl.tells; rw [if_pos k1]; rfl
    replace k1 := hide k1
    replace hT0 := hide hT0
    go_enter Tryz.func48, Tryz.ntmps48
    go_wp2_with (first
      | (with_reducible refine wl_box (o := ⟨some 2, _, _, _, _, _⟩) rfl 26 (.tmp 0) _ (vlC x vp vl vs) rfl rfl rfl ?_; intro g1 w1 r1 p1 l1 b1)
      | (with_reducible refine wl_load_row (o := ⟨some 11, _, _, _, _, _⟩) rfl 26 (.tmp 2) g1 26 (vlC x vp vl vs) _ rfl rfl r1 Tryz.underlying26 rfl hsz ?_))
    refine (HO.out w1 b1).mono ?_
    rintro e w2 ⟨vp', vl', vs', rfl, hy, b2⟩
    obtain ⟨A2, C2, rfl⟩ := hy.p.sl
    obtain ⟨A3, C3, rfl⟩ := hy.l.sl
    obtain ⟨A4, C4, rfl⟩ := hy.s.sl
    have hone := hy.one
    have B2 := b1.trans (b2.mono b1.size)
    clear r1 p1 l1 b2 HO h
    go_wp2_with (first
      | ((with_reducible refine wl_alloc (o := ⟨some 4, _, _, _, _, _⟩) rfl 26 _ [.int .i64 0, encStr [], nilS, nilS, nilS] rfl zeroVl rfl ?_); intro g4 w3 r3 p3 l3 b3)
      | ((with_reducible refine wl_store_row rfl 26 (.tmp 4) (.tmp 12) g4 26 _ (vlC y (.slice A2 y.ps.length C2) (.slice A3 y.ls.length C3) (.slice A4 y.ss.length C4)) rfl rfl rfl r3 (by kernel_rfl) rfl hone ?_); intro w4 r4 o4; have b4 := b3.trans ((o4.below p3).mono (Nat.le_refl _)); have B4 := B2.trans (b4.mono B2.size); have dd0 := r4.cell (j := 0) rfl; have dd1 := r4.cell (j := 1) rfl; have hg4 : g4 ≠ gc := (by have := B2.size; omega); have cc2 := r4.cell (j := 2) rfl)
      | ((with_reducible refine wl_buildN (o := ⟨some 19, _, _, _, _, _⟩) rfl 23 1 [(0, .tmp 18)] rfl 9 ip (.string ByteArray.empty) 1 [encStr y.t] [[encStr y.t]] Tryz.underlying23 hip hiz rfl his (by decide) (by decide) (by decide) rfl rfl (hcok1 _) ?_); intro g8 w8 r8 p8 l8 b8; have B8 := B4.trans (b8.mono B4.size); have hI8 := HT.out.stay _ _ _ h0 B8; have sl8 := Row.slW (ts := [y.t]) (n := 1) r8 rfl (by simp [maxLen]); have r48 := r4.later b8)
      | ((with_reducible refine wl_callF2 (o := ⟨some 20, _, _, _, _, _⟩) rfl f (.tmp 16) (.const (.slice none 0 0)) (.tmp 19) _ _ (.slice none 0 0) (.slice (some ⟨g8, 0, none⟩) 1 1) caps rfl rfl rfl rfl HT.out.call (HT.out.step 0 [] [y.t] w8 none 0 0 _ hT0.out hI8 Bs.nil_ sl8) ?_); rintro _ w5 ⟨rfl, I5, hb9⟩; refine ⟨_, rfl, ?_⟩; have r5 := r48.but hb9 hg4; have U5 := (But.of B8 gc).trans hb9; have cc2 := r5.cell (j := 2) rfl))
    replace hy := (hy.below (b4.mono (Nat.le_trans hB (Nat.le_trans (Nat.le_of_lt hgw) B2.size)))).below (b8.mono (Nat.le_trans hB (Nat.le_trans (Nat.le_of_lt hgw) B4.size)))
    replace hy := hy.below (hb9.below hB (Nat.le_trans hB (Nat.le_trans (Nat.le_of_lt hgw) B8.size)))
    clear dd0 dd1 r3 r4 r48 r8 hb9 hI8 sl8 h0 b8 B8 hT0 e1 f1
    have hs0 : (if y.k = 1 then [(([] : List Int), [y.t])] else []).length = 1 := by rw [if_pos k1.out]; rfl
    replace hs0 := hide hs0
    have hwb : B ≤ w5.heap.size := Nat.le_trans hB (Nat.le_trans (Nat.le_of_lt hgw) U5.size)
    go_wp2_with fail
    go_loopw [24] (fun iv wr => ∃ i : Nat, i ≤ y.ps.length ∧ iv = .int .i64 (i : Int) ∧ I (1 + i) wr ∧ Row wr 26 g4 (vlC y (.slice A2 y.ps.length C2) (.slice A3 y.ls.length C3) (.slice A4 y.ss.length C4)) ∧ But gc w5 wr) (fun iv _ => y.ps.length - (intOf iv).toNat)
    case atStart => exact ⟨0, by omega, rfl, I5, r5, But.refl _ _⟩
    case round =>
      clear I5 r5 cc2
      obtain ⟨i, hi, rfl, hI, r4, UW⟩ := hrel
      have hpB := (hy.p.below (UW.below hB hwb))
      have hgr := UW.size
      by_cases hlt : i < y.ps.length
      · have hltI : (i : Int) < (y.ps.length : Int) := by omega
        obtain ⟨a, ha⟩ : ∃ a, y.ps[i]? = some a := ⟨_, List.getElem?_eq_getElem hlt⟩
        have hTi := hide (tells_p hs0.out ha)
        obtain ⟨x1, ga, oa, rfl, hga, hca⟩ := hpB.at ha
        have hsz := szPr a
        replace hI := hide hI
        have hlt9 := hide hlt
        clear ha x1 hga hpB
        go_wp2_with (first
          | (with_reducible refine wl_run (o := ⟨some 26, _, _, _, _, _⟩) rfl (.pointer (some ⟨ga, oa + i * 2, none⟩)) (run_idxO 22 (.tmp 22) (.tmp 24) 87 2 ga oa y.ps.length C2 i rfl Tryz.underlying22 Tryz.sizeOf87 rfl rfl hlt) ?_)
          | (with_reducible refine wl_load_cells (o := ⟨some 27, _, _, _, _, _⟩) rfl 87 (.tmp 26) ga (oa + i * 2) a.cells _ rfl rfl hca Tryz.underlying87 rfl hsz ?_)
          | ((with_reducible refine wl_alloc (o := ⟨some 6, _, _, _, _, _⟩) rfl 87 _ [encStr [], encStr []] rfl zeroPr rfl ?_); intro g6 w6 r6 p6 l6 b6)
          | ((with_reducible refine wl_store_row rfl 87 (.tmp 6) (.tmp 27) g6 87 _ a.cells rfl rfl rfl r6 hsz rfl hoP ?_); intro w7 r7 o7; have b7 := b6.trans ((o7.below p6).mono (Nat.le_refl _)); have q0 := r7.cell (j := 0) rfl; have q1 := r7.cell (j := 1) rfl; have r47 := r4.later b7)
          | ((with_reducible refine wl_buildN (o := ⟨some 33, _, _, _, _, _⟩) rfl 23 2 [(0, .tmp 30), (1, .tmp 32)] rfl 9 ip (.string ByteArray.empty) 1 [encStr a.f, encStr a.t] [[encStr a.f], [encStr a.t]] Tryz.underlying23 hip hiz rfl his (by decide) (by decide) (by decide) rfl rfl (hcok2 _ _) ?_); intro g8 w8 r8 p8 l8 b8; have b78 := b7.trans (b8.mono b7.size); have hI8 := HT.out.stay _ _ _ hI.out b78; have sl8 := Row.slW (ts := [a.f, a.t]) (n := 2) r8 rfl (by simp [maxLen]); have r48 := r47.later b8)
          | ((with_reducible refine wl_callF2 (o := ⟨some 34, _, _, _, _, _⟩) rfl f (.tmp 28) (.const (.slice none 0 0)) (.tmp 33) _ _ (.slice none 0 0) (.slice (some ⟨g8, 0, none⟩) 2 2) caps rfl rfl rfl rfl HT.out.call (HT.out.step (1 + i) [] [a.f, a.t] w8 none 0 0 _ hTi.out hI8 Bs.nil_ sl8) ?_); rintro _ w9 ⟨rfl, hI9, hb9⟩; refine ⟨_, rfl, ?_⟩))
        have r49 := r48.but hb9 hg4
        have U9 := UW.trans ((But.of b78 gc).trans hb9)
        go_roundw
        case rel => exact ⟨i + 1, by have := hlt9.out; omega, by go_num, hI9, r49, U9⟩
        case measure => have := hlt9.out; simp [intOf]; omega
      · obtain rfl : i = y.ps.length := by omega
        have cc3 := r4.cell (j := 3) rfl
        clear hpB
        go_wp2_with fail
        go_loopw [39] (fun iv wr => ∃ i : Nat, i ≤ y.ls.length ∧ iv = .int .i64 (i : Int) ∧ I (1 + y.ps.length + i) wr ∧ Row wr 26 g4 (vlC y (.slice A2 y.ps.length C2) (.slice A3 y.ls.length C3) (.slice A4 y.ss.length C4)) ∧ But gc w5 wr) (fun iv _ => y.ls.length - (intOf iv).toNat)
        case atStart => exact ⟨0, by omega, rfl, hI, r4, UW⟩
        case round =>
          clear hI r4 UW cc3 hgr
          obtain ⟨i, hi, rfl, hI, r4, UW⟩ := hrel
          have hpB := (hy.l.below (UW.below hB hwb))
          have hgr := UW.size
          by_cases hlt : i < y.ls.length
          · have hltI : (i : Int) < (y.ls.length : Int) := by omega
            obtain ⟨a, ha⟩ : ∃ a, y.ls[i]? = some a := ⟨_, List.getElem?_eq_getElem hlt⟩
            have hTi := hide (tells_l hs0.out ha)
            obtain ⟨x1, ga, oa, rfl, hga, hca⟩ := hpB.at ha
            have q0 := hca 0 _ rfl
            rw [Nat.add_zero, Nat.mul_one] at q0
            replace hI := hide hI
            have hlt9 := hide hlt
            clear ha x1 hga hpB hca
            go_wp2_with (first
              | (with_reducible refine wl_run (o := ⟨some 41, _, _, _, _, _⟩) rfl (.pointer (some ⟨ga, oa + i * 1, none⟩)) (run_idxO 23 (.tmp 37) (.tmp 39) 9 1 ga oa y.ls.length C3 i rfl Tryz.underlying23 Tryz.sizeOf9 rfl rfl hlt) ?_)
              | ((with_reducible refine wl_buildN (o := ⟨some 45, _, _, _, _, _⟩) rfl 23 1 [(0, .tmp 44)] rfl 9 ip (.string ByteArray.empty) 1 [encStr a] [[encStr a]] Tryz.underlying23 hip hiz rfl his (by decide) (by decide) (by decide) rfl rfl (hcok1 _) ?_); intro g8 w8 r8 p8 l8 b8; have hI8 := HT.out.stay _ _ _ hI.out b8; have sl8 := Row.slW (ts := [a]) (n := 1) r8 rfl (by simp [maxLen]); have r48 := r4.later b8)
              | ((with_reducible refine wl_callF2 (o := ⟨some 46, _, _, _, _, _⟩) rfl f (.tmp 43) (.const (.slice none 0 0)) (.tmp 45) _ _ (.slice none 0 0) (.slice (some ⟨g8, 0, none⟩) 1 1) caps rfl rfl rfl rfl HT.out.call (HT.out.step (1 + y.ps.length + i) [] [a] w8 none 0 0 _ hTi.out hI8 Bs.nil_ sl8) ?_); rintro _ w9 ⟨rfl, hI9, hb9⟩; refine ⟨_, rfl, ?_⟩))
            have r49 := r48.but hb9 hg4
            have U9 := UW.trans ((But.of b8 gc).trans hb9)
            go_roundw
            case rel => exact ⟨i + 1, by have := hlt9.out; omega, by go_num, hI9, r49, U9⟩
            case measure => have := hlt9.out; simp [intOf]; omega
          · obtain rfl : i = y.ls.length := by omega
            have cc4 := r4.cell (j := 4) rfl
            clear hpB
            go_wp2_with fail
            go_loopw [51] (fun iv wr => ∃ i : Nat, i ≤ y.ss.length ∧ iv = .int .i64 (i : Int) ∧ I (1 + y.ps.length + y.ls.length + i) wr ∧ But gc w5 wr) (fun iv _ => y.ss.length - (intOf iv).toNat)
            case atStart => exact ⟨0, by omega, rfl, hI, UW⟩
            case round =>
              clear hI r4 UW cc4 hgr
              obtain ⟨i, hi, rfl, hI, UW⟩ := hrel
              have hpB := (hy.s.below (UW.below hB hwb))
              by_cases hlt : i < y.ss.length
              · have hltI : (i : Int) < (y.ss.length : Int) := by omega
                obtain ⟨a, ha⟩ : ∃ a, y.ss[i]? = some a := ⟨_, List.getElem?_eq_getElem hlt⟩
                have hTi := hide (tells_s hs0.out ha)
                obtain ⟨x1, ga, oa, rfl, hga, hca⟩ := hpB.at ha
                have hsz := szSc a
                have hlt9 := hide hlt
                replace hI := hide hI
                clear ha x1 hga hpB
                go_wp2_with (first
                  | (with_reducible refine wl_run (o := ⟨some 53, _, _, _, _, _⟩) rfl (.pointer (some ⟨ga, oa + i * 2, none⟩)) (run_idxO 24 (.tmp 49) (.tmp 51) 99 2 ga oa y.ss.length C4 i rfl Tryz.underlying24 Tryz.sizeOf99 rfl rfl hlt) ?_)
                  | (with_reducible refine wl_load_cells (o := ⟨some 54, _, _, _, _, _⟩) rfl 99 (.tmp 53) ga (oa + i * 2) a.cells _ rfl rfl hca Tryz.underlying99 rfl hsz ?_)
                  | ((with_reducible refine wl_alloc (o := ⟨some 10, _, _, _, _, _⟩) rfl 99 _ [encStr [], .int .i64 0] rfl zeroSc rfl ?_); intro gA w6 r6 p6 l6 b6)
                  | ((with_reducible refine wl_store_row rfl 99 (.tmp 10) (.tmp 54) gA 99 _ a.cells rfl rfl rfl r6 hsz rfl hoS ?_); intro w7 rA o7; have b7 := b6.trans ((o7.below p6).mono (Nat.le_refl _)); have hI := HT.out.stay _ _ _ hI.out b7))
                rename_i K9 hK9
                obtain ⟨KI, hKI⟩ : ∃ KI, KI = 1 + y.ps.length + y.ls.length + i := ⟨_, rfl⟩
                rw [← hKI] at hI hTi
                refine wp_region_vals [4, 7, 8] (STl f caps gA a) (JTl w7 gc (I (KI + 1)) (highB (IntKind.u64.wrap a.s) 8) a.m) (by kernel_rfl) (by kernel_rfl) (by kernel_rfl) (by kernel_rfl) (by kernel_rfl) (JTl.start _ _ _ _ _ _) ?obs9 ?he9
                case obs9 =>
                  refine ⟨?_, ?_, ?_, ?_, ?_, ?_, ?_, ?_, ?_, trivial⟩
                  · exact .inl ⟨by kernel_rfl, fun L a1 w1 n' h => ⟨_, rfl, run_move (.tmp 1) rfl (h.var n' 1 (by kernel_rfl))⟩⟩
                  · refine .inl ⟨by kernel_rfl, fun L a1 w1 n' h => ⟨.pointer (some ⟨gA, 1, none⟩), rfl, ?_⟩⟩
                    have e0 : a1.eval (.tmp 10) = _ := h.var n' 10 (by kernel_rfl)
                    unfold execOp
                    simp only [e0]
                    go_simp
                  · exact .inl ⟨by kernel_rfl, fun L a1 w1 n' h => ⟨_, rfl, run_load1 3 (.tmp 56) gA 1 _ rfl Tryz.isAgg3 (h.dep n' 1 56 (by kernel_rfl) rfl) ((rA.later (h.inv.1 ((bits_at rfl).trans (n'.later (by kernel_rfl))))).cell rfl)⟩⟩
                  · refine .inl ⟨by kernel_rfl, fun L a1 w1 n' h => ⟨.int .u64 (IntKind.u64.wrap a.s), rfl, ?_⟩⟩
                    have e0 : a1.eval (.tmp 57) = _ := h.dep n' 2 57 (by kernel_rfl) rfl
                    unfold execOp
                    simp only [e0]
                    go_simp
                  · refine .inr fun L a1 w1 n' h K hK => ?_
                    have no8 : L.getD 8 false = false := n'.later (by kernel_rfl)
                    have no4 : L.getD 4 false = false := n'.not_yet
                    have b9 := h.inv.1 ((bits_at rfl).trans no8)
                    have y1 : a1.eval (.tmp 58) = .int .u64 (IntKind.u64.wrap a.s) := h.dep n' 3 58 (by kernel_rfl) rfl
                    have h7 := h.inv.2.2.1
                    refine st_call 103 _ _ #[.slice none 0 0, .int .u64 (IntKind.u64.wrap a.s)] rfl Tryz.call103 ?_ (put64_any none 0 0 [] (IntKind.u64.wrap a.s) w1 Bs.nil_ (by decide) (wrap_u64 a.s).1 (wrap_u64 a.s).2) ?_
                    · simp only [List.map_toArray, List.map_cons, List.map_nil, y1]; rfl
                    · rintro e w3 ⟨A1, n1, c1, rfl, hb, hn, hc, b3⟩
                      exact ⟨_, rfl, hK _ w3 trivial ⟨fun _ => b9.trans (b3.mono b9.size), fun _ _ => ⟨A1, n1, c1, rfl, hb⟩, fun h1 h2 => let ⟨g, e, r⟩ := h7 h1 h2; ⟨g, e, r.later b3⟩, fun h0 => absurd (no8.symm.trans h0) (by decide)⟩⟩
                  · refine .inl ⟨by kernel_rfl, fun L a1 w1 n' h => ⟨.pointer (some ⟨gA, 0, none⟩), rfl, ?_⟩⟩
                    have e0 : a1.eval (.tmp 10) = _ := h.var n' 10 (by kernel_rfl)
                    unfold execOp
                    simp only [e0]
                    go_simp
                  · exact .inl ⟨by kernel_rfl, fun L a1 w1 n' h => ⟨_, rfl, run_load1 9 (.tmp 60) gA 0 _ rfl Tryz.isAgg9 (h.dep n' 5 60 (by kernel_rfl) rfl) ((rA.later (h.inv.1 ((bits_at rfl).trans (n'.later (by kernel_rfl))))).cell rfl)⟩⟩
                  · refine .inr fun L a1 w1 n' h K hK => ?_
                    have no8 : L.getD 8 false = false := n'.later (by kernel_rfl)
                    have b9 := h.inv.1 ((bits_at rfl).trans no8)
                    have y0 : a1.eval (.tmp 61) = encStr a.m := h.dep n' 6 61 (by kernel_rfl) rfl
                    have h4 := h.inv.2.1
                    refine st_buildN 23 1 [(0, .tmp 61)] rfl 9 ip (.string ByteArray.empty) 1 [encStr a.m] [[encStr a.m]] Tryz.underlying23 hip hiz rfl his (by decide) (by decide) (by decide) (by simp only [List.map_cons, List.map_nil, numb]; rw [y0]) rfl (⟨rfl, rfl, trivial⟩) ?_
                    intro g2 w3 r3 p3 l3 b3
                    exact hK _ w3 trivial ⟨fun _ => b9.trans (b3.mono b9.size), fun h1 h2 => let ⟨A, n, c, e, r⟩ := h4 h1 h2; ⟨A, n, c, e, r.later b3⟩, fun _ _ => ⟨g2, rfl, r3⟩, fun h0 => absurd (no8.symm.trans h0) (by decide)⟩
                  · refine .inr fun L a1 w1 n' h K hK => ?_
                    have no8 : L.getD 8 false = false := n'.not_yet
                    have yes4 : L.getD 4 false = true := n'.dep (by kernel_rfl)
                    have yes7 : L.getD 7 false = true := n'.dep (by kernel_rfl)
                    have b9 := h.inv.1 ((bits_at rfl).trans no8)
                    obtain ⟨A1, n1, c1, e1, hb1⟩ := h.inv.2.1 ((bits_at rfl).trans yes4) ((bits_at rfl).trans no8)
                    obtain ⟨g2, e2, r2⟩ := h.inv.2.2.1 ((bits_at rfl).trans yes7) ((bits_at rfl).trans no8)
                    refine st_callF2 f (.tmp 55) (.tmp 59) (.tmp 62) _ _ _ _ caps rfl (h.dep n' 0 55 (by kernel_rfl) rfl) e1 e2 HT.out.call (HT.out.step KI _ [a.m] w1 A1 n1 c1 _ hTi.out (HT.out.stay _ _ _ hI b9) hb1 (Row.slW (ts := [a.m]) r2 rfl (by simp [maxLen]))) ?_
                    rintro e w3 ⟨rfl, hI3, hb3⟩
                    exact ⟨_, rfl, hK _ w3 trivial ⟨fun h0 => absurd (show true = false from h0) (by decide), fun _ h0 => absurd (show true = false from h0) (by decide), fun _ h0 => absurd (show true = false from h0) (by decide), fun _ => ⟨hI3, (But.of b9 gc).trans hb3⟩⟩⟩
                case he9 =>
                  intro V w9 hV hJ
                  obtain ⟨hI9, hb9⟩ := hJ.2.2.2 rfl
                  clear hV hJ
                  simp only [putOps, List.setIfInBounds_toArray, List.set_cons_succ, List.set_cons_zero, Nat.reduceAdd]
                  refine hK9 _ _ ?_
                  have U9 := UW.trans ((But.of b7 gc).trans hb9)
                  go_wp2_with fail
                  go_roundw
                  case rel => exact ⟨i + 1, by have := hlt9.out; omega, by go_num, by rw [hKI] at hI9; exact hI9, U9⟩
                  case measure => have := hlt9.out; simp [intOf]; omega
              · obtain rfl : i = y.ss.length := by omega
                go_wp2_with fail
                go_end0
                exact ⟨rfl, by rw [tells_len hs0.out]; exact hI, U5.trans UW⟩
  · have e1 : decide (y.k = 1) = false := decide_eq_false k1
    have f1 : (y.k == 1) = false := beq_eq_false_iff_ne.2 k1
    replace k1 := hide k1
    go_enter Tryz.func48, Tryz.ntmps48
    go_wp2_with (first
      | (with_reducible refine wl_box (o := ⟨some 2, _, _, _, _, _⟩) rfl 26 (.tmp 0) _ (vlC x vp vl vs) rfl rfl rfl ?_; intro g1 w1 r1 p1 l1 b1)
      | (with_reducible refine wl_load_row (o := ⟨some 11, _, _, _, _, _⟩) rfl 26 (.tmp 2) g1 26 (vlC x vp vl vs) _ rfl rfl r1 Tryz.underlying26 rfl hsz ?_))
    refine (HO.out w1 b1).mono ?_
    rintro e w2 ⟨vp', vl', vs', rfl, hy, b2⟩
    obtain ⟨A2, C2, rfl⟩ := hy.p.sl
    obtain ⟨A3, C3, rfl⟩ := hy.l.sl
    obtain ⟨A4, C4, rfl⟩ := hy.s.sl
    have hone := hy.one
    have B2 := b1.trans (b2.mono b1.size)
    clear r1 p1 l1 b2 HO h
    go_wp2_with (first
      | ((with_reducible refine wl_alloc (o := ⟨some 4, _, _, _, _, _⟩) rfl 26 _ [.int .i64 0, encStr [], nilS, nilS, nilS] rfl zeroVl rfl ?_); intro g4 w3 r3 p3 l3 b3)
      | ((with_reducible refine wl_store_row rfl 26 (.tmp 4) (.tmp 12) g4 26 _ (vlC y (.slice A2 y.ps.length C2) (.slice A3 y.ls.length C3) (.slice A4 y.ss.length C4)) rfl rfl rfl r3 (by kernel_rfl) rfl hone ?_); intro w4 r4 o4; have b4 := b3.trans ((o4.below p3).mono (Nat.le_refl _)); have B4 := B2.trans (b4.mono B2.size); have dd0 := r4.cell (j := 0) rfl; have dd1 := r4.cell (j := 1) rfl; have hg4 : g4 ≠ gc := (by have := B2.size; omega); have cc2 := r4.cell (j := 2) rfl))
    have I5 := HT.out.stay _ _ _ h0 B4
    have U5 := But.of B4 gc
    have r5 := r4
    replace hy := hy.below (b4.mono (Nat.le_trans hB (Nat.le_trans (Nat.le_of_lt hgw) B2.size)))
    clear dd0 dd1 r3 r4 h0 e1 f1
    have hs0 : (if y.k = 1 then [(([] : List Int), [y.t])] else []).length = 0 := by rw [if_neg k1.out]; rfl
    replace hs0 := hide hs0
    have hwb : B ≤ w4.heap.size := Nat.le_trans hB (Nat.le_trans (Nat.le_of_lt hgw) U5.size)
    go_loopw [24] (fun iv wr => ∃ i : Nat, i ≤ y.ps.length ∧ iv = .int .i64 (i : Int) ∧ I (0 + i) wr ∧ Row wr 26 g4 (vlC y (.slice A2 y.ps.length C2) (.slice A3 y.ls.length C3) (.slice A4 y.ss.length C4)) ∧ But gc w4 wr) (fun iv _ => y.ps.length - (intOf iv).toNat)
    case atStart => exact ⟨0, by omega, rfl, I5, r5, But.refl _ _⟩
    case round =>
      clear I5 r5 cc2
      obtain ⟨i, hi, rfl, hI, r4, UW⟩ := hrel
      have hpB := (hy.p.below (UW.below hB hwb))
      have hgr := UW.size
      by_cases hlt : i < y.ps.length
      · have hltI : (i : Int) < (y.ps.length : Int) := by omega
        obtain ⟨a, ha⟩ : ∃ a, y.ps[i]? = some a := ⟨_, List.getElem?_eq_getElem hlt⟩
        have hTi := hide (tells_p hs0.out ha)
        obtain ⟨x1, ga, oa, rfl, hga, hca⟩ := hpB.at ha
        have hsz := szPr a
        replace hI := hide hI
        have hlt9 := hide hlt
        clear ha x1 hga hpB
        go_wp2_with (first
          | (with_reducible refine wl_run (o := ⟨some 26, _, _, _, _, _⟩) rfl (.pointer (some ⟨ga, oa + i * 2, none⟩)) (run_idxO 22 (.tmp 22) (.tmp 24) 87 2 ga oa y.ps.length C2 i rfl Tryz.underlying22 Tryz.sizeOf87 rfl rfl hlt) ?_)
          | (with_reducible refine wl_load_cells (o := ⟨some 27, _, _, _, _, _⟩) rfl 87 (.tmp 26) ga (oa + i * 2) a.cells _ rfl rfl hca Tryz.underlying87 rfl hsz ?_)
          | ((with_reducible refine wl_alloc (o := ⟨some 6, _, _, _, _, _⟩) rfl 87 _ [encStr [], encStr []] rfl zeroPr rfl ?_); intro g6 w6 r6 p6 l6 b6)
          | ((with_reducible refine wl_store_row rfl 87 (.tmp 6) (.tmp 27) g6 87 _ a.cells rfl rfl rfl r6 hsz rfl hoP ?_); intro w7 r7 o7; have b7 := b6.trans ((o7.below p6).mono (Nat.le_refl _)); have q0 := r7.cell (j := 0) rfl; have q1 := r7.cell (j := 1) rfl; have r47 := r4.later b7)
          | ((with_reducible refine wl_buildN (o := ⟨some 33, _, _, _, _, _⟩) rfl 23 2 [(0, .tmp 30), (1, .tmp 32)] rfl 9 ip (.string ByteArray.empty) 1 [encStr a.f, encStr a.t] [[encStr a.f], [encStr a.t]] Tryz.underlying23 hip hiz rfl his (by decide) (by decide) (by decide) rfl rfl (hcok2 _ _) ?_); intro g8 w8 r8 p8 l8 b8; have b78 := b7.trans (b8.mono b7.size); have hI8 := HT.out.stay _ _ _ hI.out b78; have sl8 := Row.slW (ts := [a.f, a.t]) (n := 2) r8 rfl (by simp [maxLen]); have r48 := r47.later b8)
          | ((with_reducible refine wl_callF2 (o := ⟨some 34, _, _, _, _, _⟩) rfl f (.tmp 28) (.const (.slice none 0 0)) (.tmp 33) _ _ (.slice none 0 0) (.slice (some ⟨g8, 0, none⟩) 2 2) caps rfl rfl rfl rfl HT.out.call (HT.out.step (0 + i) [] [a.f, a.t] w8 none 0 0 _ hTi.out hI8 Bs.nil_ sl8) ?_); rintro _ w9 ⟨rfl, hI9, hb9⟩; refine ⟨_, rfl, ?_⟩))
        have r49 := r48.but hb9 hg4
        have U9 := UW.trans ((But.of b78 gc).trans hb9)
        go_roundw
        case rel => exact ⟨i + 1, by have := hlt9.out; omega, by go_num, hI9, r49, U9⟩
        case measure => have := hlt9.out; simp [intOf]; omega
      · obtain rfl : i = y.ps.length := by omega
        have cc3 := r4.cell (j := 3) rfl
        clear hpB
        go_wp2_with fail
        go_loopw [39] (fun iv wr => ∃ i : Nat, i ≤ y.ls.length ∧ iv = .int .i64 (i : Int) ∧ I (0 + y.ps.length + i) wr ∧ Row wr 26 g4 (vlC y (.slice A2 y.ps.length C2) (.slice A3 y.ls.length C3) (.slice A4 y.ss.length C4)) ∧ But gc w4 wr) (fun iv _ => y.ls.length - (intOf iv).toNat)
        case atStart => exact ⟨0, by omega, rfl, hI, r4, UW⟩
        case round =>
          clear hI r4 UW cc3 hgr
          obtain ⟨i, hi, rfl, hI, r4, UW⟩ := hrel
          have hpB := (hy.l.below (UW.below hB hwb))
          have hgr := UW.size
          by_cases hlt : i < y.ls.length
          · have hltI : (i : Int) < (y.ls.length : Int) := by omega
            obtain ⟨a, ha⟩ : ∃ a, y.ls[i]? = some a := ⟨_, List.getElem?_eq_getElem hlt⟩
            have hTi := hide (tells_l hs0.out ha)
            obtain ⟨x1, ga, oa, rfl, hga, hca⟩ := hpB.at ha
            have q0 := hca 0 _ rfl
            rw [Nat.add_zero, Nat.mul_one] at q0
            replace hI := hide hI
            have hlt9 := hide hlt
            clear ha x1 hga hpB hca
            go_wp2_with (first
              | (with_reducible refine wl_run (o := ⟨some 41, _, _, _, _, _⟩) rfl (.pointer (some ⟨ga, oa + i * 1, none⟩)) (run_idxO 23 (.tmp 37) (.tmp 39) 9 1 ga oa y.ls.length C3 i rfl Tryz.underlying23 Tryz.sizeOf9 rfl rfl hlt) ?_)
              | ((with_reducible refine wl_buildN (o := ⟨some 45, _, _, _, _, _⟩) rfl 23 1 [(0, .tmp 44)] rfl 9 ip (.string ByteArray.empty) 1 [encStr a] [[encStr a]] Tryz.underlying23 hip hiz rfl his (by decide) (by decide) (by decide) rfl rfl (hcok1 _) ?_); intro g8 w8 r8 p8 l8 b8; have hI8 := HT.out.stay _ _ _ hI.out b8; have sl8 := Row.slW (ts := [a]) (n := 1) r8 rfl (by simp [maxLen]); have r48 := r4.later b8)
              | ((with_reducible refine wl_callF2 (o := ⟨some 46, _, _, _, _, _⟩) rfl f (.tmp 43) (.const (.slice none 0 0)) (.tmp 45) _ _ (.slice none 0 0) (.slice (some ⟨g8, 0, none⟩) 1 1) caps rfl rfl rfl rfl HT.out.call (HT.out.step (0 + y.ps.length + i) [] [a] w8 none 0 0 _ hTi.out hI8 Bs.nil_ sl8) ?_); rintro _ w9 ⟨rfl, hI9, hb9⟩; refine ⟨_, rfl, ?_⟩))
            have r49 := r48.but hb9 hg4
            have U9 := UW.trans ((But.of b8 gc).trans hb9)
            go_roundw
            case rel => exact ⟨i + 1, by have := hlt9.out; omega, by go_num, hI9, r49, U9⟩
            case measure => have := hlt9.out; simp [intOf]; omega
          · obtain rfl : i = y.ls.length := by omega
            have cc4 := r4.cell (j := 4) rfl
            clear hpB
            go_wp2_with fail
            go_loopw [51] (fun iv wr => ∃ i : Nat, i ≤ y.ss.length ∧ iv = .int .i64 (i : Int) ∧ I (0 + y.ps.length + y.ls.length + i) wr ∧ But gc w4 wr) (fun iv _ => y.ss.length - (intOf iv).toNat)
            case atStart => exact ⟨0, by omega, rfl, hI, UW⟩
            case round =>
              clear hI r4 UW cc4 hgr
              obtain ⟨i, hi, rfl, hI, UW⟩ := hrel
              have hpB := (hy.s.below (UW.below hB hwb))
              by_cases hlt : i < y.ss.length
              · have hltI : (i : Int) < (y.ss.length : Int) := by omega
                obtain ⟨a, ha⟩ : ∃ a, y.ss[i]? = some a := ⟨_, List.getElem?_eq_getElem hlt⟩
                have hTi := hide (tells_s hs0.out ha)
                obtain ⟨x1, ga, oa, rfl, hga, hca⟩ := hpB.at ha
                have hsz := szSc a
                have hlt9 := hide hlt
                replace hI := hide hI
                clear ha x1 hga hpB
                go_wp2_with (first
                  | (with_reducible refine wl_run (o := ⟨some 53, _, _, _, _, _⟩) rfl (.pointer (some ⟨ga, oa + i * 2, none⟩)) (run_idxO 24 (.tmp 49) (.tmp 51) 99 2 ga oa y.ss.length C4 i rfl Tryz.underlying24 Tryz.sizeOf99 rfl rfl hlt) ?_)
                  | (with_reducible refine wl_load_cells (o := ⟨some 54, _, _, _, _, _⟩) rfl 99 (.tmp 53) ga (oa + i * 2) a.cells _ rfl rfl hca Tryz.underlying99 rfl hsz ?_)
                  | ((with_reducible refine wl_alloc (o := ⟨some 10, _, _, _, _, _⟩) rfl 99 _ [encStr [], .int .i64 0] rfl zeroSc rfl ?_); intro gA w6 r6 p6 l6 b6)
                  | ((with_reducible refine wl_store_row rfl 99 (.tmp 10) (.tmp 54) gA 99 _ a.cells rfl rfl rfl r6 hsz rfl hoS ?_); intro w7 rA o7; have b7 := b6.trans ((o7.below p6).mono (Nat.le_refl _)); have hI := HT.out.stay _ _ _ hI.out b7))
                rename_i K9 hK9
                obtain ⟨KI, hKI⟩ : ∃ KI, KI = 0 + y.ps.length + y.ls.length + i := ⟨_, rfl⟩
                rw [← hKI] at hI hTi
                refine wp_region_vals [4, 7, 8] (STl f caps gA a) (JTl w7 gc (I (KI + 1)) (highB (IntKind.u64.wrap a.s) 8) a.m) (by kernel_rfl) (by kernel_rfl) (by kernel_rfl) (by kernel_rfl) (by kernel_rfl) (JTl.start _ _ _ _ _ _) ?obs9 ?he9
                case obs9 =>
                  refine ⟨?_, ?_, ?_, ?_, ?_, ?_, ?_, ?_, ?_, trivial⟩
                  · exact .inl ⟨by kernel_rfl, fun L a1 w1 n' h => ⟨_, rfl, run_move (.tmp 1) rfl (h.var n' 1 (by kernel_rfl))⟩⟩
                  · refine .inl ⟨by kernel_rfl, fun L a1 w1 n' h => ⟨.pointer (some ⟨gA, 1, none⟩), rfl, ?_⟩⟩
                    have e0 : a1.eval (.tmp 10) = _ := h.var n' 10 (by kernel_rfl)
                    unfold execOp
                    simp only [e0]
                    go_simp
                  · exact .inl ⟨by kernel_rfl, fun L a1 w1 n' h => ⟨_, rfl, run_load1 3 (.tmp 56) gA 1 _ rfl Tryz.isAgg3 (h.dep n' 1 56 (by kernel_rfl) rfl) ((rA.later (h.inv.1 ((bits_at rfl).trans (n'.later (by kernel_rfl))))).cell rfl)⟩⟩
                  · refine .inl ⟨by kernel_rfl, fun L a1 w1 n' h => ⟨.int .u64 (IntKind.u64.wrap a.s), rfl, ?_⟩⟩
                    have e0 : a1.eval (.tmp 57) = _ := h.dep n' 2 57 (by kernel_rfl) rfl
                    unfold execOp
                    simp only [e0]
                    go_simp
                  · refine .inr fun L a1 w1 n' h K hK => ?_
                    have no8 : L.getD 8 false = false := n'.later (by kernel_rfl)
                    have no4 : L.getD 4 false = false := n'.not_yet
                    have b9 := h.inv.1 ((bits_at rfl).trans no8)
                    have y1 : a1.eval (.tmp 58) = .int .u64 (IntKind.u64.wrap a.s) := h.dep n' 3 58 (by kernel_rfl) rfl
                    have h7 := h.inv.2.2.1
                    refine st_call 103 _ _ #[.slice none 0 0, .int .u64 (IntKind.u64.wrap a.s)] rfl Tryz.call103 ?_ (put64_any none 0 0 [] (IntKind.u64.wrap a.s) w1 Bs.nil_ (by decide) (wrap_u64 a.s).1 (wrap_u64 a.s).2) ?_
                    · simp only [List.map_toArray, List.map_cons, List.map_nil, y1]; rfl
                    · rintro e w3 ⟨A1, n1, c1, rfl, hb, hn, hc, b3⟩
                      exact ⟨_, rfl, hK _ w3 trivial ⟨fun _ => b9.trans (b3.mono b9.size), fun _ _ => ⟨A1, n1, c1, rfl, hb⟩, fun h1 h2 => let ⟨g, e, r⟩ := h7 h1 h2; ⟨g, e, r.later b3⟩, fun h0 => absurd (no8.symm.trans h0) (by decide)⟩⟩
                  · refine .inl ⟨by kernel_rfl, fun L a1 w1 n' h => ⟨.pointer (some ⟨gA, 0, none⟩), rfl, ?_⟩⟩
                    have e0 : a1.eval (.tmp 10) = _ := h.var n' 10 (by kernel_rfl)
                    unfold execOp
                    simp only [e0]
                    go_simp
                  · exact .inl ⟨by kernel_rfl, fun L a1 w1 n' h => ⟨_, rfl, run_load1 9 (.tmp 60) gA 0 _ rfl Tryz.isAgg9 (h.dep n' 5 60 (by kernel_rfl) rfl) ((rA.later (h.inv.1 ((bits_at rfl).trans (n'.later (by kernel_rfl))))).cell rfl)⟩⟩
                  · refine .inr fun L a1 w1 n' h K hK => ?_
                    have no8 : L.getD 8 false = false := n'.later (by kernel_rfl)
                    have b9 := h.inv.1 ((bits_at rfl).trans no8)
                    have y0 : a1.eval (.tmp 61) = encStr a.m := h.dep n' 6 61 (by kernel_rfl) rfl
                    have h4 := h.inv.2.1
                    refine st_buildN 23 1 [(0, .tmp 61)] rfl 9 ip (.string ByteArray.empty) 1 [encStr a.m] [[encStr a.m]] Tryz.underlying23 hip hiz rfl his (by decide) (by decide) (by decide) (by simp only [List.map_cons, List.map_nil, numb]; rw [y0]) rfl (⟨rfl, rfl, trivial⟩) ?_
                    intro g2 w3 r3 p3 l3 b3
                    exact hK _ w3 trivial ⟨fun _ => b9.trans (b3.mono b9.size), fun h1 h2 => let ⟨A, n, c, e, r⟩ := h4 h1 h2; ⟨A, n, c, e, r.later b3⟩, fun _ _ => ⟨g2, rfl, r3⟩, fun h0 => absurd (no8.symm.trans h0) (by decide)⟩
                  · refine .inr fun L a1 w1 n' h K hK => ?_
                    have no8 : L.getD 8 false = false := n'.not_yet
                    have yes4 : L.getD 4 false = true := n'.dep (by kernel_rfl)
                    have yes7 : L.getD 7 false = true := n'.dep (by kernel_rfl)
                    have b9 := h.inv.1 ((bits_at rfl).trans no8)
                    obtain ⟨A1, n1, c1, e1, hb1⟩ := h.inv.2.1 ((bits_at rfl).trans yes4) ((bits_at rfl).trans no8)
                    obtain ⟨g2, e2, r2⟩ := h.inv.2.2.1 ((bits_at rfl).trans yes7) ((bits_at rfl).trans no8)
                    refine st_callF2 f (.tmp 55) (.tmp 59) (.tmp 62) _ _ _ _ caps rfl (h.dep n' 0 55 (by kernel_rfl) rfl) e1 e2 HT.out.call (HT.out.step KI _ [a.m] w1 A1 n1 c1 _ hTi.out (HT.out.stay _ _ _ hI b9) hb1 (Row.slW (ts := [a.m]) r2 rfl (by simp [maxLen]))) ?_
                    rintro e w3 ⟨rfl, hI3, hb3⟩
                    exact ⟨_, rfl, hK _ w3 trivial ⟨fun h0 => absurd (show true = false from h0) (by decide), fun _ h0 => absurd (show true = false from h0) (by decide), fun _ h0 => absurd (show true = false from h0) (by decide), fun _ => ⟨hI3, (But.of b9 gc).trans hb3⟩⟩⟩
                case he9 =>
                  intro V w9 hV hJ
                  obtain ⟨hI9, hb9⟩ := hJ.2.2.2 rfl
                  clear hV hJ
                  simp only [putOps, List.setIfInBounds_toArray, List.set_cons_succ, List.set_cons_zero, Nat.reduceAdd]
                  refine hK9 _ _ ?_
                  have U9 := UW.trans ((But.of b7 gc).trans hb9)
                  go_wp2_with fail
                  go_roundw
                  case rel => exact ⟨i + 1, by have := hlt9.out; omega, by go_num, by rw [hKI] at hI9; exact hI9, U9⟩
                  case measure => have := hlt9.out; simp [intOf]; omega
              · obtain rfl : i = y.ss.length := by omega
                go_wp2_with fail
                go_end0
                exact ⟨rfl, by rw [tells_len hs0.out]; exact hI, U5.trans UW⟩
end Go.Proofs.YtpbkejmffddelaaGreat
