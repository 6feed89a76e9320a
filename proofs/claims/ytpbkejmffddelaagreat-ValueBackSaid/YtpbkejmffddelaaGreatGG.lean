/-
  Several own texts in one: ValSb, ValSc, ValSd, ValSe. Own work.
-/
import Derived.Test.YtpbkejmffddelaaGreatGF
set_option linter.unusedVariables false
set_option linter.unusedSimpArgs false
/-
  The document's order of elements: Find, rises. Own work.
-/
namespace Go.Proofs.YtpbkejmffddelaaGreat
open Go.RowKit Go.Shelf
/-- Is a name not behind another? -/
def leN (a b : Nm) : Bool := bytesBefore a b || a == b
theorem le_nm (w : World) (a b : Nm) : (binOp .leq 9 (encStr a) (encStr b)).run Tryz.prog w = .ok (.bool (leN a b)) w := by
  simp [encStr, binOp, Op.stringOp, less_before, toList_enc, leN]
theorem run_leqStr {w : World} {a : Act} {o : Oper} {s : Nat} {l m : List UInt8} {b : Bool} (x y : Operand) (ho : o.op = .binOp .leq 9 x y s) (hx : a.eval x = encStr l) (hy : a.eval y = encStr m) (hb : leN l m = b) :
    (execOp a.eval o).run Tryz.prog w = .ok (.value (.bool b)) w := by
  subst hb
  unfold execOp
  simp only [ho, hx, hy]
  go_simp
  simp [le_nm]
theorem leN_not : ∀ a b : Nm, leN b a = !bytesBefore a b
  | [], [] => rfl
  | [], _ :: _ => rfl
  | _ :: _, [] => rfl
  | x :: r, y :: s => by
    have ih := leN_not r s
    unfold leN at ih ⊢
    simp only [bytesBefore, List.cons_beq_cons]
    rcases Nat.lt_trichotomy x.toNat y.toNat with h | h | h
    · have h1 : x < y := h
      have h2 : ¬ y < x := by intro c; have : y.toNat < x.toNat := c; omega
      have h3 : (y == x) = false := by rw [beq_eq_false_iff_ne]; rintro rfl; omega
      simp [h1, h2, h3]
    · obtain rfl : x = y := UInt8.toNat_inj.1 h
      have h2 : ¬ x < x := by intro c; have : x.toNat < x.toNat := c; omega
      simp [h2, ih]
    · have h1 : y < x := h
      have h2 : ¬ x < y := by intro c; have : x.toNat < y.toNat := c; omega
      have h3 : (x == y) = false := by rw [beq_eq_false_iff_ne]; rintro rfl; omega
      simp [h1, h2, h3]
set_option maxRecDepth 100000 in
set_option maxHeartbeats 1000000 in
/-- Find, wherever the members lie. -/
theorem rfindS_any (w : World) (v : Value) (l : List Sc) (m : Nm) (h : SlV Sc.cells 2 w w.heap.size v l) (hl : l.length ≤ 1000000) : Calls Tryz.prog 124 #[v, encStr m] w fun e w' => e = .returned (.int .i64 (idxS m l)) ∧ w = w' := by
  obtain ⟨A, c, rfl⟩ := h.sl
  have hlI : (l.length : Int) ≤ 1000000 := by omega
  go_enter Tryz.func124, Tryz.ntmps124
  go_wp2_with fail
  go_loopw [5] (fun iv wr => ∃ i : Nat, i ≤ l.length ∧ iv = .int .i64 (i : Int) ∧ (∀ (j : Nat) (b : Sc), j < i → l[j]? = some b → b.m ≠ m) ∧ w = wr) (fun iv _ => l.length - (intOf iv).toNat)
  case atStart => exact ⟨0, by omega, rfl, fun j b hj => by omega, rfl⟩
  case round =>
    obtain ⟨i, hi, rfl, hno, rfl⟩ := hrel
    by_cases hlt : i < l.length
    · have hltI : (i : Int) < (l.length : Int) := by omega
      obtain ⟨a, ha⟩ : ∃ a, l[i]? = some a := ⟨_, List.getElem?_eq_getElem hlt⟩
      obtain ⟨x1, g, o, rfl, hg, hca⟩ := h.at ha
      have c0 := hca 0 _ rfl
      rw [Nat.add_zero] at c0
      clear x1 hg hca
      replace ha := hide ha
      replace hno := hide hno
      by_cases he : a.m = m
      · have hb := decide_eq_true he
        replace he := hide he
        go_wp2_with (first
          | (with_reducible refine wl_run (o := ⟨some 14, _, _, _, _, _⟩) rfl (.pointer (some ⟨g, o + i * 2, none⟩)) (run_idxO 24 (.tmp 12) (.tmp 13) 99 2 g o l.length c i rfl Tryz.underlying24 Tryz.sizeOf99 rfl rfl hlt) ?_)
          | (with_reducible refine wl_run (o := ⟨some 18, _, _, _, _, _⟩) rfl (.bool true) (run_eqStr (.tmp 16) (.tmp 17) rfl rfl rfl hb) ?_))
        go_ret
        exact ⟨by rw [idxS_at ha.out he.out hno.out]; rfl, rfl⟩
      · have hb := decide_eq_false he
        replace he := hide he
        go_wp2_with (first
          | (with_reducible refine wl_run (o := ⟨some 14, _, _, _, _, _⟩) rfl (.pointer (some ⟨g, o + i * 2, none⟩)) (run_idxO 24 (.tmp 12) (.tmp 13) 99 2 g o l.length c i rfl Tryz.underlying24 Tryz.sizeOf99 rfl rfl hlt) ?_)
          | (with_reducible refine wl_run (o := ⟨some 18, _, _, _, _, _⟩) rfl (.bool false) (run_eqStr (.tmp 16) (.tmp 17) rfl rfl rfl hb) ?_))
        go_roundw
        case rel =>
          refine ⟨i + 1, by omega, by go_num, fun j b hj hb => ?_, trivial⟩
          by_cases h1 : j = i
          · subst h1
            rw [ha.out] at hb
            rw [← Option.some.inj hb]; exact he.out
          · exact hno.out j b (by omega) hb
        case measure => simp [intOf]; omega
    · obtain rfl : i = l.length := by omega
      go_wp2_with fail
      go_ret
      exact ⟨by rw [idxS_none fun j b hb => hno j b (List.getElem?_eq_some_iff.1 hb).1 hb]; rfl, rfl⟩
theorem idxS_has (m : Nm) (l : List Sc) : decide (0 ≤ idxS m l) = hasM l m := by
  unfold idxS hasM
  cases h : l.findIdx? (fun a => a.m == m) with
  | none =>
    have h1 : (l.any fun a => a.m == m) = false := by
      rw [List.findIdx?_eq_none_iff] at h
      rw [List.any_eq_false]
      intro a ha; have := h a ha; simpa using this
    rw [h1]; rfl
  | some i =>
    have h1 : (l.any fun a => a.m == m) = true := by
      rw [List.findIdx?_eq_some_iff_getElem] at h
      obtain ⟨hi, h2, _⟩ := h
      exact List.any_eq_true.2 ⟨_, List.getElem_mem hi, h2⟩
    rw [h1]; simp
/-- A slice that has room for its elements. -/
def CapS (v : Value) (n : Nat) : Prop := ∃ A c, v = .slice A n c ∧ n ≤ c
theorem run_sliceToN {P : Program} (w : World) (T e z : Nat) (hu : P.underlying T = some (.slice e)) (hs : ∀ w, (sizeOf e).run P w = .ok z w) (A : Option Addr) (len cap : Nat) (kh : IntKind) (K : Nat) (h2 : K ≤ cap) :
    (Instr.sliceAt T (.slice A len cap) none (some (.int kh K)) none).run P w = .ok (.slice A K cap) w := by
  have h4 : (0 : Int) ≤ K := by omega
  simp [Instr.sliceAt, Instr.slice, underlying, hu, Instr.sliceBounds, Instr.sliceBound, asIntOf, h2, h4, hs]
  intro _
  cases A <;> simp [Addr.add]
theorem SlV.to {α : Type} {cl : α → List Value} {k : Nat} {w : World} {B n c : Nat} {A : Option Addr} {l : List α} (h : SlV cl k w B (.slice A n c) l) (j : Nat) (hj : j ≤ l.length) : SlV cl k w B (.slice A j c) (l.take j) := by
  refine ⟨A, c, by rw [List.length_take, Nat.min_eq_left hj], fun h0 => ?_⟩
  rw [List.length_take] at h0
  obtain ⟨A', c', e, hh⟩ := h
  injection e with q1 q2 q3
  subst q1
  obtain ⟨g, off, eA, hg, hc⟩ := hh (by omega)
  refine ⟨g, off, eA, hg, fun i a hi => ?_⟩
  rw [List.getElem?_take] at hi
  split at hi
  · exact hc i a hi
  · cases hi
def Vl.dord (x : Vl) : Bool := riseB Pr.bef x.ps && ((!(decide (x.k = 4)) || riseB bytesBefore x.ls) && (riseB Sc.less x.ss && frB x.ss))
theorem frB_take {l : List Sc} (h : frB l = true) (i : Nat) : frB (l.take i) = true := by
  unfold frB at h ⊢
  rw [decide_eq_true_iff] at h ⊢
  rw [List.map_take]
  exact h.sublist (List.take_sublist _ _)
end Go.Proofs.YtpbkejmffddelaaGreat

/-
  The document's order of elements: rises. Own work.
-/
namespace Go.Proofs.YtpbkejmffddelaaGreat
open Go.RowKit Go.Shelf
def FRi (q : Unit) (opn : Nat) (v : Value) (w : World) : Prop := True
theorem FRi_mono (q : Unit) : ∀ j v w w', FRi q j v w → Below w.heap.size w w' → FRi q j v w' := fun _ _ _ _ _ _ => trivial
def SRi4 (g1 ga oa i j c : Nat) (x : Vl) (a b : Pr) (rr : Bool) (opn : Nat) (v : Value) : Prop :=
  match opn with
  | 0 | 6 => v = .pointer (some ⟨g1, 2, none⟩)
  | 1 | 7 => v = .slice (some ⟨ga, oa, none⟩) x.ps.length c
  | 2 | 8 => v = .int .i64 (j : Int)
  | 3 | 4 => v = .pointer (some ⟨ga, oa + j * 2, none⟩)
  | 5 => v = encStr b.f
  | 9 => v = .int .i64 (i : Int)
  | 10 | 11 => v = .pointer (some ⟨ga, oa + i * 2, none⟩)
  | 12 => v = encStr a.f
  | 13 => v = .bool (!rr)
  | _ => True

def SRi9t (g1 ga oa i j c : Nat) (x : Vl) (a b : Nm) (rr : Bool) (opn : Nat) (v : Value) : Prop :=
  match opn with
  | 0 => v = .pointer (some ⟨g1, 0, none⟩)
  | 1 => v = .int .i64 x.k
  | 2 | 3 => v = .bool true
  | 4 | 9 => v = .pointer (some ⟨g1, 3, none⟩)
  | 5 | 10 => v = .slice (some ⟨ga, oa, none⟩) x.ls.length c
  | 6 | 11 => v = .int .i64 (j : Int)
  | 7 => v = .pointer (some ⟨ga, oa + j * 1, none⟩)
  | 8 => v = encStr b
  | 12 => v = .int .i64 (i : Int)
  | 13 => v = .pointer (some ⟨ga, oa + i * 1, none⟩)
  | 14 => v = encStr a
  | 15 | 16 => v = .bool (!rr)
  | _ => True

def SRi9f (g1 j : Nat) (x : Vl) (opn : Nat) (v : Value) : Prop :=
  match opn with
  | 0 => v = .pointer (some ⟨g1, 0, none⟩)
  | 1 => v = .int .i64 x.k
  | 2 | 3 | 16 => v = .bool false
  | 4 | 5 | 6 | 7 | 8 | 9 | 10 | 11 | 12 | 13 | 14 | 15 => v = undef
  | _ => True

def SRi14t (g1 ga oa i j c : Nat) (x : Vl) (a b : Sc) (fi : Int) (fm : Bool) (opn : Nat) (v : Value) : Prop :=
  match opn with
  | 0 | 6 | 14 | 18 => v = .pointer (some ⟨g1, 4, none⟩)
  | 1 | 7 | 15 | 19 => v = .slice (some ⟨ga, oa, none⟩) x.ss.length c
  | 2 | 8 | 16 | 20 => v = .int .i64 (j : Int)
  | 3 => v = .int .i64 (i : Int)
  | 4 => v = .pointer (some ⟨ga, oa + i * 2, none⟩)
  | 5 => v = .agg a.cells.toArray
  | 9 | 21 | 22 => v = .pointer (some ⟨ga, oa + j * 2, none⟩)
  | 10 => v = .agg b.cells.toArray
  | 11 => v = .bool true
  | 12 | 13 => v = .bool false
  | 17 => v = .slice (some ⟨ga, oa, none⟩) j c
  | 23 => v = encStr b.m
  | 24 => v = .int .i64 fi
  | 25 | 26 => v = .bool fm
  | _ => True

def SRi14f (g1 ga oa i j c : Nat) (x : Vl) (a b : Sc) (opn : Nat) (v : Value) : Prop :=
  match opn with
  | 0 | 6 => v = .pointer (some ⟨g1, 4, none⟩)
  | 1 | 7 => v = .slice (some ⟨ga, oa, none⟩) x.ss.length c
  | 2 | 8 => v = .int .i64 (j : Int)
  | 3 => v = .int .i64 (i : Int)
  | 4 => v = .pointer (some ⟨ga, oa + i * 2, none⟩)
  | 5 => v = .agg a.cells.toArray
  | 9 => v = .pointer (some ⟨ga, oa + j * 2, none⟩)
  | 10 => v = .agg b.cells.toArray
  | 11 => v = .bool false
  | 12 | 13 | 26 => v = .bool true
  | 14 | 15 | 16 | 17 | 18 | 19 | 20 | 21 | 22 | 23 | 24 | 25 => v = undef
  | _ => True

set_option maxRecDepth 100000 in
set_option maxHeartbeats 8000000 in
theorem rrises_any (w : World) (x : Vl) (vp vl vs : Value) (h : VlM w w.heap.size x vp vl vs) (few : x.Few) (hcp : CapS vs x.ss.length) :
    Calls Tryz.prog 82 #[vlV x vp vl vs] w fun e w' => e = .returned (.bool x.dord) ∧ Below w.heap.size w w' := by
  obtain ⟨A2, C2, rfl⟩ := h.p.sl
  obtain ⟨A3, C3, rfl⟩ := h.l.sl
  obtain ⟨A4, C4, rfl, hcap⟩ := hcp
  have f1 : (x.ps.length : Int) ≤ 220 := by have := few.p; omega
  have f2 : (x.ls.length : Int) ≤ 220 := by have := few.l; omega
  have f3 : (x.ss.length : Int) ≤ 220 := by have := few.s; omega
  by_cases hk : x.k = 4
  · have hk4 := hide (decide_eq_true hk)
    replace hk := hide hk
    go_enter Tryz.func82, Tryz.ntmps82
    go_wp2_with (first
      | ((with_reducible refine wl_box (o := ⟨some 1, _, _, _, _, _⟩) rfl 26 (.tmp 0) _ (vlC x (.slice A2 x.ps.length C2) (.slice A3 x.ls.length C3) (.slice A4 x.ss.length C4)) rfl rfl rfl ?_); intro g1 w1 r1 p1 l1 b1))
    have B1 := b1
    have h1 := h.later b1
    clear p1 l1 b1 h
    go_loopw [3] (fun iv wr => ∃ j : Nat, 1 ≤ j ∧ j ≤ x.ps.length + 1 ∧ iv = .int .i64 (j : Int) ∧ riseB Pr.bef (x.ps.take j) = true ∧ Below w1.heap.size w1 wr) (fun iv _ => x.ps.length + 1 - (intOf iv).toNat)
    case atStart => exact ⟨1, by omega, by omega, rfl, by cases x.ps <;> simp [riseB], Below.refl _ _⟩
    case round =>
      skip
      obtain ⟨j, hj1, hi, rfl, hsame, BW⟩ := hrel
      have hwb := BW.size
      have r1w := r1.later BW
      have cc := r1w.cell (j := 2) rfl
      by_cases hlt : j < x.ps.length
      · have hltI : (j : Int) < (x.ps.length : Int) := by omega
        obtain ⟨i, hij⟩ : ∃ i, i + 1 = j := ⟨j - 1, by omega⟩
        have hlt0 : i < x.ps.length := by omega
        obtain ⟨a, ha⟩ : ∃ a, x.ps[i]? = some a := ⟨_, List.getElem?_eq_getElem hlt0⟩
        obtain ⟨b, hb⟩ : ∃ b, x.ps[j]? = some b := ⟨_, List.getElem?_eq_getElem hlt⟩
        have hsub := hide (show IntKind.i64.wrap ((j : Int) - 1) = (i : Int) from wrap_id (by omega) (by omega) (by omega))
        obtain ⟨x1, ga, oa, rfl, hga, hca⟩ := h1.p.at ha
        obtain ⟨x2, ga2, oa2, ee, hgb, hcb⟩ := h1.p.at hb
        obtain ⟨rfl, rfl⟩ : ga = ga2 ∧ oa = oa2 := by injection ee with ee; injection ee with e1 e2; exact ⟨e1, e2⟩
        have hac : ∀ wz, Below wr.heap.size wr wz → wz.cell? ⟨ga, oa + i * 2, none⟩ = some (encStr a.f) := fun wz hb1 => ((BW.trans (hb1.mono hwb)).cell (p := ⟨ga, _, none⟩) hga).trans (hca 0 _ rfl)
        have hbc : ∀ wz, Below wr.heap.size wr wz → wz.cell? ⟨ga, oa + j * 2, none⟩ = some (encStr b.f) := fun wz hb1 => ((BW.trans (hb1.mono hwb)).cell (p := ⟨ga, _, none⟩) hga).trans (hcb 0 _ rfl)
        obtain ⟨rr, hr⟩ : ∃ rr, rr = Pr.bef a b := ⟨_, rfl⟩
        have hmore := hide (show riseB Pr.bef (x.ps.take (j + 1)) = (riseB Pr.bef (x.ps.take j) && rr) by rw [hr]; subst hij; exact riseB_more ha hb)
        have hrr := hide (show leN b.f a.f = !rr by rw [hr]; exact leN_not a.f b.f)
        have hma : ∀ wz, Below wr.heap.size wr wz → wz.cell? ⟨g1, 2, none⟩ = some (.slice (some ⟨ga, oa, none⟩) x.ps.length C2) := fun wz hb1 => (r1w.later hb1).cell rfl
        clear x1 x2 ee hca hcb hga hgb ha hb hr
        replace hlt := hide hlt
        replace hlt0 := hide hlt0
        replace hsame := hide hsame
        replace hij := hide hij
        replace hj1 := hide hj1
        replace hi := hide hi
        go_wp2_with fail
        rename_i K6 hK6
        refine wp_region_vals [] (SRi4 g1 ga oa i j C2 x a b rr) (fun _ _ wz => Below wr.heap.size wr wz) (by kernel_rfl) (by kernel_rfl) (by kernel_rfl) (by kernel_rfl) (by kernel_rfl) ((Below.refl _ _).drew) ?obs4 ?he4
        case obs4 =>
          refine ⟨?_, ?_, ?_, ?_, ?_, ?_, ?_, ?_, ?_, ?_, ?_, ?_, ?_, ?_, trivial⟩
          · refine .inl ⟨by kernel_rfl, fun L a1 w1 n h => ⟨.pointer (some ⟨g1, 2, none⟩), rfl, ?_⟩⟩
            have e0 : a1.eval (.tmp 1) = _ := h.var n 1 (by kernel_rfl)
            unfold execOp
            simp only [e0]
            go_simp
          · exact .inl ⟨by kernel_rfl, fun L a1 w1 n h => ⟨_, rfl, run_load1 22 (.tmp 13) g1 2 _ rfl Tryz.isAgg22 (h.dep n 0 13 (by kernel_rfl) rfl) (hma w1 h.inv)⟩⟩
          · exact .inl ⟨by kernel_rfl, fun L a1 w1 n h => ⟨_, rfl, run_move (.tmp 3) rfl (h.var n 3 (by kernel_rfl))⟩⟩
          · exact .inl ⟨by kernel_rfl, fun L a1 w1 n h => ⟨_, rfl, run_idxO 22 (.tmp 14) (.tmp 15) 87 2 ga oa _ _ j rfl Tryz.underlying22 Tryz.sizeOf87 (h.dep n 1 14 (by kernel_rfl) rfl) (h.dep n 2 15 (by kernel_rfl) rfl) hlt.out⟩⟩
          · refine .inl ⟨by kernel_rfl, fun L a1 w1 n h => ⟨.pointer (some ⟨ga, oa + j * 2, none⟩), rfl, ?_⟩⟩
            have e0 : a1.eval (.tmp 16) = _ := h.dep n 3 16 (by kernel_rfl) rfl
            unfold execOp
            simp only [e0]
            go_simp
          · exact .inl ⟨by kernel_rfl, fun L a1 w1 n h => ⟨_, rfl, run_load1 9 (.tmp 17) ga (oa + j * 2) _ rfl Tryz.isAgg9 (h.dep n 4 17 (by kernel_rfl) rfl) (hbc w1 h.inv)⟩⟩
          · refine .inl ⟨by kernel_rfl, fun L a1 w1 n h => ⟨.pointer (some ⟨g1, 2, none⟩), rfl, ?_⟩⟩
            have e0 : a1.eval (.tmp 1) = _ := h.var n 1 (by kernel_rfl)
            unfold execOp
            simp only [e0]
            go_simp
          · exact .inl ⟨by kernel_rfl, fun L a1 w1 n h => ⟨_, rfl, run_load1 22 (.tmp 19) g1 2 _ rfl Tryz.isAgg22 (h.dep n 6 19 (by kernel_rfl) rfl) (hma w1 h.inv)⟩⟩
          · exact .inl ⟨by kernel_rfl, fun L a1 w1 n h => ⟨_, rfl, run_move (.tmp 3) rfl (h.var n 3 (by kernel_rfl))⟩⟩
          · exact .inl ⟨by kernel_rfl, fun L a1 w1 n h => ⟨_, rfl, run_subZ (.tmp 21) (.const (.int .i64 1)) rfl (h.dep n 8 21 (by kernel_rfl) rfl) rfl hsub.out⟩⟩
          · exact .inl ⟨by kernel_rfl, fun L a1 w1 n h => ⟨_, rfl, run_idxO 22 (.tmp 20) (.tmp 22) 87 2 ga oa _ _ i rfl Tryz.underlying22 Tryz.sizeOf87 (h.dep n 7 20 (by kernel_rfl) rfl) (h.dep n 9 22 (by kernel_rfl) rfl) hlt0.out⟩⟩
          · refine .inl ⟨by kernel_rfl, fun L a1 w1 n h => ⟨.pointer (some ⟨ga, oa + i * 2, none⟩), rfl, ?_⟩⟩
            have e0 : a1.eval (.tmp 23) = _ := h.dep n 10 23 (by kernel_rfl) rfl
            unfold execOp
            simp only [e0]
            go_simp
          · exact .inl ⟨by kernel_rfl, fun L a1 w1 n h => ⟨_, rfl, run_load1 9 (.tmp 24) ga (oa + i * 2) _ rfl Tryz.isAgg9 (h.dep n 11 24 (by kernel_rfl) rfl) (hac w1 h.inv)⟩⟩
          · exact .inl ⟨by kernel_rfl, fun L a1 w1 n h => ⟨_, rfl, run_leqStr (.tmp 18) (.tmp 25) rfl (h.dep n 5 18 (by kernel_rfl) rfl) (h.dep n 12 25 (by kernel_rfl) rfl) hrr.out⟩⟩
        case he4 =>
          intro V w11 hV hJ
          have b11 : Below wr.heap.size wr w11 := hJ
          have hE : V 13 = .bool (!rr) := hV 13 _ rfl
          clear hV hJ
          simp only [putOps, List.setIfInBounds_toArray, List.set_cons_succ, List.set_cons_zero, Nat.reduceAdd]
          rw [hE]
          refine hK6 _ _ ?_
          cases rr with
          | false =>
            go_wp2_with fail
            go_ret
            have hx : x.dord = false := by
              cases hq : riseB Pr.bef x.ps with
              | false => unfold Vl.dord; rw [hq]; rfl
              | true =>
                have := riseB_take hq (j + 1)
                rw [hmore.out, Bool.and_false] at this; cases this
            exact ⟨by rw [hx]; rfl, B1.trans ((BW.trans (b11.mono hwb)).mono B1.size)⟩
          | true =>
            go_wp2_with fail
            go_roundw
            case rel => exact ⟨j + 1, by omega, by have := hlt.out; omega, by go_num, by rw [hmore.out, hsame.out]; rfl, BW.trans (b11.mono hwb)⟩
            case measure => have := hlt.out; simp [intOf]; omega
      · have hno : ¬ (j : Int) < (x.ps.length : Int) := by omega
        have hP : riseB Pr.bef x.ps = true := by rw [List.take_of_length_le (by omega)] at hsame; exact hsame
        replace hP := hide hP
        replace hlt := hide hlt
        clear hsame hi hj1
        have cc := r1w.cell (j := 3) rfl
        have cc0 := r1w.cell (j := 2) rfl
        go_wp2_with fail
        clear cc0 hno hlt
        go_loopw [4] (fun iv wr => ∃ j : Nat, 1 ≤ j ∧ j ≤ x.ls.length + 1 ∧ iv = .int .i64 (j : Int) ∧ riseB bytesBefore (x.ls.take j) = true ∧ Below w1.heap.size w1 wr) (fun iv _ => x.ls.length + 1 - (intOf iv).toNat)
        case atStart => exact ⟨1, by omega, by omega, rfl, by cases x.ls <;> simp [riseB], BW⟩
        case round =>
          clear BW r1w cc hwb
          obtain ⟨j, hj1, hi, rfl, hsame, BW⟩ := hrel
          have hwb := BW.size
          have r1w := r1.later BW
          have cc := r1w.cell (j := 3) rfl
          by_cases hlt : j < x.ls.length
          · have hltI : (j : Int) < (x.ls.length : Int) := by omega
            obtain ⟨i, hij⟩ : ∃ i, i + 1 = j := ⟨j - 1, by omega⟩
            have hlt0 : i < x.ls.length := by omega
            obtain ⟨a, ha⟩ : ∃ a, x.ls[i]? = some a := ⟨_, List.getElem?_eq_getElem hlt0⟩
            obtain ⟨b, hb⟩ : ∃ b, x.ls[j]? = some b := ⟨_, List.getElem?_eq_getElem hlt⟩
            have hsub := hide (show IntKind.i64.wrap ((j : Int) - 1) = (i : Int) from wrap_id (by omega) (by omega) (by omega))
            obtain ⟨x1, ga, oa, rfl, hga, hca⟩ := h1.l.at ha
            obtain ⟨x2, ga2, oa2, ee, hgb, hcb⟩ := h1.l.at hb
            obtain ⟨rfl, rfl⟩ : ga = ga2 ∧ oa = oa2 := by injection ee with ee; injection ee with e1 e2; exact ⟨e1, e2⟩
            have hac : ∀ wz, Below wr.heap.size wr wz → wz.cell? ⟨ga, oa + i * 1, none⟩ = some (encStr a) := fun wz hb1 => ((BW.trans (hb1.mono hwb)).cell (p := ⟨ga, _, none⟩) hga).trans (hca 0 _ rfl)
            have hbc : ∀ wz, Below wr.heap.size wr wz → wz.cell? ⟨ga, oa + j * 1, none⟩ = some (encStr b) := fun wz hb1 => ((BW.trans (hb1.mono hwb)).cell (p := ⟨ga, _, none⟩) hga).trans (hcb 0 _ rfl)
            obtain ⟨rr, hr⟩ : ∃ rr, rr = bytesBefore a b := ⟨_, rfl⟩
            have hmore := hide (show riseB bytesBefore (x.ls.take (j + 1)) = (riseB bytesBefore (x.ls.take j) && rr) by rw [hr]; subst hij; exact riseB_more ha hb)
            have hrr := hide (show leN b a = !rr by rw [hr]; exact leN_not a b)
            have hma : ∀ wz, Below wr.heap.size wr wz → wz.cell? ⟨g1, 3, none⟩ = some (.slice (some ⟨ga, oa, none⟩) x.ls.length C3) := fun wz hb1 => (r1w.later hb1).cell rfl
            have hmk : ∀ wz, Below wr.heap.size wr wz → wz.cell? ⟨g1, 0, none⟩ = some (.int .i64 x.k) := fun wz hb1 => (r1w.later hb1).cell rfl
            clear x1 x2 ee hca hcb hga hgb ha hb hr
            replace hlt := hide hlt
            replace hlt0 := hide hlt0
            replace hsame := hide hsame
            replace hij := hide hij
            replace hj1 := hide hj1
            replace hi := hide hi
            go_wp2_with fail
            rename_i K6 hK6
            refine wp_region_valsG [] (SRi9t g1 ga oa i j C3 x a b rr) (fun _ _ wz => Below wr.heap.size wr wz) (by kernel_rfl) (by kernel_rfl) (by kernel_rfl) (by kernel_rfl) ((Below.refl _ _).drew) ?obs9 ?he9
            case obs9 =>
              refine ⟨?_, ?_, ?_, ?_, ?_, ?_, ?_, ?_, ?_, ?_, ?_, ?_, ?_, ?_, ?_, ?_, ?_, trivial⟩
              · refine ⟨.inl rfl, ?_⟩
                refine .inl ⟨by kernel_rfl, fun L a1 w1 n h => ⟨.pointer (some ⟨g1, 0, none⟩), rfl, ?_⟩⟩
                have e0 : a1.eval (.tmp 1) = _ := h.var n 1 (by kernel_rfl)
                unfold execOp
                simp only [e0]
                go_simp
              · refine ⟨.inl rfl, ?_⟩
                exact .inl ⟨by kernel_rfl, fun L a1 w1 n h => ⟨_, rfl, run_load1 3 (.tmp 34) g1 0 _ rfl Tryz.isAgg3 (h.dep n 0 34 (by kernel_rfl) rfl) (hmk w1 h.inv)⟩⟩
              · refine ⟨.inl rfl, ?_⟩
                exact .inl ⟨by kernel_rfl, fun L a1 w1 n h => ⟨_, rfl, run_eqlI (.tmp 35) (.const (.int .i64 4)) rfl (h.dep n 1 35 (by kernel_rfl) rfl) rfl hk4.out⟩⟩
              · refine ⟨.inl rfl, ?_⟩
                exact .inl ⟨by kernel_rfl, fun L a1 w1 n h => ⟨_, rfl, run_move (.tmp 36) rfl (h.dep n 2 36 (by kernel_rfl) rfl)⟩⟩
              · refine ⟨.inr ⟨3, true, 37, rfl, by kernel_rfl, rfl, by simp, fun v h => h⟩, ?_⟩
                refine .inl ⟨by kernel_rfl, fun L a1 w1 n h => ⟨.pointer (some ⟨g1, 3, none⟩), rfl, ?_⟩⟩
                have e0 : a1.eval (.tmp 1) = _ := h.var n 1 (by kernel_rfl)
                unfold execOp
                simp only [e0]
                go_simp
              · refine ⟨.inr ⟨3, true, 37, rfl, by kernel_rfl, rfl, by simp, fun v h => h⟩, ?_⟩
                exact .inl ⟨by kernel_rfl, fun L a1 w1 n h => ⟨_, rfl, run_load1 23 (.tmp 38) g1 3 _ rfl Tryz.isAgg23 (h.dep n 4 38 (by kernel_rfl) rfl) (hma w1 h.inv)⟩⟩
              · refine ⟨.inr ⟨3, true, 37, rfl, by kernel_rfl, rfl, by simp, fun v h => h⟩, ?_⟩
                exact .inl ⟨by kernel_rfl, fun L a1 w1 n h => ⟨_, rfl, run_move (.tmp 4) rfl (h.var n 4 (by kernel_rfl))⟩⟩
              · refine ⟨.inr ⟨3, true, 37, rfl, by kernel_rfl, rfl, by simp, fun v h => h⟩, ?_⟩
                exact .inl ⟨by kernel_rfl, fun L a1 w1 n h => ⟨_, rfl, run_idxO 23 (.tmp 39) (.tmp 40) 9 1 ga oa _ _ j rfl Tryz.underlying23 Tryz.sizeOf9 (h.dep n 5 39 (by kernel_rfl) rfl) (h.dep n 6 40 (by kernel_rfl) rfl) hlt.out⟩⟩
              · refine ⟨.inr ⟨3, true, 37, rfl, by kernel_rfl, rfl, by simp, fun v h => h⟩, ?_⟩
                exact .inl ⟨by kernel_rfl, fun L a1 w1 n h => ⟨_, rfl, run_load1 9 (.tmp 41) ga (oa + j * 1) _ rfl Tryz.isAgg9 (h.dep n 7 41 (by kernel_rfl) rfl) (hbc w1 h.inv)⟩⟩
              · refine ⟨.inr ⟨3, true, 37, rfl, by kernel_rfl, rfl, by simp, fun v h => h⟩, ?_⟩
                refine .inl ⟨by kernel_rfl, fun L a1 w1 n h => ⟨.pointer (some ⟨g1, 3, none⟩), rfl, ?_⟩⟩
                have e0 : a1.eval (.tmp 1) = _ := h.var n 1 (by kernel_rfl)
                unfold execOp
                simp only [e0]
                go_simp
              · refine ⟨.inr ⟨3, true, 37, rfl, by kernel_rfl, rfl, by simp, fun v h => h⟩, ?_⟩
                exact .inl ⟨by kernel_rfl, fun L a1 w1 n h => ⟨_, rfl, run_load1 23 (.tmp 43) g1 3 _ rfl Tryz.isAgg23 (h.dep n 9 43 (by kernel_rfl) rfl) (hma w1 h.inv)⟩⟩
              · refine ⟨.inr ⟨3, true, 37, rfl, by kernel_rfl, rfl, by simp, fun v h => h⟩, ?_⟩
                exact .inl ⟨by kernel_rfl, fun L a1 w1 n h => ⟨_, rfl, run_move (.tmp 4) rfl (h.var n 4 (by kernel_rfl))⟩⟩
              · refine ⟨.inr ⟨3, true, 37, rfl, by kernel_rfl, rfl, by simp, fun v h => h⟩, ?_⟩
                exact .inl ⟨by kernel_rfl, fun L a1 w1 n h => ⟨_, rfl, run_subZ (.tmp 45) (.const (.int .i64 1)) rfl (h.dep n 11 45 (by kernel_rfl) rfl) rfl hsub.out⟩⟩
              · refine ⟨.inr ⟨3, true, 37, rfl, by kernel_rfl, rfl, by simp, fun v h => h⟩, ?_⟩
                exact .inl ⟨by kernel_rfl, fun L a1 w1 n h => ⟨_, rfl, run_idxO 23 (.tmp 44) (.tmp 46) 9 1 ga oa _ _ i rfl Tryz.underlying23 Tryz.sizeOf9 (h.dep n 10 44 (by kernel_rfl) rfl) (h.dep n 12 46 (by kernel_rfl) rfl) hlt0.out⟩⟩
              · refine ⟨.inr ⟨3, true, 37, rfl, by kernel_rfl, rfl, by simp, fun v h => h⟩, ?_⟩
                exact .inl ⟨by kernel_rfl, fun L a1 w1 n h => ⟨_, rfl, run_load1 9 (.tmp 47) ga (oa + i * 1) _ rfl Tryz.isAgg9 (h.dep n 13 47 (by kernel_rfl) rfl) (hac w1 h.inv)⟩⟩
              · refine ⟨.inr ⟨3, true, 37, rfl, by kernel_rfl, rfl, by simp, fun v h => h⟩, ?_⟩
                exact .inl ⟨by kernel_rfl, fun L a1 w1 n h => ⟨_, rfl, run_leqStr (.tmp 42) (.tmp 48) rfl (h.dep n 8 42 (by kernel_rfl) rfl) (h.dep n 14 48 (by kernel_rfl) rfl) hrr.out⟩⟩
              · refine ⟨.inl rfl, ?_⟩
                exact .inl ⟨by kernel_rfl, fun L a1 w1 n h => ⟨_, rfl, run_pickT (.tmp 37) _ _ rfl (h.dep n 3 37 (by kernel_rfl) rfl) (h.dep n 15 49 (by kernel_rfl) rfl)⟩⟩
            case he9 =>
              intro V w11 hV hJ
              have b11 : Below wr.heap.size wr w11 := hJ
              have hE : V 16 = .bool (!rr) := hV 16 _ rfl
              clear hV hJ
              simp only [putOps, List.setIfInBounds_toArray, List.set_cons_succ, List.set_cons_zero, Nat.reduceAdd]
              rw [hE]
              refine hK6 _ _ ?_
              cases rr with
              | false =>
                go_wp2_with fail
                go_ret
                have hx : x.dord = false := by
                  cases hq : riseB bytesBefore x.ls with
                  | false => unfold Vl.dord; rw [hq, hk4.out]; simp
                  | true =>
                    have := riseB_take hq (j + 1)
                    rw [hmore.out, Bool.and_false] at this; cases this
                exact ⟨by rw [hx]; rfl, B1.trans ((BW.trans (b11.mono hwb)).mono B1.size)⟩
              | true =>
                go_wp2_with fail
                go_roundw
                case rel => exact ⟨j + 1, by omega, by have := hlt.out; omega, by go_num, by rw [hmore.out, hsame.out]; rfl, BW.trans (b11.mono hwb)⟩
                case measure => have := hlt.out; simp [intOf]; omega
          · have hno : ¬ (j : Int) < (x.ls.length : Int) := by omega
            have hL : (!(decide (x.k = 4)) || riseB bytesBefore x.ls) = true := by rw [List.take_of_length_le (by omega)] at hsame; rw [hsame]; simp
            replace hL := hide hL
            replace hlt := hide hlt
            clear hsame hi hj1
            have cc1 := r1w.cell (j := 4) rfl
            go_wp2_with fail
            clear hno hlt
            replace cc := cc1
            clear cc1
            go_loopw [5] (fun iv wr => ∃ j : Nat, 1 ≤ j ∧ j ≤ x.ss.length + 1 ∧ iv = .int .i64 (j : Int) ∧ (riseB Sc.less (x.ss.take j) = true ∧ frB (x.ss.take j) = true) ∧ Below w1.heap.size w1 wr) (fun iv _ => x.ss.length + 1 - (intOf iv).toNat)
            case atStart => exact ⟨1, by omega, by omega, rfl, ⟨by cases x.ss <;> simp [riseB], by cases x.ss <;> simp [frB]⟩, BW⟩
            case round =>
              clear BW r1w cc hwb
              obtain ⟨j, hj1, hi, rfl, hsame, BW⟩ := hrel
              have hwb := BW.size
              have r1w := r1.later BW
              have cc := r1w.cell (j := 4) rfl
              by_cases hlt : j < x.ss.length
              · have hltI : (j : Int) < (x.ss.length : Int) := by omega
                obtain ⟨i, hij⟩ : ∃ i, i + 1 = j := ⟨j - 1, by omega⟩
                have hlt0 : i < x.ss.length := by omega
                obtain ⟨a, ha⟩ : ∃ a, x.ss[i]? = some a := ⟨_, List.getElem?_eq_getElem hlt0⟩
                obtain ⟨b, hb⟩ : ∃ b, x.ss[j]? = some b := ⟨_, List.getElem?_eq_getElem hlt⟩
                have hsub := hide (show IntKind.i64.wrap ((j : Int) - 1) = (i : Int) from wrap_id (by omega) (by omega) (by omega))
                obtain ⟨x1, ga, oa, rfl, hga, hca⟩ := h1.s.at ha
                obtain ⟨x2, ga2, oa2, ee, hgb, hcb⟩ := h1.s.at hb
                obtain ⟨rfl, rfl⟩ : ga = ga2 ∧ oa = oa2 := by injection ee with ee; injection ee with e1 e2; exact ⟨e1, e2⟩
                have hac : ∀ wz, Below wr.heap.size wr wz → ∀ q u, (a.cells)[q]? = some u → wz.cell? ⟨ga, (oa + i * 2) + q, none⟩ = some u := fun wz hb1 q u hj => ((BW.trans (hb1.mono hwb)).cell (p := ⟨ga, _, none⟩) hga).trans (hca q u hj)
                have hbc : ∀ wz, Below wr.heap.size wr wz → ∀ q u, (b.cells)[q]? = some u → wz.cell? ⟨ga, (oa + j * 2) + q, none⟩ = some u := fun wz hb1 q u hj => ((BW.trans (hb1.mono hwb)).cell (p := ⟨ga, _, none⟩) hga).trans (hcb q u hj)
                have hbm : ∀ wz, Below wr.heap.size wr wz → wz.cell? ⟨ga, oa + j * 2, none⟩ = some (encStr b.m) := fun wz hb1 => ((BW.trans (hb1.mono hwb)).cell (p := ⟨ga, _, none⟩) hga).trans (hcb 0 _ rfl)
                obtain ⟨lr, hlr0⟩ : ∃ lr, a.less b = lr := ⟨_, rfl⟩
                have hlr := hide (show lr = a.less b from hlr0.symm)
                have hmore := hide (show riseB Sc.less (x.ss.take (j + 1)) = (riseB Sc.less (x.ss.take j) && lr) by rw [← hlr0]; subst hij; exact riseB_more ha hb)
                have hfr := hide (frB_more hb)
                obtain ⟨fi, hfi0⟩ : ∃ fi, idxS b.m (x.ss.take j) = fi := ⟨_, rfl⟩
                obtain ⟨fm, hfm0⟩ : ∃ fm, decide ((0 : Int) ≤ fi) = fm := ⟨_, rfl⟩
                have hfi := hide hfi0
                have hfm := hide hfm0
                have hhas := hide (show hasM (x.ss.take j) b.m = fm by rw [← idxS_has, hfi0, hfm0])
                have hma : ∀ wz, Below wr.heap.size wr wz → wz.cell? ⟨g1, 4, none⟩ = some (.slice (some ⟨ga, oa, none⟩) x.ss.length C4) := fun wz hb1 => (r1w.later hb1).cell rfl
                have hsl : ∀ wz, Below wr.heap.size wr wz → SlV Sc.cells 2 wz wz.heap.size (.slice (some ⟨ga, oa, none⟩) j C4) (x.ss.take j) := fun wz hb1 => ((h1.s.later (BW.trans (hb1.mono hwb)))).to j (by omega)
                have hS1 : ∀ wz, (Instr.sliceAt 24 (.slice (some ⟨ga, oa, none⟩) x.ss.length C4) none (some (.int .i64 (j : Int))) none).run Tryz.prog wz = .ok (.slice (some ⟨ga, oa, none⟩) j C4) wz := fun wz => run_sliceToN wz _ _ 2 Tryz.underlying24 Tryz.sizeOf99 _ _ _ .i64 j (by omega)
                clear x1 x2 ee hca hcb hga hgb ha hb hlr0 hfi0 hfm0
                replace hlt := hide hlt
                replace hlt0 := hide hlt0
                replace hsame := hide hsame
                replace hij := hide hij
                replace hj1 := hide hj1
                replace hi := hide hi
                cases lr with
                | false =>
                  go_wp2_with fail
                  rename_i K6 hK6
                  refine wp_region_valsS [11] (SRi14f g1 ga oa i j C4 x a b) (JF wr [11] (FRi ())) (by kernel_rfl) (by kernel_rfl) (by kernel_rfl) (by kernel_rfl) (JF.start _) ?obs14f ?he14f
                  case obs14f =>
                    refine ⟨?_, ?_, ?_, ?_, ?_, ?_, ?_, ?_, ?_, ?_, ?_, ?_, ?_, ?_, ?_, ?_, ?_, ?_, ?_, ?_, ?_, ?_, ?_, ?_, ?_, ?_, ?_, trivial⟩
                    · refine .inl ⟨.inl rfl, ?_⟩
                      refine .inl ⟨by kernel_rfl, fun L a1 w1 n h => ⟨.pointer (some ⟨g1, 4, none⟩), rfl, ?_⟩⟩
                      have e0 : a1.eval (.tmp 1) = _ := h.var n 1 (by kernel_rfl)
                      unfold execOp
                      simp only [e0]
                      go_simp
                    · refine .inl ⟨.inl rfl, ?_⟩
                      exact .inl ⟨by kernel_rfl, fun L a1 w1 n h => ⟨_, rfl, run_load1 24 (.tmp 58) g1 4 _ rfl Tryz.isAgg24 (h.dep n 0 58 (by kernel_rfl) rfl) (hma w1 h.inv.1)⟩⟩
                    · refine .inl ⟨.inl rfl, ?_⟩
                      exact .inl ⟨by kernel_rfl, fun L a1 w1 n h => ⟨_, rfl, run_move (.tmp 5) rfl (h.var n 5 (by kernel_rfl))⟩⟩
                    · refine .inl ⟨.inl rfl, ?_⟩
                      exact .inl ⟨by kernel_rfl, fun L a1 w1 n h => ⟨_, rfl, run_subZ (.tmp 60) (.const (.int .i64 1)) rfl (h.dep n 2 60 (by kernel_rfl) rfl) rfl hsub.out⟩⟩
                    · refine .inl ⟨.inl rfl, ?_⟩
                      exact .inl ⟨by kernel_rfl, fun L a1 w1 n h => ⟨_, rfl, run_idxO 24 (.tmp 59) (.tmp 61) 99 2 ga oa _ _ i rfl Tryz.underlying24 Tryz.sizeOf99 (h.dep n 1 59 (by kernel_rfl) rfl) (h.dep n 3 61 (by kernel_rfl) rfl) hlt0.out⟩⟩
                    · refine .inl ⟨.inl rfl, ?_⟩
                      exact .inl ⟨by kernel_rfl, fun L a1 w1 n h => ⟨_, rfl, run_loadCs 99 (.tmp 62) ga (oa + i * 2) a.cells _ rfl (h.dep n 4 62 (by kernel_rfl) rfl) (hac w1 h.inv.1) Tryz.underlying99 rfl (szSc a)⟩⟩
                    · refine .inl ⟨.inl rfl, ?_⟩
                      refine .inl ⟨by kernel_rfl, fun L a1 w1 n h => ⟨.pointer (some ⟨g1, 4, none⟩), rfl, ?_⟩⟩
                      have e0 : a1.eval (.tmp 1) = _ := h.var n 1 (by kernel_rfl)
                      unfold execOp
                      simp only [e0]
                      go_simp
                    · refine .inl ⟨.inl rfl, ?_⟩
                      exact .inl ⟨by kernel_rfl, fun L a1 w1 n h => ⟨_, rfl, run_load1 24 (.tmp 64) g1 4 _ rfl Tryz.isAgg24 (h.dep n 6 64 (by kernel_rfl) rfl) (hma w1 h.inv.1)⟩⟩
                    · refine .inl ⟨.inl rfl, ?_⟩
                      exact .inl ⟨by kernel_rfl, fun L a1 w1 n h => ⟨_, rfl, run_move (.tmp 5) rfl (h.var n 5 (by kernel_rfl))⟩⟩
                    · refine .inl ⟨.inl rfl, ?_⟩
                      exact .inl ⟨by kernel_rfl, fun L a1 w1 n h => ⟨_, rfl, run_idxO 24 (.tmp 65) (.tmp 66) 99 2 ga oa _ _ j rfl Tryz.underlying24 Tryz.sizeOf99 (h.dep n 7 65 (by kernel_rfl) rfl) (h.dep n 8 66 (by kernel_rfl) rfl) hlt.out⟩⟩
                    · refine .inl ⟨.inl rfl, ?_⟩
                      exact .inl ⟨by kernel_rfl, fun L a1 w1 n h => ⟨_, rfl, run_loadCs 99 (.tmp 67) ga (oa + j * 2) b.cells _ rfl (h.dep n 9 67 (by kernel_rfl) rfl) (hbc w1 h.inv.1) Tryz.underlying99 rfl (szSc b)⟩⟩
                    · refine .inl ⟨.inl rfl, ?_⟩
                      refine .inr fun L a1 w1 n h K hK => ?_
                      have e0 : a1.eval (.tmp 63) = .agg a.cells.toArray := h.dep n 5 63 (by kernel_rfl) rfl
                      have e1 : a1.eval (.tmp 68) = .agg b.cells.toArray := h.dep n 10 68 (by kernel_rfl) rfl
                      refine JF.call (FRi_mono ()) h hK 69 rfl 118 _ _ #[.agg a.cells.toArray, .agg b.cells.toArray] rfl Tryz.call118 ?_ (rless_any w1 a b) ?_
                      · simp only [List.map_toArray, List.map_cons, List.map_nil, e0, e1]
                      · rintro e w3 ⟨rfl, b9⟩
                        exact ⟨_, rfl, (show Value.bool _ = Value.bool _ by rw [← hlr.out]), trivial, b9⟩
                    · refine .inl ⟨.inl rfl, ?_⟩
                      exact .inl ⟨by kernel_rfl, fun L a1 w1 n h => ⟨_, rfl, run_notB (.tmp 69) false rfl (h.dep n 11 69 (by kernel_rfl) rfl) rfl⟩⟩
                    · refine .inl ⟨.inl rfl, ?_⟩
                      exact .inl ⟨by kernel_rfl, fun L a1 w1 n h => ⟨_, rfl, run_move (.tmp 70) rfl (h.dep n 12 70 (by kernel_rfl) rfl)⟩⟩
                    · exact .inr ⟨⟨13, false, 71, rfl, by kernel_rfl, rfl, by simp, fun v h => by rw [show v = .bool true from h]; first | exact ne_tf | exact ne_ft | exact ne_undef _⟩, by kernel_rfl, rfl⟩
                    · exact .inr ⟨⟨13, false, 71, rfl, by kernel_rfl, rfl, by simp, fun v h => by rw [show v = .bool true from h]; first | exact ne_tf | exact ne_ft | exact ne_undef _⟩, by kernel_rfl, rfl⟩
                    · exact .inr ⟨⟨13, false, 71, rfl, by kernel_rfl, rfl, by simp, fun v h => by rw [show v = .bool true from h]; first | exact ne_tf | exact ne_ft | exact ne_undef _⟩, by kernel_rfl, rfl⟩
                    · exact .inr ⟨⟨13, false, 71, rfl, by kernel_rfl, rfl, by simp, fun v h => by rw [show v = .bool true from h]; first | exact ne_tf | exact ne_ft | exact ne_undef _⟩, by kernel_rfl, rfl⟩
                    · exact .inr ⟨⟨13, false, 71, rfl, by kernel_rfl, rfl, by simp, fun v h => by rw [show v = .bool true from h]; first | exact ne_tf | exact ne_ft | exact ne_undef _⟩, by kernel_rfl, rfl⟩
                    · exact .inr ⟨⟨13, false, 71, rfl, by kernel_rfl, rfl, by simp, fun v h => by rw [show v = .bool true from h]; first | exact ne_tf | exact ne_ft | exact ne_undef _⟩, by kernel_rfl, rfl⟩
                    · exact .inr ⟨⟨13, false, 71, rfl, by kernel_rfl, rfl, by simp, fun v h => by rw [show v = .bool true from h]; first | exact ne_tf | exact ne_ft | exact ne_undef _⟩, by kernel_rfl, rfl⟩
                    · exact .inr ⟨⟨13, false, 71, rfl, by kernel_rfl, rfl, by simp, fun v h => by rw [show v = .bool true from h]; first | exact ne_tf | exact ne_ft | exact ne_undef _⟩, by kernel_rfl, rfl⟩
                    · exact .inr ⟨⟨13, false, 71, rfl, by kernel_rfl, rfl, by simp, fun v h => by rw [show v = .bool true from h]; first | exact ne_tf | exact ne_ft | exact ne_undef _⟩, by kernel_rfl, rfl⟩
                    · exact .inr ⟨⟨13, false, 71, rfl, by kernel_rfl, rfl, by simp, fun v h => by rw [show v = .bool true from h]; first | exact ne_tf | exact ne_ft | exact ne_undef _⟩, by kernel_rfl, rfl⟩
                    · exact .inr ⟨⟨13, false, 71, rfl, by kernel_rfl, rfl, by simp, fun v h => by rw [show v = .bool true from h]; first | exact ne_tf | exact ne_ft | exact ne_undef _⟩, by kernel_rfl, rfl⟩
                    · exact .inr ⟨⟨13, false, 71, rfl, by kernel_rfl, rfl, by simp, fun v h => by rw [show v = .bool true from h]; first | exact ne_tf | exact ne_ft | exact ne_undef _⟩, by kernel_rfl, rfl⟩
                    · refine .inl ⟨.inl rfl, ?_⟩
                      exact .inl ⟨by kernel_rfl, fun L a1 w1 n h => ⟨_, rfl, run_pickT (.tmp 71) _ _ rfl (h.dep n 13 71 (by kernel_rfl) rfl) rfl⟩⟩
                  case he14f =>
                    intro V w11 hV hJ
                    have b11 : Below wr.heap.size wr w11 := hJ.1
                    have hE : V 26 = .bool true := hV 26 _ rfl
                    clear hV hJ
                    simp only [putOps, List.setIfInBounds_toArray, List.set_cons_succ, List.set_cons_zero, Nat.reduceAdd]
                    rw [hE]
                    refine hK6 _ _ ?_
                    go_wp2_with fail
                    go_ret
                    have hx : x.dord = false := by
                      cases hq : riseB Sc.less x.ss with
                      | false => unfold Vl.dord; rw [hq]; simp
                      | true =>
                        have := riseB_take hq (j + 1)
                        rw [hmore.out, Bool.and_false] at this; cases this
                    exact ⟨by rw [hx]; rfl, B1.trans ((BW.trans (b11.mono hwb)).mono B1.size)⟩
                | true =>
                  go_wp2_with fail
                  rename_i K6 hK6
                  refine wp_region_valsG [11, 24] (SRi14t g1 ga oa i j C4 x a b fi fm) (JF wr [11, 24] (FRi ())) (by kernel_rfl) (by kernel_rfl) (by kernel_rfl) (by kernel_rfl) (JF.start _) ?obs14t ?he14t
                  case obs14t =>
                    refine ⟨?_, ?_, ?_, ?_, ?_, ?_, ?_, ?_, ?_, ?_, ?_, ?_, ?_, ?_, ?_, ?_, ?_, ?_, ?_, ?_, ?_, ?_, ?_, ?_, ?_, ?_, ?_, trivial⟩
                    · refine ⟨.inl rfl, ?_⟩
                      refine .inl ⟨by kernel_rfl, fun L a1 w1 n h => ⟨.pointer (some ⟨g1, 4, none⟩), rfl, ?_⟩⟩
                      have e0 : a1.eval (.tmp 1) = _ := h.var n 1 (by kernel_rfl)
                      unfold execOp
                      simp only [e0]
                      go_simp
                    · refine ⟨.inl rfl, ?_⟩
                      exact .inl ⟨by kernel_rfl, fun L a1 w1 n h => ⟨_, rfl, run_load1 24 (.tmp 58) g1 4 _ rfl Tryz.isAgg24 (h.dep n 0 58 (by kernel_rfl) rfl) (hma w1 h.inv.1)⟩⟩
                    · refine ⟨.inl rfl, ?_⟩
                      exact .inl ⟨by kernel_rfl, fun L a1 w1 n h => ⟨_, rfl, run_move (.tmp 5) rfl (h.var n 5 (by kernel_rfl))⟩⟩
                    · refine ⟨.inl rfl, ?_⟩
                      exact .inl ⟨by kernel_rfl, fun L a1 w1 n h => ⟨_, rfl, run_subZ (.tmp 60) (.const (.int .i64 1)) rfl (h.dep n 2 60 (by kernel_rfl) rfl) rfl hsub.out⟩⟩
                    · refine ⟨.inl rfl, ?_⟩
                      exact .inl ⟨by kernel_rfl, fun L a1 w1 n h => ⟨_, rfl, run_idxO 24 (.tmp 59) (.tmp 61) 99 2 ga oa _ _ i rfl Tryz.underlying24 Tryz.sizeOf99 (h.dep n 1 59 (by kernel_rfl) rfl) (h.dep n 3 61 (by kernel_rfl) rfl) hlt0.out⟩⟩
                    · refine ⟨.inl rfl, ?_⟩
                      exact .inl ⟨by kernel_rfl, fun L a1 w1 n h => ⟨_, rfl, run_loadCs 99 (.tmp 62) ga (oa + i * 2) a.cells _ rfl (h.dep n 4 62 (by kernel_rfl) rfl) (hac w1 h.inv.1) Tryz.underlying99 rfl (szSc a)⟩⟩
                    · refine ⟨.inl rfl, ?_⟩
                      refine .inl ⟨by kernel_rfl, fun L a1 w1 n h => ⟨.pointer (some ⟨g1, 4, none⟩), rfl, ?_⟩⟩
                      have e0 : a1.eval (.tmp 1) = _ := h.var n 1 (by kernel_rfl)
                      unfold execOp
                      simp only [e0]
                      go_simp
                    · refine ⟨.inl rfl, ?_⟩
                      exact .inl ⟨by kernel_rfl, fun L a1 w1 n h => ⟨_, rfl, run_load1 24 (.tmp 64) g1 4 _ rfl Tryz.isAgg24 (h.dep n 6 64 (by kernel_rfl) rfl) (hma w1 h.inv.1)⟩⟩
                    · refine ⟨.inl rfl, ?_⟩
                      exact .inl ⟨by kernel_rfl, fun L a1 w1 n h => ⟨_, rfl, run_move (.tmp 5) rfl (h.var n 5 (by kernel_rfl))⟩⟩
                    · refine ⟨.inl rfl, ?_⟩
                      exact .inl ⟨by kernel_rfl, fun L a1 w1 n h => ⟨_, rfl, run_idxO 24 (.tmp 65) (.tmp 66) 99 2 ga oa _ _ j rfl Tryz.underlying24 Tryz.sizeOf99 (h.dep n 7 65 (by kernel_rfl) rfl) (h.dep n 8 66 (by kernel_rfl) rfl) hlt.out⟩⟩
                    · refine ⟨.inl rfl, ?_⟩
                      exact .inl ⟨by kernel_rfl, fun L a1 w1 n h => ⟨_, rfl, run_loadCs 99 (.tmp 67) ga (oa + j * 2) b.cells _ rfl (h.dep n 9 67 (by kernel_rfl) rfl) (hbc w1 h.inv.1) Tryz.underlying99 rfl (szSc b)⟩⟩
                    · refine ⟨.inl rfl, ?_⟩
                      refine .inr fun L a1 w1 n h K hK => ?_
                      have e0 : a1.eval (.tmp 63) = .agg a.cells.toArray := h.dep n 5 63 (by kernel_rfl) rfl
                      have e1 : a1.eval (.tmp 68) = .agg b.cells.toArray := h.dep n 10 68 (by kernel_rfl) rfl
                      refine JF.call (FRi_mono ()) h hK 69 rfl 118 _ _ #[.agg a.cells.toArray, .agg b.cells.toArray] rfl Tryz.call118 ?_ (rless_any w1 a b) ?_
                      · simp only [List.map_toArray, List.map_cons, List.map_nil, e0, e1]
                      · rintro e w3 ⟨rfl, b9⟩
                        exact ⟨_, rfl, (show Value.bool _ = Value.bool _ by rw [← hlr.out]), trivial, b9⟩
                    · refine ⟨.inl rfl, ?_⟩
                      exact .inl ⟨by kernel_rfl, fun L a1 w1 n h => ⟨_, rfl, run_notB (.tmp 69) true rfl (h.dep n 11 69 (by kernel_rfl) rfl) rfl⟩⟩
                    · refine ⟨.inl rfl, ?_⟩
                      exact .inl ⟨by kernel_rfl, fun L a1 w1 n h => ⟨_, rfl, run_move (.tmp 70) rfl (h.dep n 12 70 (by kernel_rfl) rfl)⟩⟩
                    · refine ⟨.inr ⟨13, false, 71, rfl, by kernel_rfl, rfl, by simp, fun v h => h⟩, ?_⟩
                      refine .inl ⟨by kernel_rfl, fun L a1 w1 n h => ⟨.pointer (some ⟨g1, 4, none⟩), rfl, ?_⟩⟩
                      have e0 : a1.eval (.tmp 1) = _ := h.var n 1 (by kernel_rfl)
                      unfold execOp
                      simp only [e0]
                      go_simp
                    · refine ⟨.inr ⟨13, false, 71, rfl, by kernel_rfl, rfl, by simp, fun v h => h⟩, ?_⟩
                      exact .inl ⟨by kernel_rfl, fun L a1 w1 n h => ⟨_, rfl, run_load1 24 (.tmp 72) g1 4 _ rfl Tryz.isAgg24 (h.dep n 14 72 (by kernel_rfl) rfl) (hma w1 h.inv.1)⟩⟩
                    · refine ⟨.inr ⟨13, false, 71, rfl, by kernel_rfl, rfl, by simp, fun v h => h⟩, ?_⟩
                      exact .inl ⟨by kernel_rfl, fun L a1 w1 n h => ⟨_, rfl, run_move (.tmp 5) rfl (h.var n 5 (by kernel_rfl))⟩⟩
                    · refine ⟨.inr ⟨13, false, 71, rfl, by kernel_rfl, rfl, by simp, fun v h => h⟩, ?_⟩
                      refine .inl ⟨by kernel_rfl, fun L a1 w1 n h => ⟨.slice (some ⟨ga, oa, none⟩) j C4, rfl, ?_⟩⟩
                      have e0 : a1.eval (.tmp 73) = _ := h.dep n 15 73 (by kernel_rfl) rfl
                      have e1 : a1.eval (.tmp 74) = _ := h.dep n 16 74 (by kernel_rfl) rfl
                      unfold execOp
                      simp only [e0, e1, Option.map_some, Option.map_none, Sem.run_bind, hS1, Result.andThen_ok, Sem.run_pure]
                    · refine ⟨.inr ⟨13, false, 71, rfl, by kernel_rfl, rfl, by simp, fun v h => h⟩, ?_⟩
                      refine .inl ⟨by kernel_rfl, fun L a1 w1 n h => ⟨.pointer (some ⟨g1, 4, none⟩), rfl, ?_⟩⟩
                      have e0 : a1.eval (.tmp 1) = _ := h.var n 1 (by kernel_rfl)
                      unfold execOp
                      simp only [e0]
                      go_simp
                    · refine ⟨.inr ⟨13, false, 71, rfl, by kernel_rfl, rfl, by simp, fun v h => h⟩, ?_⟩
                      exact .inl ⟨by kernel_rfl, fun L a1 w1 n h => ⟨_, rfl, run_load1 24 (.tmp 76) g1 4 _ rfl Tryz.isAgg24 (h.dep n 18 76 (by kernel_rfl) rfl) (hma w1 h.inv.1)⟩⟩
                    · refine ⟨.inr ⟨13, false, 71, rfl, by kernel_rfl, rfl, by simp, fun v h => h⟩, ?_⟩
                      exact .inl ⟨by kernel_rfl, fun L a1 w1 n h => ⟨_, rfl, run_move (.tmp 5) rfl (h.var n 5 (by kernel_rfl))⟩⟩
                    · refine ⟨.inr ⟨13, false, 71, rfl, by kernel_rfl, rfl, by simp, fun v h => h⟩, ?_⟩
                      exact .inl ⟨by kernel_rfl, fun L a1 w1 n h => ⟨_, rfl, run_idxO 24 (.tmp 77) (.tmp 78) 99 2 ga oa _ _ j rfl Tryz.underlying24 Tryz.sizeOf99 (h.dep n 19 77 (by kernel_rfl) rfl) (h.dep n 20 78 (by kernel_rfl) rfl) hlt.out⟩⟩
                    · refine ⟨.inr ⟨13, false, 71, rfl, by kernel_rfl, rfl, by simp, fun v h => h⟩, ?_⟩
                      refine .inl ⟨by kernel_rfl, fun L a1 w1 n h => ⟨.pointer (some ⟨ga, oa + j * 2, none⟩), rfl, ?_⟩⟩
                      have e0 : a1.eval (.tmp 79) = _ := h.dep n 21 79 (by kernel_rfl) rfl
                      unfold execOp
                      simp only [e0]
                      go_simp
                    · refine ⟨.inr ⟨13, false, 71, rfl, by kernel_rfl, rfl, by simp, fun v h => h⟩, ?_⟩
                      exact .inl ⟨by kernel_rfl, fun L a1 w1 n h => ⟨_, rfl, run_load1 9 (.tmp 80) ga (oa + j * 2) _ rfl Tryz.isAgg9 (h.dep n 22 80 (by kernel_rfl) rfl) (hbm w1 h.inv.1)⟩⟩
                    · refine ⟨.inr ⟨13, false, 71, rfl, by kernel_rfl, rfl, by simp, fun v h => h⟩, ?_⟩
                      refine .inr fun L a1 w1 n h K hK => ?_
                      have e0 : a1.eval (.tmp 75) = .slice (some ⟨ga, oa, none⟩) j C4 := h.dep n 17 75 (by kernel_rfl) rfl
                      have e1 : a1.eval (.tmp 81) = encStr b.m := h.dep n 23 81 (by kernel_rfl) rfl
                      refine JF.call (FRi_mono ()) h hK 82 rfl 124 _ _ #[.slice (some ⟨ga, oa, none⟩) j C4, encStr b.m] rfl Tryz.call124 ?_ (rfindS_any w1 _ (x.ss.take j) b.m (hsl w1 h.inv.1) (by rw [List.length_take]; have := few.s; omega)) ?_
                      · simp only [List.map_toArray, List.map_cons, List.map_nil, e0, e1]
                      · rintro e w3 ⟨rfl, h9⟩
                        exact ⟨_, rfl, (show Value.int .i64 _ = Value.int .i64 _ by rw [hfi.out]), trivial, (by rw [← h9]; exact Below.refl _ _)⟩
                    · refine ⟨.inr ⟨13, false, 71, rfl, by kernel_rfl, rfl, by simp, fun v h => h⟩, ?_⟩
                      exact .inl ⟨by kernel_rfl, fun L a1 w1 n h => ⟨_, rfl, run_geqI (.tmp 82) (.const (.int .i64 0)) rfl (h.dep n 24 82 (by kernel_rfl) rfl) rfl hfm.out⟩⟩
                    · refine ⟨.inl rfl, ?_⟩
                      exact .inl ⟨by kernel_rfl, fun L a1 w1 n h => ⟨_, rfl, run_pickF (.tmp 71) _ _ rfl (h.dep n 13 71 (by kernel_rfl) rfl) (h.dep n 25 83 (by kernel_rfl) rfl)⟩⟩
                  case he14t =>
                    intro V w11 hV hJ
                    have b11 : Below wr.heap.size wr w11 := hJ.1
                    have hE : V 26 = .bool fm := hV 26 _ rfl
                    clear hV hJ
                    simp only [putOps, List.setIfInBounds_toArray, List.set_cons_succ, List.set_cons_zero, Nat.reduceAdd]
                    rw [hE]
                    refine hK6 _ _ ?_
                    cases fm with
                    | true =>
                      go_wp2_with fail
                      go_ret
                      have hx : x.dord = false := by
                        cases hq : frB x.ss with
                        | false => unfold Vl.dord; rw [hq]; simp
                        | true =>
                          have := frB_take hq (j + 1)
                          rw [hfr.out, hhas.out] at this; cases this
                      exact ⟨by rw [hx]; rfl, B1.trans ((BW.trans (b11.mono hwb)).mono B1.size)⟩
                    | false =>
                      go_wp2_with fail
                      go_roundw
                      case rel => exact ⟨j + 1, by omega, by have := hlt.out; omega, by go_num, ⟨by rw [hmore.out, hsame.out.1]; rfl, by rw [hfr.out, hhas.out, hsame.out.2]; rfl⟩, BW.trans (b11.mono hwb)⟩
                      case measure => have := hlt.out; simp [intOf]; omega
              · have hno : ¬ (j : Int) < (x.ss.length : Int) := by omega
                have hx : x.dord = true := by
                  rw [List.take_of_length_le (by omega)] at hsame
                  unfold Vl.dord
                  rw [hP.out, hL.out, hsame.1, hsame.2]; rfl
                replace hx := hide hx
                replace hlt := hide hlt
                clear hsame hi hj1
                go_wp2_with fail
                go_ret
                exact ⟨by rw [hx.out]; rfl, B1.trans (BW.mono B1.size)⟩
  · have hk4 := hide (decide_eq_false hk)
    replace hk := hide hk
    go_enter Tryz.func82, Tryz.ntmps82
    go_wp2_with (first
      | ((with_reducible refine wl_box (o := ⟨some 1, _, _, _, _, _⟩) rfl 26 (.tmp 0) _ (vlC x (.slice A2 x.ps.length C2) (.slice A3 x.ls.length C3) (.slice A4 x.ss.length C4)) rfl rfl rfl ?_); intro g1 w1 r1 p1 l1 b1))
    have B1 := b1
    have h1 := h.later b1
    clear p1 l1 b1 h
    go_loopw [3] (fun iv wr => ∃ j : Nat, 1 ≤ j ∧ j ≤ x.ps.length + 1 ∧ iv = .int .i64 (j : Int) ∧ riseB Pr.bef (x.ps.take j) = true ∧ Below w1.heap.size w1 wr) (fun iv _ => x.ps.length + 1 - (intOf iv).toNat)
    case atStart => exact ⟨1, by omega, by omega, rfl, by cases x.ps <;> simp [riseB], Below.refl _ _⟩
    case round =>
      skip
      obtain ⟨j, hj1, hi, rfl, hsame, BW⟩ := hrel
      have hwb := BW.size
      have r1w := r1.later BW
      have cc := r1w.cell (j := 2) rfl
      by_cases hlt : j < x.ps.length
      · have hltI : (j : Int) < (x.ps.length : Int) := by omega
        obtain ⟨i, hij⟩ : ∃ i, i + 1 = j := ⟨j - 1, by omega⟩
        have hlt0 : i < x.ps.length := by omega
        obtain ⟨a, ha⟩ : ∃ a, x.ps[i]? = some a := ⟨_, List.getElem?_eq_getElem hlt0⟩
        obtain ⟨b, hb⟩ : ∃ b, x.ps[j]? = some b := ⟨_, List.getElem?_eq_getElem hlt⟩
        have hsub := hide (show IntKind.i64.wrap ((j : Int) - 1) = (i : Int) from wrap_id (by omega) (by omega) (by omega))
        obtain ⟨x1, ga, oa, rfl, hga, hca⟩ := h1.p.at ha
        obtain ⟨x2, ga2, oa2, ee, hgb, hcb⟩ := h1.p.at hb
        obtain ⟨rfl, rfl⟩ : ga = ga2 ∧ oa = oa2 := by injection ee with ee; injection ee with e1 e2; exact ⟨e1, e2⟩
        have hac : ∀ wz, Below wr.heap.size wr wz → wz.cell? ⟨ga, oa + i * 2, none⟩ = some (encStr a.f) := fun wz hb1 => ((BW.trans (hb1.mono hwb)).cell (p := ⟨ga, _, none⟩) hga).trans (hca 0 _ rfl)
        have hbc : ∀ wz, Below wr.heap.size wr wz → wz.cell? ⟨ga, oa + j * 2, none⟩ = some (encStr b.f) := fun wz hb1 => ((BW.trans (hb1.mono hwb)).cell (p := ⟨ga, _, none⟩) hga).trans (hcb 0 _ rfl)
        obtain ⟨rr, hr⟩ : ∃ rr, rr = Pr.bef a b := ⟨_, rfl⟩
        have hmore := hide (show riseB Pr.bef (x.ps.take (j + 1)) = (riseB Pr.bef (x.ps.take j) && rr) by rw [hr]; subst hij; exact riseB_more ha hb)
        have hrr := hide (show leN b.f a.f = !rr by rw [hr]; exact leN_not a.f b.f)
        have hma : ∀ wz, Below wr.heap.size wr wz → wz.cell? ⟨g1, 2, none⟩ = some (.slice (some ⟨ga, oa, none⟩) x.ps.length C2) := fun wz hb1 => (r1w.later hb1).cell rfl
        clear x1 x2 ee hca hcb hga hgb ha hb hr
        replace hlt := hide hlt
        replace hlt0 := hide hlt0
        replace hsame := hide hsame
        replace hij := hide hij
        replace hj1 := hide hj1
        replace hi := hide hi
        go_wp2_with fail
        rename_i K6 hK6
        refine wp_region_vals [] (SRi4 g1 ga oa i j C2 x a b rr) (fun _ _ wz => Below wr.heap.size wr wz) (by kernel_rfl) (by kernel_rfl) (by kernel_rfl) (by kernel_rfl) (by kernel_rfl) ((Below.refl _ _).drew) ?obs4 ?he4
        case obs4 =>
          refine ⟨?_, ?_, ?_, ?_, ?_, ?_, ?_, ?_, ?_, ?_, ?_, ?_, ?_, ?_, trivial⟩
          · refine .inl ⟨by kernel_rfl, fun L a1 w1 n h => ⟨.pointer (some ⟨g1, 2, none⟩), rfl, ?_⟩⟩
            have e0 : a1.eval (.tmp 1) = _ := h.var n 1 (by kernel_rfl)
            unfold execOp
            simp only [e0]
            go_simp
          · exact .inl ⟨by kernel_rfl, fun L a1 w1 n h => ⟨_, rfl, run_load1 22 (.tmp 13) g1 2 _ rfl Tryz.isAgg22 (h.dep n 0 13 (by kernel_rfl) rfl) (hma w1 h.inv)⟩⟩
          · exact .inl ⟨by kernel_rfl, fun L a1 w1 n h => ⟨_, rfl, run_move (.tmp 3) rfl (h.var n 3 (by kernel_rfl))⟩⟩
          · exact .inl ⟨by kernel_rfl, fun L a1 w1 n h => ⟨_, rfl, run_idxO 22 (.tmp 14) (.tmp 15) 87 2 ga oa _ _ j rfl Tryz.underlying22 Tryz.sizeOf87 (h.dep n 1 14 (by kernel_rfl) rfl) (h.dep n 2 15 (by kernel_rfl) rfl) hlt.out⟩⟩
          · refine .inl ⟨by kernel_rfl, fun L a1 w1 n h => ⟨.pointer (some ⟨ga, oa + j * 2, none⟩), rfl, ?_⟩⟩
            have e0 : a1.eval (.tmp 16) = _ := h.dep n 3 16 (by kernel_rfl) rfl
            unfold execOp
            simp only [e0]
            go_simp
          · exact .inl ⟨by kernel_rfl, fun L a1 w1 n h => ⟨_, rfl, run_load1 9 (.tmp 17) ga (oa + j * 2) _ rfl Tryz.isAgg9 (h.dep n 4 17 (by kernel_rfl) rfl) (hbc w1 h.inv)⟩⟩
          · refine .inl ⟨by kernel_rfl, fun L a1 w1 n h => ⟨.pointer (some ⟨g1, 2, none⟩), rfl, ?_⟩⟩
            have e0 : a1.eval (.tmp 1) = _ := h.var n 1 (by kernel_rfl)
            unfold execOp
            simp only [e0]
            go_simp
          · exact .inl ⟨by kernel_rfl, fun L a1 w1 n h => ⟨_, rfl, run_load1 22 (.tmp 19) g1 2 _ rfl Tryz.isAgg22 (h.dep n 6 19 (by kernel_rfl) rfl) (hma w1 h.inv)⟩⟩
          · exact .inl ⟨by kernel_rfl, fun L a1 w1 n h => ⟨_, rfl, run_move (.tmp 3) rfl (h.var n 3 (by kernel_rfl))⟩⟩
          · exact .inl ⟨by kernel_rfl, fun L a1 w1 n h => ⟨_, rfl, run_subZ (.tmp 21) (.const (.int .i64 1)) rfl (h.dep n 8 21 (by kernel_rfl) rfl) rfl hsub.out⟩⟩
          · exact .inl ⟨by kernel_rfl, fun L a1 w1 n h => ⟨_, rfl, run_idxO 22 (.tmp 20) (.tmp 22) 87 2 ga oa _ _ i rfl Tryz.underlying22 Tryz.sizeOf87 (h.dep n 7 20 (by kernel_rfl) rfl) (h.dep n 9 22 (by kernel_rfl) rfl) hlt0.out⟩⟩
          · refine .inl ⟨by kernel_rfl, fun L a1 w1 n h => ⟨.pointer (some ⟨ga, oa + i * 2, none⟩), rfl, ?_⟩⟩
            have e0 : a1.eval (.tmp 23) = _ := h.dep n 10 23 (by kernel_rfl) rfl
            unfold execOp
            simp only [e0]
            go_simp
          · exact .inl ⟨by kernel_rfl, fun L a1 w1 n h => ⟨_, rfl, run_load1 9 (.tmp 24) ga (oa + i * 2) _ rfl Tryz.isAgg9 (h.dep n 11 24 (by kernel_rfl) rfl) (hac w1 h.inv)⟩⟩
          · exact .inl ⟨by kernel_rfl, fun L a1 w1 n h => ⟨_, rfl, run_leqStr (.tmp 18) (.tmp 25) rfl (h.dep n 5 18 (by kernel_rfl) rfl) (h.dep n 12 25 (by kernel_rfl) rfl) hrr.out⟩⟩
        case he4 =>
          intro V w11 hV hJ
          have b11 : Below wr.heap.size wr w11 := hJ
          have hE : V 13 = .bool (!rr) := hV 13 _ rfl
          clear hV hJ
          simp only [putOps, List.setIfInBounds_toArray, List.set_cons_succ, List.set_cons_zero, Nat.reduceAdd]
          rw [hE]
          refine hK6 _ _ ?_
          cases rr with
          | false =>
            go_wp2_with fail
            go_ret
            have hx : x.dord = false := by
              cases hq : riseB Pr.bef x.ps with
              | false => unfold Vl.dord; rw [hq]; rfl
              | true =>
                have := riseB_take hq (j + 1)
                rw [hmore.out, Bool.and_false] at this; cases this
            exact ⟨by rw [hx]; rfl, B1.trans ((BW.trans (b11.mono hwb)).mono B1.size)⟩
          | true =>
            go_wp2_with fail
            go_roundw
            case rel => exact ⟨j + 1, by omega, by have := hlt.out; omega, by go_num, by rw [hmore.out, hsame.out]; rfl, BW.trans (b11.mono hwb)⟩
            case measure => have := hlt.out; simp [intOf]; omega
      · have hno : ¬ (j : Int) < (x.ps.length : Int) := by omega
        have hP : riseB Pr.bef x.ps = true := by rw [List.take_of_length_le (by omega)] at hsame; exact hsame
        replace hP := hide hP
        replace hlt := hide hlt
        clear hsame hi hj1
        have cc := r1w.cell (j := 3) rfl
        have cc0 := r1w.cell (j := 2) rfl
        go_wp2_with fail
        clear cc0 hno hlt
        go_loopw [4] (fun iv wr => ∃ j : Nat, 1 ≤ j ∧ j ≤ x.ls.length + 1 ∧ iv = .int .i64 (j : Int) ∧ True ∧ Below w1.heap.size w1 wr) (fun iv _ => x.ls.length + 1 - (intOf iv).toNat)
        case atStart => exact ⟨1, by omega, by omega, rfl, trivial, BW⟩
        case round =>
          clear BW r1w cc hwb
          obtain ⟨j, hj1, hi, rfl, hsame, BW⟩ := hrel
          have hwb := BW.size
          have r1w := r1.later BW
          have cc := r1w.cell (j := 3) rfl
          by_cases hlt : j < x.ls.length
          · have hltI : (j : Int) < (x.ls.length : Int) := by omega
            obtain ⟨i, hij⟩ : ∃ i, i + 1 = j := ⟨j - 1, by omega⟩
            have hlt0 : i < x.ls.length := by omega
            obtain ⟨a, ha⟩ : ∃ a, x.ls[i]? = some a := ⟨_, List.getElem?_eq_getElem hlt0⟩
            obtain ⟨b, hb⟩ : ∃ b, x.ls[j]? = some b := ⟨_, List.getElem?_eq_getElem hlt⟩
            have hsub := hide (show IntKind.i64.wrap ((j : Int) - 1) = (i : Int) from wrap_id (by omega) (by omega) (by omega))
            have hmk : ∀ wz, Below wr.heap.size wr wz → wz.cell? ⟨g1, 0, none⟩ = some (.int .i64 x.k) := fun wz hb1 => (r1w.later hb1).cell rfl
            clear ha hb
            replace hlt := hide hlt
            replace hlt0 := hide hlt0
            replace hsame := hide hsame
            replace hij := hide hij
            replace hj1 := hide hj1
            replace hi := hide hi
            go_wp2_with fail
            rename_i K6 hK6
            refine wp_region_valsS [] (SRi9f g1 j x) (fun _ _ wz => Below wr.heap.size wr wz) (by kernel_rfl) (by kernel_rfl) (by kernel_rfl) (by kernel_rfl) ((Below.refl _ _).drew) ?obs9 ?he9
            case obs9 =>
              refine ⟨?_, ?_, ?_, ?_, ?_, ?_, ?_, ?_, ?_, ?_, ?_, ?_, ?_, ?_, ?_, ?_, ?_, trivial⟩
              · refine .inl ⟨.inl rfl, ?_⟩
                refine .inl ⟨by kernel_rfl, fun L a1 w1 n h => ⟨.pointer (some ⟨g1, 0, none⟩), rfl, ?_⟩⟩
                have e0 : a1.eval (.tmp 1) = _ := h.var n 1 (by kernel_rfl)
                unfold execOp
                simp only [e0]
                go_simp
              · refine .inl ⟨.inl rfl, ?_⟩
                exact .inl ⟨by kernel_rfl, fun L a1 w1 n h => ⟨_, rfl, run_load1 3 (.tmp 34) g1 0 _ rfl Tryz.isAgg3 (h.dep n 0 34 (by kernel_rfl) rfl) (hmk w1 h.inv)⟩⟩
              · refine .inl ⟨.inl rfl, ?_⟩
                exact .inl ⟨by kernel_rfl, fun L a1 w1 n h => ⟨_, rfl, run_eqlI (.tmp 35) (.const (.int .i64 4)) rfl (h.dep n 1 35 (by kernel_rfl) rfl) rfl hk4.out⟩⟩
              · refine .inl ⟨.inl rfl, ?_⟩
                exact .inl ⟨by kernel_rfl, fun L a1 w1 n h => ⟨_, rfl, run_move (.tmp 36) rfl (h.dep n 2 36 (by kernel_rfl) rfl)⟩⟩
              · exact .inr ⟨⟨3, true, 37, rfl, by kernel_rfl, rfl, by simp, fun v h => by rw [show v = .bool false from h]; first | exact ne_tf | exact ne_ft | exact ne_undef _⟩, by kernel_rfl, rfl⟩
              · exact .inr ⟨⟨3, true, 37, rfl, by kernel_rfl, rfl, by simp, fun v h => by rw [show v = .bool false from h]; first | exact ne_tf | exact ne_ft | exact ne_undef _⟩, by kernel_rfl, rfl⟩
              · exact .inr ⟨⟨3, true, 37, rfl, by kernel_rfl, rfl, by simp, fun v h => by rw [show v = .bool false from h]; first | exact ne_tf | exact ne_ft | exact ne_undef _⟩, by kernel_rfl, rfl⟩
              · exact .inr ⟨⟨3, true, 37, rfl, by kernel_rfl, rfl, by simp, fun v h => by rw [show v = .bool false from h]; first | exact ne_tf | exact ne_ft | exact ne_undef _⟩, by kernel_rfl, rfl⟩
              · exact .inr ⟨⟨3, true, 37, rfl, by kernel_rfl, rfl, by simp, fun v h => by rw [show v = .bool false from h]; first | exact ne_tf | exact ne_ft | exact ne_undef _⟩, by kernel_rfl, rfl⟩
              · exact .inr ⟨⟨3, true, 37, rfl, by kernel_rfl, rfl, by simp, fun v h => by rw [show v = .bool false from h]; first | exact ne_tf | exact ne_ft | exact ne_undef _⟩, by kernel_rfl, rfl⟩
              · exact .inr ⟨⟨3, true, 37, rfl, by kernel_rfl, rfl, by simp, fun v h => by rw [show v = .bool false from h]; first | exact ne_tf | exact ne_ft | exact ne_undef _⟩, by kernel_rfl, rfl⟩
              · exact .inr ⟨⟨3, true, 37, rfl, by kernel_rfl, rfl, by simp, fun v h => by rw [show v = .bool false from h]; first | exact ne_tf | exact ne_ft | exact ne_undef _⟩, by kernel_rfl, rfl⟩
              · exact .inr ⟨⟨3, true, 37, rfl, by kernel_rfl, rfl, by simp, fun v h => by rw [show v = .bool false from h]; first | exact ne_tf | exact ne_ft | exact ne_undef _⟩, by kernel_rfl, rfl⟩
              · exact .inr ⟨⟨3, true, 37, rfl, by kernel_rfl, rfl, by simp, fun v h => by rw [show v = .bool false from h]; first | exact ne_tf | exact ne_ft | exact ne_undef _⟩, by kernel_rfl, rfl⟩
              · exact .inr ⟨⟨3, true, 37, rfl, by kernel_rfl, rfl, by simp, fun v h => by rw [show v = .bool false from h]; first | exact ne_tf | exact ne_ft | exact ne_undef _⟩, by kernel_rfl, rfl⟩
              · exact .inr ⟨⟨3, true, 37, rfl, by kernel_rfl, rfl, by simp, fun v h => by rw [show v = .bool false from h]; first | exact ne_tf | exact ne_ft | exact ne_undef _⟩, by kernel_rfl, rfl⟩
              · refine .inl ⟨.inl rfl, ?_⟩
                exact .inl ⟨by kernel_rfl, fun L a1 w1 n h => ⟨_, rfl, run_pickF (.tmp 37) _ _ rfl (h.dep n 3 37 (by kernel_rfl) rfl) rfl⟩⟩
            case he9 =>
              intro V w11 hV hJ
              have b11 : Below wr.heap.size wr w11 := hJ
              have hE : V 16 = .bool false := hV 16 _ rfl
              clear hV hJ
              simp only [putOps, List.setIfInBounds_toArray, List.set_cons_succ, List.set_cons_zero, Nat.reduceAdd]
              rw [hE]
              refine hK6 _ _ ?_
              go_wp2_with fail
              go_roundw
              case rel => exact ⟨j + 1, by omega, by have := hlt.out; omega, by go_num, trivial, BW.trans (b11.mono hwb)⟩
              case measure => have := hlt.out; simp [intOf]; omega
          · have hno : ¬ (j : Int) < (x.ls.length : Int) := by omega
            have hL : (!(decide (x.k = 4)) || riseB bytesBefore x.ls) = true := by rw [hk4.out]; rfl
            replace hL := hide hL
            replace hlt := hide hlt
            clear hsame hi hj1
            have cc1 := r1w.cell (j := 4) rfl
            go_wp2_with fail
            clear hno hlt
            replace cc := cc1
            clear cc1
            go_loopw [5] (fun iv wr => ∃ j : Nat, 1 ≤ j ∧ j ≤ x.ss.length + 1 ∧ iv = .int .i64 (j : Int) ∧ (riseB Sc.less (x.ss.take j) = true ∧ frB (x.ss.take j) = true) ∧ Below w1.heap.size w1 wr) (fun iv _ => x.ss.length + 1 - (intOf iv).toNat)
            case atStart => exact ⟨1, by omega, by omega, rfl, ⟨by cases x.ss <;> simp [riseB], by cases x.ss <;> simp [frB]⟩, BW⟩
            case round =>
              clear BW r1w cc hwb
              obtain ⟨j, hj1, hi, rfl, hsame, BW⟩ := hrel
              have hwb := BW.size
              have r1w := r1.later BW
              have cc := r1w.cell (j := 4) rfl
              by_cases hlt : j < x.ss.length
              · have hltI : (j : Int) < (x.ss.length : Int) := by omega
                obtain ⟨i, hij⟩ : ∃ i, i + 1 = j := ⟨j - 1, by omega⟩
                have hlt0 : i < x.ss.length := by omega
                obtain ⟨a, ha⟩ : ∃ a, x.ss[i]? = some a := ⟨_, List.getElem?_eq_getElem hlt0⟩
                obtain ⟨b, hb⟩ : ∃ b, x.ss[j]? = some b := ⟨_, List.getElem?_eq_getElem hlt⟩
                have hsub := hide (show IntKind.i64.wrap ((j : Int) - 1) = (i : Int) from wrap_id (by omega) (by omega) (by omega))
                obtain ⟨x1, ga, oa, rfl, hga, hca⟩ := h1.s.at ha
                obtain ⟨x2, ga2, oa2, ee, hgb, hcb⟩ := h1.s.at hb
                obtain ⟨rfl, rfl⟩ : ga = ga2 ∧ oa = oa2 := by injection ee with ee; injection ee with e1 e2; exact ⟨e1, e2⟩
                have hac : ∀ wz, Below wr.heap.size wr wz → ∀ q u, (a.cells)[q]? = some u → wz.cell? ⟨ga, (oa + i * 2) + q, none⟩ = some u := fun wz hb1 q u hj => ((BW.trans (hb1.mono hwb)).cell (p := ⟨ga, _, none⟩) hga).trans (hca q u hj)
                have hbc : ∀ wz, Below wr.heap.size wr wz → ∀ q u, (b.cells)[q]? = some u → wz.cell? ⟨ga, (oa + j * 2) + q, none⟩ = some u := fun wz hb1 q u hj => ((BW.trans (hb1.mono hwb)).cell (p := ⟨ga, _, none⟩) hga).trans (hcb q u hj)
                have hbm : ∀ wz, Below wr.heap.size wr wz → wz.cell? ⟨ga, oa + j * 2, none⟩ = some (encStr b.m) := fun wz hb1 => ((BW.trans (hb1.mono hwb)).cell (p := ⟨ga, _, none⟩) hga).trans (hcb 0 _ rfl)
                obtain ⟨lr, hlr0⟩ : ∃ lr, a.less b = lr := ⟨_, rfl⟩
                have hlr := hide (show lr = a.less b from hlr0.symm)
                have hmore := hide (show riseB Sc.less (x.ss.take (j + 1)) = (riseB Sc.less (x.ss.take j) && lr) by rw [← hlr0]; subst hij; exact riseB_more ha hb)
                have hfr := hide (frB_more hb)
                obtain ⟨fi, hfi0⟩ : ∃ fi, idxS b.m (x.ss.take j) = fi := ⟨_, rfl⟩
                obtain ⟨fm, hfm0⟩ : ∃ fm, decide ((0 : Int) ≤ fi) = fm := ⟨_, rfl⟩
                have hfi := hide hfi0
                have hfm := hide hfm0
                have hhas := hide (show hasM (x.ss.take j) b.m = fm by rw [← idxS_has, hfi0, hfm0])
                have hma : ∀ wz, Below wr.heap.size wr wz → wz.cell? ⟨g1, 4, none⟩ = some (.slice (some ⟨ga, oa, none⟩) x.ss.length C4) := fun wz hb1 => (r1w.later hb1).cell rfl
                have hsl : ∀ wz, Below wr.heap.size wr wz → SlV Sc.cells 2 wz wz.heap.size (.slice (some ⟨ga, oa, none⟩) j C4) (x.ss.take j) := fun wz hb1 => ((h1.s.later (BW.trans (hb1.mono hwb)))).to j (by omega)
                have hS1 : ∀ wz, (Instr.sliceAt 24 (.slice (some ⟨ga, oa, none⟩) x.ss.length C4) none (some (.int .i64 (j : Int))) none).run Tryz.prog wz = .ok (.slice (some ⟨ga, oa, none⟩) j C4) wz := fun wz => run_sliceToN wz _ _ 2 Tryz.underlying24 Tryz.sizeOf99 _ _ _ .i64 j (by omega)
                clear x1 x2 ee hca hcb hga hgb ha hb hlr0 hfi0 hfm0
                replace hlt := hide hlt
                replace hlt0 := hide hlt0
                replace hsame := hide hsame
                replace hij := hide hij
                replace hj1 := hide hj1
                replace hi := hide hi
                cases lr with
                | false =>
                  go_wp2_with fail
                  rename_i K6 hK6
                  refine wp_region_valsS [11] (SRi14f g1 ga oa i j C4 x a b) (JF wr [11] (FRi ())) (by kernel_rfl) (by kernel_rfl) (by kernel_rfl) (by kernel_rfl) (JF.start _) ?obs14f ?he14f
                  case obs14f =>
                    refine ⟨?_, ?_, ?_, ?_, ?_, ?_, ?_, ?_, ?_, ?_, ?_, ?_, ?_, ?_, ?_, ?_, ?_, ?_, ?_, ?_, ?_, ?_, ?_, ?_, ?_, ?_, ?_, trivial⟩
                    · refine .inl ⟨.inl rfl, ?_⟩
                      refine .inl ⟨by kernel_rfl, fun L a1 w1 n h => ⟨.pointer (some ⟨g1, 4, none⟩), rfl, ?_⟩⟩
                      have e0 : a1.eval (.tmp 1) = _ := h.var n 1 (by kernel_rfl)
                      unfold execOp
                      simp only [e0]
                      go_simp
                    · refine .inl ⟨.inl rfl, ?_⟩
                      exact .inl ⟨by kernel_rfl, fun L a1 w1 n h => ⟨_, rfl, run_load1 24 (.tmp 58) g1 4 _ rfl Tryz.isAgg24 (h.dep n 0 58 (by kernel_rfl) rfl) (hma w1 h.inv.1)⟩⟩
                    · refine .inl ⟨.inl rfl, ?_⟩
                      exact .inl ⟨by kernel_rfl, fun L a1 w1 n h => ⟨_, rfl, run_move (.tmp 5) rfl (h.var n 5 (by kernel_rfl))⟩⟩
                    · refine .inl ⟨.inl rfl, ?_⟩
                      exact .inl ⟨by kernel_rfl, fun L a1 w1 n h => ⟨_, rfl, run_subZ (.tmp 60) (.const (.int .i64 1)) rfl (h.dep n 2 60 (by kernel_rfl) rfl) rfl hsub.out⟩⟩
                    · refine .inl ⟨.inl rfl, ?_⟩
                      exact .inl ⟨by kernel_rfl, fun L a1 w1 n h => ⟨_, rfl, run_idxO 24 (.tmp 59) (.tmp 61) 99 2 ga oa _ _ i rfl Tryz.underlying24 Tryz.sizeOf99 (h.dep n 1 59 (by kernel_rfl) rfl) (h.dep n 3 61 (by kernel_rfl) rfl) hlt0.out⟩⟩
                    · refine .inl ⟨.inl rfl, ?_⟩
                      exact .inl ⟨by kernel_rfl, fun L a1 w1 n h => ⟨_, rfl, run_loadCs 99 (.tmp 62) ga (oa + i * 2) a.cells _ rfl (h.dep n 4 62 (by kernel_rfl) rfl) (hac w1 h.inv.1) Tryz.underlying99 rfl (szSc a)⟩⟩
                    · refine .inl ⟨.inl rfl, ?_⟩
                      refine .inl ⟨by kernel_rfl, fun L a1 w1 n h => ⟨.pointer (some ⟨g1, 4, none⟩), rfl, ?_⟩⟩
                      have e0 : a1.eval (.tmp 1) = _ := h.var n 1 (by kernel_rfl)
                      unfold execOp
                      simp only [e0]
                      go_simp
                    · refine .inl ⟨.inl rfl, ?_⟩
                      exact .inl ⟨by kernel_rfl, fun L a1 w1 n h => ⟨_, rfl, run_load1 24 (.tmp 64) g1 4 _ rfl Tryz.isAgg24 (h.dep n 6 64 (by kernel_rfl) rfl) (hma w1 h.inv.1)⟩⟩
                    · refine .inl ⟨.inl rfl, ?_⟩
                      exact .inl ⟨by kernel_rfl, fun L a1 w1 n h => ⟨_, rfl, run_move (.tmp 5) rfl (h.var n 5 (by kernel_rfl))⟩⟩
                    · refine .inl ⟨.inl rfl, ?_⟩
                      exact .inl ⟨by kernel_rfl, fun L a1 w1 n h => ⟨_, rfl, run_idxO 24 (.tmp 65) (.tmp 66) 99 2 ga oa _ _ j rfl Tryz.underlying24 Tryz.sizeOf99 (h.dep n 7 65 (by kernel_rfl) rfl) (h.dep n 8 66 (by kernel_rfl) rfl) hlt.out⟩⟩
                    · refine .inl ⟨.inl rfl, ?_⟩
                      exact .inl ⟨by kernel_rfl, fun L a1 w1 n h => ⟨_, rfl, run_loadCs 99 (.tmp 67) ga (oa + j * 2) b.cells _ rfl (h.dep n 9 67 (by kernel_rfl) rfl) (hbc w1 h.inv.1) Tryz.underlying99 rfl (szSc b)⟩⟩
                    · refine .inl ⟨.inl rfl, ?_⟩
                      refine .inr fun L a1 w1 n h K hK => ?_
                      have e0 : a1.eval (.tmp 63) = .agg a.cells.toArray := h.dep n 5 63 (by kernel_rfl) rfl
                      have e1 : a1.eval (.tmp 68) = .agg b.cells.toArray := h.dep n 10 68 (by kernel_rfl) rfl
                      refine JF.call (FRi_mono ()) h hK 69 rfl 118 _ _ #[.agg a.cells.toArray, .agg b.cells.toArray] rfl Tryz.call118 ?_ (rless_any w1 a b) ?_
                      · simp only [List.map_toArray, List.map_cons, List.map_nil, e0, e1]
                      · rintro e w3 ⟨rfl, b9⟩
                        exact ⟨_, rfl, (show Value.bool _ = Value.bool _ by rw [← hlr.out]), trivial, b9⟩
                    · refine .inl ⟨.inl rfl, ?_⟩
                      exact .inl ⟨by kernel_rfl, fun L a1 w1 n h => ⟨_, rfl, run_notB (.tmp 69) false rfl (h.dep n 11 69 (by kernel_rfl) rfl) rfl⟩⟩
                    · refine .inl ⟨.inl rfl, ?_⟩
                      exact .inl ⟨by kernel_rfl, fun L a1 w1 n h => ⟨_, rfl, run_move (.tmp 70) rfl (h.dep n 12 70 (by kernel_rfl) rfl)⟩⟩
                    · exact .inr ⟨⟨13, false, 71, rfl, by kernel_rfl, rfl, by simp, fun v h => by rw [show v = .bool true from h]; first | exact ne_tf | exact ne_ft | exact ne_undef _⟩, by kernel_rfl, rfl⟩
                    · exact .inr ⟨⟨13, false, 71, rfl, by kernel_rfl, rfl, by simp, fun v h => by rw [show v = .bool true from h]; first | exact ne_tf | exact ne_ft | exact ne_undef _⟩, by kernel_rfl, rfl⟩
                    · exact .inr ⟨⟨13, false, 71, rfl, by kernel_rfl, rfl, by simp, fun v h => by rw [show v = .bool true from h]; first | exact ne_tf | exact ne_ft | exact ne_undef _⟩, by kernel_rfl, rfl⟩
                    · exact .inr ⟨⟨13, false, 71, rfl, by kernel_rfl, rfl, by simp, fun v h => by rw [show v = .bool true from h]; first | exact ne_tf | exact ne_ft | exact ne_undef _⟩, by kernel_rfl, rfl⟩
                    · exact .inr ⟨⟨13, false, 71, rfl, by kernel_rfl, rfl, by simp, fun v h => by rw [show v = .bool true from h]; first | exact ne_tf | exact ne_ft | exact ne_undef _⟩, by kernel_rfl, rfl⟩
                    · exact .inr ⟨⟨13, false, 71, rfl, by kernel_rfl, rfl, by simp, fun v h => by rw [show v = .bool true from h]; first | exact ne_tf | exact ne_ft | exact ne_undef _⟩, by kernel_rfl, rfl⟩
                    · exact .inr ⟨⟨13, false, 71, rfl, by kernel_rfl, rfl, by simp, fun v h => by rw [show v = .bool true from h]; first | exact ne_tf | exact ne_ft | exact ne_undef _⟩, by kernel_rfl, rfl⟩
                    · exact .inr ⟨⟨13, false, 71, rfl, by kernel_rfl, rfl, by simp, fun v h => by rw [show v = .bool true from h]; first | exact ne_tf | exact ne_ft | exact ne_undef _⟩, by kernel_rfl, rfl⟩
                    · exact .inr ⟨⟨13, false, 71, rfl, by kernel_rfl, rfl, by simp, fun v h => by rw [show v = .bool true from h]; first | exact ne_tf | exact ne_ft | exact ne_undef _⟩, by kernel_rfl, rfl⟩
                    · exact .inr ⟨⟨13, false, 71, rfl, by kernel_rfl, rfl, by simp, fun v h => by rw [show v = .bool true from h]; first | exact ne_tf | exact ne_ft | exact ne_undef _⟩, by kernel_rfl, rfl⟩
                    · exact .inr ⟨⟨13, false, 71, rfl, by kernel_rfl, rfl, by simp, fun v h => by rw [show v = .bool true from h]; first | exact ne_tf | exact ne_ft | exact ne_undef _⟩, by kernel_rfl, rfl⟩
                    · exact .inr ⟨⟨13, false, 71, rfl, by kernel_rfl, rfl, by simp, fun v h => by rw [show v = .bool true from h]; first | exact ne_tf | exact ne_ft | exact ne_undef _⟩, by kernel_rfl, rfl⟩
                    · refine .inl ⟨.inl rfl, ?_⟩
                      exact .inl ⟨by kernel_rfl, fun L a1 w1 n h => ⟨_, rfl, run_pickT (.tmp 71) _ _ rfl (h.dep n 13 71 (by kernel_rfl) rfl) rfl⟩⟩
                  case he14f =>
                    intro V w11 hV hJ
                    have b11 : Below wr.heap.size wr w11 := hJ.1
                    have hE : V 26 = .bool true := hV 26 _ rfl
                    clear hV hJ
                    simp only [putOps, List.setIfInBounds_toArray, List.set_cons_succ, List.set_cons_zero, Nat.reduceAdd]
                    rw [hE]
                    refine hK6 _ _ ?_
                    go_wp2_with fail
                    go_ret
                    have hx : x.dord = false := by
                      cases hq : riseB Sc.less x.ss with
                      | false => unfold Vl.dord; rw [hq]; simp
                      | true =>
                        have := riseB_take hq (j + 1)
                        rw [hmore.out, Bool.and_false] at this; cases this
                    exact ⟨by rw [hx]; rfl, B1.trans ((BW.trans (b11.mono hwb)).mono B1.size)⟩
                | true =>
                  go_wp2_with fail
                  rename_i K6 hK6
                  refine wp_region_valsG [11, 24] (SRi14t g1 ga oa i j C4 x a b fi fm) (JF wr [11, 24] (FRi ())) (by kernel_rfl) (by kernel_rfl) (by kernel_rfl) (by kernel_rfl) (JF.start _) ?obs14t ?he14t
                  case obs14t =>
                    refine ⟨?_, ?_, ?_, ?_, ?_, ?_, ?_, ?_, ?_, ?_, ?_, ?_, ?_, ?_, ?_, ?_, ?_, ?_, ?_, ?_, ?_, ?_, ?_, ?_, ?_, ?_, ?_, trivial⟩
                    · refine ⟨.inl rfl, ?_⟩
                      refine .inl ⟨by kernel_rfl, fun L a1 w1 n h => ⟨.pointer (some ⟨g1, 4, none⟩), rfl, ?_⟩⟩
                      have e0 : a1.eval (.tmp 1) = _ := h.var n 1 (by kernel_rfl)
                      unfold execOp
                      simp only [e0]
                      go_simp
                    · refine ⟨.inl rfl, ?_⟩
                      exact .inl ⟨by kernel_rfl, fun L a1 w1 n h => ⟨_, rfl, run_load1 24 (.tmp 58) g1 4 _ rfl Tryz.isAgg24 (h.dep n 0 58 (by kernel_rfl) rfl) (hma w1 h.inv.1)⟩⟩
                    · refine ⟨.inl rfl, ?_⟩
                      exact .inl ⟨by kernel_rfl, fun L a1 w1 n h => ⟨_, rfl, run_move (.tmp 5) rfl (h.var n 5 (by kernel_rfl))⟩⟩
                    · refine ⟨.inl rfl, ?_⟩
                      exact .inl ⟨by kernel_rfl, fun L a1 w1 n h => ⟨_, rfl, run_subZ (.tmp 60) (.const (.int .i64 1)) rfl (h.dep n 2 60 (by kernel_rfl) rfl) rfl hsub.out⟩⟩
                    · refine ⟨.inl rfl, ?_⟩
                      exact .inl ⟨by kernel_rfl, fun L a1 w1 n h => ⟨_, rfl, run_idxO 24 (.tmp 59) (.tmp 61) 99 2 ga oa _ _ i rfl Tryz.underlying24 Tryz.sizeOf99 (h.dep n 1 59 (by kernel_rfl) rfl) (h.dep n 3 61 (by kernel_rfl) rfl) hlt0.out⟩⟩
                    · refine ⟨.inl rfl, ?_⟩
                      exact .inl ⟨by kernel_rfl, fun L a1 w1 n h => ⟨_, rfl, run_loadCs 99 (.tmp 62) ga (oa + i * 2) a.cells _ rfl (h.dep n 4 62 (by kernel_rfl) rfl) (hac w1 h.inv.1) Tryz.underlying99 rfl (szSc a)⟩⟩
                    · refine ⟨.inl rfl, ?_⟩
                      refine .inl ⟨by kernel_rfl, fun L a1 w1 n h => ⟨.pointer (some ⟨g1, 4, none⟩), rfl, ?_⟩⟩
                      have e0 : a1.eval (.tmp 1) = _ := h.var n 1 (by kernel_rfl)
                      unfold execOp
                      simp only [e0]
                      go_simp
                    · refine ⟨.inl rfl, ?_⟩
                      exact .inl ⟨by kernel_rfl, fun L a1 w1 n h => ⟨_, rfl, run_load1 24 (.tmp 64) g1 4 _ rfl Tryz.isAgg24 (h.dep n 6 64 (by kernel_rfl) rfl) (hma w1 h.inv.1)⟩⟩
                    · refine ⟨.inl rfl, ?_⟩
                      exact .inl ⟨by kernel_rfl, fun L a1 w1 n h => ⟨_, rfl, run_move (.tmp 5) rfl (h.var n 5 (by kernel_rfl))⟩⟩
                    · refine ⟨.inl rfl, ?_⟩
                      exact .inl ⟨by kernel_rfl, fun L a1 w1 n h => ⟨_, rfl, run_idxO 24 (.tmp 65) (.tmp 66) 99 2 ga oa _ _ j rfl Tryz.underlying24 Tryz.sizeOf99 (h.dep n 7 65 (by kernel_rfl) rfl) (h.dep n 8 66 (by kernel_rfl) rfl) hlt.out⟩⟩
                    · refine ⟨.inl rfl, ?_⟩
                      exact .inl ⟨by kernel_rfl, fun L a1 w1 n h => ⟨_, rfl, run_loadCs 99 (.tmp 67) ga (oa + j * 2) b.cells _ rfl (h.dep n 9 67 (by kernel_rfl) rfl) (hbc w1 h.inv.1) Tryz.underlying99 rfl (szSc b)⟩⟩
                    · refine ⟨.inl rfl, ?_⟩
                      refine .inr fun L a1 w1 n h K hK => ?_
                      have e0 : a1.eval (.tmp 63) = .agg a.cells.toArray := h.dep n 5 63 (by kernel_rfl) rfl
                      have e1 : a1.eval (.tmp 68) = .agg b.cells.toArray := h.dep n 10 68 (by kernel_rfl) rfl
                      refine JF.call (FRi_mono ()) h hK 69 rfl 118 _ _ #[.agg a.cells.toArray, .agg b.cells.toArray] rfl Tryz.call118 ?_ (rless_any w1 a b) ?_
                      · simp only [List.map_toArray, List.map_cons, List.map_nil, e0, e1]
                      · rintro e w3 ⟨rfl, b9⟩
                        exact ⟨_, rfl, (show Value.bool _ = Value.bool _ by rw [← hlr.out]), trivial, b9⟩
                    · refine ⟨.inl rfl, ?_⟩
                      exact .inl ⟨by kernel_rfl, fun L a1 w1 n h => ⟨_, rfl, run_notB (.tmp 69) true rfl (h.dep n 11 69 (by kernel_rfl) rfl) rfl⟩⟩
                    · refine ⟨.inl rfl, ?_⟩
                      exact .inl ⟨by kernel_rfl, fun L a1 w1 n h => ⟨_, rfl, run_move (.tmp 70) rfl (h.dep n 12 70 (by kernel_rfl) rfl)⟩⟩
                    · refine ⟨.inr ⟨13, false, 71, rfl, by kernel_rfl, rfl, by simp, fun v h => h⟩, ?_⟩
                      refine .inl ⟨by kernel_rfl, fun L a1 w1 n h => ⟨.pointer (some ⟨g1, 4, none⟩), rfl, ?_⟩⟩
                      have e0 : a1.eval (.tmp 1) = _ := h.var n 1 (by kernel_rfl)
                      unfold execOp
                      simp only [e0]
                      go_simp
                    · refine ⟨.inr ⟨13, false, 71, rfl, by kernel_rfl, rfl, by simp, fun v h => h⟩, ?_⟩
                      exact .inl ⟨by kernel_rfl, fun L a1 w1 n h => ⟨_, rfl, run_load1 24 (.tmp 72) g1 4 _ rfl Tryz.isAgg24 (h.dep n 14 72 (by kernel_rfl) rfl) (hma w1 h.inv.1)⟩⟩
                    · refine ⟨.inr ⟨13, false, 71, rfl, by kernel_rfl, rfl, by simp, fun v h => h⟩, ?_⟩
                      exact .inl ⟨by kernel_rfl, fun L a1 w1 n h => ⟨_, rfl, run_move (.tmp 5) rfl (h.var n 5 (by kernel_rfl))⟩⟩
                    · refine ⟨.inr ⟨13, false, 71, rfl, by kernel_rfl, rfl, by simp, fun v h => h⟩, ?_⟩
                      refine .inl ⟨by kernel_rfl, fun L a1 w1 n h => ⟨.slice (some ⟨ga, oa, none⟩) j C4, rfl, ?_⟩⟩
                      have e0 : a1.eval (.tmp 73) = _ := h.dep n 15 73 (by kernel_rfl) rfl
                      have e1 : a1.eval (.tmp 74) = _ := h.dep n 16 74 (by kernel_rfl) rfl
                      unfold execOp
                      simp only [e0, e1, Option.map_some, Option.map_none, Sem.run_bind, hS1, Result.andThen_ok, Sem.run_pure]
                    · refine ⟨.inr ⟨13, false, 71, rfl, by kernel_rfl, rfl, by simp, fun v h => h⟩, ?_⟩
                      refine .inl ⟨by kernel_rfl, fun L a1 w1 n h => ⟨.pointer (some ⟨g1, 4, none⟩), rfl, ?_⟩⟩
                      have e0 : a1.eval (.tmp 1) = _ := h.var n 1 (by kernel_rfl)
                      unfold execOp
                      simp only [e0]
                      go_simp
                    · refine ⟨.inr ⟨13, false, 71, rfl, by kernel_rfl, rfl, by simp, fun v h => h⟩, ?_⟩
                      exact .inl ⟨by kernel_rfl, fun L a1 w1 n h => ⟨_, rfl, run_load1 24 (.tmp 76) g1 4 _ rfl Tryz.isAgg24 (h.dep n 18 76 (by kernel_rfl) rfl) (hma w1 h.inv.1)⟩⟩
                    · refine ⟨.inr ⟨13, false, 71, rfl, by kernel_rfl, rfl, by simp, fun v h => h⟩, ?_⟩
                      exact .inl ⟨by kernel_rfl, fun L a1 w1 n h => ⟨_, rfl, run_move (.tmp 5) rfl (h.var n 5 (by kernel_rfl))⟩⟩
                    · refine ⟨.inr ⟨13, false, 71, rfl, by kernel_rfl, rfl, by simp, fun v h => h⟩, ?_⟩
                      exact .inl ⟨by kernel_rfl, fun L a1 w1 n h => ⟨_, rfl, run_idxO 24 (.tmp 77) (.tmp 78) 99 2 ga oa _ _ j rfl Tryz.underlying24 Tryz.sizeOf99 (h.dep n 19 77 (by kernel_rfl) rfl) (h.dep n 20 78 (by kernel_rfl) rfl) hlt.out⟩⟩
                    · refine ⟨.inr ⟨13, false, 71, rfl, by kernel_rfl, rfl, by simp, fun v h => h⟩, ?_⟩
                      refine .inl ⟨by kernel_rfl, fun L a1 w1 n h => ⟨.pointer (some ⟨ga, oa + j * 2, none⟩), rfl, ?_⟩⟩
                      have e0 : a1.eval (.tmp 79) = _ := h.dep n 21 79 (by kernel_rfl) rfl
                      unfold execOp
                      simp only [e0]
                      go_simp
                    · refine ⟨.inr ⟨13, false, 71, rfl, by kernel_rfl, rfl, by simp, fun v h => h⟩, ?_⟩
                      exact .inl ⟨by kernel_rfl, fun L a1 w1 n h => ⟨_, rfl, run_load1 9 (.tmp 80) ga (oa + j * 2) _ rfl Tryz.isAgg9 (h.dep n 22 80 (by kernel_rfl) rfl) (hbm w1 h.inv.1)⟩⟩
                    · refine ⟨.inr ⟨13, false, 71, rfl, by kernel_rfl, rfl, by simp, fun v h => h⟩, ?_⟩
                      refine .inr fun L a1 w1 n h K hK => ?_
                      have e0 : a1.eval (.tmp 75) = .slice (some ⟨ga, oa, none⟩) j C4 := h.dep n 17 75 (by kernel_rfl) rfl
                      have e1 : a1.eval (.tmp 81) = encStr b.m := h.dep n 23 81 (by kernel_rfl) rfl
                      refine JF.call (FRi_mono ()) h hK 82 rfl 124 _ _ #[.slice (some ⟨ga, oa, none⟩) j C4, encStr b.m] rfl Tryz.call124 ?_ (rfindS_any w1 _ (x.ss.take j) b.m (hsl w1 h.inv.1) (by rw [List.length_take]; have := few.s; omega)) ?_
                      · simp only [List.map_toArray, List.map_cons, List.map_nil, e0, e1]
                      · rintro e w3 ⟨rfl, h9⟩
                        exact ⟨_, rfl, (show Value.int .i64 _ = Value.int .i64 _ by rw [hfi.out]), trivial, (by rw [← h9]; exact Below.refl _ _)⟩
                    · refine ⟨.inr ⟨13, false, 71, rfl, by kernel_rfl, rfl, by simp, fun v h => h⟩, ?_⟩
                      exact .inl ⟨by kernel_rfl, fun L a1 w1 n h => ⟨_, rfl, run_geqI (.tmp 82) (.const (.int .i64 0)) rfl (h.dep n 24 82 (by kernel_rfl) rfl) rfl hfm.out⟩⟩
                    · refine ⟨.inl rfl, ?_⟩
                      exact .inl ⟨by kernel_rfl, fun L a1 w1 n h => ⟨_, rfl, run_pickF (.tmp 71) _ _ rfl (h.dep n 13 71 (by kernel_rfl) rfl) (h.dep n 25 83 (by kernel_rfl) rfl)⟩⟩
                  case he14t =>
                    intro V w11 hV hJ
                    have b11 : Below wr.heap.size wr w11 := hJ.1
                    have hE : V 26 = .bool fm := hV 26 _ rfl
                    clear hV hJ
                    simp only [putOps, List.setIfInBounds_toArray, List.set_cons_succ, List.set_cons_zero, Nat.reduceAdd]
                    rw [hE]
                    refine hK6 _ _ ?_
                    cases fm with
                    | true =>
                      go_wp2_with fail
                      go_ret
                      have hx : x.dord = false := by
                        cases hq : frB x.ss with
                        | false => unfold Vl.dord; rw [hq]; simp
                        | true =>
                          have := frB_take hq (j + 1)
                          rw [hfr.out, hhas.out] at this; cases this
                      exact ⟨by rw [hx]; rfl, B1.trans ((BW.trans (b11.mono hwb)).mono B1.size)⟩
                    | false =>
                      go_wp2_with fail
                      go_roundw
                      case rel => exact ⟨j + 1, by omega, by have := hlt.out; omega, by go_num, ⟨by rw [hmore.out, hsame.out.1]; rfl, by rw [hfr.out, hhas.out, hsame.out.2]; rfl⟩, BW.trans (b11.mono hwb)⟩
                      case measure => have := hlt.out; simp [intOf]; omega
              · have hno : ¬ (j : Int) < (x.ss.length : Int) := by omega
                have hx : x.dord = true := by
                  rw [List.take_of_length_le (by omega)] at hsame
                  unfold Vl.dord
                  rw [hP.out, hL.out, hsame.1, hsame.2]; rfl
                replace hx := hide hx
                replace hlt := hide hlt
                clear hsame hi hj1
                go_wp2_with fail
                go_ret
                exact ⟨by rw [hx.out]; rfl, B1.trans (BW.mono B1.size)⟩
end Go.Proofs.YtpbkejmffddelaaGreat

/-
  The document's odd, Check. Own work.
-/
namespace Go.Proofs.YtpbkejmffddelaaGreat
open Go.RowKit Go.Shelf
/-- Whether a value has something that its kind does not have. -/
def Vl.oddB (x : Vl) : Bool := (!(decide (x.k = 1)) && !(decide (x.t = []))) || ((!(decide (x.k = 2)) && decide (0 < x.ps.length)) || ((!(decide (x.k = 5)) && decide (0 < x.ss.length)) || (!(decide (x.k = 3)) && (!(decide (x.k = 4)) && decide (0 < x.ls.length)))))
set_option maxRecDepth 100000 in
set_option maxHeartbeats 8000000 in
theorem odd_any (w : World) (x : Vl) (vp vl vs : Value) (h : VlM w w.heap.size x vp vl vs) : Calls Tryz.prog 81 #[vlV x vp vl vs] w fun e w' => e = .returned (.bool x.oddB) ∧ Below w.heap.size w w' := by
  obtain ⟨A2, C2, rfl⟩ := h.p.sl
  obtain ⟨A3, C3, rfl⟩ := h.l.sl
  obtain ⟨A4, C4, rfl⟩ := h.s.sl
  clear h
  by_cases k1 : x.k = 1
  · skip
    have k2 : ¬ x.k = 2 := by rw [k1]; decide
    have k5 : ¬ x.k = 5 := by rw [k1]; decide
    have k3 : ¬ x.k = 3 := by rw [k1]; decide
    have k4 : ¬ x.k = 4 := by rw [k1]; decide
    have e1 : decide (x.k = 1) = true := decide_eq_true k1
    have f1 : (x.k == 1) = true := by simp [k1]
    have i1 : (x.k != 1) = false := by simp [k1]
    have e2 : decide (x.k = 2) = false := decide_eq_false k2
    have f2 : (x.k == 2) = false := beq_eq_false_iff_ne.2 k2
    have i2 : (x.k != 2) = true := bne_iff_ne.2 k2
    have e5 : decide (x.k = 5) = false := decide_eq_false k5
    have f5 : (x.k == 5) = false := beq_eq_false_iff_ne.2 k5
    have i5 : (x.k != 5) = true := bne_iff_ne.2 k5
    have e3 : decide (x.k = 3) = false := decide_eq_false k3
    have f3 : (x.k == 3) = false := beq_eq_false_iff_ne.2 k3
    have i3 : (x.k != 3) = true := bne_iff_ne.2 k3
    have e4 : decide (x.k = 4) = false := decide_eq_false k4
    have f4 : (x.k == 4) = false := beq_eq_false_iff_ne.2 k4
    have i4 : (x.k != 4) = true := bne_iff_ne.2 k4
    replace k1 := hide k1
    replace k2 := hide k2
    replace k5 := hide k5
    replace k3 := hide k3
    replace k4 := hide k4
    by_cases hps : 0 < x.ps.length
    · have dps := decide_eq_true hps
      have ho : x.oddB = true := by
        unfold Vl.oddB
        simp only [e1, e2, e3, e4, e5, dps, Bool.not_false, Bool.not_true, Bool.false_and, Bool.true_and, Bool.false_or, Bool.true_or, Bool.or_false, Bool.or_true]
      rw [ho]
      clear ho
      go_enter Tryz.func81, Tryz.ntmps81
      go_wp2_with (first
        | ((with_reducible refine wl_box (o := ⟨some 1, _, _, _, _, _⟩) rfl 26 (.tmp 0) _ (vlC x (.slice A2 x.ps.length C2) (.slice A3 x.ls.length C3) (.slice A4 x.ss.length C4)) rfl rfl rfl ?_); intro g1 w1 r1 p1 l1 b1; have c0 := r1.cell (j := 0) rfl; have c1 := r1.cell (j := 1) rfl; have c2 := r1.cell (j := 2) rfl; have c3 := r1.cell (j := 3) rfl; have c4 := r1.cell (j := 4) rfl))
      go_ret
      exact ⟨rfl, b1⟩
    · have dps := decide_eq_false hps
      by_cases hss : 0 < x.ss.length
      · have dss := decide_eq_true hss
        have ho : x.oddB = true := by
          unfold Vl.oddB
          simp only [e1, e2, e3, e4, e5, dps, dss, Bool.not_false, Bool.not_true, Bool.false_and, Bool.true_and, Bool.false_or, Bool.true_or, Bool.or_false, Bool.or_true]
        rw [ho]
        clear ho
        go_enter Tryz.func81, Tryz.ntmps81
        go_wp2_with (first
          | ((with_reducible refine wl_box (o := ⟨some 1, _, _, _, _, _⟩) rfl 26 (.tmp 0) _ (vlC x (.slice A2 x.ps.length C2) (.slice A3 x.ls.length C3) (.slice A4 x.ss.length C4)) rfl rfl rfl ?_); intro g1 w1 r1 p1 l1 b1; have c0 := r1.cell (j := 0) rfl; have c1 := r1.cell (j := 1) rfl; have c2 := r1.cell (j := 2) rfl; have c3 := r1.cell (j := 3) rfl; have c4 := r1.cell (j := 4) rfl))
        go_ret
        exact ⟨rfl, b1⟩
      · have dss := decide_eq_false hss
        by_cases hls : 0 < x.ls.length
        · have dls := decide_eq_true hls
          have ho : x.oddB = true := by
            unfold Vl.oddB
            simp only [e1, e2, e3, e4, e5, dps, dss, dls, Bool.not_false, Bool.not_true, Bool.false_and, Bool.true_and, Bool.false_or, Bool.true_or, Bool.or_false, Bool.or_true]
          rw [ho]
          clear ho
          go_enter Tryz.func81, Tryz.ntmps81
          go_wp2_with (first
            | ((with_reducible refine wl_box (o := ⟨some 1, _, _, _, _, _⟩) rfl 26 (.tmp 0) _ (vlC x (.slice A2 x.ps.length C2) (.slice A3 x.ls.length C3) (.slice A4 x.ss.length C4)) rfl rfl rfl ?_); intro g1 w1 r1 p1 l1 b1; have c0 := r1.cell (j := 0) rfl; have c1 := r1.cell (j := 1) rfl; have c2 := r1.cell (j := 2) rfl; have c3 := r1.cell (j := 3) rfl; have c4 := r1.cell (j := 4) rfl))
          go_ret
          exact ⟨rfl, b1⟩
        · have dls := decide_eq_false hls
          have ho : x.oddB = false := by
            unfold Vl.oddB
            simp only [e1, e2, e3, e4, e5, dps, dss, dls, Bool.not_false, Bool.not_true, Bool.false_and, Bool.true_and, Bool.false_or, Bool.true_or, Bool.or_false, Bool.or_true]
          rw [ho]
          clear ho
          go_enter Tryz.func81, Tryz.ntmps81
          go_wp2_with (first
            | ((with_reducible refine wl_box (o := ⟨some 1, _, _, _, _, _⟩) rfl 26 (.tmp 0) _ (vlC x (.slice A2 x.ps.length C2) (.slice A3 x.ls.length C3) (.slice A4 x.ss.length C4)) rfl rfl rfl ?_); intro g1 w1 r1 p1 l1 b1; have c0 := r1.cell (j := 0) rfl; have c1 := r1.cell (j := 1) rfl; have c2 := r1.cell (j := 2) rfl; have c3 := r1.cell (j := 3) rfl; have c4 := r1.cell (j := 4) rfl))
          go_ret
          exact ⟨rfl, b1⟩
  · skip
    by_cases k2 : x.k = 2
    · skip
      have k1 : ¬ x.k = 1 := by rw [k2]; decide
      have k5 : ¬ x.k = 5 := by rw [k2]; decide
      have k3 : ¬ x.k = 3 := by rw [k2]; decide
      have k4 : ¬ x.k = 4 := by rw [k2]; decide
      have e1 : decide (x.k = 1) = false := decide_eq_false k1
      have f1 : (x.k == 1) = false := beq_eq_false_iff_ne.2 k1
      have i1 : (x.k != 1) = true := bne_iff_ne.2 k1
      have e2 : decide (x.k = 2) = true := decide_eq_true k2
      have f2 : (x.k == 2) = true := by simp [k2]
      have i2 : (x.k != 2) = false := by simp [k2]
      have e5 : decide (x.k = 5) = false := decide_eq_false k5
      have f5 : (x.k == 5) = false := beq_eq_false_iff_ne.2 k5
      have i5 : (x.k != 5) = true := bne_iff_ne.2 k5
      have e3 : decide (x.k = 3) = false := decide_eq_false k3
      have f3 : (x.k == 3) = false := beq_eq_false_iff_ne.2 k3
      have i3 : (x.k != 3) = true := bne_iff_ne.2 k3
      have e4 : decide (x.k = 4) = false := decide_eq_false k4
      have f4 : (x.k == 4) = false := beq_eq_false_iff_ne.2 k4
      have i4 : (x.k != 4) = true := bne_iff_ne.2 k4
      replace k1 := hide k1
      replace k2 := hide k2
      replace k5 := hide k5
      replace k3 := hide k3
      replace k4 := hide k4
      by_cases ht : x.t = []
      · have dt := decide_eq_true ht
        have hte := hide (show (!decide (x.t = [])) = false by rw [dt]; rfl)
        replace ht := hide ht
        by_cases hss : 0 < x.ss.length
        · have dss := decide_eq_true hss
          have ho : x.oddB = true := by
            unfold Vl.oddB
            simp only [e1, e2, e3, e4, e5, dt, dss, Bool.not_false, Bool.not_true, Bool.false_and, Bool.true_and, Bool.false_or, Bool.true_or, Bool.or_false, Bool.or_true]
          rw [ho]
          clear ho
          go_enter Tryz.func81, Tryz.ntmps81
          go_wp2_with (first
            | ((with_reducible refine wl_box (o := ⟨some 1, _, _, _, _, _⟩) rfl 26 (.tmp 0) _ (vlC x (.slice A2 x.ps.length C2) (.slice A3 x.ls.length C3) (.slice A4 x.ss.length C4)) rfl rfl rfl ?_); intro g1 w1 r1 p1 l1 b1; have c0 := r1.cell (j := 0) rfl; have c1 := r1.cell (j := 1) rfl; have c2 := r1.cell (j := 2) rfl; have c3 := r1.cell (j := 3) rfl; have c4 := r1.cell (j := 4) rfl)
            | (with_reducible refine wg_run (o := ⟨some 9, _, _, _, _, _⟩) 3 true 6 rfl rfl rfl (.bool false) (run_neStr (.tmp 8) _ rfl rfl rfl hte.out) ?_))
          go_ret
          exact ⟨rfl, b1⟩
        · have dss := decide_eq_false hss
          by_cases hls : 0 < x.ls.length
          · have dls := decide_eq_true hls
            have ho : x.oddB = true := by
              unfold Vl.oddB
              simp only [e1, e2, e3, e4, e5, dt, dss, dls, Bool.not_false, Bool.not_true, Bool.false_and, Bool.true_and, Bool.false_or, Bool.true_or, Bool.or_false, Bool.or_true]
            rw [ho]
            clear ho
            go_enter Tryz.func81, Tryz.ntmps81
            go_wp2_with (first
              | ((with_reducible refine wl_box (o := ⟨some 1, _, _, _, _, _⟩) rfl 26 (.tmp 0) _ (vlC x (.slice A2 x.ps.length C2) (.slice A3 x.ls.length C3) (.slice A4 x.ss.length C4)) rfl rfl rfl ?_); intro g1 w1 r1 p1 l1 b1; have c0 := r1.cell (j := 0) rfl; have c1 := r1.cell (j := 1) rfl; have c2 := r1.cell (j := 2) rfl; have c3 := r1.cell (j := 3) rfl; have c4 := r1.cell (j := 4) rfl)
              | (with_reducible refine wg_run (o := ⟨some 9, _, _, _, _, _⟩) 3 true 6 rfl rfl rfl (.bool false) (run_neStr (.tmp 8) _ rfl rfl rfl hte.out) ?_))
            go_ret
            exact ⟨rfl, b1⟩
          · have dls := decide_eq_false hls
            have ho : x.oddB = false := by
              unfold Vl.oddB
              simp only [e1, e2, e3, e4, e5, dt, dss, dls, Bool.not_false, Bool.not_true, Bool.false_and, Bool.true_and, Bool.false_or, Bool.true_or, Bool.or_false, Bool.or_true]
            rw [ho]
            clear ho
            go_enter Tryz.func81, Tryz.ntmps81
            go_wp2_with (first
              | ((with_reducible refine wl_box (o := ⟨some 1, _, _, _, _, _⟩) rfl 26 (.tmp 0) _ (vlC x (.slice A2 x.ps.length C2) (.slice A3 x.ls.length C3) (.slice A4 x.ss.length C4)) rfl rfl rfl ?_); intro g1 w1 r1 p1 l1 b1; have c0 := r1.cell (j := 0) rfl; have c1 := r1.cell (j := 1) rfl; have c2 := r1.cell (j := 2) rfl; have c3 := r1.cell (j := 3) rfl; have c4 := r1.cell (j := 4) rfl)
              | (with_reducible refine wg_run (o := ⟨some 9, _, _, _, _, _⟩) 3 true 6 rfl rfl rfl (.bool false) (run_neStr (.tmp 8) _ rfl rfl rfl hte.out) ?_))
            go_ret
            exact ⟨rfl, b1⟩
      · have dt := decide_eq_false ht
        have hte := hide (show (!decide (x.t = [])) = true by rw [dt]; rfl)
        replace ht := hide ht
        have ho : x.oddB = true := by
          unfold Vl.oddB
          simp only [e1, e2, e3, e4, e5, dt, Bool.not_false, Bool.not_true, Bool.false_and, Bool.true_and, Bool.false_or, Bool.true_or, Bool.or_false, Bool.or_true]
        rw [ho]
        clear ho
        go_enter Tryz.func81, Tryz.ntmps81
        go_wp2_with (first
          | ((with_reducible refine wl_box (o := ⟨some 1, _, _, _, _, _⟩) rfl 26 (.tmp 0) _ (vlC x (.slice A2 x.ps.length C2) (.slice A3 x.ls.length C3) (.slice A4 x.ss.length C4)) rfl rfl rfl ?_); intro g1 w1 r1 p1 l1 b1; have c0 := r1.cell (j := 0) rfl; have c1 := r1.cell (j := 1) rfl; have c2 := r1.cell (j := 2) rfl; have c3 := r1.cell (j := 3) rfl; have c4 := r1.cell (j := 4) rfl)
          | (with_reducible refine wg_run (o := ⟨some 9, _, _, _, _, _⟩) 3 true 6 rfl rfl rfl (.bool true) (run_neStr (.tmp 8) _ rfl rfl rfl hte.out) ?_))
        go_ret
        exact ⟨rfl, b1⟩
    · skip
      by_cases k3 : x.k = 3
      · skip
        have k1 : ¬ x.k = 1 := by rw [k3]; decide
        have k2 : ¬ x.k = 2 := by rw [k3]; decide
        have k5 : ¬ x.k = 5 := by rw [k3]; decide
        have k4 : ¬ x.k = 4 := by rw [k3]; decide
        have e1 : decide (x.k = 1) = false := decide_eq_false k1
        have f1 : (x.k == 1) = false := beq_eq_false_iff_ne.2 k1
        have i1 : (x.k != 1) = true := bne_iff_ne.2 k1
        have e2 : decide (x.k = 2) = false := decide_eq_false k2
        have f2 : (x.k == 2) = false := beq_eq_false_iff_ne.2 k2
        have i2 : (x.k != 2) = true := bne_iff_ne.2 k2
        have e5 : decide (x.k = 5) = false := decide_eq_false k5
        have f5 : (x.k == 5) = false := beq_eq_false_iff_ne.2 k5
        have i5 : (x.k != 5) = true := bne_iff_ne.2 k5
        have e3 : decide (x.k = 3) = true := decide_eq_true k3
        have f3 : (x.k == 3) = true := by simp [k3]
        have i3 : (x.k != 3) = false := by simp [k3]
        have e4 : decide (x.k = 4) = false := decide_eq_false k4
        have f4 : (x.k == 4) = false := beq_eq_false_iff_ne.2 k4
        have i4 : (x.k != 4) = true := bne_iff_ne.2 k4
        replace k1 := hide k1
        replace k2 := hide k2
        replace k5 := hide k5
        replace k3 := hide k3
        replace k4 := hide k4
        by_cases ht : x.t = []
        · have dt := decide_eq_true ht
          have hte := hide (show (!decide (x.t = [])) = false by rw [dt]; rfl)
          replace ht := hide ht
          by_cases hps : 0 < x.ps.length
          · have dps := decide_eq_true hps
            have ho : x.oddB = true := by
              unfold Vl.oddB
              simp only [e1, e2, e3, e4, e5, dt, dps, Bool.not_false, Bool.not_true, Bool.false_and, Bool.true_and, Bool.false_or, Bool.true_or, Bool.or_false, Bool.or_true]
            rw [ho]
            clear ho
            go_enter Tryz.func81, Tryz.ntmps81
            go_wp2_with (first
              | ((with_reducible refine wl_box (o := ⟨some 1, _, _, _, _, _⟩) rfl 26 (.tmp 0) _ (vlC x (.slice A2 x.ps.length C2) (.slice A3 x.ls.length C3) (.slice A4 x.ss.length C4)) rfl rfl rfl ?_); intro g1 w1 r1 p1 l1 b1; have c0 := r1.cell (j := 0) rfl; have c1 := r1.cell (j := 1) rfl; have c2 := r1.cell (j := 2) rfl; have c3 := r1.cell (j := 3) rfl; have c4 := r1.cell (j := 4) rfl)
              | (with_reducible refine wg_run (o := ⟨some 9, _, _, _, _, _⟩) 3 true 6 rfl rfl rfl (.bool false) (run_neStr (.tmp 8) _ rfl rfl rfl hte.out) ?_))
            go_ret
            exact ⟨rfl, b1⟩
          · have dps := decide_eq_false hps
            by_cases hss : 0 < x.ss.length
            · have dss := decide_eq_true hss
              have ho : x.oddB = true := by
                unfold Vl.oddB
                simp only [e1, e2, e3, e4, e5, dt, dps, dss, Bool.not_false, Bool.not_true, Bool.false_and, Bool.true_and, Bool.false_or, Bool.true_or, Bool.or_false, Bool.or_true]
              rw [ho]
              clear ho
              go_enter Tryz.func81, Tryz.ntmps81
              go_wp2_with (first
                | ((with_reducible refine wl_box (o := ⟨some 1, _, _, _, _, _⟩) rfl 26 (.tmp 0) _ (vlC x (.slice A2 x.ps.length C2) (.slice A3 x.ls.length C3) (.slice A4 x.ss.length C4)) rfl rfl rfl ?_); intro g1 w1 r1 p1 l1 b1; have c0 := r1.cell (j := 0) rfl; have c1 := r1.cell (j := 1) rfl; have c2 := r1.cell (j := 2) rfl; have c3 := r1.cell (j := 3) rfl; have c4 := r1.cell (j := 4) rfl)
                | (with_reducible refine wg_run (o := ⟨some 9, _, _, _, _, _⟩) 3 true 6 rfl rfl rfl (.bool false) (run_neStr (.tmp 8) _ rfl rfl rfl hte.out) ?_))
              go_ret
              exact ⟨rfl, b1⟩
            · have dss := decide_eq_false hss
              have ho : x.oddB = false := by
                unfold Vl.oddB
                simp only [e1, e2, e3, e4, e5, dt, dps, dss, Bool.not_false, Bool.not_true, Bool.false_and, Bool.true_and, Bool.false_or, Bool.true_or, Bool.or_false, Bool.or_true]
              rw [ho]
              clear ho
              go_enter Tryz.func81, Tryz.ntmps81
              go_wp2_with (first
                | ((with_reducible refine wl_box (o := ⟨some 1, _, _, _, _, _⟩) rfl 26 (.tmp 0) _ (vlC x (.slice A2 x.ps.length C2) (.slice A3 x.ls.length C3) (.slice A4 x.ss.length C4)) rfl rfl rfl ?_); intro g1 w1 r1 p1 l1 b1; have c0 := r1.cell (j := 0) rfl; have c1 := r1.cell (j := 1) rfl; have c2 := r1.cell (j := 2) rfl; have c3 := r1.cell (j := 3) rfl; have c4 := r1.cell (j := 4) rfl)
                | (with_reducible refine wg_run (o := ⟨some 9, _, _, _, _, _⟩) 3 true 6 rfl rfl rfl (.bool false) (run_neStr (.tmp 8) _ rfl rfl rfl hte.out) ?_))
              go_ret
              exact ⟨rfl, b1⟩
        · have dt := decide_eq_false ht
          have hte := hide (show (!decide (x.t = [])) = true by rw [dt]; rfl)
          replace ht := hide ht
          have ho : x.oddB = true := by
            unfold Vl.oddB
            simp only [e1, e2, e3, e4, e5, dt, Bool.not_false, Bool.not_true, Bool.false_and, Bool.true_and, Bool.false_or, Bool.true_or, Bool.or_false, Bool.or_true]
          rw [ho]
          clear ho
          go_enter Tryz.func81, Tryz.ntmps81
          go_wp2_with (first
            | ((with_reducible refine wl_box (o := ⟨some 1, _, _, _, _, _⟩) rfl 26 (.tmp 0) _ (vlC x (.slice A2 x.ps.length C2) (.slice A3 x.ls.length C3) (.slice A4 x.ss.length C4)) rfl rfl rfl ?_); intro g1 w1 r1 p1 l1 b1; have c0 := r1.cell (j := 0) rfl; have c1 := r1.cell (j := 1) rfl; have c2 := r1.cell (j := 2) rfl; have c3 := r1.cell (j := 3) rfl; have c4 := r1.cell (j := 4) rfl)
            | (with_reducible refine wg_run (o := ⟨some 9, _, _, _, _, _⟩) 3 true 6 rfl rfl rfl (.bool true) (run_neStr (.tmp 8) _ rfl rfl rfl hte.out) ?_))
          go_ret
          exact ⟨rfl, b1⟩
      · skip
        by_cases k4 : x.k = 4
        · skip
          have k1 : ¬ x.k = 1 := by rw [k4]; decide
          have k2 : ¬ x.k = 2 := by rw [k4]; decide
          have k5 : ¬ x.k = 5 := by rw [k4]; decide
          have k3 : ¬ x.k = 3 := by rw [k4]; decide
          have e1 : decide (x.k = 1) = false := decide_eq_false k1
          have f1 : (x.k == 1) = false := beq_eq_false_iff_ne.2 k1
          have i1 : (x.k != 1) = true := bne_iff_ne.2 k1
          have e2 : decide (x.k = 2) = false := decide_eq_false k2
          have f2 : (x.k == 2) = false := beq_eq_false_iff_ne.2 k2
          have i2 : (x.k != 2) = true := bne_iff_ne.2 k2
          have e5 : decide (x.k = 5) = false := decide_eq_false k5
          have f5 : (x.k == 5) = false := beq_eq_false_iff_ne.2 k5
          have i5 : (x.k != 5) = true := bne_iff_ne.2 k5
          have e3 : decide (x.k = 3) = false := decide_eq_false k3
          have f3 : (x.k == 3) = false := beq_eq_false_iff_ne.2 k3
          have i3 : (x.k != 3) = true := bne_iff_ne.2 k3
          have e4 : decide (x.k = 4) = true := decide_eq_true k4
          have f4 : (x.k == 4) = true := by simp [k4]
          have i4 : (x.k != 4) = false := by simp [k4]
          replace k1 := hide k1
          replace k2 := hide k2
          replace k5 := hide k5
          replace k3 := hide k3
          replace k4 := hide k4
          by_cases ht : x.t = []
          · have dt := decide_eq_true ht
            have hte := hide (show (!decide (x.t = [])) = false by rw [dt]; rfl)
            replace ht := hide ht
            by_cases hps : 0 < x.ps.length
            · have dps := decide_eq_true hps
              have ho : x.oddB = true := by
                unfold Vl.oddB
                simp only [e1, e2, e3, e4, e5, dt, dps, Bool.not_false, Bool.not_true, Bool.false_and, Bool.true_and, Bool.false_or, Bool.true_or, Bool.or_false, Bool.or_true]
              rw [ho]
              clear ho
              go_enter Tryz.func81, Tryz.ntmps81
              go_wp2_with (first
                | ((with_reducible refine wl_box (o := ⟨some 1, _, _, _, _, _⟩) rfl 26 (.tmp 0) _ (vlC x (.slice A2 x.ps.length C2) (.slice A3 x.ls.length C3) (.slice A4 x.ss.length C4)) rfl rfl rfl ?_); intro g1 w1 r1 p1 l1 b1; have c0 := r1.cell (j := 0) rfl; have c1 := r1.cell (j := 1) rfl; have c2 := r1.cell (j := 2) rfl; have c3 := r1.cell (j := 3) rfl; have c4 := r1.cell (j := 4) rfl)
                | (with_reducible refine wg_run (o := ⟨some 9, _, _, _, _, _⟩) 3 true 6 rfl rfl rfl (.bool false) (run_neStr (.tmp 8) _ rfl rfl rfl hte.out) ?_))
              go_ret
              exact ⟨rfl, b1⟩
            · have dps := decide_eq_false hps
              by_cases hss : 0 < x.ss.length
              · have dss := decide_eq_true hss
                have ho : x.oddB = true := by
                  unfold Vl.oddB
                  simp only [e1, e2, e3, e4, e5, dt, dps, dss, Bool.not_false, Bool.not_true, Bool.false_and, Bool.true_and, Bool.false_or, Bool.true_or, Bool.or_false, Bool.or_true]
                rw [ho]
                clear ho
                go_enter Tryz.func81, Tryz.ntmps81
                go_wp2_with (first
                  | ((with_reducible refine wl_box (o := ⟨some 1, _, _, _, _, _⟩) rfl 26 (.tmp 0) _ (vlC x (.slice A2 x.ps.length C2) (.slice A3 x.ls.length C3) (.slice A4 x.ss.length C4)) rfl rfl rfl ?_); intro g1 w1 r1 p1 l1 b1; have c0 := r1.cell (j := 0) rfl; have c1 := r1.cell (j := 1) rfl; have c2 := r1.cell (j := 2) rfl; have c3 := r1.cell (j := 3) rfl; have c4 := r1.cell (j := 4) rfl)
                  | (with_reducible refine wg_run (o := ⟨some 9, _, _, _, _, _⟩) 3 true 6 rfl rfl rfl (.bool false) (run_neStr (.tmp 8) _ rfl rfl rfl hte.out) ?_))
                go_ret
                exact ⟨rfl, b1⟩
              · have dss := decide_eq_false hss
                have ho : x.oddB = false := by
                  unfold Vl.oddB
                  simp only [e1, e2, e3, e4, e5, dt, dps, dss, Bool.not_false, Bool.not_true, Bool.false_and, Bool.true_and, Bool.false_or, Bool.true_or, Bool.or_false, Bool.or_true]
                rw [ho]
                clear ho
                go_enter Tryz.func81, Tryz.ntmps81
                go_wp2_with (first
                  | ((with_reducible refine wl_box (o := ⟨some 1, _, _, _, _, _⟩) rfl 26 (.tmp 0) _ (vlC x (.slice A2 x.ps.length C2) (.slice A3 x.ls.length C3) (.slice A4 x.ss.length C4)) rfl rfl rfl ?_); intro g1 w1 r1 p1 l1 b1; have c0 := r1.cell (j := 0) rfl; have c1 := r1.cell (j := 1) rfl; have c2 := r1.cell (j := 2) rfl; have c3 := r1.cell (j := 3) rfl; have c4 := r1.cell (j := 4) rfl)
                  | (with_reducible refine wg_run (o := ⟨some 9, _, _, _, _, _⟩) 3 true 6 rfl rfl rfl (.bool false) (run_neStr (.tmp 8) _ rfl rfl rfl hte.out) ?_))
                go_ret
                exact ⟨rfl, b1⟩
          · have dt := decide_eq_false ht
            have hte := hide (show (!decide (x.t = [])) = true by rw [dt]; rfl)
            replace ht := hide ht
            have ho : x.oddB = true := by
              unfold Vl.oddB
              simp only [e1, e2, e3, e4, e5, dt, Bool.not_false, Bool.not_true, Bool.false_and, Bool.true_and, Bool.false_or, Bool.true_or, Bool.or_false, Bool.or_true]
            rw [ho]
            clear ho
            go_enter Tryz.func81, Tryz.ntmps81
            go_wp2_with (first
              | ((with_reducible refine wl_box (o := ⟨some 1, _, _, _, _, _⟩) rfl 26 (.tmp 0) _ (vlC x (.slice A2 x.ps.length C2) (.slice A3 x.ls.length C3) (.slice A4 x.ss.length C4)) rfl rfl rfl ?_); intro g1 w1 r1 p1 l1 b1; have c0 := r1.cell (j := 0) rfl; have c1 := r1.cell (j := 1) rfl; have c2 := r1.cell (j := 2) rfl; have c3 := r1.cell (j := 3) rfl; have c4 := r1.cell (j := 4) rfl)
              | (with_reducible refine wg_run (o := ⟨some 9, _, _, _, _, _⟩) 3 true 6 rfl rfl rfl (.bool true) (run_neStr (.tmp 8) _ rfl rfl rfl hte.out) ?_))
            go_ret
            exact ⟨rfl, b1⟩
        · skip
          by_cases k5 : x.k = 5
          · skip
            have k1 : ¬ x.k = 1 := by rw [k5]; decide
            have k2 : ¬ x.k = 2 := by rw [k5]; decide
            have k3 : ¬ x.k = 3 := by rw [k5]; decide
            have k4 : ¬ x.k = 4 := by rw [k5]; decide
            have e1 : decide (x.k = 1) = false := decide_eq_false k1
            have f1 : (x.k == 1) = false := beq_eq_false_iff_ne.2 k1
            have i1 : (x.k != 1) = true := bne_iff_ne.2 k1
            have e2 : decide (x.k = 2) = false := decide_eq_false k2
            have f2 : (x.k == 2) = false := beq_eq_false_iff_ne.2 k2
            have i2 : (x.k != 2) = true := bne_iff_ne.2 k2
            have e5 : decide (x.k = 5) = true := decide_eq_true k5
            have f5 : (x.k == 5) = true := by simp [k5]
            have i5 : (x.k != 5) = false := by simp [k5]
            have e3 : decide (x.k = 3) = false := decide_eq_false k3
            have f3 : (x.k == 3) = false := beq_eq_false_iff_ne.2 k3
            have i3 : (x.k != 3) = true := bne_iff_ne.2 k3
            have e4 : decide (x.k = 4) = false := decide_eq_false k4
            have f4 : (x.k == 4) = false := beq_eq_false_iff_ne.2 k4
            have i4 : (x.k != 4) = true := bne_iff_ne.2 k4
            replace k1 := hide k1
            replace k2 := hide k2
            replace k5 := hide k5
            replace k3 := hide k3
            replace k4 := hide k4
            by_cases ht : x.t = []
            · have dt := decide_eq_true ht
              have hte := hide (show (!decide (x.t = [])) = false by rw [dt]; rfl)
              replace ht := hide ht
              by_cases hps : 0 < x.ps.length
              · have dps := decide_eq_true hps
                have ho : x.oddB = true := by
                  unfold Vl.oddB
                  simp only [e1, e2, e3, e4, e5, dt, dps, Bool.not_false, Bool.not_true, Bool.false_and, Bool.true_and, Bool.false_or, Bool.true_or, Bool.or_false, Bool.or_true]
                rw [ho]
                clear ho
                go_enter Tryz.func81, Tryz.ntmps81
                go_wp2_with (first
                  | ((with_reducible refine wl_box (o := ⟨some 1, _, _, _, _, _⟩) rfl 26 (.tmp 0) _ (vlC x (.slice A2 x.ps.length C2) (.slice A3 x.ls.length C3) (.slice A4 x.ss.length C4)) rfl rfl rfl ?_); intro g1 w1 r1 p1 l1 b1; have c0 := r1.cell (j := 0) rfl; have c1 := r1.cell (j := 1) rfl; have c2 := r1.cell (j := 2) rfl; have c3 := r1.cell (j := 3) rfl; have c4 := r1.cell (j := 4) rfl)
                  | (with_reducible refine wg_run (o := ⟨some 9, _, _, _, _, _⟩) 3 true 6 rfl rfl rfl (.bool false) (run_neStr (.tmp 8) _ rfl rfl rfl hte.out) ?_))
                go_ret
                exact ⟨rfl, b1⟩
              · have dps := decide_eq_false hps
                by_cases hls : 0 < x.ls.length
                · have dls := decide_eq_true hls
                  have ho : x.oddB = true := by
                    unfold Vl.oddB
                    simp only [e1, e2, e3, e4, e5, dt, dps, dls, Bool.not_false, Bool.not_true, Bool.false_and, Bool.true_and, Bool.false_or, Bool.true_or, Bool.or_false, Bool.or_true]
                  rw [ho]
                  clear ho
                  go_enter Tryz.func81, Tryz.ntmps81
                  go_wp2_with (first
                    | ((with_reducible refine wl_box (o := ⟨some 1, _, _, _, _, _⟩) rfl 26 (.tmp 0) _ (vlC x (.slice A2 x.ps.length C2) (.slice A3 x.ls.length C3) (.slice A4 x.ss.length C4)) rfl rfl rfl ?_); intro g1 w1 r1 p1 l1 b1; have c0 := r1.cell (j := 0) rfl; have c1 := r1.cell (j := 1) rfl; have c2 := r1.cell (j := 2) rfl; have c3 := r1.cell (j := 3) rfl; have c4 := r1.cell (j := 4) rfl)
                    | (with_reducible refine wg_run (o := ⟨some 9, _, _, _, _, _⟩) 3 true 6 rfl rfl rfl (.bool false) (run_neStr (.tmp 8) _ rfl rfl rfl hte.out) ?_))
                  go_ret
                  exact ⟨rfl, b1⟩
                · have dls := decide_eq_false hls
                  have ho : x.oddB = false := by
                    unfold Vl.oddB
                    simp only [e1, e2, e3, e4, e5, dt, dps, dls, Bool.not_false, Bool.not_true, Bool.false_and, Bool.true_and, Bool.false_or, Bool.true_or, Bool.or_false, Bool.or_true]
                  rw [ho]
                  clear ho
                  go_enter Tryz.func81, Tryz.ntmps81
                  go_wp2_with (first
                    | ((with_reducible refine wl_box (o := ⟨some 1, _, _, _, _, _⟩) rfl 26 (.tmp 0) _ (vlC x (.slice A2 x.ps.length C2) (.slice A3 x.ls.length C3) (.slice A4 x.ss.length C4)) rfl rfl rfl ?_); intro g1 w1 r1 p1 l1 b1; have c0 := r1.cell (j := 0) rfl; have c1 := r1.cell (j := 1) rfl; have c2 := r1.cell (j := 2) rfl; have c3 := r1.cell (j := 3) rfl; have c4 := r1.cell (j := 4) rfl)
                    | (with_reducible refine wg_run (o := ⟨some 9, _, _, _, _, _⟩) 3 true 6 rfl rfl rfl (.bool false) (run_neStr (.tmp 8) _ rfl rfl rfl hte.out) ?_))
                  go_ret
                  exact ⟨rfl, b1⟩
            · have dt := decide_eq_false ht
              have hte := hide (show (!decide (x.t = [])) = true by rw [dt]; rfl)
              replace ht := hide ht
              have ho : x.oddB = true := by
                unfold Vl.oddB
                simp only [e1, e2, e3, e4, e5, dt, Bool.not_false, Bool.not_true, Bool.false_and, Bool.true_and, Bool.false_or, Bool.true_or, Bool.or_false, Bool.or_true]
              rw [ho]
              clear ho
              go_enter Tryz.func81, Tryz.ntmps81
              go_wp2_with (first
                | ((with_reducible refine wl_box (o := ⟨some 1, _, _, _, _, _⟩) rfl 26 (.tmp 0) _ (vlC x (.slice A2 x.ps.length C2) (.slice A3 x.ls.length C3) (.slice A4 x.ss.length C4)) rfl rfl rfl ?_); intro g1 w1 r1 p1 l1 b1; have c0 := r1.cell (j := 0) rfl; have c1 := r1.cell (j := 1) rfl; have c2 := r1.cell (j := 2) rfl; have c3 := r1.cell (j := 3) rfl; have c4 := r1.cell (j := 4) rfl)
                | (with_reducible refine wg_run (o := ⟨some 9, _, _, _, _, _⟩) 3 true 6 rfl rfl rfl (.bool true) (run_neStr (.tmp 8) _ rfl rfl rfl hte.out) ?_))
              go_ret
              exact ⟨rfl, b1⟩
          · skip
            have e1 : decide (x.k = 1) = false := decide_eq_false k1
            have f1 : (x.k == 1) = false := beq_eq_false_iff_ne.2 k1
            have i1 : (x.k != 1) = true := bne_iff_ne.2 k1
            have e2 : decide (x.k = 2) = false := decide_eq_false k2
            have f2 : (x.k == 2) = false := beq_eq_false_iff_ne.2 k2
            have i2 : (x.k != 2) = true := bne_iff_ne.2 k2
            have e5 : decide (x.k = 5) = false := decide_eq_false k5
            have f5 : (x.k == 5) = false := beq_eq_false_iff_ne.2 k5
            have i5 : (x.k != 5) = true := bne_iff_ne.2 k5
            have e3 : decide (x.k = 3) = false := decide_eq_false k3
            have f3 : (x.k == 3) = false := beq_eq_false_iff_ne.2 k3
            have i3 : (x.k != 3) = true := bne_iff_ne.2 k3
            have e4 : decide (x.k = 4) = false := decide_eq_false k4
            have f4 : (x.k == 4) = false := beq_eq_false_iff_ne.2 k4
            have i4 : (x.k != 4) = true := bne_iff_ne.2 k4
            replace k1 := hide k1
            replace k2 := hide k2
            replace k5 := hide k5
            replace k3 := hide k3
            replace k4 := hide k4
            by_cases ht : x.t = []
            · have dt := decide_eq_true ht
              have hte := hide (show (!decide (x.t = [])) = false by rw [dt]; rfl)
              replace ht := hide ht
              by_cases hps : 0 < x.ps.length
              · have dps := decide_eq_true hps
                have ho : x.oddB = true := by
                  unfold Vl.oddB
                  simp only [e1, e2, e3, e4, e5, dt, dps, Bool.not_false, Bool.not_true, Bool.false_and, Bool.true_and, Bool.false_or, Bool.true_or, Bool.or_false, Bool.or_true]
                rw [ho]
                clear ho
                go_enter Tryz.func81, Tryz.ntmps81
                go_wp2_with (first
                  | ((with_reducible refine wl_box (o := ⟨some 1, _, _, _, _, _⟩) rfl 26 (.tmp 0) _ (vlC x (.slice A2 x.ps.length C2) (.slice A3 x.ls.length C3) (.slice A4 x.ss.length C4)) rfl rfl rfl ?_); intro g1 w1 r1 p1 l1 b1; have c0 := r1.cell (j := 0) rfl; have c1 := r1.cell (j := 1) rfl; have c2 := r1.cell (j := 2) rfl; have c3 := r1.cell (j := 3) rfl; have c4 := r1.cell (j := 4) rfl)
                  | (with_reducible refine wg_run (o := ⟨some 9, _, _, _, _, _⟩) 3 true 6 rfl rfl rfl (.bool false) (run_neStr (.tmp 8) _ rfl rfl rfl hte.out) ?_))
                go_ret
                exact ⟨rfl, b1⟩
              · have dps := decide_eq_false hps
                by_cases hss : 0 < x.ss.length
                · have dss := decide_eq_true hss
                  have ho : x.oddB = true := by
                    unfold Vl.oddB
                    simp only [e1, e2, e3, e4, e5, dt, dps, dss, Bool.not_false, Bool.not_true, Bool.false_and, Bool.true_and, Bool.false_or, Bool.true_or, Bool.or_false, Bool.or_true]
                  rw [ho]
                  clear ho
                  go_enter Tryz.func81, Tryz.ntmps81
                  go_wp2_with (first
                    | ((with_reducible refine wl_box (o := ⟨some 1, _, _, _, _, _⟩) rfl 26 (.tmp 0) _ (vlC x (.slice A2 x.ps.length C2) (.slice A3 x.ls.length C3) (.slice A4 x.ss.length C4)) rfl rfl rfl ?_); intro g1 w1 r1 p1 l1 b1; have c0 := r1.cell (j := 0) rfl; have c1 := r1.cell (j := 1) rfl; have c2 := r1.cell (j := 2) rfl; have c3 := r1.cell (j := 3) rfl; have c4 := r1.cell (j := 4) rfl)
                    | (with_reducible refine wg_run (o := ⟨some 9, _, _, _, _, _⟩) 3 true 6 rfl rfl rfl (.bool false) (run_neStr (.tmp 8) _ rfl rfl rfl hte.out) ?_))
                  go_ret
                  exact ⟨rfl, b1⟩
                · have dss := decide_eq_false hss
                  by_cases hls : 0 < x.ls.length
                  · have dls := decide_eq_true hls
                    have ho : x.oddB = true := by
                      unfold Vl.oddB
                      simp only [e1, e2, e3, e4, e5, dt, dps, dss, dls, Bool.not_false, Bool.not_true, Bool.false_and, Bool.true_and, Bool.false_or, Bool.true_or, Bool.or_false, Bool.or_true]
                    rw [ho]
                    clear ho
                    go_enter Tryz.func81, Tryz.ntmps81
                    go_wp2_with (first
                      | ((with_reducible refine wl_box (o := ⟨some 1, _, _, _, _, _⟩) rfl 26 (.tmp 0) _ (vlC x (.slice A2 x.ps.length C2) (.slice A3 x.ls.length C3) (.slice A4 x.ss.length C4)) rfl rfl rfl ?_); intro g1 w1 r1 p1 l1 b1; have c0 := r1.cell (j := 0) rfl; have c1 := r1.cell (j := 1) rfl; have c2 := r1.cell (j := 2) rfl; have c3 := r1.cell (j := 3) rfl; have c4 := r1.cell (j := 4) rfl)
                      | (with_reducible refine wg_run (o := ⟨some 9, _, _, _, _, _⟩) 3 true 6 rfl rfl rfl (.bool false) (run_neStr (.tmp 8) _ rfl rfl rfl hte.out) ?_))
                    go_ret
                    exact ⟨rfl, b1⟩
                  · have dls := decide_eq_false hls
                    have ho : x.oddB = false := by
                      unfold Vl.oddB
                      simp only [e1, e2, e3, e4, e5, dt, dps, dss, dls, Bool.not_false, Bool.not_true, Bool.false_and, Bool.true_and, Bool.false_or, Bool.true_or, Bool.or_false, Bool.or_true]
                    rw [ho]
                    clear ho
                    go_enter Tryz.func81, Tryz.ntmps81
                    go_wp2_with (first
                      | ((with_reducible refine wl_box (o := ⟨some 1, _, _, _, _, _⟩) rfl 26 (.tmp 0) _ (vlC x (.slice A2 x.ps.length C2) (.slice A3 x.ls.length C3) (.slice A4 x.ss.length C4)) rfl rfl rfl ?_); intro g1 w1 r1 p1 l1 b1; have c0 := r1.cell (j := 0) rfl; have c1 := r1.cell (j := 1) rfl; have c2 := r1.cell (j := 2) rfl; have c3 := r1.cell (j := 3) rfl; have c4 := r1.cell (j := 4) rfl)
                      | (with_reducible refine wg_run (o := ⟨some 9, _, _, _, _, _⟩) 3 true 6 rfl rfl rfl (.bool false) (run_neStr (.tmp 8) _ rfl rfl rfl hte.out) ?_))
                    go_ret
                    exact ⟨rfl, b1⟩
            · have dt := decide_eq_false ht
              have hte := hide (show (!decide (x.t = [])) = true by rw [dt]; rfl)
              replace ht := hide ht
              have ho : x.oddB = true := by
                unfold Vl.oddB
                simp only [e1, e2, e3, e4, e5, dt, Bool.not_false, Bool.not_true, Bool.false_and, Bool.true_and, Bool.false_or, Bool.true_or, Bool.or_false, Bool.or_true]
              rw [ho]
              clear ho
              go_enter Tryz.func81, Tryz.ntmps81
              go_wp2_with (first
                | ((with_reducible refine wl_box (o := ⟨some 1, _, _, _, _, _⟩) rfl 26 (.tmp 0) _ (vlC x (.slice A2 x.ps.length C2) (.slice A3 x.ls.length C3) (.slice A4 x.ss.length C4)) rfl rfl rfl ?_); intro g1 w1 r1 p1 l1 b1; have c0 := r1.cell (j := 0) rfl; have c1 := r1.cell (j := 1) rfl; have c2 := r1.cell (j := 2) rfl; have c3 := r1.cell (j := 3) rfl; have c4 := r1.cell (j := 4) rfl)
                | (with_reducible refine wg_run (o := ⟨some 9, _, _, _, _, _⟩) 3 true 6 rfl rfl rfl (.bool true) (run_neStr (.tmp 8) _ rfl rfl rfl hte.out) ?_))
              go_ret
              exact ⟨rfl, b1⟩
end Go.Proofs.YtpbkejmffddelaaGreat

/-
  The document's Check. Own work.
-/
namespace Go.Proofs.YtpbkejmffddelaaGreat
open Go.RowKit Go.Shelf
def rchk (k : Int) (od : Bool) (q : Int) (tl ord : Bool) : Int := if k < 1 ∨ 5 < k ∨ od = true ∨ (1 < k ∧ q = 0) then 1 else if 200 < q then 10 else if tl = true then 5 else if ord = true then 0 else 13
/-- Why a value may not be, as the document says it. -/
def Vl.rchk (x : Vl) : Int := Go.Proofs.YtpbkejmffddelaaGreat.rchk x.k x.oddB ((x.ps.length : Int) + x.ls.length + x.ss.length) (lng x.texts) x.dord
set_option maxRecDepth 100000 in
set_option maxHeartbeats 4000000 in
theorem rcheck_any (w : World) (x : Vl) (vp vl vs : Value) (h : VlM w w.heap.size x vp vl vs) (few : x.Few) (ft : x.t.length ≤ 140737488355328) (hcp : CapS vs x.ss.length) :
    Calls Tryz.prog 22 #[vlV x vp vl vs] w fun e w' => e = .returned (.int .i64 x.rchk) ∧ Below w.heap.size w w' := by
  have hsz := szVl x vp vl vs
  have fx := few.fits ft
  unfold Vl.rchk
  have hlenT := texts_len x
  have hTI : (x.texts.length : Int) ≤ 881 := by have h1 := few.p; have h2 := few.l; have h3 := few.s; omega
  replace hlenT := hide hlenT
  have hcp := hide hcp
  replace hcp := hcp.out
  obtain ⟨q, hq⟩ : ∃ q, (x.ps.length : Int) + x.ls.length + x.ss.length = q := ⟨_, rfl⟩
  obtain ⟨tl, htl⟩ : ∃ tl, tl = lng x.texts := ⟨_, rfl⟩
  obtain ⟨ord, hord⟩ : ∃ ord, ord = x.dord := ⟨_, rfl⟩
  rw [hq, ← htl, ← hord]
  replace hq := hide hq
  replace htl := hide htl
  replace hord := hide hord
  by_cases k1 : x.k < 1
  · have hE : rchk x.k x.oddB q tl ord = 1 := by unfold rchk; rw [if_pos (.inl k1)]
    rw [hE]
    go_enter Tryz.func22, Tryz.ntmps22
    go_wp2_with (first
      | ((with_reducible refine wl_box (o := ⟨some 1, _, _, _, _, _⟩) rfl 26 (.tmp 0) _ (vlC x vp vl vs) rfl rfl rfl ?_); intro g1 w1 r1 p1 l1 b1; have c0 := r1.cell (j := 0) rfl))
    go_ret
    exact ⟨rfl, b1⟩
  · by_cases k5 : 5 < x.k
    · have hE : rchk x.k x.oddB q tl ord = 1 := by unfold rchk; rw [if_pos (.inr (.inl k5))]
      rw [hE]
      go_enter Tryz.func22, Tryz.ntmps22
      go_wp2_with (first
        | ((with_reducible refine wl_box (o := ⟨some 1, _, _, _, _, _⟩) rfl 26 (.tmp 0) _ (vlC x vp vl vs) rfl rfl rfl ?_); intro g1 w1 r1 p1 l1 b1; have c0 := r1.cell (j := 0) rfl))
      go_ret
      exact ⟨rfl, b1⟩
    · go_enter Tryz.func22, Tryz.ntmps22
      go_wp2_with (first
        | ((with_reducible refine wl_box (o := ⟨some 1, _, _, _, _, _⟩) rfl 26 (.tmp 0) _ (vlC x vp vl vs) rfl rfl rfl ?_); intro g1 w1 r1 p1 l1 b1; have c0 := r1.cell (j := 0) rfl)
        | (with_reducible refine wg_load_row (o := ⟨some 14, _, _, _, _, _⟩) 8 false 13 rfl rfl rfl 26 (.tmp 1) g1 26 (vlC x vp vl vs) _ rfl rfl r1 Tryz.underlying26 rfl hsz ?_))
      refine (odd_any w1 x vp vl vs (h.later b1)).mono ?_
      rintro e w2 ⟨rfl, b2⟩
      obtain ⟨od, hod⟩ : ∃ od, x.oddB = od := ⟨_, rfl⟩
      rw [hod]
      have B2 := b1.trans (b2.mono b1.size)
      have r2 := r1.later b2
      clear c0
      have c0 := r2.cell (j := 0) rfl
      cases od with
      | true =>
        have hE := hide (show rchk x.k x.oddB q tl ord = 1 by unfold rchk; rw [if_pos (.inr (.inr (.inl hod)))])
        replace hod := hide hod
        go_wp2_with fail
        go_ret
        exact ⟨by show Ending.returned (.int .i64 1) = _; rw [hE.out], B2⟩
      | false =>
        have hod2 : ¬ x.oddB = true := by rw [hod]; decide
        replace hod := hide hod
        replace hod2 := hide hod2
        by_cases k1' : 1 < x.k
        · go_wp2_with (first
            | (with_reducible refine wg_load_row (o := ⟨some 22, _, _, _, _, _⟩) 16 true 21 rfl rfl rfl 26 (.tmp 1) g1 26 (vlC x vp vl vs) _ rfl rfl r2 Tryz.underlying26 rfl hsz ?_))
          refine (rcount_any w2 x vp vl vs (h.later B2) fx).mono ?_
          rintro e w3 ⟨rfl, b3⟩
          rw [hq.out]
          have B3 := B2.trans (b3.mono B2.size)
          have r3 := r2.later b3
          by_cases hq0 : q = 0
          · have hE := hide (show rchk x.k x.oddB q tl ord = 1 by unfold rchk; rw [if_pos (.inr (.inr (.inr ⟨k1', hq0⟩)))])
            have hq1 : decide (q = 0) = true := decide_eq_true hq0
            have hq3 : (q == 0) = true := by simp [hq0]
            replace hq0 := hide hq0
            go_wp2_with fail
            go_ret
            exact ⟨by show Ending.returned (.int .i64 1) = _; rw [hE.out], B3⟩
          · have hq1 : decide (q = 0) = false := decide_eq_false hq0
            have hq3 : (q == 0) = false := beq_eq_false_iff_ne.2 hq0
            have hno := hide (show ¬ (x.k < 1 ∨ 5 < x.k ∨ x.oddB = true ∨ (1 < x.k ∧ q = 0)) by
              rintro (c | c | c | c)
              · omega
              · omega
              · exact hod2.out c
              · exact hq0 c.2)
            replace hq0 := hide hq0
            go_wp2_with (first
              | (with_reducible refine wl_load_row (o := ⟨some 27, _, _, _, _, _⟩) rfl 26 (.tmp 1) g1 26 (vlC x vp vl vs) _ rfl rfl r3 Tryz.underlying26 rfl hsz ?_))
            refine (rcount_any w3 x vp vl vs (h.later B3) fx).mono ?_
            rintro e w5 ⟨rfl, b5⟩
            rw [hq.out]
            have B5 := B3.trans (b5.mono B3.size)
            have r5 := r3.later b5
            by_cases hq2 : 200 < q
            · have hE := hide (show rchk x.k x.oddB q tl ord = 10 by unfold rchk; rw [if_neg hno.out, if_pos hq2])
              go_wp2_with fail
              go_ret
              exact ⟨by show Ending.returned (.int .i64 10) = _; rw [hE.out], B5⟩
            · have hE := hide (show rchk x.k x.oddB q tl ord = if tl = true then 5 else if ord = true then 0 else 13 by unfold rchk; rw [if_neg hno.out, if_neg hq2])
              go_wp2_with (first
                | (with_reducible refine wl_load_row (o := ⟨some 30, _, _, _, _, _⟩) rfl 26 (.tmp 1) g1 26 (vlC x vp vl vs) _ rfl rfl r5 Tryz.underlying26 rfl hsz ?_))
              refine (texts_any w5 x vp vl vs (h.later B5) few).mono ?_
              rintro e w6 ⟨v6, rfl, own6, b6⟩
              have B6 := B5.trans (b6.mono B5.size)
              have r6 := r5.later b6
              have sl6 := OwnW.slv own6
              obtain ⟨A6, C6, rfl⟩ := sl6.sl
              clear own6
              go_wp2_with fail
              go_loopw [4] (fun iv wr => ∃ i : Nat, i ≤ x.texts.length ∧ iv = .int .i64 (i : Int) ∧ lng (x.texts.take i) = false ∧ w6 = wr) (fun iv _ => x.texts.length - (intOf iv).toNat)
              case atStart => exact ⟨0, by omega, rfl, by simp [lng], rfl⟩
              case round =>
                obtain ⟨i, hi, rfl, hln, rfl⟩ := hrel
                by_cases hlt : i < x.texts.length
                · have hltI : (i : Int) < (x.texts.length : Int) := by omega
                  obtain ⟨a, ha⟩ : ∃ a, x.texts[i]? = some a := ⟨_, List.getElem?_eq_getElem hlt⟩
                  have hmore := hide (lng_more ha)
                  have hst := str_len a
                  obtain ⟨x1, ga, oa, rfl, hga, hca⟩ := sl6.at ha
                  have c0 := hca 0 _ rfl
                  rw [Nat.add_zero, Nat.mul_one] at c0
                  have hlt9 := hide hlt
                  replace hln := hide hln
                  clear x1 hga hca
                  by_cases hl : 512 < a.length
                  · have hlI : (512 : Int) < (a.length : Int) := by omega
                    have htrue : tl = true := by
                      rw [htl.out]
                      exact List.any_eq_true.2 ⟨a, List.mem_of_getElem? ha, decide_eq_true hl⟩
                    have hE := hide (show rchk x.k x.oddB q tl ord = 5 by rw [hE.out, if_pos htrue])
                    clear ha htrue hl
                    go_wp2_with (first
                      | (with_reducible refine wl_run (o := ⟨some 40, _, _, _, _, _⟩) rfl (.pointer (some ⟨ga, oa + i * 1, none⟩)) (run_idxO 23 (.tmp 38) (.tmp 39) 9 1 ga oa x.texts.length C6 i rfl Tryz.underlying23 Tryz.sizeOf9 rfl rfl hlt) ?_))
                    go_ret
                    exact ⟨by show Ending.returned (.int .i64 5) = _; rw [hE.out], B6⟩
                  · have hlI : ¬ (512 : Int) < (a.length : Int) := by omega
                    have hl9 := hide hl
                    clear ha hl
                    go_wp2_with (first
                      | (with_reducible refine wl_run (o := ⟨some 40, _, _, _, _, _⟩) rfl (.pointer (some ⟨ga, oa + i * 1, none⟩)) (run_idxO 23 (.tmp 38) (.tmp 39) 9 1 ga oa x.texts.length C6 i rfl Tryz.underlying23 Tryz.sizeOf9 rfl rfl hlt) ?_))
                    go_roundw
                    case rel => exact ⟨i + 1, by have := hlt9.out; omega, by go_num, by rw [hmore.out, hln.out, decide_eq_false hl9.out]; rfl, trivial⟩
                    case measure => have := hlt9.out; simp [intOf]; omega
                · obtain rfl : i = x.texts.length := by omega
                  rw [List.take_length] at hln
                  have htf : ¬ tl = true := by rw [htl.out, hln]; decide
                  have hE := hide (show rchk x.k x.oddB q tl ord = if ord = true then 0 else 13 by rw [hE.out, if_neg htf])
                  clear htf hln
                  go_wp2_with (first
                    | (with_reducible refine wl_load_row (o := ⟨some 44, _, _, _, _, _⟩) rfl 26 (.tmp 1) g1 26 (vlC x vp vl vs) _ rfl rfl r6 Tryz.underlying26 rfl hsz ?_))
                  refine (rrises_any _ x vp vl vs (h.later B6) few hcp).mono ?_
                  rintro e w7 ⟨rfl, b7⟩
                  have B7 := B6.trans (b7.mono B6.size)
                  rw [← hord.out]
                  cases ord with
                  | true =>
                    go_wp2_with fail
                    go_ret
                    exact ⟨by show Ending.returned (.int .i64 0) = _; rw [hE.out]; simp, B7⟩
                  | false =>
                    go_wp2_with fail
                    go_ret
                    exact ⟨by show Ending.returned (.int .i64 13) = _; rw [hE.out]; simp, B7⟩
        · have hno := hide (show ¬ (x.k < 1 ∨ 5 < x.k ∨ x.oddB = true ∨ (1 < x.k ∧ q = 0)) by
            rintro (c | c | c | c)
            · omega
            · omega
            · exact hod2.out c
            · exact k1' c.1)
          go_wp2_with (first
            | (with_reducible refine wl_load_row (o := ⟨some 27, _, _, _, _, _⟩) rfl 26 (.tmp 1) g1 26 (vlC x vp vl vs) _ rfl rfl r2 Tryz.underlying26 rfl hsz ?_))
          refine (rcount_any w2 x vp vl vs (h.later B2) fx).mono ?_
          rintro e w5 ⟨rfl, b5⟩
          rw [hq.out]
          have B5 := B2.trans (b5.mono B2.size)
          have r5 := r2.later b5
          by_cases hq2 : 200 < q
          · have hE := hide (show rchk x.k x.oddB q tl ord = 10 by unfold rchk; rw [if_neg hno.out, if_pos hq2])
            go_wp2_with fail
            go_ret
            exact ⟨by show Ending.returned (.int .i64 10) = _; rw [hE.out], B5⟩
          · have hE := hide (show rchk x.k x.oddB q tl ord = if tl = true then 5 else if ord = true then 0 else 13 by unfold rchk; rw [if_neg hno.out, if_neg hq2])
            go_wp2_with (first
              | (with_reducible refine wl_load_row (o := ⟨some 30, _, _, _, _, _⟩) rfl 26 (.tmp 1) g1 26 (vlC x vp vl vs) _ rfl rfl r5 Tryz.underlying26 rfl hsz ?_))
            refine (texts_any w5 x vp vl vs (h.later B5) few).mono ?_
            rintro e w6 ⟨v6, rfl, own6, b6⟩
            have B6 := B5.trans (b6.mono B5.size)
            have r6 := r5.later b6
            have sl6 := OwnW.slv own6
            obtain ⟨A6, C6, rfl⟩ := sl6.sl
            clear own6
            go_wp2_with fail
            go_loopw [4] (fun iv wr => ∃ i : Nat, i ≤ x.texts.length ∧ iv = .int .i64 (i : Int) ∧ lng (x.texts.take i) = false ∧ w6 = wr) (fun iv _ => x.texts.length - (intOf iv).toNat)
            case atStart => exact ⟨0, by omega, rfl, by simp [lng], rfl⟩
            case round =>
              obtain ⟨i, hi, rfl, hln, rfl⟩ := hrel
              by_cases hlt : i < x.texts.length
              · have hltI : (i : Int) < (x.texts.length : Int) := by omega
                obtain ⟨a, ha⟩ : ∃ a, x.texts[i]? = some a := ⟨_, List.getElem?_eq_getElem hlt⟩
                have hmore := hide (lng_more ha)
                have hst := str_len a
                obtain ⟨x1, ga, oa, rfl, hga, hca⟩ := sl6.at ha
                have c0 := hca 0 _ rfl
                rw [Nat.add_zero, Nat.mul_one] at c0
                have hlt9 := hide hlt
                replace hln := hide hln
                clear x1 hga hca
                by_cases hl : 512 < a.length
                · have hlI : (512 : Int) < (a.length : Int) := by omega
                  have htrue : tl = true := by
                    rw [htl.out]
                    exact List.any_eq_true.2 ⟨a, List.mem_of_getElem? ha, decide_eq_true hl⟩
                  have hE := hide (show rchk x.k x.oddB q tl ord = 5 by rw [hE.out, if_pos htrue])
                  clear ha htrue hl
                  go_wp2_with (first
                    | (with_reducible refine wl_run (o := ⟨some 40, _, _, _, _, _⟩) rfl (.pointer (some ⟨ga, oa + i * 1, none⟩)) (run_idxO 23 (.tmp 38) (.tmp 39) 9 1 ga oa x.texts.length C6 i rfl Tryz.underlying23 Tryz.sizeOf9 rfl rfl hlt) ?_))
                  go_ret
                  exact ⟨by show Ending.returned (.int .i64 5) = _; rw [hE.out], B6⟩
                · have hlI : ¬ (512 : Int) < (a.length : Int) := by omega
                  have hl9 := hide hl
                  clear ha hl
                  go_wp2_with (first
                    | (with_reducible refine wl_run (o := ⟨some 40, _, _, _, _, _⟩) rfl (.pointer (some ⟨ga, oa + i * 1, none⟩)) (run_idxO 23 (.tmp 38) (.tmp 39) 9 1 ga oa x.texts.length C6 i rfl Tryz.underlying23 Tryz.sizeOf9 rfl rfl hlt) ?_))
                  go_roundw
                  case rel => exact ⟨i + 1, by have := hlt9.out; omega, by go_num, by rw [hmore.out, hln.out, decide_eq_false hl9.out]; rfl, trivial⟩
                  case measure => have := hlt9.out; simp [intOf]; omega
              · obtain rfl : i = x.texts.length := by omega
                rw [List.take_length] at hln
                have htf : ¬ tl = true := by rw [htl.out, hln]; decide
                have hE := hide (show rchk x.k x.oddB q tl ord = if ord = true then 0 else 13 by rw [hE.out, if_neg htf])
                clear htf hln
                go_wp2_with (first
                  | (with_reducible refine wl_load_row (o := ⟨some 44, _, _, _, _, _⟩) rfl 26 (.tmp 1) g1 26 (vlC x vp vl vs) _ rfl rfl r6 Tryz.underlying26 rfl hsz ?_))
                refine (rrises_any _ x vp vl vs (h.later B6) few hcp).mono ?_
                rintro e w7 ⟨rfl, b7⟩
                have B7 := B6.trans (b7.mono B6.size)
                rw [← hord.out]
                cases ord with
                | true =>
                  go_wp2_with fail
                  go_ret
                  exact ⟨by show Ending.returned (.int .i64 0) = _; rw [hE.out]; simp, B7⟩
                | false =>
                  go_wp2_with fail
                  go_ret
                  exact ⟨by show Ending.returned (.int .i64 13) = _; rw [hE.out]; simp, B7⟩
end Go.Proofs.YtpbkejmffddelaaGreat
