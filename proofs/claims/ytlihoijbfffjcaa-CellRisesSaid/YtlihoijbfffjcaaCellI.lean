/-
  The cell: the law CellPlays: contract. Own work.
-/
import Derived.Test.YtlihoijbfffjcaaCellH
namespace Go.Proofs.Ytlihoijbfffjcaa
open Go.RowKit
set_option linter.unusedVariables false
set_option linter.unusedSimpArgs false
/-- The slice '.slice A n c' reads as these calls, four cells each. -/
def Acts (w : World) (B : Nat) (A : Option Addr) (n : Nat) (k p q m : Nat → Int) : Prop :=
  0 < n → ∃ b o, A = some ⟨b, o, none⟩ ∧ b < B ∧ ∀ j, j < n → w.cell? ⟨b, o + j * 4, none⟩ = some (.int .u8 (k j)) ∧ w.cell? ⟨b, o + j * 4 + 1, none⟩ = some (.int .i64 (p j)) ∧ w.cell? ⟨b, o + j * 4 + 2, none⟩ = some (.int .i64 (q j)) ∧ w.cell? ⟨b, o + j * 4 + 3, none⟩ = some (.int .i64 (m j))
theorem run_indexSn {P : Program} {w : World} {a : Act} {o : Oper} (t : TypeId) (x y : Operand) (e : TypeId) (b off len cap i n : Nat)
    (ho : o.op = .indexAddr t x y) (hu : P.underlying t = some (.slice e)) (hs : ∀ w, (sizeOf e).run P w = .ok n w) (hx : a.eval x = .slice (some ⟨b, off, none⟩) len cap) (hy : a.eval y = .int .i64 i) (hi : i < len) :
    (execOp a.eval o).run P w = .ok (.value (.pointer (some ⟨b, off + i * n, none⟩))) w := by
  unfold execOp
  simp only [ho, hx, hy]
  go_simp
theorem run_loadC {P : Program} {o : Oper} {a : Act} {w : World} (ty : TypeId) (x : Operand) (g off : Nat) (M : List Value) (d : TypeDesc) (ho : o.op = .load ty x) (hx : a.eval x = .pointer (some ⟨g, off, none⟩)) (h : ∀ j v, M[j]? = some v → w.cell? ⟨g, off + j, none⟩ = some v)
    (hu : P.underlying ty = some d) (hd : (match d with | .struct _ | .array _ _ => true | _ => false) = true) (hi : (P.info? ty).map (·.size) = some M.length) : (execOp a.eval o).run P w = .ok (.value (.agg M.toArray)) w := by
  unfold execOp
  simp only [ho, hx, Instr.loadAt, Instr.sureAddr, Sem.run_bind, Sem.run_pure, Result.andThen_ok, run_loadVar_cells ty g off M d h hu hd hi]
theorem two_cells {w : World} {b o : Nat} {u v : Value} (h0 : w.cell? ⟨b, o, none⟩ = some u) (h1 : w.cell? ⟨b, o + 1, none⟩ = some v) : ∀ j x, [u, v][j]? = some x → w.cell? ⟨b, o + j, none⟩ = some x := by
  intro j x hj
  match j with
  | 0 => simp at hj; subst hj; exact h0
  | 1 => simp at hj; subst hj; exact h1
  | j + 2 => simp at hj
/-- The state of both cells. -/
structure St where
  on : Bool
  fuse : Int
  life : Int
  a : Int
  b : Int
/-- The program's side. -/
def PSide (w : World) (gP gp gc : Nat) (m1 m2 : Int) (s : St) : Prop := Pwr w gP gp ∧ Plg w gp s.on s.fuse ∧ Cel w gc true (some ⟨gP, 0, none⟩) m1 m2 s.life s.a s.b
/-- The document's side. -/
def RSide (w : World) (q x : Nat) (bs : List Int) (s : St) : Prop := RPw w q (!s.on) (max s.fuse (-1)) ∧ ∃ n1 n2 n3 n4 n5 n6 n7, bs = [n1, n2, n3, n4, n5, n6, n7] ∧ RCel w x q n1 n2 n3 n4 n5 n6 n7 s.life s.a s.b
theorem PSide.later {w w' : World} {gP gp gc : Nat} {m1 m2 : Int} {s : St} (h : PSide w gP gp gc m1 m2 s) (hb : Below w.heap.size w w') : PSide w' gP gp gc m1 m2 s := ⟨Row.later h.1 hb, Row.later h.2.1 hb, Row.later h.2.2 hb⟩
theorem RSide.later {w w' : World} {q x : Nat} {bs : List Int} {s : St} (h : RSide w q x bs s) (hb : Below w.heap.size w w') : RSide w' q x bs s := by
  obtain ⟨h1, n1, n2, n3, n4, n5, n6, n7, e, h2⟩ := h
  exact ⟨Row.later h1 hb, n1, n2, n3, n4, n5, n6, n7, e, Row.later h2 hb⟩
theorem PSide.buts {w w' : World} {gP gp gc : Nat} {m1 m2 : Int} {s : St} {S : List Nat} (h : PSide w gP gp gc m1 m2 s) (hb : Buts S w w') (h1 : gP ∉ S) (h2 : gp ∉ S) (h3 : gc ∉ S) : PSide w' gP gp gc m1 m2 s := ⟨Row.buts h.1 hb h1, Row.buts h.2.1 hb h2, Row.buts h.2.2 hb h3⟩
theorem RSide.buts {w w' : World} {q x : Nat} {bs : List Int} {s : St} {S : List Nat} (h : RSide w q x bs s) (hb : Buts S w w') (hq : q ∉ S) (hx : x ∉ S) : RSide w' q x bs s := by
  obtain ⟨h1, n1, n2, n3, n4, n5, n6, n7, e, h2⟩ := h
  exact ⟨Row.buts h1 hb hq, n1, n2, n3, n4, n5, n6, n7, e, Row.buts h2 hb hx⟩
/-- Steps of the state. -/
def St.act (s : St) : St := { s with on := s.on && actOn s.on s.fuse, fuse := actF s.on s.fuse }
def St.birth (s : St) (m1 : Int) : St := if m1 ≤ s.life then s else { s.act with life := birL (actE s.on s.fuse) s.life }
def St.birthV (s : St) (m1 : Int) : Int × Int := if m1 ≤ s.life then (0, 7) else birV (actE s.on s.fuse) s.life
def St.raise (s : St) (m2 p q : Int) : St := if refV m2 s.life s.a s.b p q = 0 then { s.act with a := raiP (actE s.on s.fuse) s.a p, b := raiP (actE s.on s.fuse) s.b q } else s
def St.raiseV (s : St) (m2 p q : Int) : Int := if refV m2 s.life s.a s.b p q = 0 then actE s.on s.fuse else refV m2 s.life s.a s.b p q
/-- What the state keeps to. -/
def St.ok (s : St) (m1 : Int) : Prop := isI s.fuse ∧ 0 ≤ s.life ∧ s.life ≤ m1
theorem actF_isI {on : Bool} {f : Int} (h : isI f) : isI (actF on f) := by
  unfold actF; unfold isI at *
  split <;> omega
theorem birL_le {on : Bool} {f l m : Int} (h : 0 ≤ l) (hm : ¬ m ≤ l) : 0 ≤ birL (actE on f) l ∧ birL (actE on f) l ≤ m := by
  unfold birL
  split <;> omega
theorem St.ok_birth {s : St} {m1 : Int} (h : s.ok m1) : (s.birth m1).ok m1 := by
  unfold St.birth
  split
  · exact h
  · rename_i hm
    exact ⟨actF_isI h.1, (birL_le h.2.1 hm).1, (birL_le h.2.1 hm).2⟩
theorem St.ok_raise {s : St} {m1 m2 p q : Int} (h : s.ok m1) : (s.raise m2 p q).ok m1 := by
  unfold St.raise
  split
  · exact ⟨actF_isI h.1, h.2.1, h.2.2⟩
  · exact h
theorem bnd_le (n : Int) : 0 ≤ bnd n ∧ bnd n ≤ 1099511627776 := by
  unfold bnd mostN; omega
/-- Birth, both sides. -/
theorem pBirth (w : World) (gP gp gc : Nat) (l : Int) (m2 : Int) (s : St) (h : PSide w gP gp gc (bnd l) m2 s) (ho : s.ok (bnd l)) (hn : gP ≠ gp ∧ gP ≠ gc ∧ gc ≠ gp) : Calls Try.prog 46 #[ptr gc] w fun e w' => e = .returned (.tuple #[.int .i64 (s.birthV (bnd l)).1, .int .i64 (s.birthV (bnd l)).2]) ∧ PSide w' gP gp gc (bnd l) m2 (s.birth (bnd l)) ∧ Buts [gc, gp] w w' := by
  obtain ⟨h1, h2, h3⟩ := h
  obtain ⟨o1, o2, o3⟩ := ho
  obtain ⟨b0, b1⟩ := bnd_le l
  unfold St.birthV St.birth
  by_cases hm : bnd l ≤ s.life
  · rw [if_pos hm, if_pos hm]
    refine (birth_full w gc _ _ _ _ _ _ h3 (by simpa using hm)).mono ?_
    rintro e w' ⟨rfl, hb⟩
    exact ⟨rfl, ⟨Row.later h1 hb, Row.later h2 hb, Row.later h3 hb⟩, Buts.of hb _⟩
  · rw [if_neg hm, if_neg hm]
    refine (birth_some w gc gP gp _ _ _ _ _ s.on s.fuse h3 (by simpa using hm) h1 h2 o1 ⟨by omega, by omega⟩ ⟨by omega, by omega⟩ hn.2.2).mono ?_
    rintro e w' ⟨rfl, c1, c2, hb⟩
    exact ⟨rfl, ⟨Row.buts h1 hb (by simp; exact ⟨hn.2.1, hn.1⟩), c2, c1⟩, hb⟩
theorem rBirth (w : World) (q x : Nat) (n s' p g l e c : Int) (s : St) (h : RSide w q x [n, s', p, g, l, e, c] s) (ho : s.ok (bnd l)) (hn : x ≠ q) : Calls Try.prog 47 #[ptr x] w fun en w' => en = .returned (.tuple #[.int .i64 (s.birthV (bnd l)).1, .int .i64 (s.birthV (bnd l)).2]) ∧ RSide w' q x [n, s', p, g, l, e, c] (s.birth (bnd l)) ∧ Buts [x, q] w w' := by
  obtain ⟨h1, n1, n2, n3, n4, n5, n6, n7, he, h3⟩ := h
  simp only [List.cons.injEq, and_true] at he
  obtain ⟨rfl, rfl, rfl, rfl, rfl, rfl, rfl⟩ := he
  obtain ⟨o1, o2, o3⟩ := ho
  obtain ⟨b0, b1⟩ := bnd_le l
  unfold St.birthV St.birth
  by_cases hm : bnd l ≤ s.life
  · rw [if_pos hm, if_pos hm]
    refine (rbirth_full w x q _ _ _ _ _ _ _ _ _ _ h3 (by simpa using hm)).mono ?_
    rintro e w' ⟨rfl, hb⟩
    exact ⟨rfl, ⟨Row.later h1 hb, _, _, _, _, _, _, _, rfl, Row.later h3 hb⟩, Buts.of hb _⟩
  · rw [if_neg hm, if_neg hm]
    refine (rbirth_some w x q _ _ _ _ _ _ _ _ _ _ h3 (by simpa using hm) s.on s.fuse h1 o1 hn ⟨by omega, by omega⟩ (by omega)).mono ?_
    rintro e w' ⟨rfl, c1, c2, hb⟩
    exact ⟨rfl, ⟨c2, _, _, _, _, _, _, _, rfl, c1⟩, hb⟩
theorem pRaise (w : World) (gP gp gc : Nat) (m1 m2 p1 p2 : Int) (s : St) (h : PSide w gP gp gc m1 m2 s) (ho : s.ok m1) (hn : gP ≠ gp ∧ gP ≠ gc ∧ gc ≠ gp) : Calls Try.prog 48 #[ptr gc, pin p1 p2] w fun e w' => e = .returned (.int .i64 (s.raiseV m2 p1 p2)) ∧ PSide w' gP gp gc m1 m2 (s.raise m2 p1 p2) ∧ Buts [gc, gp] w w' := by
  obtain ⟨h1, h2, h3⟩ := h
  obtain ⟨o1, o2, o3⟩ := ho
  unfold St.raiseV St.raise
  by_cases hv : refV m2 s.life s.a s.b p1 p2 = 0
  · rw [if_pos hv, if_pos hv]
    refine (raise_some w gc gP gp _ _ _ _ _ _ _ s.on s.fuse h3 hv h1 h2 o1 hn.2.2).mono ?_
    rintro e w' ⟨rfl, c1, c2, hb⟩
    exact ⟨rfl, ⟨Row.buts h1 hb (by simp; exact ⟨hn.2.1, hn.1⟩), c2, c1⟩, hb⟩
  · rw [if_neg hv, if_neg hv]
    refine (raise_no w _ p1 p2 _ hv fun w1 b1 => refuse_any w1 gc _ _ _ _ _ _ _ _ (Row.later h3 b1)).mono ?_
    rintro e w' ⟨rfl, hb⟩
    exact ⟨rfl, ⟨Row.later h1 hb, Row.later h2 hb, Row.later h3 hb⟩, Buts.of hb _⟩
theorem rRaise (w : World) (q x : Nat) (n s' p g l e c m1 p1 p2 : Int) (s : St) (h : RSide w q x [n, s', p, g, l, e, c] s) (ho : s.ok m1) (hn : x ≠ q) : Calls Try.prog 49 #[ptr x, pin p1 p2] w fun en w' => en = .returned (.int .i64 (s.raiseV (bnd p) p1 p2)) ∧ RSide w' q x [n, s', p, g, l, e, c] (s.raise (bnd p) p1 p2) ∧ Buts [x, q] w w' := by
  obtain ⟨h1, n1, n2, n3, n4, n5, n6, n7, he, h3⟩ := h
  simp only [List.cons.injEq, and_true] at he
  obtain ⟨rfl, rfl, rfl, rfl, rfl, rfl, rfl⟩ := he
  obtain ⟨o1, o2, o3⟩ := ho
  unfold St.raiseV St.raise
  by_cases hv : refV (bnd p) s.life s.a s.b p1 p2 = 0
  · rw [if_pos hv, if_pos hv]
    obtain ⟨z1, z2, z3, z4, z5⟩ := ref_zero hv
    refine (rraise_some w x q _ _ _ _ _ _ _ _ _ _ _ _ h3 z1 z2 z3 z4 z5 s.on s.fuse h1 o1 hn).mono ?_
    rintro e w' ⟨rfl, c1, c2, hb⟩
    exact ⟨rfl, ⟨c2, _, _, _, _, _, _, _, rfl, c1⟩, hb⟩
  · rw [if_neg hv, if_neg hv]
    refine (rraise_any w x q _ _ _ _ _ _ _ _ _ _ _ _ h3 hv).mono ?_
    rintro e w' ⟨rfl, hb⟩
    exact ⟨rfl, ⟨Row.later h1 hb, _, _, _, _, _, _, _, rfl, Row.later h3 hb⟩, Buts.of hb _⟩
end Go.Proofs.Ytlihoijbfffjcaa
