/-
  A quarter round in its places, in the program: the statement whose order is open. Own work.
-/
import Derived.Test.YtfpemnihknbihaaDoorChaMath
import Derived.Test.YtfpemnihknbihaaDoorMem
namespace Go.Proofs.YtfpemnihknbihaaDoor
open Go.RowKit
set_option linter.unusedVariables false
set_option linter.unusedSimpArgs false
def upd4 (xs : List Int) (a b c d : Nat) (q : Int × Int × Int × Int) (b1 b2 b3 b4 : Bool) : List Int :=
  let s1 := bif b1 then xs.set a q.1 else xs
  let s2 := bif b2 then s1.set b q.2.1 else s1
  let s3 := bif b3 then s2.set c q.2.2.1 else s2
  bif b4 then s3.set d q.2.2.2 else s3
theorem upd4_len (xs : List Int) (a b c d : Nat) (q : Int × Int × Int × Int) (b1 b2 b3 b4 : Bool) : (upd4 xs a b c d q b1 b2 b3 b4).length = xs.length := by
  cases b1 <;> cases b2 <;> cases b3 <;> cases b4 <;> simp [upd4]
def qrV (q : Int × Int × Int × Int) : Value := .tuple #[.int .u32 q.1, .int .u32 q.2.1, .int .u32 q.2.2.1, .int .u32 q.2.2.2]
def J8 (gp gx : Nat) (ps : List Value) (xs : List Int) (a b c d : Nat) (w0 : World) (bs : List Bool) (vs : List Value) (w : World) : Prop :=
  Row w 64 gp ps ∧ Row w 62 gx (vk .u32 (upd4 xs a b c d (qr (xs.getD a 0) (xs.getD b 0) (xs.getD c 0) (xs.getD d 0)) (bs.getD 1 false) (bs.getD 2 false) (bs.getD 3 false) (bs.getD 4 false))) ∧ Below gx w0 w
theorem J8.at0 {bs : List Bool} {vs : List Value} {w0 w : World} {gp gx : Nat} {ps : List Value} {xs : List Int} {a b c d : Nat} (h : J8 gp gx ps xs a b c d w0 bs vs w) (h1 : bs.getD 1 false = false) (h2 : bs.getD 2 false = false) (h3 : bs.getD 3 false = false) (h4 : bs.getD 4 false = false) : Row w 62 gx (vk .u32 (upd4 xs a b c d (qr (xs.getD a 0) (xs.getD b 0) (xs.getD c 0) (xs.getD d 0)) false false false false)) ∧ Below gx w0 w := by
  have := h.2.1
  rw [h1, h2, h3, h4] at this
  exact ⟨this, h.2.2⟩
theorem J8.at1 {bs : List Bool} {vs : List Value} {w0 w : World} {gp gx : Nat} {ps : List Value} {xs : List Int} {a b c d : Nat} (h : J8 gp gx ps xs a b c d w0 bs vs w) (h1 : bs.getD 1 false = true) (h2 : bs.getD 2 false = false) (h3 : bs.getD 3 false = false) (h4 : bs.getD 4 false = false) : Row w 62 gx (vk .u32 (upd4 xs a b c d (qr (xs.getD a 0) (xs.getD b 0) (xs.getD c 0) (xs.getD d 0)) true false false false)) ∧ Below gx w0 w := by
  have := h.2.1
  rw [h1, h2, h3, h4] at this
  exact ⟨this, h.2.2⟩
theorem J8.at2 {bs : List Bool} {vs : List Value} {w0 w : World} {gp gx : Nat} {ps : List Value} {xs : List Int} {a b c d : Nat} (h : J8 gp gx ps xs a b c d w0 bs vs w) (h1 : bs.getD 1 false = true) (h2 : bs.getD 2 false = true) (h3 : bs.getD 3 false = false) (h4 : bs.getD 4 false = false) : Row w 62 gx (vk .u32 (upd4 xs a b c d (qr (xs.getD a 0) (xs.getD b 0) (xs.getD c 0) (xs.getD d 0)) true true false false)) ∧ Below gx w0 w := by
  have := h.2.1
  rw [h1, h2, h3, h4] at this
  exact ⟨this, h.2.2⟩
theorem J8.at3 {bs : List Bool} {vs : List Value} {w0 w : World} {gp gx : Nat} {ps : List Value} {xs : List Int} {a b c d : Nat} (h : J8 gp gx ps xs a b c d w0 bs vs w) (h1 : bs.getD 1 false = true) (h2 : bs.getD 2 false = true) (h3 : bs.getD 3 false = true) (h4 : bs.getD 4 false = false) : Row w 62 gx (vk .u32 (upd4 xs a b c d (qr (xs.getD a 0) (xs.getD b 0) (xs.getD c 0) (xs.getD d 0)) true true true false)) ∧ Below gx w0 w := by
  have := h.2.1
  rw [h1, h2, h3, h4] at this
  exact ⟨this, h.2.2⟩
theorem J8.start {bs : List Bool} {vs : List Value} {w0 w : World} {gp gx : Nat} {ps : List Value} {xs : List Int} {a b c d : Nat} (h : J8 gp gx ps xs a b c d w0 bs vs w) (h1 : bs.getD 1 false = false) (h2 : bs.getD 2 false = false) (h3 : bs.getD 3 false = false) (h4 : bs.getD 4 false = false) : Row w 62 gx (vk .u32 xs) := (J8.at0 h h1 h2 h3 h4).1
/-- What each operation leaves. -/
def S8 (gp gx : Nat) (xs : List Int) (a b c d : Nat) (n : Nat) (v : Value) : Prop :=
  match n with
  | 0 | 8 => v = .pointer (some ⟨gp, 0, none⟩) | 2 | 12 => v = .pointer (some ⟨gp, 1, none⟩) | 4 | 16 => v = .pointer (some ⟨gp, 2, none⟩) | 6 | 20 => v = .pointer (some ⟨gp, 3, none⟩)
  | 1 | 9 => v = .int .i64 a | 3 | 13 => v = .int .i64 b | 5 | 17 => v = .int .i64 c | 7 | 21 => v = .int .i64 d
  | 10 | 30 => v = .pointer (some ⟨gx, a, none⟩) | 14 | 32 => v = .pointer (some ⟨gx, b, none⟩) | 18 | 34 => v = .pointer (some ⟨gx, c, none⟩) | 22 | 36 => v = .pointer (some ⟨gx, d, none⟩)
  | 11 => v = .int .u32 (xs.getD a 0) | 15 => v = .int .u32 (xs.getD b 0) | 19 => v = .int .u32 (xs.getD c 0) | 23 => v = .int .u32 (xs.getD d 0)
  | 24 | 25 => v = qrV (qr (xs.getD a 0) (xs.getD b 0) (xs.getD c 0) (xs.getD d 0))
  | 26 => v = .int .u32 (qr (xs.getD a 0) (xs.getD b 0) (xs.getD c 0) (xs.getD d 0)).1
  | 27 => v = .int .u32 (qr (xs.getD a 0) (xs.getD b 0) (xs.getD c 0) (xs.getD d 0)).2.1
  | 28 => v = .int .u32 (qr (xs.getD a 0) (xs.getD b 0) (xs.getD c 0) (xs.getD d 0)).2.2.1
  | 29 => v = .int .u32 (qr (xs.getD a 0) (xs.getD b 0) (xs.getD c 0) (xs.getD d 0)).2.2.2
  | _ => True
def J15 (gr : Nat) (old new : List Value) (ys : List Int) (w0 : World) (bs : List Bool) (vs : List Value) (w : World) : Prop :=
  Row w 27 gr (bif bs.getD 1 false then new else old) ∧ Below gr w0 w ∧ (bs.getD 0 false = true → bs.getD 1 false = false → ∃ A c, vs.getD 0 undef = .slice A 4 c ∧ Bs w w.heap.size A 4 ys)
theorem J15.old_ {gr : Nat} {old new : List Value} {ys : List Int} {w0 : World} {bs : List Bool} {vs : List Value} {w : World} (h : J15 gr old new ys w0 bs vs w) (h1 : bs.getD 1 false = false) : Row w 27 gr old := by
  have := h.1
  rw [h1] at this
  exact this
def S15 (gr gx gs k : Nat) (X Y : Int) (n : Nat) (v : Value) : Prop :=
  match n with
  | 0 | 3 | 6 => v = .int .i64 k | 1 => v = .int .i64 ((4 * k : Nat) : Int) | 2 => v = .slice (some ⟨gr, 4 * k, none⟩) (64 - 4 * k) (64 - 4 * k)
  | 4 => v = .pointer (some ⟨gx, k, none⟩) | 5 => v = .int .u32 X | 7 => v = .pointer (some ⟨gs, k, none⟩) | 8 => v = .int .u32 Y | 9 => v = .int .u32 ((X + Y) % 4294967296)
  | 10 => ∃ A c, v = .slice A 4 c | _ => True
theorem fill4 (P R ys : List Int) (m : Nat) (hP : P.length = m) (hy : ys.length = 4) : (bv (P ++ R)).take m ++ (bv ys ++ (bv (P ++ R)).drop (m + 4)) = bv ((P ++ ys) ++ R.drop 4) := by
  subst hP
  simp [bv, List.drop_append]
end Go.Proofs.YtfpemnihknbihaaDoor
