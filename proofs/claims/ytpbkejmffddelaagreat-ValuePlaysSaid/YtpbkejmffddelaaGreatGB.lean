/-
  Several own texts in one: ZsetA, ZsetB, ZsetC, ZsetD, ZsetE, ZsetF, ZsetG, ZsetH, ZsetHa, ZsetI, ZsetJ. Own work.
-/
import Derived.Test.YtpbkejmffddelaaGreatRows
import Derived.Test.YtpbkejmffddelaaGreatChecked
import Derived.Shelf.Strconv.Itoa0
import Derived.Sort.EncStr
import Derived.StringKeys
import Derived.Laws.MakeOwn
import Derived.BigQuiet
import Derived.Test.YtpbkejmffddelaaGreatGA
set_option linter.unusedVariables false
set_option linter.unusedSimpArgs false
/-
  A sorted set: members with their scores, how any two stand; how many levels; contracts. Own work.
-/
namespace Go.Proofs.YtpbkejmffddelaaGreat
open Go.RowKit Go.Shelf
abbrev Nm := List UInt8
def isI (x : Int) : Prop := -9223372036854775808 ≤ x ∧ x ≤ 9223372036854775807
abbrev ptr (g : Nat) : Value := .pointer (some ⟨g, 0, none⟩)
/-- A member with its score. -/
structure Sc where
  m : Nm
  s : Int
deriving DecidableEq
abbrev Sc.cells (a : Sc) : List Value := [encStr a.m, .int .i64 a.s]
abbrev Sc.val (a : Sc) : Value := .agg a.cells.toArray
/-- Stands one ahead of another? -/
def Sc.less (a b : Sc) : Bool := if a.s = b.s then bytesBefore a.m b.m else decide (a.s < b.s)
theorem szSc (a : Sc) : (Tryz.prog.info? 99).map (·.size) = some a.cells.length := by kernel_rfl
theorem less_before : ∀ a b : List UInt8, Op.bytesLess a b = bytesBefore a b
  | [], [] => rfl
  | [], _ :: _ => rfl
  | _ :: _, [] => rfl
  | x :: r, y :: s => by
    have ih := less_before r s
    simp [Op.bytesLess, bytesBefore, ih]
theorem toList_enc (a : Nm) : (⟨a.toArray⟩ : ByteArray).toList = a := by rw [Lib.toList_data]
theorem lt_nm (w : World) (a b : Nm) : (binOp .lss 9 (encStr a) (encStr b)).run Tryz.prog w = .ok (.bool (bytesBefore a b)) w := by
  simp [encStr, binOp, Op.stringOp, less_before, toList_enc]
set_option maxRecDepth 100000 in
theorem less_any (w : World) (a b : Sc) : Calls Tryz.prog 149 #[a.val, b.val] w fun e w' => e = .returned (.bool (a.less b)) ∧ Below w.heap.size w w' := by
  obtain ⟨am, sa⟩ := a
  obtain ⟨bm, sb⟩ := b
  have hl := lt_nm
  by_cases he : sa = sb
  · have e1 : Sc.less ⟨am, sa⟩ ⟨bm, sb⟩ = bytesBefore am bm := by unfold Sc.less; rw [if_pos he]
    have h1 : (sa == sb) = true := by simp [he]
    have h2 : decide (sa = sb) = true := by simp [he]
    rw [e1]
    clear e1 he
    go_enter Tryz.func149, Tryz.ntmps149
    go_wp2_with (first
      | (with_reducible refine wl_box (o := ⟨some 2, _, _, _, _, _⟩) rfl 99 (.tmp 0) _ [encStr am, .int .i64 sa] rfl rfl rfl ?_; intro g2 w2 r2 p2 l2 b2)
      | (with_reducible refine wl_box (o := ⟨some 3, _, _, _, _, _⟩) rfl 99 (.tmp 1) _ [encStr bm, .int .i64 sb] rfl rfl rfl ?_; intro g3 w3 r3 p3 l3 b3; have r2 := r2.later b3; have c1 := r2.cell (j := 0) rfl; have c2 := r2.cell (j := 1) rfl; have c3 := r3.cell (j := 0) rfl; have c4 := r3.cell (j := 1) rfl))
    go_ret
    exact ⟨by rw [← less_before]; rfl, b2.trans (b3.mono b2.size)⟩
  · have e1 : Sc.less ⟨am, sa⟩ ⟨bm, sb⟩ = decide (sa < sb) := by unfold Sc.less; rw [if_neg he]
    have h1 : (sa == sb) = false := by simp [he]
    have h2 : decide (sa = sb) = false := by simp [he]
    rw [e1]
    clear e1 he
    go_enter Tryz.func149, Tryz.ntmps149
    go_wp2_with (first
      | (with_reducible refine wl_box (o := ⟨some 2, _, _, _, _, _⟩) rfl 99 (.tmp 0) _ [encStr am, .int .i64 sa] rfl rfl rfl ?_; intro g2 w2 r2 p2 l2 b2)
      | (with_reducible refine wl_box (o := ⟨some 3, _, _, _, _, _⟩) rfl 99 (.tmp 1) _ [encStr bm, .int .i64 sb] rfl rfl rfl ?_; intro g3 w3 r3 p3 l3 b3; have r2 := r2.later b3; have c1 := r2.cell (j := 0) rfl; have c2 := r2.cell (j := 1) rfl; have c3 := r3.cell (j := 0) rfl; have c4 := r3.cell (j := 1) rfl))
    go_ret
    exact ⟨rfl, b2.trans (b3.mono b2.size)⟩
theorem len64_any (x : Int) (w : World) (h0 : 0 ≤ x) (h1 : x ≤ 18446744073709551615) : Calls Tryz.prog 167 #[.int .u64 x] w fun e w' => e = .returned (.int .i64 (Lib.bitLen x.toNat)) ∧ w' = w :=
  Any.bits_Len64 len64S x w h0 h1
theorem bitLenAux_le : ∀ (f x : Nat), Lib.bitLenAux f x ≤ f
  | 0, x => by simp [Lib.bitLenAux]
  | f + 1, x => by
    have := bitLenAux_le f (x / 2)
    unfold Lib.bitLenAux
    split <;> omega
theorem bitLen_le64 (x : Nat) : Lib.bitLen x ≤ 64 := bitLenAux_le 64 x
set_option maxRecDepth 100000 in
theorem lz64_any (x : Int) (w : World) (h0 : 0 ≤ x) (h1 : x ≤ 18446744073709551615) : Calls Tryz.prog 168 #[.int .u64 x] w fun e w' => (∃ z : Nat, z ≤ 64 ∧ e = .returned (.int .i64 (z : Int))) ∧ w = w' := by
  have hL := len64_any x w h0 h1
  have hb := bitLen_le64 x.toNat
  generalize Lib.bitLen x.toNat = b at *
  have hbI : (b : Int) ≤ 64 := by omega
  have hb0 : (0 : Int) ≤ (b : Int) := by omega
  clear h0 h1
  go_enter Tryz.func168, Tryz.ntmps168
  go_wp2_with fail
  refine hL.mono ?_
  rintro e w' ⟨rfl, rfl⟩
  go_wp2_with fail
  go_ret
  have e9 : ((64 - b : Nat) : Int) = 64 - (b : Int) := by omega
  exact ⟨⟨64 - b, by omega, by rw [e9]; rfl⟩, rfl⟩
theorem wrap_u64_le (n : Int) : IntKind.u64.wrap n ≤ 18446744073709551615 := by simp [IntKind.wrap, IntKind.bits, IntKind.signed]; omega
theorem mix_ok {z : Int} (h0 : 0 ≤ z) (h1 : z ≤ 18446744073709551615) {b : Int} (b0 : 0 ≤ b) (b1 : b < 256) : 0 ≤ bits .xor .u64 z b ∧ bits .xor .u64 z b ≤ 18446744073709551615 := by
  rw [u64_xor z b h0 (by omega) b0 (by omega)]
  have := Nat.xor_lt_two_pow (x := z.toNat) (y := b.toNat) (n := 64) (by omega) (by omega)
  omega
set_option maxRecDepth 100000 in
set_option maxHeartbeats 1000000 in
theorem height_any (m : Nm) (w : World) (hm : m.length ≤ 1000000) : Calls Tryz.prog 156 #[encStr m] w fun e w' => (∃ h : Nat, 1 ≤ h ∧ h ≤ 16 ∧ e = .returned (.int .i64 (h : Int))) ∧ w = w' := by
  have hsz : (⟨m.toArray⟩ : ByteArray).size = m.length := by show m.toArray.size = _; simp
  have hmI : (m.length : Int) ≤ 1000000 := by omega
  go_enter Tryz.func156, Tryz.ntmps156
  go_wp2_with fail
  go_loopw [3, 7] (fun mv iv wr => ∃ (z : Int) (i : Nat), i ≤ m.length ∧ mv = .int .u64 z ∧ iv = .int .i64 i ∧ 0 ≤ z ∧ z ≤ 18446744073709551615 ∧ wr = w) (fun _ iv _ => m.length - (intOf iv).toNat)
  case atStart => exact ⟨11160318154034397263, 0, by omega, rfl, rfl, by decide, by decide, rfl⟩
  case round =>
    obtain ⟨z, i, hi, rfl, rfl, hz0, hz1, rfl⟩ := hrel
    by_cases hii : i < m.length
    · have hi2 : (i : Int) < (m.length : Int) := by omega
      go_wp2_with fail
      exact ⟨⟨_, i + 1, by omega, rfl, by rw [show ((i + 1 : Nat) : Int) = (i : Int) + 1 by omega], wrap_u64_nonneg _, wrap_u64_le _, trivial⟩, by simp [intOf]; omega⟩
    · obtain rfl : i = m.length := by omega
      have hL := lz64_any z wr hz0 hz1
      go_wp2_with fail
      refine hL.mono ?_
      rintro e w' ⟨⟨q, hq, rfl⟩, rfl⟩
      have hq0 : (0 : Int) ≤ (q : Int) := by omega
      have hqI : (q : Int) ≤ 64 := by omega
      go_wp2_with fail
      go_ret
      have e9 : ((min (1 + q / 2) 16 : Nat) : Int) = min (1 + (q : Int) / 2) 16 := by omega
      exact ⟨⟨min (1 + q / 2) 16, by omega, by omega, by rw [e9]; rfl⟩, rfl⟩
end Go.Proofs.YtpbkejmffddelaaGreat

/-
  A sorted set: a node whose links go nowhere yet: contract. Own work.
-/
namespace Go.Proofs.YtpbkejmffddelaaGreat
open Go.RowKit Go.Shelf
theorem wl_makeN {P : Program} {ops : Array Oper} {rest : List Oper} {o : Oper} {a : Act} {w : World} {Q : Exit → Act → World → Prop} (hgd : o.guard = none) (t : TypeId) (x y : Operand) (ho : o.op = .makeSlice t x y) (e : TypeId) (i : TypeInfo) (z : Value) (size : Nat) (ht : P.underlying t = some (.slice e)) (hi : P.info? e = some i) (hz : i.zero = some z) (hsz : i.size = size)
    (l : Nat) (hx : a.eval x = .int .i64 l) (hy : a.eval y = .int .i64 l) (hlen : i.bytes * l ≤ 281474976710656) (hc : l ≤ 9223372036854775807)
    (hk : ∀ g w', Row w' e g (madeCells z.cells (l * size)).toList → w.heap.size ≤ g → g < w'.heap.size → Below w.heap.size w w' → wpList P ops Q rest (a.put o.dst (.slice (some ⟨g, 0, none⟩) l l)) w') : wpList P ops Q (o :: rest) a w := by
  refine wpList_plain hgd fun K hK => ?_
  have hb' : (i.bytes : Int) * (l : Int) ≤ 281474976710656 := by
    have h : ((i.bytes * l : Nat) : Int) ≤ 281474976710656 := by omega
    rwa [Int.natCast_mul] at h
  have hrun := run_make (P := P) w t e i z ht hi hz .i64 .i64 l l (by omega) (by omega) hb' (by omega)
  unfold Oper.wp execOp
  simp only [ho, hx, hy, hrun, Sem.run_bind, Result.andThen_ok, Sem.run_pure, Int.toNat_natCast]
  refine hK _ _ (hk _ _ ?_ (Nat.le_refl _) (lt_alloc _ _) ((Below.refl _ _).alloc (Nat.le_refl _) _))
  unfold Row
  rw [heap_alloc_new, hsz]
/-- A link: the node it goes to, and how many places it goes on. -/
structure Lk where
  to : Option Nat
  n : Int
abbrev Lk.cells (l : Lk) : List Value := [.pointer (l.to.map fun g => ⟨g, 0, none⟩), .int .i64 l.n]
abbrev lksC (ls : List Lk) : List Value := ls.flatMap Lk.cells
abbrev noLk : Lk := ⟨none, 0⟩
abbrev nodeC (a : Sc) (b h : Nat) : List Value := [encStr a.m, .int .i64 a.s, .slice (some ⟨b, 0, none⟩) h h]
theorem lksC_length (ls : List Lk) : (lksC ls).length = 2 * ls.length := by
  induction ls with
  | nil => rfl
  | cons l r ih =>
    show (Lk.cells l ++ lksC r).length = _
    rw [List.length_append, ih]
    show 2 + 2 * r.length = 2 * (r.length + 1)
    omega
theorem made_links (h : Nat) : (madeCells (Value.agg #[.pointer none, .int .i64 0]).cells (h * 2)).toList = lksC (List.replicate h noLk) := by
  apply List.ext_getElem?
  intro j
  have hl : (lksC (List.replicate h noLk)).length = 2 * h := by rw [lksC_length, List.length_replicate]
  have key : ∀ (h j : Nat), (lksC (List.replicate h noLk))[j]? = if j < 2 * h then some (if j % 2 = 0 then .pointer none else .int .i64 0) else none := by
    intro h
    induction h with
    | zero => intro j; simp
    | succ h ih =>
      intro j
      rw [List.replicate_succ]
      show (Lk.cells noLk ++ lksC (List.replicate h noLk))[j]? = _
      match j with
      | 0 => rw [if_pos (by omega)]; rfl
      | 1 => rw [if_pos (by omega)]; rfl
      | j + 2 =>
        show (lksC (List.replicate h noLk))[j]? = _
        rw [ih j]
        by_cases hj : j < 2 * h
        · have hj2 : j + 2 < 2 * (h + 1) := by omega
          rw [if_pos hj, if_pos hj2, show (j + 2) % 2 = j % 2 by omega]
        · have hj2 : ¬ j + 2 < 2 * (h + 1) := by omega
          rw [if_neg hj, if_neg hj2]
  rw [key]
  simp only [madeCells, Array.getElem?_toList, Array.getElem?_map, Array.getElem?_range]
  by_cases hj : j < 2 * h
  · rw [if_pos hj]
    simp only [show j < h * 2 by omega, if_true, Option.map_some, Value.cells]
    have h2 : j % 2 = 0 ∨ j % 2 = 1 := by omega
    show some (#[Value.pointer none, Value.int .i64 0][j % 2]!) = _
    rcases h2 with e | e <;> rw [e] <;> rfl
  · rw [if_neg hj]
    simp [show ¬ j < h * 2 by omega]
theorem linkI_ : (Tryz.prog.info? 176).map (fun i => (i.zero, i.size, i.bytes)) = some (some (.agg #[.pointer none, .int .i64 0]), 2, 16) := by kernel_rfl
theorem linkI : ∃ i, Tryz.prog.info? 176 = some i ∧ i.zero = some (.agg #[.pointer none, .int .i64 0]) ∧ i.size = 2 ∧ i.bytes = 16 := by
  obtain ⟨i, h0, h1, h2, h3⟩ := info_parts linkI_
  exact ⟨i, h0, h1, h2, h3⟩
theorem szLks : (Tryz.prog.info? 148).map (·.size) = some 1 := by kernel_rfl
theorem builtNode (a : Sc) : Tryz.prog.built 150 [(0, .agg #[encStr a.m, .int .i64 a.s])] = some [encStr a.m, .int .i64 a.s, .slice none 0 0].toArray := by kernel_rfl
set_option maxRecDepth 100000 in
set_option maxHeartbeats 1000000 in
theorem newNode_any (w : World) (a : Sc) (hm : a.m.length ≤ 1000000) : Calls Tryz.prog 139 #[a.val] w fun e w' =>
    ∃ g b h, e = .returned (ptr g) ∧ 1 ≤ h ∧ h ≤ 16 ∧ Row w' 150 g (nodeC a b h) ∧ Row w' 176 b (lksC (List.replicate h noLk)) ∧ w.heap.size ≤ g ∧ g < b ∧ Below w.heap.size w w' := by
  have HH := fun w => height_any a.m w hm
  obtain ⟨i0, hi, hz, hs, hb⟩ := linkI
  have hN := builtNode a
  have hS := szSc a
  obtain ⟨am, sa⟩ := a
  clear hm
  go_enter Tryz.func139, Tryz.ntmps139
  go_wp2_with (first
    | (with_reducible refine wl_box (o := ⟨some 1, _, _, _, _, _⟩) rfl 99 (.tmp 0) _ [encStr am, .int .i64 sa] rfl rfl rfl ?_; intro g1 w1 r1 p1 l1 b1)
    | (with_reducible refine wl_load_row rfl 99 (.tmp 1) g1 99 [encStr am, .int .i64 sa] _ rfl rfl r1 Tryz.underlying99 rfl hS ?_)
    | (with_reducible refine wl_build rfl 150 [(0, .tmp 4)] rfl [(0, .agg #[encStr am, .int .i64 sa])] rfl [encStr am, .int .i64 sa, .slice none 0 0] hN ?_)
    | (with_reducible refine wl_box (o := ⟨some 6, _, _, _, _, _⟩) rfl 150 (.tmp 5) _ [encStr am, .int .i64 sa, .slice none 0 0] rfl rfl rfl ?_; intro g2 w2 r2 p2 l2 b2; have c1 := r2.cell (j := 0) rfl))
  refine (HH _).mono ?_
  rintro e w' ⟨⟨h, h1, h16, rfl⟩, rfl⟩
  go_wp2_with (first
    | (with_reducible refine wl_makeN rfl 148 (.tmp 13) (.tmp 13) rfl 176 i0 _ 2 Tryz.underlying148 hi hz hs h rfl rfl (by rw [hb]; omega) (by omega) ?_; intro g3 w3 r3 p3 l3 b3; have r2b := r2.later b3)
    | (with_reducible refine wl_store rfl 148 (.tmp 16) (.tmp 14) g2 2 150 _ (.slice (some ⟨g3, 0, none⟩) h h) rfl szLks rfl rfl r2b (by simp) rfl ?_; intro w4 r4 o4))
  go_ret
  have s1 := b1.size
  have s2 := b2.size
  have B2 := b1.trans (b2.mono s1)
  have B3 := B2.trans (b3.mono B2.size)
  have r3' := r3.only o4 (by omega)
  rw [made_links] at r3'
  exact ⟨g2, g3, h, rfl, h1, h16, r4, r3', by omega, by omega, B3.trans (o4.below (by omega))⟩
end Go.Proofs.YtpbkejmffddelaaGreat

/-
  A skip list: its links as lists, and how it lies in memory. Own work.
-/
namespace Go.Proofs.YtpbkejmffddelaaGreat
open Go.RowKit Go.Shelf
/-- A node: its member, its block, its links' block, on how many levels it has links. -/
structure Nd where
  a : Sc
  g : Nat
  b : Nat
  h : Nat
/-- The link on a level, of a node ahead of these. -/
def nxt (lv : Nat) : List Nd → Lk
  | [] => ⟨none, 0⟩
  | n :: r => if lv < n.h then ⟨some n.g, 1⟩ else ⟨(nxt lv r).to, (nxt lv r).n + 1⟩
/-- No node of these has links on the level: the link goes on behind them. -/
theorem nxt_low {lv : Nat} : ∀ {A : List Nd} (B : List Nd), (∀ y ∈ A, y.h ≤ lv) → nxt lv (A ++ B) = ⟨(nxt lv B).to, (nxt lv B).n + A.length⟩
  | [], B, _ => by simp
  | y :: r, B, h => by
    have h1 : ¬ lv < y.h := by have := h y (by simp); omega
    have ih := nxt_low (A := r) B fun z hz => h z (by simp [hz])
    show (if lv < y.h then _ else _) = _
    rw [if_neg h1, show nxt lv (List.append r B) = _ from ih, List.length_cons]
    simp only [Lk.mk.injEq, true_and]
    omega
/-- One of these has links on the level: what stands behind them is nothing to the link. -/
theorem nxt_hit {lv : Nat} : ∀ {A : List Nd} (B C : List Nd), (∃ y ∈ A, lv < y.h) → nxt lv (A ++ B) = nxt lv (A ++ C)
  | [], _, _, h => by simp at h
  | y :: r, B, C, h => by
    show (if lv < y.h then _ else _) = (if lv < y.h then _ else _)
    by_cases hy : lv < y.h
    · rw [if_pos hy, if_pos hy]
    · have h2 : ∃ z ∈ r, lv < z.h := by
        obtain ⟨z, hz, hlt⟩ := h
        rcases List.mem_cons.1 hz with e | e
        · subst e; exact absurd hlt hy
        · exact ⟨z, e, hlt⟩
      rw [if_neg hy, if_neg hy, show nxt lv (List.append r B) = nxt lv (List.append r C) from nxt_hit B C h2]
/-- A link goes to none, or to the first node that has links on the level. -/
theorem nxt_cases (lv : Nat) : ∀ R : List Nd, (nxt lv R = ⟨none, (R.length : Int)⟩ ∧ ∀ y ∈ R, y.h ≤ lv) ∨ ∃ A x B, R = A ++ x :: B ∧ nxt lv R = ⟨some x.g, (A.length : Int) + 1⟩ ∧ lv < x.h ∧ ∀ y ∈ A, y.h ≤ lv
  | [] => .inl ⟨rfl, by simp⟩
  | n :: r => by
    by_cases hn : lv < n.h
    · exact .inr ⟨[], n, r, rfl, by show (if lv < n.h then _ else _) = _; rw [if_pos hn]; rfl, hn, by simp⟩
    · have e : nxt lv (n :: r) = ⟨(nxt lv r).to, (nxt lv r).n + 1⟩ := by show (if lv < n.h then _ else _) = _; rw [if_neg hn]
      rcases nxt_cases lv r with ⟨h1, h2⟩ | ⟨A, x, B, h1, h2, h3, h4⟩
      · refine .inl ⟨by rw [e, h1, List.length_cons]; simp, ?_⟩
        intro y hy
        rcases List.mem_cons.1 hy with e | e
        · subst e; omega
        · exact h2 y e
      · refine .inr ⟨n :: A, x, B, by rw [h1]; rfl, by rw [e, h2, List.length_cons]; simp, h3, ?_⟩
        intro y hy
        rcases List.mem_cons.1 hy with e | e
        · subst e; omega
        · exact h4 y e
/-- A node is put in behind A: the links of those ahead of A. -/
theorem nxt_put (lv : Nat) (A B : List Nd) (m : Nd) : nxt lv (A ++ m :: B) =
    if ∃ y ∈ A, lv < y.h then nxt lv (A ++ B) else if lv < m.h then ⟨some m.g, (A.length : Int) + 1⟩ else ⟨(nxt lv (A ++ B)).to, (nxt lv (A ++ B)).n + 1⟩ := by
  by_cases h : ∃ y ∈ A, lv < y.h
  · rw [if_pos h]; exact nxt_hit _ _ h
  · have hl : ∀ y ∈ A, y.h ≤ lv := fun y hy => Nat.le_of_not_lt fun hlt => h ⟨y, hy, hlt⟩
    rw [if_neg h, nxt_low _ hl, nxt_low _ hl]
    by_cases hm : lv < m.h
    · rw [if_pos hm, show nxt lv (m :: B) = ⟨some m.g, 1⟩ by show (if lv < m.h then _ else _) = _; rw [if_pos hm]]
      simp only [Lk.mk.injEq, true_and]; omega
    · rw [if_neg hm, show nxt lv (m :: B) = ⟨(nxt lv B).to, (nxt lv B).n + 1⟩ by show (if lv < m.h then _ else _) = _; rw [if_neg hm]]
      simp only [Lk.mk.injEq, true_and]; omega
/-- The list in memory: the head and the nodes, each with its links; f: of the c-th the link on a level. -/
structure ZAt (w : World) (B : Nat) (N : List Nd) (f : Nat → Nat → Lk) : Prop where
  node : ∀ (c : Nat) (n : Nd), N[c]? = some n → Row w 150 n.g (nodeC n.a n.b n.h)
  link : ∀ (c : Nat) (n : Nd), N[c]? = some n → Row w 176 n.b (lksC ((List.range n.h).map (f c)))
  lo : ∀ (c : Nat) (n : Nd), N[c]? = some n → B ≤ n.g ∧ B ≤ n.b ∧ 1 ≤ n.h ∧ n.h ≤ 16
  gb : ∀ (c d : Nat) (n m : Nd), N[c]? = some n → N[d]? = some m → n.g ≠ m.b
  gg : ∀ (c d : Nat) (n m : Nd), N[c]? = some n → N[d]? = some m → c ≠ d → n.g ≠ m.g ∧ n.b ≠ m.b
theorem ZAt.later {w w' : World} {B : Nat} {N : List Nd} {f : Nat → Nat → Lk} (h : ZAt w B N f) (hb : Below w.heap.size w w') : ZAt w' B N f :=
  ⟨fun c n e => (h.node c n e).later hb, fun c n e => (h.link c n e).later hb, h.lo, h.gb, h.gg⟩
theorem ZAt.only {w w' : World} {B : Nat} {N : List Nd} {f : Nat → Nat → Lk} {x : Nat} (h : ZAt w B N f) (ho : Only x w w') (hx : ∀ (c : Nat) (n : Nd), N[c]? = some n → n.g ≠ x ∧ n.b ≠ x) : ZAt w' B N f :=
  ⟨fun c n e => (h.node c n e).only ho (hx c n e).1, fun c n e => (h.link c n e).only ho (hx c n e).2, h.lo, h.gb, h.gg⟩
/-- A node's links turned. -/
theorem ZAt.turn {w w' : World} {B : Nat} {N : List Nd} {f : Nat → Nat → Lk} {c : Nat} {n : Nd} (h : ZAt w B N f) (hc : N[c]? = some n) (ho : Only n.b w w') (k : Nat → Lk) (hr : Row w' 176 n.b (lksC ((List.range n.h).map k))) : ZAt w' B N fun d => if d = c then k else f d := by
  refine ⟨fun d m e => (h.node d m e).only ho (h.gb d c m n e hc), fun d m e => ?_, h.lo, h.gb, h.gg⟩
  by_cases hd : d = c
  · subst hd
    have e2 : n = m := Option.some.inj (hc.symm.trans e)
    subst e2
    simpa using hr
  · rw [if_neg hd]
    exact (h.link d m e).only ho (h.gg d c m n e hc hd).2
theorem ZAt.congr {w : World} {B : Nat} {N : List Nd} {f k : Nat → Nat → Lk} (h : ZAt w B N f) (e : ∀ (c : Nat) (n : Nd) (lv : Nat), N[c]? = some n → lv < n.h → f c lv = k c lv) : ZAt w B N k := by
  refine ⟨h.node, fun c n hc => ?_, h.lo, h.gb, h.gg⟩
  have e2 : (List.range n.h).map (k c) = (List.range n.h).map (f c) := List.map_congr_left fun lv hlv => (e c n lv hc (List.mem_range.1 hlv)).symm
  rw [e2]
  exact h.link c n hc
/-- The list whole. -/
abbrev full (L : List Nd) (c lv : Nat) : Lk := nxt lv (L.drop c)
/-- The cells of a row of links, parted at a level. -/
theorem lks_part : ∀ (k : Nat → Lk) (h lv : Nat), lv < h → lksC ((List.range h).map k) = lksC ((List.range lv).map k) ++ ((k lv).cells ++ lksC (((List.range h).drop (lv + 1)).map k)) := by
  intro k h lv hl
  have e : (List.range h) = List.range lv ++ lv :: (List.range h).drop (lv + 1) := by
    have h1 : (List.range h).take lv = List.range lv := by rw [List.take_range, Nat.min_eq_left (by omega)]
    have h2 : (List.range h).drop lv = lv :: (List.range h).drop (lv + 1) := by rw [List.drop_eq_getElem_cons (by simpa using hl)]; simp
    rw [← h1, ← h2, List.take_append_drop]
  have e2 : (List.range h).map k = (List.range lv).map k ++ k lv :: ((List.range h).drop (lv + 1)).map k := by
    conv => lhs; rw [e]
    rw [List.map_append, List.map_cons]
  rw [e2]
  simp only [lksC, List.flatMap_append, List.flatMap_cons]
theorem lks_ahead (k : Nat → Lk) (lv : Nat) : (lksC ((List.range lv).map k)).length = 2 * lv := by rw [lksC_length, List.length_map, List.length_range]
/-- One link of the row turned. -/
theorem lks_turn (k : Nat → Lk) (h lv : Nat) (x : Lk) (hl : lv < h) : lksC ((List.range lv).map k) ++ (x.cells ++ lksC (((List.range h).drop (lv + 1)).map k)) = lksC ((List.range h).map fun l => if l = lv then x else k l) := by
  rw [lks_part _ h lv hl, if_pos rfl]
  have e1 : (List.range lv).map (fun l => if l = lv then x else k l) = (List.range lv).map k := List.map_congr_left fun l hl => if_neg (by have := List.mem_range.1 hl; omega)
  have e2 : ((List.range h).drop (lv + 1)).map (fun l => if l = lv then x else k l) = ((List.range h).drop (lv + 1)).map k := by
    refine List.map_congr_left fun l hm => if_neg ?_
    intro e
    subst e
    obtain ⟨j, hj⟩ := List.getElem?_of_mem hm
    rw [List.getElem?_drop] at hj
    have h3 := List.getElem?_eq_some_iff.1 hj
    obtain ⟨h4, h5⟩ := h3
    simp at h5
    omega
  rw [e1, e2]
end Go.Proofs.YtpbkejmffddelaaGreat

/-
  A set's closures: how one is called, what they answer; stops of a walk. Own work.
-/
namespace Go.Proofs.YtpbkejmffddelaaGreat
open Go.RowKit Go.Shelf
/-- A closure of two arguments is called. -/
theorem st_callF2 {o : Oper} {a : Act} {w : World} {K : Act → World → Prop} {Q : Exit → Act → World → Prop} (f : FuncId) (x y z : Operand) (t u : TypeId) (v1 v2 : Value) (caps : Array Value) (ho : o.op = .call { callee := .value x, args := #[y, z], argTypes := #[t, u] }) (hx : a.eval x = .func (.func f) #[] caps) (hy : a.eval y = v1) (hz : a.eval z = v2)
    (hf : ∀ (xs : Array Value) (w : World), (callFunc f xs).run Tryz.prog w = .ok (.enter f xs) w)
    {R : Ending → World → Prop} (hc : Calls Tryz.prog f (#[v1, v2] ++ caps) w R) (hk : ∀ e w', R e w' → ∃ v, e = .returned v ∧ K (a.put o.dst v) w') : o.wp Tryz.prog a w K Q := by
  unfold Oper.wp execOp
  simp only [ho, resolve, hx, Deferred.ofValue, List.map_toArray, List.map_cons, List.map_nil, hy, hz]
  go_simp
  refine hc.mono fun e w' h => ?_
  obtain ⟨v, rfl, h2⟩ := hk e w' h
  exact h2
theorem callAhead : ∀ (xs : Array Value) (w : World), (callFunc 155 xs).run Tryz.prog w = .ok (.enter 155 xs) w := fun xs w => by kernel_rfl
set_option maxRecDepth 100000 in
/-- ahead: a closure over the member. -/
theorem ahead_any (w : World) (a : Sc) : Calls Tryz.prog 138 #[a.val] w fun e w' => ∃ g, e = .returned (.func (.func 155) #[] #[ptr g]) ∧ Row w' 99 g a.cells ∧ w.heap.size ≤ g ∧ Below w.heap.size w w' := by
  obtain ⟨am, sa⟩ := a
  go_enter Tryz.func138, Tryz.ntmps138
  go_wp2_with (first
    | (with_reducible refine wl_box (o := ⟨some 1, _, _, _, _, _⟩) rfl 99 (.tmp 0) _ [encStr am, .int .i64 sa] rfl rfl rfl ?_; intro g1 w1 r1 p1 l1 b1))
  go_ret
  exact ⟨g1, rfl, r1, p1, b1⟩
set_option maxRecDepth 100000 in
theorem ahead1_any (w : World) (a x : Sc) (i : Int) (g : Nat) (h : Row w 99 g a.cells) : Calls Tryz.prog 155 (#[x.val, .int .i64 i] ++ #[ptr g]) w fun e w' => e = .returned (.bool (x.less a)) ∧ Below w.heap.size w w' := by
  have HL := fun w => less_any w x a
  have hS := szSc x
  have hT := szSc a
  obtain ⟨r, hr⟩ : ∃ r, r = x.less a := ⟨_, rfl⟩
  rw [← hr] at HL ⊢
  clear hr
  obtain ⟨am, sa⟩ := a
  obtain ⟨xm, sx⟩ := x
  show Calls _ _ #[_, _, _] _ _
  go_enter Tryz.func155, Tryz.ntmps155
  go_wp2_with (first
    | (with_reducible refine wl_box (o := ⟨some 3, _, _, _, _, _⟩) rfl 99 (.tmp 0) _ [encStr xm, .int .i64 sx] rfl rfl rfl ?_; intro g1 w1 r1 p1 l1 b1; have h1 := h.later b1)
    | (with_reducible refine wl_load_row rfl 99 (.tmp 3) g1 99 [encStr xm, .int .i64 sx] _ rfl rfl r1 Tryz.underlying99 rfl hS ?_)
    | (with_reducible refine wl_load_row rfl 99 (.tmp 2) g 99 [encStr am, .int .i64 sa] _ rfl rfl h1 Tryz.underlying99 rfl hT ?_))
  refine (HL _).mono ?_
  rintro e w' ⟨rfl, b2⟩
  go_wp2_with fail
  go_ret
  exact ⟨rfl, b1.trans (b2.mono b1.size)⟩
/-- The node where a walk stops on a level: the last one of the first k that has links there. -/
def IsStop (N : List Nd) (k lv c : Nat) : Prop := c ≤ k ∧ (∃ n, N[c]? = some n ∧ lv < n.h) ∧ ∀ (i : Nat) (n : Nd), c < i → i ≤ k → N[i]? = some n → n.h ≤ lv
theorem IsStop.uniq {N : List Nd} {k lv c d : Nat} (h : IsStop N k lv c) (h2 : IsStop N k lv d) : c = d := by
  obtain ⟨h1, ⟨n, hn, hl⟩, h3⟩ := h
  obtain ⟨k1, ⟨m, hm, km⟩, k3⟩ := h2
  rcases Nat.lt_trichotomy c d with e | e | e
  · have := h3 d m e k1 hm; omega
  · exact e
  · have := k3 c n e h1 hn; omega
/-- On the lowest level a walk stops at the k-th. -/
theorem IsStop.low {N : List Nd} {k c : Nat} (h : IsStop N k 0 c) (hk : k < N.length) (h1 : ∀ (i : Nat) (n : Nd), N[i]? = some n → 1 ≤ n.h) : c = k := by
  refine Nat.le_antisymm h.1 (Nat.le_of_not_lt fun hlt => ?_)
  have e : N[k]? = some N[k] := List.getElem?_eq_getElem hk
  have := h.2.2 k _ hlt (Nat.le_refl _) e
  have := h1 k _ e
  omega
/-- From a node on a level: the walk stops there, or goes on to a node that has links there too. -/
theorem walk_step {hd : Nd} {L : List Nd} {k lv c : Nat} (hc : c ≤ k) (hk : k ≤ L.length) {n : Nd} (hn : (hd :: L)[c]? = some n) (hl : lv < n.h) :
    ((nxt lv (L.drop c)).to = none ∧ IsStop (hd :: L) k lv c) ∨ ∃ (q : Nat) (m : Nd), nxt lv (L.drop c) = ⟨some m.g, (q : Int) + 1⟩ ∧ L[c + q]? = some m ∧ (hd :: L)[c + q + 1]? = some m ∧ lv < m.h ∧ (¬ c + q < k → IsStop (hd :: L) k lv c) := by
  have low : ∀ (A : List Nd) (R : List Nd), L.drop c = A ++ R → (∀ y ∈ A, y.h ≤ lv) → ∀ (i : Nat) (y : Nd), c < i → i ≤ c + A.length → (hd :: L)[i]? = some y → y.h ≤ lv := by
    intro A R hA hy i y h1 h2 h3
    obtain ⟨j, rfl⟩ : ∃ j, i = c + j + 1 := ⟨i - c - 1, by omega⟩
    rw [List.getElem?_cons_succ] at h3
    have h4 : (L.drop c)[j]? = some y := by rw [List.getElem?_drop]; exact h3
    rw [hA, List.getElem?_append_left (by omega)] at h4
    exact hy y (List.mem_of_getElem? h4)
  rcases nxt_cases lv (L.drop c) with ⟨h1, h2⟩ | ⟨A, m, R, h1, h2, h3, h4⟩
  · refine .inl ⟨by rw [h1], hc, ⟨n, hn, hl⟩, fun i y h5 h6 h7 => ?_⟩
    refine low (L.drop c) [] (by simp) h2 i y h5 ?_ h7
    rw [List.length_drop]; omega
  · have e1 : L[c + A.length]? = some m := by
      have : (L.drop c)[A.length]? = some m := by rw [h1]; simp
      rwa [List.getElem?_drop] at this
    refine .inr ⟨A.length, m, h2, e1, by rw [List.getElem?_cons_succ]; exact e1, h3, fun hq => ⟨hc, ⟨n, hn, hl⟩, fun i y h5 h6 h7 => ?_⟩⟩
    exact low A (m :: R) h1 h4 i y h5 (by omega) h7
end Go.Proofs.YtpbkejmffddelaaGreat

/-
  A set's walk: contract. Own work.
-/
namespace Go.Proofs.YtpbkejmffddelaaGreat
open Go.RowKit Go.Shelf
theorem run_indexSlN {P : Program} {w : World} {a : Act} {o : Oper} (t : TypeId) (x y : Operand) (e : TypeId) (z : Nat) (b off len cap i : Nat)
    (ho : o.op = .indexAddr t x y) (hu : P.underlying t = some (.slice e)) (hs : ∀ w, (sizeOf e).run P w = .ok z w) (hx : a.eval x = .slice (some ⟨b, off, none⟩) len cap) (hy : a.eval y = .int .i64 i) (hi : i < len) :
    (execOp a.eval o).run P w = .ok (.value (.pointer (some ⟨b, off + i * z, none⟩))) w := by
  unfold execOp
  simp only [ho, hx, hy]
  go_simp
/-- A link of a list, and its row parted there. -/
theorem lksL_part : ∀ (ps : List Lk) (lv : Nat) (x : Lk), ps[lv]? = some x → lksC ps = lksC (ps.take lv) ++ (x.cells ++ lksC (ps.drop (lv + 1)))
  | [], lv, x, h => by simp at h
  | p :: r, 0, x, h => by
    have e : p = x := by simpa using h
    subst e; rfl
  | p :: r, lv + 1, x, h => by
    have h2 : r[lv]? = some x := by simpa using h
    show p.cells ++ lksC r = p.cells ++ lksC (r.take lv) ++ _
    rw [lksL_part r lv x h2, List.append_assoc]
    rfl
theorem lksL_set (ps : List Lk) (lv : Nat) (y : Lk) (h : lv < ps.length) : lksC (ps.take lv) ++ (y.cells ++ lksC (ps.drop (lv + 1))) = lksC (ps.set lv y) := by
  rw [lksL_part (ps.set lv y) lv y (by simp [h])]
  have e1 : (ps.set lv y).take lv = ps.take lv := by rw [List.take_set]; exact List.set_eq_of_length_le (by simp; omega)
  have e2 : (ps.set lv y).drop (lv + 1) = ps.drop (lv + 1) := by rw [List.drop_set]; simp
  rw [e1, e2]
theorem lksL_ahead (ps : List Lk) (lv : Nat) (h : lv ≤ ps.length) : (lksC (ps.take lv)).length = 2 * lv := by rw [lksC_length, List.length_take, Nat.min_eq_left h]
theorem lks_one : ∀ (ps : List Lk), ∀ u ∈ lksC ps, u.oneCell' = true := by
  intro ps u hu
  obtain ⟨l, _, h⟩ := List.mem_flatMap.1 hu
  simp only [Lk.cells, List.mem_cons, List.not_mem_nil, or_false] at h
  rcases h with rfl | rfl <;> rfl
theorem szStops {ps : List Lk} (h : ps.length = 16) : (Tryz.prog.info? 169).map (·.size) = some (lksC ps).length := by
  rw [lksC_length, h]
  kernel_rfl
theorem below_drewn {B : Nat} {w w' : World} (h : Below B w w') (n : Nat) : Below B w (w'.drewN n) := ⟨h.os, h.tape, h.output, h.size, h.block⟩
theorem builtStop (g : Nat) (x : Int) : Tryz.prog.built 168 [(0, .pointer (some ⟨g, 0, none⟩)), (1, .int .i64 x)] = some [.pointer (some ⟨g, 0, none⟩), .int .i64 x].toArray := by kernel_rfl
theorem szStop (a b : Value) : (Tryz.prog.info? 168).map (·.size) = some [a, b].length := by kernel_rfl
theorem szLink (a b : Value) : (Tryz.prog.info? 176).map (·.size) = some [a, b].length := by kernel_rfl
def SWk8 (fid : FuncId) (caps : Array Value) (g6 g9 gn gm bm hm c q : Nat) (mm : Nm) (ms : Int) (rr : Bool) (opn : Nat) (v : Value) : Prop :=
  match opn with
  | 0 | 5 => v = .pointer (some ⟨g9, 0, none⟩)
  | 1 | 6 | 7 | 8 => v = .pointer (some ⟨gm, 0, none⟩)
  | 2 | 3 => v = .bool false
  | 4 => v = .func (.func fid) #[] caps
  | 9 => v = .agg [encStr mm, .int .i64 ms].toArray
  | 10 => v = .pointer (some ⟨g6, 1, none⟩)
  | 11 => v = .int .i64 (c : Int)
  | 12 => v = .pointer (some ⟨g9, 1, none⟩)
  | 13 => v = .int .i64 ((q : Int) + 1)
  | 14 => v = .int .i64 ((c : Int) + ((q : Int) + 1))
  | 15 => v = .int .i64 ((c + q : Nat) : Int)
  | 16 => v = .bool rr
  | 17 | 18 => v = .bool (!rr)
  | _ => True

set_option maxRecDepth 100000 in
set_option maxHeartbeats 4000000 in
theorem walk_any (w : World) (B k : Nat) (hd : Nd) (Ls : List Nd) (fid : FuncId) (caps : Array Value) (hZ : ZAt w B (hd :: Ls) (full Ls)) (hh : hd.h = 16) (hk : k ≤ Ls.length) (hl : Ls.length ≤ 1000000)
    (hf : ∀ (xs : Array Value) (w : World), (callFunc fid xs).run Tryz.prog w = .ok (.enter fid xs) w)
    (hP : ∀ w1, Below w.heap.size w w1 → ∀ (i : Nat) (m : Nd), Ls[i]? = some m → Calls Tryz.prog fid (#[m.a.val, .int .i64 (i : Int)] ++ caps) w1 (fun e w2 => e = .returned (.bool (decide (i < k))) ∧ Below w1.heap.size w1 w2)) :
    Calls Tryz.prog 137 #[ptr hd.g, .func (.func fid) #[] caps] w fun e w' => ∃ ps : List Lk, e = .returned (.agg (lksC ps).toArray) ∧ ps.length = 16 ∧ (∀ lv, lv < 16 → ∃ c n, ps[lv]? = some ⟨some n.g, (c : Int)⟩ ∧ (hd :: Ls)[c]? = some n ∧ IsStop (hd :: Ls) k lv c) ∧ Below w.heap.size w w' := by
  have bst : Tryz.prog.built 168 [(0, ptr hd.g)] = some [ptr hd.g, .int .i64 0].toArray := by kernel_rfl
  have Z32 : (lksC (List.replicate 16 noLk)).toArray = (Value.agg (lksC (List.replicate 16 noLk)).toArray).cells := rfl
  go_enter Tryz.func137, Tryz.ntmps137
  go_wp2_with (first
    | (with_reducible refine wl_alloc (o := ⟨some 4, _, _, _, _, _⟩) rfl 169 _ (lksC (List.replicate 16 noLk)) rfl rfl rfl ?_; intro g4 w4 r4 p4 l4 b4)
    | (with_reducible refine wl_alloc (o := ⟨some 5, _, _, _, _, _⟩) rfl 169 _ (lksC (List.replicate 16 noLk)) rfl rfl rfl ?_; intro g5 w5 r5 p5 l5 b5)
    | (with_reducible refine wl_build rfl 168 [(0, .tmp 10)] rfl [(0, ptr hd.g)] rfl [ptr hd.g, .int .i64 0] bst ?_)
    | (with_reducible refine wl_alloc (o := ⟨some 6, _, _, _, _, _⟩) rfl 168 _ [.pointer none, .int .i64 0] rfl rfl rfl ?_; intro g6 w6 r6 p6 l6 b6)
    | (with_reducible refine wl_store_row rfl 168 (.tmp 6) (.tmp 11) g6 168 _ [ptr hd.g, .int .i64 0] rfl rfl rfl r6 (szStop _ _) rfl (by simp [Value.oneCell']) ?_; intro w7 r7 o7))
  have Bw := (((b4.trans (b5.mono b4.size)).trans (b6.mono (b4.trans (b5.mono b4.size)).size))).trans (o7.below (by have := b4.size; have := b5.size; omega))
  have r4a := ((r4.later b5).later b6).only o7 (by have := r4.lt; have := b5.size; omega)
  have r5a := (r5.later b6).only o7 (by have := r5.lt; omega)
  have n45 : g4 ≠ g5 := by have := r4.lt; omega
  have n56 : g5 ≠ g6 := by have := r5.lt; omega
  have n46 : g4 ≠ g6 := by have := r4.lt; have := b5.size; omega
  have s4 := b4.size
  have s5 := b5.size
  have lo4 : w.heap.size ≤ g4 := p4
  have lo5 : w.heap.size ≤ g5 := Nat.le_trans s4 p5
  have lo6 : w.heap.size ≤ g6 := Nat.le_trans s4 (Nat.le_trans s5 p6)
  clear r4 r5 r6 b4 b5 b6 o7 s4 s5 p4 p5 p6 l4 l5 l6 Z32 bst
  go_loopw [12] (fun iv wr => ∃ (i c : Nat) (nd : Nd) (ps : List Lk), i ≤ 16 ∧ iv = .int .i64 (i : Int) ∧ Row wr 169 g4 (lksC (List.replicate 16 noLk)) ∧ Row wr 169 g5 (lksC ps) ∧ ps.length = 16 ∧ Row wr 168 g6 [ptr nd.g, .int .i64 (c : Int)] ∧ (hd :: Ls)[c]? = some nd ∧ c ≤ k ∧ 16 - i ≤ nd.h ∧
      (∀ lv, 16 - i ≤ lv → lv < 16 → ∃ d n, ps[lv]? = some ⟨some n.g, ((d : Nat) : Int)⟩ ∧ (hd :: Ls)[d]? = some n ∧ IsStop (hd :: Ls) k lv d) ∧ Below w.heap.size w wr) (fun iv _ => 16 - (intOf iv).toNat)
  case atStart => exact ⟨0, 0, hd, List.replicate 16 noLk, by omega, rfl, r4a, r5a, by simp, r7, rfl, Nat.zero_le _, by omega, fun lv h1 h2 => by omega, Bw⟩
  case round =>
    clear r4a r5a r7 Bw
    obtain ⟨i, c, nd, ps, hi, rfl, r4, r5, hps, r6, hc, hck, hch, hdone, Bw⟩ := hrel
    by_cases hi2 : i < 16
    · have hi3 : (i : Int) < 16 := by omega
      obtain ⟨lv, hlv, hlv15⟩ : ∃ lv, i = 15 - lv ∧ lv ≤ 15 := ⟨15 - i, by omega, by omega⟩
      have hsub := hide (show IntKind.i64.wrap ((15 : Int) - (i : Int)) = (lv : Int) from wrap_id (by omega) (by omega) (by omega))
      have hLV := hide hlv
      clear hlv
      go_wp2_with (first
        | (with_reducible refine wl_run (o := ⟨some 16, _, _, _, _, _⟩) rfl (.int .i64 (lv : Int)) (run_subZ _ (.tmp 15) rfl rfl rfl hsub.out) ?_))
      have hch2 : lv < nd.h := by have := hLV.out; omega
      have hlv16 : lv < 16 := by omega
      go_loopw [] (fun wq => ∃ (c : Nat) (nd : Nd), Row wq 169 g4 (lksC (List.replicate 16 noLk)) ∧ Row wq 169 g5 (lksC ps) ∧ Row wq 168 g6 [ptr nd.g, .int .i64 (c : Int)] ∧ (hd :: Ls)[c]? = some nd ∧ c ≤ k ∧ lv < nd.h ∧ Below w.heap.size w wq) (fun wq => k - (intOf ((wq.cell? ⟨g6, 1, none⟩).getD undef)).toNat)
      case atStart => exact ⟨c, nd, r4, r5, r6, hc, hck, hch2, Bw⟩
      case round =>
        clear r4 r5 r6 hc hck hch hch2 Bw
        obtain ⟨c, nd, r4, r5, r6, hc, hck, hlt, Bw⟩ := hrel
        have HN := (hZ.later Bw).node c nd hc
        have HL := (hZ.later Bw).link c nd hc
        have hpart := lksL_part ((List.range nd.h).map (full Ls c)) lv (full Ls c lv) (by simp [hlt])
        rw [hpart] at HL
        clear hpart
        have hA : (lksC (((List.range nd.h).map (full Ls c)).take lv)).length = 0 + lv * 2 := by rw [lksL_ahead _ lv (by simp; omega)]; omega
        have hstep := walk_step hck hk hc hlt
        obtain ⟨x, hx⟩ : ∃ x, x = nxt lv (Ls.drop c) := ⟨_, rfl⟩
        rw [show full Ls c lv = x from hx.symm] at HL
        rw [← hx] at hstep
        clear hx
        obtain ⟨xt, xn⟩ := x
        generalize lksC (((List.range nd.h).map (full Ls c)).take lv) = LA at *
        generalize lksC (((List.range nd.h).map (full Ls c)).drop (lv + 1)) = LC at *
        replace hA := hide hA
        obtain ⟨⟨nm, ns⟩, gn, bn, hn⟩ := nd
        have hlt' : (lv : Int) < (hn : Int) := by have : lv < hn := hlt; omega
        have hlt2 := hide (show lv < hn from hlt)
        have c60 := r6.cell (j := 0) rfl
        have cn2 := HN.cell (j := 2) rfl
        replace hstep := hide hstep
        replace hc := hide hc
        go_wp2_with (first
          | (with_reducible refine wl_run (o := ⟨some 23, _, _, _, _, _⟩) rfl (.pointer (some ⟨bn, 0 + lv * 2, none⟩)) (run_indexSlN 148 (.tmp 21) (.tmp 22) 176 2 bn 0 hn hn lv rfl Tryz.underlying148 Tryz.sizeOf176 rfl rfl hlt2.out) ?_)
          | (with_reducible refine wl_load_part (o := ⟨some 24, _, _, _, _, _⟩) rfl 176 (.tmp 23) bn (0 + lv * 2) 176 LA [.pointer (xt.map fun g => ⟨g, 0, none⟩), .int .i64 xn] LC _ rfl rfl HL hA.out Tryz.underlying176 rfl (szLink _ _) ?_)
          | (with_reducible refine wl_alloc (o := ⟨some 9, _, _, _, _, _⟩) rfl 176 _ [.pointer none, .int .i64 0] rfl rfl rfl ?_; intro g9 w9 r9 p9 l9 b9)
          | (with_reducible refine wl_store_row (o := ⟨none, .store 176 (.tmp 9) (.tmp 24), _, _, _, _⟩) rfl 176 (.tmp 9) (.tmp 24) g9 176 _ [.pointer (xt.map fun g => ⟨g, 0, none⟩), .int .i64 xn] rfl rfl rfl r9 (szLink _ _) rfl (by simp [Value.oneCell']) ?_; intro w10 r10 o10))
        have b10 : Below wr.heap.size wr w10 := b9.trans (o10.below p9)
        have hstep := hstep.out
        rcases hstep with ⟨hto, hstop⟩ | ⟨q, m, hto, hm1, hm2, hlm, hq⟩
        · obtain rfl : xt = none := hto
          have c90 := r10.cell (j := 0) rfl
          replace hstop := hide hstop
          go_quiet (fail)
          obtain ⟨wq1, hwq⟩ : ∃ wq, wq = w10.drewN nq := ⟨_, rfl⟩
          have bq : Below w10.heap.size w10 wq1 := by rw [hwq]; exact below_drewn (Below.refl _ _) nq
          rw [← hwq]
          clear hwq nq c90 c60 cn2
          have bX := b10.trans (bq.mono b10.size)
          have rX4 := r4.later bX
          have rX5 := r5.later bX
          have rX6 := r6.later bX
          have BX := Bw.trans (bX.mono Bw.size)
          obtain ⟨y, hy⟩ : ∃ y, ps[lv]? = some y := ⟨_, List.getElem?_eq_getElem (by omega)⟩
          have R5 := rX5
          rw [lksL_part ps lv y hy] at R5
          have hset := hide (lksL_set ps lv ⟨some gn, (c : Int)⟩ (by omega))
          have hA5 : (lksC (ps.take lv)).length = lv * 2 := by rw [lksL_ahead ps lv (by omega)]; omega
          replace hA5 := hide hA5
          clear hy
          generalize lksC (ps.take lv) = LA5 at *
          generalize lksC (ps.drop (lv + 1)) = LC5 at *
          go_wp2_with (first
            | (with_reducible refine wl_load_row (o := ⟨some 53, _, _, _, _, _⟩) rfl 168 (.tmp 6) g6 168 [ptr gn, .int .i64 (c : Int)] _ rfl rfl rX6 Tryz.underlying168 rfl (szStop _ _) ?_)
            | (with_reducible refine wl_store_part rfl 168 (.tmp 54) (.tmp 53) g5 (lv * 2) 169 LA5 y.cells LC5 [ptr gn, .int .i64 (c : Int)] rfl rfl rfl R5 hA5.out rfl (szStop _ _) (by simp [Value.oneCell']) ?_; intro wz rz oz))
          go_roundw
          case rel =>
            have rz2 : Row wz 169 g5 (lksC (ps.set lv ⟨some gn, (c : Int)⟩)) := hset.out ▸ rz
            have hi7 : 16 - (i + 1) = lv := by have := hLV.out; omega
            refine ⟨i + 1, c, ⟨⟨nm, ns⟩, gn, bn, hn⟩, ps.set lv ⟨some gn, (c : Int)⟩, by omega, by go_num, rX4.only oz n45, rz2, by simp [hps], rX6.only oz (Ne.symm n56), hc.out, hck, by rw [hi7]; exact Nat.le_of_lt hlt2.out, ?_, BX.trans (oz.below lo5)⟩
            intro v hv1 hv2
            rw [hi7] at hv1
            by_cases hvl : v = lv
            · subst hvl
              exact ⟨c, _, by rw [List.getElem?_set_self (by omega)], hc.out, hstop.out⟩
            · rw [List.getElem?_set_ne (Ne.symm hvl)]
              exact hdone v (by omega) hv2
          case measure => simp [intOf]; omega
        · rw [Lk.mk.injEq] at hto
          obtain ⟨rfl, rfl⟩ := hto
          obtain ⟨⟨mm, ms⟩, gm, bm, hm⟩ := m
          have hcq : c + q < Ls.length := (List.getElem?_eq_some_iff.1 hm1).1
          have hz1 := hide (show IntKind.i64.wrap ((c : Int) + ((q : Int) + 1)) = (c : Int) + ((q : Int) + 1) from wrap_id rfl (by omega) (by omega))
          have hz2 := hide (show IntKind.i64.wrap (((c : Int) + ((q : Int) + 1)) - 1) = ((c + q : Nat) : Int) from wrap_id (by omega) (by omega) (by omega))
          have rm : Row w10 150 gm [encStr mm, .int .i64 ms, .slice (some ⟨bm, 0, none⟩) hm hm] := ((hZ.later Bw).later b10).node _ _ hm2
          have r9 : Row w10 176 g9 [.pointer (some ⟨gm, 0, none⟩), .int .i64 ((q : Int) + 1)] := r10
          have c61w := hide (r6.cell (j := 1) rfl)
          have r6b : Row w10 168 g6 [ptr gn, .int .i64 (c : Int)] := r6.later b10
          have r4 := r4.later b10
          have r5 := r5.later b10
          have r6 := r6b
          have B10 := Bw.trans (b10.mono Bw.size)
          obtain ⟨rr, hrr⟩ : ∃ rr, rr = decide (c + q < k) := ⟨_, rfl⟩
          have HC : ∀ w1, Below w10.heap.size w10 w1 → Calls Tryz.prog fid (#[.agg #[encStr mm, .int .i64 ms], .int .i64 ((c + q : Nat) : Int)] ++ caps) w1 (fun e w2 => e = .returned (.bool rr) ∧ Below w1.heap.size w1 w2) := by
            intro w1 hb
            rw [hrr]
            have H9 := hP w1 (B10.trans (hb.mono B10.size)) (c + q) ⟨⟨mm, ms⟩, gm, bm, hm⟩ hm1
            exact H9
          replace hrr := hide hrr
          replace hm1 := hide hm1
          replace hm2 := hide hm2
          replace hq := hide hq
          rename_i K8 hK8
          refine wp_region_valsG [16] (SWk8 fid caps g6 g9 gn gm bm hm c q mm ms rr) (fun _ _ wz => Below w10.heap.size w10 wz) (by kernel_rfl) (by kernel_rfl) (by kernel_rfl) (by kernel_rfl) ((Below.refl _ _).drew) ?obs8 ?he8
          case obs8 =>
            refine ⟨?_, ?_, ?_, ?_, ?_, ?_, ?_, ?_, ?_, ?_, ?_, ?_, ?_, ?_, ?_, ?_, ?_, ?_, ?_, trivial⟩
            · refine ⟨.inl rfl, ?_⟩
              refine .inl ⟨by kernel_rfl, fun L a1 w1 n h => ⟨.pointer (some ⟨g9, 0, none⟩), rfl, ?_⟩⟩
              have e0 : a1.eval (.tmp 9) = _ := h.var n 9 (by kernel_rfl)
              unfold execOp
              simp only [e0]
              go_simp
            · refine ⟨.inl rfl, ?_⟩
              exact .inl ⟨by kernel_rfl, fun L a1 w1 n h => ⟨_, rfl, run_loadA 147 (.tmp 25) ⟨g9, 0, none⟩ rfl Tryz.isAgg147 (h.dep n 0 25 (by kernel_rfl) rfl) ((Row.later r9 h.inv).cell (j := 0) (v := .pointer (some ⟨gm, 0, none⟩)) rfl)⟩⟩
            · refine ⟨.inl rfl, ?_⟩
              refine .inl ⟨by kernel_rfl, fun L a1 w1 n h => ⟨.bool false, rfl, ?_⟩⟩
              have e0 : a1.eval (.tmp 26) = _ := h.dep n 1 26 (by kernel_rfl) rfl
              unfold execOp
              simp only [e0]
              go_simp
            · refine ⟨.inl rfl, ?_⟩
              exact .inl ⟨by kernel_rfl, fun L a1 w1 n h => ⟨_, rfl, run_move (.tmp 27) rfl (h.dep n 2 27 (by kernel_rfl) rfl)⟩⟩
            · refine ⟨.inr ⟨3, false, 28, rfl, by kernel_rfl, rfl, by simp, fun v h => h⟩, ?_⟩
              exact .inl ⟨by kernel_rfl, fun L a1 w1 n h => ⟨_, rfl, run_move (.tmp 1) rfl (h.var n 1 (by kernel_rfl))⟩⟩
            · refine ⟨.inr ⟨3, false, 28, rfl, by kernel_rfl, rfl, by simp, fun v h => h⟩, ?_⟩
              refine .inl ⟨by kernel_rfl, fun L a1 w1 n h => ⟨.pointer (some ⟨g9, 0, none⟩), rfl, ?_⟩⟩
              have e0 : a1.eval (.tmp 9) = _ := h.var n 9 (by kernel_rfl)
              unfold execOp
              simp only [e0]
              go_simp
            · refine ⟨.inr ⟨3, false, 28, rfl, by kernel_rfl, rfl, by simp, fun v h => h⟩, ?_⟩
              exact .inl ⟨by kernel_rfl, fun L a1 w1 n h => ⟨_, rfl, run_loadA 147 (.tmp 30) ⟨g9, 0, none⟩ rfl Tryz.isAgg147 (h.dep n 5 30 (by kernel_rfl) rfl) ((Row.later r9 h.inv).cell (j := 0) (v := .pointer (some ⟨gm, 0, none⟩)) rfl)⟩⟩
            · refine ⟨.inr ⟨3, false, 28, rfl, by kernel_rfl, rfl, by simp, fun v h => h⟩, ?_⟩
              refine .inl ⟨by kernel_rfl, fun L a1 w1 n h => ⟨.pointer (some ⟨gm, 0, none⟩), rfl, ?_⟩⟩
              have e0 : a1.eval (.tmp 31) = _ := h.dep n 6 31 (by kernel_rfl) rfl
              unfold execOp
              simp only [e0]
              go_simp
            · refine ⟨.inr ⟨3, false, 28, rfl, by kernel_rfl, rfl, by simp, fun v h => h⟩, ?_⟩
              refine .inl ⟨by kernel_rfl, fun L a1 w1 n h => ⟨.pointer (some ⟨gm, 0, none⟩), rfl, ?_⟩⟩
              have e0 : a1.eval (.tmp 32) = _ := h.dep n 7 32 (by kernel_rfl) rfl
              unfold execOp
              simp only [e0]
              go_simp
            · refine ⟨.inr ⟨3, false, 28, rfl, by kernel_rfl, rfl, by simp, fun v h => h⟩, ?_⟩
              exact .inl ⟨by kernel_rfl, fun L a1 w1 n h => ⟨_, rfl, run_loadP 99 (.tmp 33) gm 0 150 [] [encStr mm, .int .i64 ms] [.slice (some ⟨bm, 0, none⟩) hm hm] _ rfl (h.dep n 8 33 (by kernel_rfl) rfl) (Row.later rm h.inv) rfl Tryz.underlying99 rfl (szSc ⟨mm, ms⟩)⟩⟩
            · refine ⟨.inr ⟨3, false, 28, rfl, by kernel_rfl, rfl, by simp, fun v h => h⟩, ?_⟩
              refine .inl ⟨by kernel_rfl, fun L a1 w1 n h => ⟨.pointer (some ⟨g6, 1, none⟩), rfl, ?_⟩⟩
              have e0 : a1.eval (.tmp 6) = _ := h.var n 6 (by kernel_rfl)
              unfold execOp
              simp only [e0]
              go_simp
            · refine ⟨.inr ⟨3, false, 28, rfl, by kernel_rfl, rfl, by simp, fun v h => h⟩, ?_⟩
              exact .inl ⟨by kernel_rfl, fun L a1 w1 n h => ⟨_, rfl, run_loadA 3 (.tmp 35) ⟨g6, 1, none⟩ rfl Tryz.isAgg3 (h.dep n 10 35 (by kernel_rfl) rfl) ((Row.later r6 h.inv).cell (j := 1) (v := .int .i64 (c : Int)) rfl)⟩⟩
            · refine ⟨.inr ⟨3, false, 28, rfl, by kernel_rfl, rfl, by simp, fun v h => h⟩, ?_⟩
              refine .inl ⟨by kernel_rfl, fun L a1 w1 n h => ⟨.pointer (some ⟨g9, 1, none⟩), rfl, ?_⟩⟩
              have e0 : a1.eval (.tmp 9) = _ := h.var n 9 (by kernel_rfl)
              unfold execOp
              simp only [e0]
              go_simp
            · refine ⟨.inr ⟨3, false, 28, rfl, by kernel_rfl, rfl, by simp, fun v h => h⟩, ?_⟩
              exact .inl ⟨by kernel_rfl, fun L a1 w1 n h => ⟨_, rfl, run_loadA 3 (.tmp 37) ⟨g9, 1, none⟩ rfl Tryz.isAgg3 (h.dep n 12 37 (by kernel_rfl) rfl) ((Row.later r9 h.inv).cell (j := 1) (v := .int .i64 ((q : Int) + 1)) rfl)⟩⟩
            · refine ⟨.inr ⟨3, false, 28, rfl, by kernel_rfl, rfl, by simp, fun v h => h⟩, ?_⟩
              exact .inl ⟨by kernel_rfl, fun L a1 w1 n h => ⟨_, rfl, run_addZ (.tmp 36) (.tmp 38) rfl (h.dep n 11 36 (by kernel_rfl) rfl) (h.dep n 13 38 (by kernel_rfl) rfl) hz1.out⟩⟩
            · refine ⟨.inr ⟨3, false, 28, rfl, by kernel_rfl, rfl, by simp, fun v h => h⟩, ?_⟩
              exact .inl ⟨by kernel_rfl, fun L a1 w1 n h => ⟨_, rfl, run_subZ (.tmp 39) (.const (.int .i64 1)) rfl (h.dep n 14 39 (by kernel_rfl) rfl) rfl hz2.out⟩⟩
            · refine ⟨.inr ⟨3, false, 28, rfl, by kernel_rfl, rfl, by simp, fun v h => h⟩, ?_⟩
              refine .inr fun L a1 w1 n h K hK => ?_
              have y0 : a1.eval (.tmp 34) = .agg #[encStr mm, .int .i64 ms] := h.dep n 9 34 (by kernel_rfl) rfl
              have y1 : a1.eval (.tmp 40) = .int .i64 ((c + q : Nat) : Int) := h.dep n 15 40 (by kernel_rfl) rfl
              have y2 : a1.eval (.tmp 29) = .func (.func fid) #[] caps := h.dep n 4 29 (by kernel_rfl) rfl
              refine st_callF2 fid (.tmp 29) (.tmp 34) (.tmp 40) _ _ (.agg #[encStr mm, .int .i64 ms]) (.int .i64 ((c + q : Nat) : Int)) caps rfl y2 y0 y1 hf (HC w1 h.inv) ?_
              rintro e w3 ⟨rfl, b9⟩
              exact ⟨_, rfl, hK _ w3 rfl (h.inv.trans (b9.mono h.inv.size))⟩
            · refine ⟨.inr ⟨3, false, 28, rfl, by kernel_rfl, rfl, by simp, fun v h => h⟩, ?_⟩
              exact .inl ⟨by kernel_rfl, fun L a1 w1 n h => ⟨_, rfl, run_notB (.tmp 41) rr rfl (h.dep n 16 41 (by kernel_rfl) rfl) rfl⟩⟩
            · refine ⟨.inl rfl, ?_⟩
              exact .inl ⟨by kernel_rfl, fun L a1 w1 n h => ⟨_, rfl, run_pickF (.tmp 28) _ _ rfl (h.dep n 3 28 (by kernel_rfl) rfl) (h.dep n 17 42 (by kernel_rfl) rfl)⟩⟩
          case he8 =>
            intro V w11 hV hJ
            have b11 : Below w10.heap.size w10 w11 := hJ
            have hE : V 18 = .bool (!rr) := hV 18 _ rfl
            clear hV hJ
            simp only [putOps, List.setIfInBounds_toArray, List.set_cons_succ, List.set_cons_zero, Nat.reduceAdd]
            rw [hE]
            refine hK8 _ _ ?_
            have bX := b10.trans (b11.mono b10.size)
            have rX4 := r4.later b11
            have rX5 := r5.later b11
            have rX6 := r6.later b11
            have rX9 := r9.later b11
            have BX := B10.trans (b11.mono B10.size)
            cases rr with
            | false =>
              have hstop := hide (hq.out (by have := hrr.out; simpa using this.symm))
              clear HC hE rX9
              obtain ⟨y, hy⟩ : ∃ y, ps[lv]? = some y := ⟨_, List.getElem?_eq_getElem (by omega)⟩
              have R5 := rX5
              rw [lksL_part ps lv y hy] at R5
              have hset := hide (lksL_set ps lv ⟨some gn, (c : Int)⟩ (by omega))
              have hA5 : (lksC (ps.take lv)).length = lv * 2 := by rw [lksL_ahead ps lv (by omega)]; omega
              replace hA5 := hide hA5
              clear hy
              generalize lksC (ps.take lv) = LA5 at *
              generalize lksC (ps.drop (lv + 1)) = LC5 at *
              go_wp2_with (first
                | (with_reducible refine wl_load_row (o := ⟨some 53, _, _, _, _, _⟩) rfl 168 (.tmp 6) g6 168 [ptr gn, .int .i64 (c : Int)] _ rfl rfl rX6 Tryz.underlying168 rfl (szStop _ _) ?_)
                | (with_reducible refine wl_store_part rfl 168 (.tmp 54) (.tmp 53) g5 (lv * 2) 169 LA5 y.cells LC5 [ptr gn, .int .i64 (c : Int)] rfl rfl rfl R5 hA5.out rfl (szStop _ _) (by simp [Value.oneCell']) ?_; intro wz rz oz))
              go_roundw
              case rel =>
                have rz2 : Row wz 169 g5 (lksC (ps.set lv ⟨some gn, (c : Int)⟩)) := hset.out ▸ rz
                have hi7 : 16 - (i + 1) = lv := by have := hLV.out; omega
                refine ⟨i + 1, c, ⟨⟨nm, ns⟩, gn, bn, hn⟩, ps.set lv ⟨some gn, (c : Int)⟩, by omega, by go_num, rX4.only oz n45, rz2, by simp [hps], rX6.only oz (Ne.symm n56), hc.out, hck, by rw [hi7]; exact Nat.le_of_lt hlt2.out, ?_, BX.trans (oz.below lo5)⟩
                intro v hv1 hv2
                rw [hi7] at hv1
                by_cases hvl : v = lv
                · subst hvl
                  exact ⟨c, _, by rw [List.getElem?_set_self (by omega)], hc.out, hstop.out⟩
                · rw [List.getElem?_set_ne (Ne.symm hvl)]
                  exact hdone v (by omega) hv2
              case measure => simp [intOf]; omega
            | true =>
              have hlt3 : c + q < k := by have := hrr.out; simpa using this.symm
              have x90 := rX9.cell (j := 0) rfl
              have x91 := rX9.cell (j := 1) rfl
              have x61 := rX6.cell (j := 1) rfl
              have bs9 := builtStop gm ((c : Int) + ((q : Int) + 1))
              replace hlt3 := hide hlt3
              clear HC hE c60 cn2
              go_wp2_with (first
                | (with_reducible refine wl_run (o := ⟨some 50, _, _, _, _, _⟩) rfl (.int .i64 ((c : Int) + ((q : Int) + 1))) (run_addZ (.tmp 47) (.tmp 49) rfl rfl rfl hz1.out) ?_)
                | (with_reducible refine wl_build rfl 168 [(0, .tmp 45), (1, .tmp 50)] rfl [(0, .pointer (some ⟨gm, 0, none⟩)), (1, .int .i64 ((c : Int) + ((q : Int) + 1)))] rfl [.pointer (some ⟨gm, 0, none⟩), .int .i64 ((c : Int) + ((q : Int) + 1))] bs9 ?_)
                | (with_reducible refine wl_store_row (o := ⟨none, .store 168 (.tmp 6) (.tmp 51), _, _, _, _⟩) rfl 168 (.tmp 6) (.tmp 51) g6 168 _ [.pointer (some ⟨gm, 0, none⟩), .int .i64 ((c : Int) + ((q : Int) + 1))] rfl rfl rfl rX6 (szStop _ _) rfl (by simp [Value.oneCell']) ?_; intro wz rz oz))
              go_roundw
              case rel =>
                have e9 : ((c + q + 1 : Nat) : Int) = (c : Int) + ((q : Int) + 1) := by omega
                refine ⟨rX4.only oz n46, rX5.only oz n56, c + q + 1, ⟨⟨mm, ms⟩, gm, bm, hm⟩, by rw [e9]; exact rz, hm2.out, hlt3.out, hlm, BX.trans (oz.below lo6)⟩
              case measure =>
                have h3 := hlt3.out
                rw [rz.cell (j := 1) rfl, c61w.out]
                simp [intOf]
                omega
    · obtain rfl : i = 16 := by omega
      have hz := hide (szStops hps)
      have hl1 : (lksC (List.replicate 16 noLk)).length = (lksC ps).length := by rw [lksC_length, lksC_length, hps]; rfl
      replace hl1 := hide hl1
      have ho := hide (lks_one ps)
      go_wp2_with (first
        | (with_reducible refine wl_load_row (o := ⟨some 56, _, _, _, _, _⟩) rfl 169 (.tmp 5) g5 169 (lksC ps) _ rfl rfl r5 Tryz.underlying169 rfl hz.out ?_)
        | (with_reducible refine wl_store_row rfl 169 (.tmp 4) (.tmp 56) g4 169 _ (lksC ps) rfl rfl rfl r4 hz.out hl1.out ho.out ?_; intro w8 r8 o8; have c8 := r8))
      refine bodyPost_ret (v := .agg (lksC ps).toArray) ?_ rfl ⟨ps, rfl, hps, fun lv h1 => hdone lv (by omega) h1, Bw.trans (o8.below lo4)⟩
      exact results_cell_row Tryz.results137 _ _ g4 169 _ (0, 0) _ rfl r8 Tryz.underlying169 rfl hz.out
end Go.Proofs.YtpbkejmffddelaaGreat

/-
  A set's order, and how many stand ahead of a member. Own work.
-/
namespace Go.Proofs.YtpbkejmffddelaaGreat
open Go.RowKit Go.Shelf
theorem before_trans : ∀ {a b c : Nm}, bytesBefore a b = true → bytesBefore b c = true → bytesBefore a c = true
  | [], [], _, h, _ => by simp [bytesBefore] at h
  | [], _ :: _, [], _, k => by simp [bytesBefore] at k
  | [], _ :: _, _ :: _, _, _ => by simp [bytesBefore]
  | _ :: _, [], _, h, _ => by simp [bytesBefore] at h
  | _ :: _, _ :: _, [], _, k => by simp [bytesBefore] at k
  | x :: r, y :: s, z :: t, h, k => by
    simp only [bytesBefore, Bool.or_eq_true, Bool.and_eq_true, decide_eq_true_eq, beq_iff_eq] at h k ⊢
    rcases h with h | ⟨rfl, h⟩
    · rcases k with k | ⟨rfl, k⟩
      · exact .inl (UInt8.lt_trans h k)
      · exact .inl h
    · rcases k with k | ⟨rfl, k⟩
      · exact .inl k
      · exact .inr ⟨rfl, before_trans h k⟩
theorem before_total : ∀ {a b : Nm}, bytesBefore a b = false → a ≠ b → bytesBefore b a = true
  | [], [], _, h => absurd rfl h
  | [], _ :: _, h, _ => by simp [bytesBefore] at h
  | _ :: _, [], _, _ => by simp [bytesBefore]
  | x :: r, y :: s, h, k => by
    simp only [bytesBefore, Bool.or_eq_false_iff, Bool.and_eq_false_iff, decide_eq_false_iff_not, beq_eq_false_iff_ne] at h
    simp only [bytesBefore, Bool.or_eq_true, Bool.and_eq_true, decide_eq_true_eq, beq_iff_eq]
    rcases Classical.em (y = x) with e | e
    · subst e
      rcases h.2 with h2 | h2
      · exact absurd rfl h2
      · exact .inr ⟨rfl, before_total h2 (fun q => k (by rw [q]))⟩
    · rcases UInt8.lt_or_lt_of_ne e with h1 | h1
      · exact .inl h1
      · exact absurd h1 h.1
theorem before_irrefl : ∀ a : Nm, bytesBefore a a = false
  | [] => rfl
  | x :: r => by simp [bytesBefore, before_irrefl r]
theorem before_asymm {a b : Nm} (h : bytesBefore a b = true) : bytesBefore b a = false := by
  cases hq : bytesBefore b a with
  | false => rfl
  | true =>
    have := before_trans h hq
    rw [before_irrefl] at this
    cases this
theorem Sc.less_iff (a b : Sc) : a.less b = true ↔ a.s < b.s ∨ (a.s = b.s ∧ bytesBefore a.m b.m = true) := by
  unfold Sc.less
  by_cases h : a.s = b.s
  · rw [if_pos h]
    constructor
    · exact fun e => .inr ⟨h, e⟩
    · rintro (e | e)
      · omega
      · exact e.2
  · rw [if_neg h]
    constructor
    · exact fun e => .inl (by simpa using e)
    · rintro (e | e)
      · simpa using e
      · exact absurd e.1 h
theorem Sc.less_trans {a b c : Sc} (h1 : a.less b = true) (h2 : b.less c = true) : a.less c = true := by
  rw [Sc.less_iff] at *
  rcases h1 with h1 | ⟨h1, k1⟩ <;> rcases h2 with h2 | ⟨h2, k2⟩
  · exact .inl (by omega)
  · exact .inl (by omega)
  · exact .inl (by omega)
  · exact .inr ⟨by omega, before_trans k1 k2⟩
theorem Sc.less_irrefl (a : Sc) : a.less a = false := by
  cases h : a.less a with
  | false => rfl
  | true =>
    rcases (Sc.less_iff a a).1 h with e | e
    · omega
    · rw [before_irrefl] at e; exact absurd e.2 (by decide)
theorem Sc.less_total {a b : Sc} (h : a.less b = false) (hne : a ≠ b) : b.less a = true := by
  have h1 : ¬ (a.s < b.s ∨ (a.s = b.s ∧ bytesBefore a.m b.m = true)) := fun e => by rw [(Sc.less_iff a b).2 e] at h; exact absurd h (by decide)
  rw [Sc.less_iff]
  by_cases e : a.s = b.s
  · refine .inr ⟨e.symm, before_total ?_ fun em => hne ?_⟩
    · cases h2 : bytesBefore a.m b.m with
      | false => rfl
      | true => exact absurd (.inr ⟨e, h2⟩) h1
    · cases a; cases b; simp_all
  · exact .inl (by omega)
/-- The members rise. -/
def Rising (L : List Sc) : Prop := L.Pairwise fun a b => a.less b = true
/-- How many stand ahead of a member. -/
def nAhead (x : Sc) (L : List Sc) : Nat := (L.takeWhile fun y => y.less x).length
theorem nAhead_le (x : Sc) (L : List Sc) : nAhead x L ≤ L.length := (List.takeWhile_sublist _).length_le
/-- In a rising list the i-th stands ahead of a member as far as i is below their number. -/
theorem ahead_iff {x : Sc} : ∀ {L : List Sc}, Rising L → ∀ (i : Nat) (y : Sc), L[i]? = some y → y.less x = decide (i < nAhead x L)
  | [], _, i, y, h => by simp at h
  | z :: r, hr, i, y, h => by
    have hr2 : Rising r := List.Pairwise.of_cons hr
    have hz := (List.pairwise_cons.1 hr).1
    cases hzx : z.less x with
    | true =>
      have e : nAhead x (z :: r) = nAhead x r + 1 := by unfold nAhead; simp [List.takeWhile_cons, hzx]
      match i with
      | 0 =>
        have e2 : z = y := by simpa using h
        subst e2
        rw [hzx, e]; simp
      | i + 1 =>
        have h2 : r[i]? = some y := by simpa using h
        rw [ahead_iff hr2 i y h2, e]
        simp
    | false =>
      have e : nAhead x (z :: r) = 0 := by unfold nAhead; simp [List.takeWhile_cons, hzx]
      rw [e]
      have hlt : ¬ i < 0 := by omega
      rw [decide_eq_false hlt]
      match i with
      | 0 =>
        have e2 : z = y := by simpa using h
        subst e2; exact hzx
      | i + 1 =>
        have h2 : r[i]? = some y := by simpa using h
        have h3 := hz y (List.mem_of_getElem? h2)
        cases h4 : y.less x with
        | false => rfl
        | true => rw [Sc.less_trans h3 h4] at hzx; exact absurd hzx (by decide)
end Go.Proofs.YtpbkejmffddelaaGreat

/-
  A set's closures: Range, Between; a walk to a member. Own work.
-/
namespace Go.Proofs.YtpbkejmffddelaaGreat
open Go.RowKit Go.Shelf
theorem callrange1 : ∀ (xs : Array Value) (w : World), (callFunc 128 xs).run Tryz.prog w = .ok (.enter 128 xs) w := fun xs w => by kernel_rfl
set_option maxRecDepth 100000 in
theorem range1_any (w : World) (x : Sc) (i y : Int) (g : Nat) (h : Row w 3 g [.int .i64 y]) : Calls Tryz.prog 128 (#[x.val, .int .i64 i] ++ #[ptr g]) w fun e w' => e = .returned (.bool (decide (i < y))) ∧ Below w.heap.size w w' := by
  obtain ⟨xm, sx⟩ := x
  show Calls _ _ #[_, _, _] _ _
  go_enter Tryz.func128, Tryz.ntmps128
  go_wp2_with (first
    | (with_reducible refine wl_box (o := ⟨some 3, _, _, _, _, _⟩) rfl 99 (.tmp 0) _ [encStr xm, .int .i64 sx] rfl rfl rfl ?_; intro g1 w1 r1 p1 l1 b1; have h1 := (h.later b1).cell (j := 0) rfl; have c0 := r1.cell (j := 1) rfl))
  go_ret
  exact ⟨rfl, b1⟩
theorem callrange2 : ∀ (xs : Array Value) (w : World), (callFunc 129 xs).run Tryz.prog w = .ok (.enter 129 xs) w := fun xs w => by kernel_rfl
set_option maxRecDepth 100000 in
theorem range2_any (w : World) (x : Sc) (i y : Int) (g : Nat) (h : Row w 3 g [.int .i64 y]) : Calls Tryz.prog 129 (#[x.val, .int .i64 i] ++ #[ptr g]) w fun e w' => e = .returned (.bool (decide (i < y))) ∧ Below w.heap.size w w' := by
  obtain ⟨xm, sx⟩ := x
  show Calls _ _ #[_, _, _] _ _
  go_enter Tryz.func129, Tryz.ntmps129
  go_wp2_with (first
    | (with_reducible refine wl_box (o := ⟨some 3, _, _, _, _, _⟩) rfl 99 (.tmp 0) _ [encStr xm, .int .i64 sx] rfl rfl rfl ?_; intro g1 w1 r1 p1 l1 b1; have h1 := (h.later b1).cell (j := 0) rfl; have c0 := r1.cell (j := 1) rfl))
  go_ret
  exact ⟨rfl, b1⟩
abbrev scs (Ls : List Nd) : List Sc := Ls.map Nd.a
set_option maxRecDepth 100000 in
/-- A walk to where a member stands, or would stand. -/
theorem walkTo_any (w : World) (B : Nat) (hd : Nd) (Ls : List Nd) (x : Sc) (g : Nat) (hZ : ZAt w B (hd :: Ls) (full Ls)) (hh : hd.h = 16) (hl : Ls.length ≤ 1000000) (hr : Rising (scs Ls)) (hx : Row w 99 g x.cells) :
    Calls Tryz.prog 137 #[ptr hd.g, .func (.func 155) #[] #[ptr g]] w fun e w' => ∃ ps : List Lk, e = .returned (.agg (lksC ps).toArray) ∧ ps.length = 16 ∧ (∀ lv, lv < 16 → ∃ c n, ps[lv]? = some ⟨some n.g, (c : Int)⟩ ∧ (hd :: Ls)[c]? = some n ∧ IsStop (hd :: Ls) (nAhead x (scs Ls)) lv c) ∧ Below w.heap.size w w' := by
  refine walk_any w B (nAhead x (scs Ls)) hd Ls 155 #[ptr g] hZ hh (by have := nAhead_le x (scs Ls); simpa using this) hl callAhead ?_
  intro w1 hb i m hm
  have e := ahead_iff (x := x) hr i m.a (by simp [scs, hm])
  have H := ahead1_any w1 x m.a (i : Int) g (hx.later hb)
  rw [e] at H
  exact H
end Go.Proofs.YtpbkejmffddelaaGreat

/-
  A set's insert: contract. Own work.
-/
namespace Go.Proofs.YtpbkejmffddelaaGreat
open Go.RowKit Go.Shelf
/-- Nothing that was there turned, but these blocks. -/
structure ButZ (S : List Nat) (w w' : World) : Prop where
  os : w'.os = w.os
  tape : w'.tape = w.tape
  output : w'.output = w.output
  size : w.heap.size ≤ w'.heap.size
  block : ∀ k, k < w.heap.size → k ∉ S → w'.heap[k]? = w.heap[k]?
theorem ButZ.trans {S : List Nat} {a b c : World} (h : ButZ S a b) (k : ButZ S b c) : ButZ S a c :=
  ⟨k.os.trans h.os, k.tape.trans h.tape, k.output.trans h.output, Nat.le_trans h.size k.size, fun i hi hn => (k.block i (Nat.lt_of_lt_of_le hi h.size) hn).trans (h.block i hi hn)⟩
theorem ButZ.of {S : List Nat} {a b : World} (h : Below a.heap.size a b) : ButZ S a b := ⟨h.os, h.tape, h.output, h.size, fun k hk _ => h.block k hk⟩
/-- Behind some turns: a block that is new, or one of these, turns. -/
theorem ButZ.only {S : List Nat} {a b c : World} {g : Nat} (h : ButZ S a b) (o : Only g b c) (hg : a.heap.size ≤ g ∨ g ∈ S) : ButZ S a c :=
  ⟨o.os.trans h.os, o.tape.trans h.tape, o.output.trans h.output, by rw [o.size]; exact h.size, fun k hk hn => by
    have hne : k ≠ g := fun e => by subst e; rcases hg with e | e; exact absurd hk (by omega); exact hn e
    exact (o.block k hne).trans (h.block k hk hn)⟩
theorem run_indexStop {w : World} {a : Act} {o : Oper} (x y : Operand) (ps : List Lk) (lv : Nat) (l : Lk) (ho : o.op = .index 169 x y) (hx : a.eval x = .agg (lksC ps).toArray) (hy : a.eval y = .int .i64 (lv : Int)) (hlen : ps.length = 16) (hl : ps[lv]? = some l) :
    (execOp a.eval o).run Tryz.prog w = .ok (.value (.agg l.cells.toArray)) w := by
  have hlt : lv < 16 := by have := (List.getElem?_eq_some_iff.1 hl).1; omega
  have h := run_index_part (P := Tryz.prog) w 169 168 16 2 (lksC ps) lv Tryz.underlying169 Tryz.isAgg168 Tryz.sizeOf168 hlt
  have e : ((lksC ps).drop (lv * 2)).take 2 = l.cells := by
    have hA := lksL_ahead ps lv (by omega)
    rw [lksL_part ps lv l hl]
    rw [List.drop_left' (by rw [hA]; omega)]
    rfl
  rw [e] at h
  unfold execOp
  simp only [ho, hx, hy, h, Sem.run_bind, Result.andThen_ok, Sem.run_pure]
/-- The new list's link of the c-th on a level, as far as the levels below d are done. -/
def midLk (Ls : List Nd) (k : Nat) (nd : Nd) (d c lv : Nat) : Lk := if lv < d then (if c ≤ k then nxt lv ((Ls.take k ++ nd :: Ls.drop k).drop c) else nxt lv (Ls.drop c)) else nxt lv (Ls.drop c)
theorem nxt_n (lv : Nat) (R : List Nd) : 0 ≤ (nxt lv R).n ∧ (nxt lv R).n ≤ R.length := by
  rcases nxt_cases lv R with ⟨h, _⟩ | ⟨A, x, B, h1, h2, _⟩
  · rw [h]; simp
  · rw [h2, h1, List.length_append, List.length_cons]
    show 0 ≤ (A.length : Int) + 1 ∧ (A.length : Int) + 1 ≤ ((A.length + (B.length + 1) : Nat) : Int)
    omega
/-- The list behind the c-th, parted where the new one goes. -/
theorem drop_part {Ls : List Nd} {k c : Nat} (hc : c ≤ k) (hk : k ≤ Ls.length) : Ls.drop c = (Ls.take k).drop c ++ Ls.drop k ∧ ((Ls.take k).drop c).length = k - c := by
  constructor
  · conv => lhs; rw [← List.take_append_drop k Ls]
    rw [List.drop_append_of_le_length (by rw [List.length_take]; omega)]
  · rw [List.length_drop, List.length_take]; omega
theorem put_part {Ls : List Nd} {k c : Nat} (nd : Nd) (hc : c ≤ k) (hk : k ≤ Ls.length) : (Ls.take k ++ nd :: Ls.drop k).drop c = (Ls.take k).drop c ++ nd :: Ls.drop k := by
  rw [List.drop_append_of_le_length (by rw [List.length_take]; omega)]
theorem stop_low {hd : Nd} {Ls : List Nd} {k lv c : Nat} (h : IsStop (hd :: Ls) k lv c) : ∀ y ∈ (Ls.take k).drop c, y.h ≤ lv := by
  intro y hy
  obtain ⟨j, hj⟩ := List.getElem?_of_mem hy
  rw [List.getElem?_drop, List.getElem?_take] at hj
  by_cases hlt : c + j < k
  · rw [if_pos hlt] at hj
    exact h.2.2 (c + j + 1) y (by omega) (by omega) (by rw [List.getElem?_cons_succ]; exact hj)
  · rw [if_neg hlt] at hj; exact absurd hj (by simp)
/-- At the stop: the old link, and the new one. -/
theorem stop_old {hd : Nd} {Ls : List Nd} {k lv c : Nat} (h : IsStop (hd :: Ls) k lv c) (hk : k ≤ Ls.length) : nxt lv (Ls.drop c) = ⟨(nxt lv (Ls.drop k)).to, (nxt lv (Ls.drop k)).n + ((k - c : Nat) : Int)⟩ := by
  obtain ⟨e1, e2⟩ := drop_part h.1 hk
  rw [e1, nxt_low _ (stop_low h), e2]
theorem stop_new {hd : Nd} {Ls : List Nd} {k lv c : Nat} (nd : Nd) (h : IsStop (hd :: Ls) k lv c) (hk : k ≤ Ls.length) : nxt lv ((Ls.take k ++ nd :: Ls.drop k).drop c) =
    if lv < nd.h then ⟨some nd.g, ((k - c : Nat) : Int) + 1⟩ else ⟨(nxt lv (Ls.drop k)).to, (nxt lv (Ls.drop k)).n + ((k - c : Nat) : Int) + 1⟩ := by
  rw [put_part nd h.1 hk, nxt_low _ (stop_low h), (drop_part h.1 hk).2]
  by_cases hm : lv < nd.h
  · rw [if_pos hm, show nxt lv (nd :: Ls.drop k) = ⟨some nd.g, 1⟩ by show (if lv < nd.h then _ else _) = _; rw [if_pos hm]]
    simp only [Lk.mk.injEq, true_and]; omega
  · rw [if_neg hm, show nxt lv (nd :: Ls.drop k) = ⟨(nxt lv (Ls.drop k)).to, (nxt lv (Ls.drop k)).n + 1⟩ by show (if lv < nd.h then _ else _) = _; rw [if_neg hm]]
    simp only [Lk.mk.injEq, true_and]; omega
/-- A node with links on the level that is no stop keeps its link. -/
theorem other_same {hd : Nd} {Ls : List Nd} {k lv c d : Nat} {n : Nd} (nd : Nd) (h : IsStop (hd :: Ls) k lv c) (hk : k ≤ Ls.length) (hn : (hd :: Ls)[d]? = some n) (hl : lv < n.h) (hne : d ≠ c) (hd2 : d ≤ k) : nxt lv ((Ls.take k ++ nd :: Ls.drop k).drop d) = nxt lv (Ls.drop d) := by
  have hdc : d < c := by
    refine Nat.lt_of_le_of_ne (Nat.le_of_not_lt fun hlt => ?_) hne
    have := h.2.2 d n hlt hd2 hn
    omega
  obtain ⟨m, hm, hml⟩ := h.2.1
  rw [put_part nd hd2 hk, (drop_part hd2 hk).1]
  refine nxt_hit _ _ ⟨m, ?_, hml⟩
  obtain ⟨j, rfl⟩ : ∃ j, c = j + 1 := ⟨c - 1, by omega⟩
  rw [List.getElem?_cons_succ] at hm
  refine List.mem_of_getElem? (i := j - d) ?_
  have := h.1
  rw [List.getElem?_drop, List.getElem?_take, if_pos (by omega), show d + (j - d) = j by omega]
  exact hm
/-- The list's links, the level d done too. -/
theorem mid_next {hd : Nd} {Ls : List Nd} {k d c : Nat} (nd : Nd) (h : IsStop (hd :: Ls) k d c) (hk : k ≤ Ls.length) (e : Nat) (n : Nd) (lv : Nat) (hn : (hd :: Ls)[e]? = some n) (hl : lv < n.h) :
    (if e = c then (fun l => if l = d then nxt d ((Ls.take k ++ nd :: Ls.drop k).drop c) else midLk Ls k nd d c l) else midLk Ls k nd d e) lv = midLk Ls k nd (d + 1) e lv := by
  by_cases hec : e = c
  · subst hec
    rw [if_pos rfl]
    by_cases hld : lv = d
    · subst hld
      simp only [if_true, midLk, show lv < lv + 1 by omega, h.1]
    · simp only [if_neg hld, midLk]
      by_cases h1 : lv < d
      · rw [if_pos h1, if_pos (show lv < d + 1 by omega)]
      · rw [if_neg h1, if_neg (show ¬ lv < d + 1 by omega)]
  · rw [if_neg hec]
    by_cases hld : lv = d
    · subst hld
      simp only [midLk, show lv < lv + 1 by omega, if_true, Nat.lt_irrefl, if_false]
      by_cases h2 : e ≤ k
      · rw [if_pos h2, other_same nd h hk hn hl hec h2]
      · rw [if_neg h2]
    · simp only [midLk]
      by_cases h1 : lv < d
      · rw [if_pos h1, if_pos (show lv < d + 1 by omega)]
      · rw [if_neg h1, if_neg (show ¬ lv < d + 1 by omega)]
end Go.Proofs.YtpbkejmffddelaaGreat

/-
  A node is put in, or taken out: the list in memory behind it. Own work.
-/
namespace Go.Proofs.YtpbkejmffddelaaGreat
open Go.RowKit Go.Shelf
theorem ZAt.but {w w' : World} {B : Nat} {N : List Nd} {f : Nat → Nat → Lk} {x : Nat} (h : ZAt w B N f) (ho : But x w w') (hx : ∀ (c : Nat) (n : Nd), N[c]? = some n → n.g ≠ x ∧ n.b ≠ x) : ZAt w' B N f :=
  ⟨fun c n e => (h.node c n e).but ho (hx c n e).1, fun c n e => (h.link c n e).but ho (hx c n e).2, h.lo, h.gb, h.gg⟩
theorem ButZ.but {S : List Nat} {a b c : World} {g : Nat} (h : ButZ S a b) (o : But g b c) (hg : a.heap.size ≤ g ∨ g ∈ S) : ButZ S a c :=
  ⟨o.os.trans h.os, o.tape.trans h.tape, o.output.trans h.output, Nat.le_trans h.size o.size, fun k hk hn => by
    have hne : k ≠ g := fun e => by subst e; rcases hg with e | e; exact absurd hk (by omega); exact hn e
    exact (o.block k (Nat.lt_of_lt_of_le hk h.size) hne).trans (h.block k hk hn)⟩
/-- The new node's links while the levels below d are done. -/
def newLk (Ls : List Nd) (k d lv : Nat) : Lk := if lv < d then nxt lv (Ls.drop k) else noLk
abbrev putL (Ls : List Nd) (k : Nat) (nd : Nd) : List Nd := Ls.take k ++ nd :: Ls.drop k
theorem put_low {hd nd : Nd} {Ls : List Nd} {k i : Nat} (hk : k ≤ Ls.length) (hi : i ≤ k) : (hd :: putL Ls k nd)[i]? = (hd :: Ls)[i]? := by
  match i with
  | 0 => rfl
  | i + 1 =>
    rw [List.getElem?_cons_succ, List.getElem?_cons_succ, List.getElem?_append_left (by rw [List.length_take]; omega), List.getElem?_take, if_pos (by omega)]
theorem put_mid {hd nd : Nd} {Ls : List Nd} {k : Nat} (hk : k ≤ Ls.length) : (hd :: putL Ls k nd)[k + 1]? = some nd := by
  rw [List.getElem?_cons_succ, List.getElem?_append_right (by rw [List.length_take]; omega), List.length_take, Nat.min_eq_left hk, Nat.sub_self]
  rfl
theorem put_high {hd nd : Nd} {Ls : List Nd} {k i : Nat} (hk : k ≤ Ls.length) (hi : k < i) : (hd :: putL Ls k nd)[i + 1]? = (hd :: Ls)[i]? := by
  obtain ⟨j, rfl⟩ : ∃ j, i = k + j + 1 := ⟨i - k - 1, by omega⟩
  rw [List.getElem?_cons_succ, List.getElem?_cons_succ, List.getElem?_append_right (by rw [List.length_take]; omega), List.length_take, Nat.min_eq_left hk, show k + j + 1 - k = j + 1 by omega, List.getElem?_cons_succ, List.getElem?_drop]
theorem put_at (hd nd : Nd) (Ls : List Nd) (k : Nat) (hk : k ≤ Ls.length) (c : Nat) (n : Nd) (h : (hd :: putL Ls k nd)[c]? = some n) : (c ≤ k ∧ (hd :: Ls)[c]? = some n) ∨ (c = k + 1 ∧ n = nd) ∨ (k + 1 < c ∧ (hd :: Ls)[c - 1]? = some n) := by
  by_cases h1 : c ≤ k
  · exact .inl ⟨h1, by rw [← put_low hk h1]; exact h⟩
  · by_cases h2 : c = k + 1
    · subst h2
      rw [put_mid hk] at h
      exact .inr (.inl ⟨rfl, (Option.some.inj h).symm⟩)
    · refine .inr (.inr ⟨by omega, ?_⟩)
      rw [show c = (c - 1) + 1 by omega, put_high hk (by omega)] at h
      exact h
theorem put_drop {nd : Nd} {Ls : List Nd} {k c : Nat} (hk : k ≤ Ls.length) (hc : k + 1 ≤ c) : (putL Ls k nd).drop c = Ls.drop (c - 1) := by
  obtain ⟨j, rfl⟩ : ∃ j, c = k + 1 + j := ⟨c - (k + 1), by omega⟩
  have h1 : (Ls.take k).length = k := by rw [List.length_take]; omega
  show (Ls.take k ++ nd :: Ls.drop k).drop (k + 1 + j) = _
  rw [show k + 1 + j = (Ls.take k).length + (j + 1) by omega, List.drop_append, List.drop_of_length_le (by omega), List.nil_append, show (Ls.take k).length + (j + 1) - (Ls.take k).length = j + 1 by omega, List.drop_succ_cons, List.drop_drop]
  congr 1
  omega
/-- All levels are done: the list has the new node. -/
theorem ZAt.put {w : World} {B k : Nat} {hd nd : Nd} {Ls : List Nd} (hk : k ≤ Ls.length) (h : ZAt w B (hd :: Ls) (midLk Ls k nd 16)) (rn : Row w 150 nd.g (nodeC nd.a nd.b nd.h)) (rl : Row w 176 nd.b (lksC ((List.range nd.h).map (newLk Ls k 16)))) (hn : 1 ≤ nd.h ∧ nd.h ≤ 16) (hB : B ≤ nd.g ∧ B ≤ nd.b) (hgb : nd.g ≠ nd.b)
    (hfar : ∀ (c : Nat) (n : Nd), (hd :: Ls)[c]? = some n → n.g ≠ nd.g ∧ n.b ≠ nd.b ∧ n.g ≠ nd.b ∧ n.b ≠ nd.g) : ZAt w B (hd :: putL Ls k nd) (full (putL Ls k nd)) := by
  have P := fun c n e => put_at hd nd Ls k hk c n e
  refine ⟨fun c n e => ?_, fun c n e => ?_, fun c n e => ?_, fun c d n m e1 e2 => ?_, fun c d n m e1 e2 hne => ?_⟩
  · rcases P c n e with ⟨_, h1⟩ | ⟨_, rfl⟩ | ⟨_, h1⟩
    · exact h.node _ _ h1
    · exact rn
    · exact h.node _ _ h1
  · rcases P c n e with ⟨hc, h1⟩ | ⟨hc, rfl⟩ | ⟨hc, h1⟩
    · have e2 : (List.range n.h).map (full (putL Ls k nd) c) = (List.range n.h).map (midLk Ls k nd 16 c) := List.map_congr_left fun lv hlv => by
        have h2 := List.mem_range.1 hlv
        have h3 := (h.lo _ _ h1).2.2.2
        unfold midLk
        rw [if_pos (show lv < 16 by omega), if_pos hc]
      rw [e2]; exact h.link _ _ h1
    · have e2 : (List.range n.h).map (full (putL Ls k n) c) = (List.range n.h).map (newLk Ls k 16) := List.map_congr_left fun lv hlv => by
        have h2 := List.mem_range.1 hlv
        unfold newLk
        rw [if_pos (show lv < 16 by omega), full, put_drop hk (by omega), hc, Nat.add_sub_cancel]
      rw [e2]; exact rl
    · have e2 : (List.range n.h).map (full (putL Ls k nd) c) = (List.range n.h).map (midLk Ls k nd 16 (c - 1)) := List.map_congr_left fun lv hlv => by
        have h2 := List.mem_range.1 hlv
        have h3 := (h.lo _ _ h1).2.2.2
        unfold midLk
        rw [if_pos (show lv < 16 by omega), if_neg (show ¬ c - 1 ≤ k by omega), full, put_drop hk (by omega)]
      rw [e2]; exact h.link _ _ h1
  · rcases P c n e with ⟨_, h1⟩ | ⟨_, rfl⟩ | ⟨_, h1⟩
    · exact h.lo _ _ h1
    · exact ⟨hB.1, hB.2, hn⟩
    · exact h.lo _ _ h1
  · rcases P c n e1 with ⟨_, h1⟩ | ⟨_, rfl⟩ | ⟨_, h1⟩ <;> rcases P d m e2 with ⟨_, k1⟩ | ⟨_, rfl⟩ | ⟨_, k1⟩
    · exact h.gb _ _ _ _ h1 k1
    · exact (hfar _ _ h1).2.2.1
    · exact h.gb _ _ _ _ h1 k1
    · exact Ne.symm (hfar _ _ k1).2.2.2
    · exact hgb
    · exact Ne.symm (hfar _ _ k1).2.2.2
    · exact h.gb _ _ _ _ h1 k1
    · exact (hfar _ _ h1).2.2.1
    · exact h.gb _ _ _ _ h1 k1
  · rcases P c n e1 with ⟨_, h1⟩ | ⟨_, rfl⟩ | ⟨_, h1⟩ <;> rcases P d m e2 with ⟨_, k1⟩ | ⟨_, rfl⟩ | ⟨_, k1⟩
    · exact h.gg _ _ _ _ h1 k1 hne
    · exact ⟨(hfar _ _ h1).1, (hfar _ _ h1).2.1⟩
    · exact h.gg _ _ _ _ h1 k1 (by omega)
    · exact ⟨Ne.symm (hfar _ _ k1).1, Ne.symm (hfar _ _ k1).2.1⟩
    · omega
    · exact ⟨Ne.symm (hfar _ _ k1).1, Ne.symm (hfar _ _ k1).2.1⟩
    · exact h.gg _ _ _ _ h1 k1 (by omega)
    · exact ⟨(hfar _ _ h1).1, (hfar _ _ h1).2.1⟩
    · exact h.gg _ _ _ _ h1 k1 (by omega)
/-- The links while a node is taken out, as far as the levels below d are done. -/
def midRm (Ls : List Nd) (k : Nat) (nd : Nd) (d c lv : Nat) : Lk := if lv < d then (if c ≤ k then nxt lv (Ls.drop c) else nxt lv ((putL Ls k nd).drop c)) else nxt lv ((putL Ls k nd).drop c)
theorem IsStop.cut {hd nd : Nd} {Ls : List Nd} {k lv c : Nat} (hk : k ≤ Ls.length) (h : IsStop (hd :: putL Ls k nd) k lv c) : IsStop (hd :: Ls) k lv c := by
  obtain ⟨h1, ⟨n, h2, h3⟩, h4⟩ := h
  exact ⟨h1, ⟨n, by rw [← put_low hk h1]; exact h2, h3⟩, fun i n hi hi2 hn => h4 i n hi hi2 (by rw [put_low hk hi2]; exact hn)⟩
theorem rm_next {hd nd : Nd} {Ls : List Nd} {k d c : Nat} (hk : k ≤ Ls.length) (h : IsStop (hd :: Ls) k d c) (e : Nat) (n : Nd) (lv : Nat) (hn : (hd :: putL Ls k nd)[e]? = some n) (hl : lv < n.h) :
    (if e = c then (fun l => if l = d then nxt d (Ls.drop c) else midRm Ls k nd d c l) else midRm Ls k nd d e) lv = midRm Ls k nd (d + 1) e lv := by
  by_cases hec : e = c
  · subst hec
    rw [if_pos rfl]
    by_cases hld : lv = d
    · subst hld
      simp only [if_true, midRm, show lv < lv + 1 by omega, h.1]
    · simp only [if_neg hld, midRm]
      by_cases h1 : lv < d
      · rw [if_pos h1, if_pos (show lv < d + 1 by omega)]
      · rw [if_neg h1, if_neg (show ¬ lv < d + 1 by omega)]
  · rw [if_neg hec]
    by_cases hld : lv = d
    · subst hld
      simp only [midRm, show lv < lv + 1 by omega, if_true, Nat.lt_irrefl, if_false]
      by_cases h2 : e ≤ k
      · rw [if_pos h2, other_same nd h hk (by rw [← put_low hk h2]; exact hn) hl hec h2]
      · rw [if_neg h2]
    · simp only [midRm]
      by_cases h1 : lv < d
      · rw [if_pos h1, if_pos (show lv < d + 1 by omega)]
      · rw [if_neg h1, if_neg (show ¬ lv < d + 1 by omega)]
/-- All levels are done: the list has the node no more. -/
theorem ZAt.cut {w : World} {B k : Nat} {hd nd : Nd} {Ls : List Nd} (hk : k ≤ Ls.length) (h : ZAt w B (hd :: putL Ls k nd) (midRm Ls k nd 16)) : ZAt w B (hd :: Ls) (full Ls) := by
  have P : ∀ (c : Nat) (n : Nd), (hd :: Ls)[c]? = some n → (c ≤ k ∧ (hd :: putL Ls k nd)[c]? = some n) ∨ (k < c ∧ (hd :: putL Ls k nd)[c + 1]? = some n) := by
    intro c n e
    by_cases h1 : c ≤ k
    · exact .inl ⟨h1, by rw [put_low hk h1]; exact e⟩
    · exact .inr ⟨by omega, by rw [put_high hk (by omega)]; exact e⟩
  refine ⟨fun c n e => ?_, fun c n e => ?_, fun c n e => ?_, fun c d n m e1 e2 => ?_, fun c d n m e1 e2 hne => ?_⟩
  · rcases P c n e with ⟨_, h1⟩ | ⟨_, h1⟩ <;> exact h.node _ _ h1
  · rcases P c n e with ⟨hc, h1⟩ | ⟨hc, h1⟩
    · have e2 : (List.range n.h).map (full Ls c) = (List.range n.h).map (midRm Ls k nd 16 c) := List.map_congr_left fun lv hlv => by
        have h2 := List.mem_range.1 hlv
        have h3 := (h.lo _ _ h1).2.2.2
        unfold midRm
        rw [if_pos (show lv < 16 by omega), if_pos hc]
      rw [e2]; exact h.link _ _ h1
    · have e2 : (List.range n.h).map (full Ls c) = (List.range n.h).map (midRm Ls k nd 16 (c + 1)) := List.map_congr_left fun lv hlv => by
        have h2 := List.mem_range.1 hlv
        have h3 := (h.lo _ _ h1).2.2.2
        unfold midRm
        rw [if_pos (show lv < 16 by omega), if_neg (show ¬ c + 1 ≤ k by omega), full, put_drop hk (by omega), Nat.add_sub_cancel]
      rw [e2]; exact h.link _ _ h1
  · rcases P c n e with ⟨_, h1⟩ | ⟨_, h1⟩ <;> exact h.lo _ _ h1
  · rcases P c n e1 with ⟨_, h1⟩ | ⟨_, h1⟩ <;> rcases P d m e2 with ⟨_, k1⟩ | ⟨_, k1⟩ <;> exact h.gb _ _ _ _ h1 k1
  · rcases P c n e1 with ⟨_, h1⟩ | ⟨_, h1⟩ <;> rcases P d m e2 with ⟨_, k1⟩ | ⟨_, k1⟩ <;> exact h.gg _ _ _ _ h1 k1 (by omega)
end Go.Proofs.YtpbkejmffddelaaGreat

/-
  A set's insert: contract. Own work.
-/
namespace Go.Proofs.YtpbkejmffddelaaGreat
open Go.RowKit Go.Shelf
theorem szInt3 : (Tryz.prog.info? 3).map (·.size) = some 1 := by kernel_rfl
/-- The second cell of a link within a row turned. -/
theorem set_places (A C : List Value) (p v u : Value) (j : Nat) (h : A.length = j) : (A ++ ([p, v] ++ C)).set (j + 1) u = A ++ ([p, u] ++ C) := by
  subst h
  rw [List.set_append_right _ _ (by omega), show A.length + 1 - A.length = 1 by omega]
  rfl
def SIns10 (k c i gn bn bc hn : Nat) (xm : Nm) (xs pl xn : Int) (xt : Option Nat) (opn : Nat) (v : Value) : Prop :=
  match opn with
  | 0 | 1 => v = .pointer (some ⟨gn, 0, none⟩)
  | 2 => v = .pointer (some ⟨gn, 2, none⟩)
  | 3 => v = .slice (some ⟨bn, 0, none⟩) hn hn
  | 4 => v = .int .i64 (i : Int)
  | 5 | 6 | 7 | 9 | 10 => v = .pointer (some ⟨bc, i * 2, none⟩)
  | 8 => v = .pointer (xt.map fun g => ⟨g, 0, none⟩)
  | 11 => v = .pointer (some ⟨bc, i * 2 + 1, none⟩)
  | 12 => v = .int .i64 (pl + 1)
  | 13 => v = .int .i64 (((k - c : Nat) : Int) + 1)
  | 14 => v = .int .i64 xn
  | 15 => v = .agg [.pointer (xt.map fun g => ⟨g, 0, none⟩), .int .i64 xn].toArray
  | 16 => v = .pointer (some ⟨bn, 0 + i * 2, none⟩)
  | _ => True

theorem run_build2 {P : Program} {w : World} {a : Act} {o : Oper} (t : TypeId) (x y : Operand) (u v : Value) (ho : o.op = .build t #[(0, x), (1, y)]) (hx : a.eval x = u) (hy : a.eval y = v) (hb : P.built t [(0, u), (1, v)] = some [u, v].toArray) : (execOp a.eval o).run P w = .ok (.value (.agg [u, v].toArray)) w :=
  run_buildX t [(0, x), (1, y)] ho [(0, u), (1, v)] (by simp only [List.map_cons, List.map_nil, hx, hy]) [u, v] hb
theorem builtLink (p : Option Addr) (x : Int) : Tryz.prog.built 176 [(0, .pointer p), (1, .int .i64 x)] = some [.pointer p, .int .i64 x].toArray := by kernel_rfl
set_option maxRecDepth 100000 in
set_option maxHeartbeats 4000000 in
theorem insert_any2 (w : World) (B : Nat) (hd : Nd) (Ls : List Nd) (x : Sc) (hZ : ZAt w B (hd :: Ls) (full Ls)) (hh : hd.h = 16) (hl : Ls.length ≤ 999999) (hr : Rising (scs Ls)) (hxm : x.m.length ≤ 1000000) (hB : B ≤ w.heap.size) :
    Calls Tryz.prog 117 #[ptr hd.g, x.val] w fun e w' => ∃ nd : Nd, nd.a = x ∧ e = .returned (.tuple #[]) ∧ ZAt w' B (hd :: (Ls.take (nAhead x (scs Ls)) ++ nd :: Ls.drop (nAhead x (scs Ls)))) (full (Ls.take (nAhead x (scs Ls)) ++ nd :: Ls.drop (nAhead x (scs Ls)))) ∧ ButZ ((hd :: Ls).map Nd.b) w w' ∧ w.heap.size ≤ nd.b := by
  have HAh := fun w => ahead_any w x
  have HNw := fun w => newNode_any w x hxm
  have HWk := fun w1 (hb : Below w.heap.size w w1) g (hx : Row w1 99 g x.cells) => walkTo_any w1 B hd Ls x g (hZ.later hb) hh (by omega) hr hx
  obtain ⟨k, hk⟩ : ∃ k, k = nAhead x (scs Ls) := ⟨_, rfl⟩
  have hkl : k ≤ Ls.length := by rw [hk]; simpa using nAhead_le x (scs Ls)
  rw [← hk] at HWk ⊢
  replace hk := hide hk
  obtain ⟨xm, xs⟩ := x
  go_enter Tryz.func117, Tryz.ntmps117
  go_wp2_with (first
    | (with_reducible refine wl_box (o := ⟨some 3, _, _, _, _, _⟩) rfl 99 (.tmp 1) _ [encStr xm, .int .i64 xs] rfl rfl rfl ?_; intro g3 w3 r3 p3 l3 b3)
    | (with_reducible refine wl_load_row (o := ⟨some 11, _, _, _, _, _⟩) rfl 99 (.tmp 3) g3 99 [encStr xm, .int .i64 xs] _ rfl rfl r3 Tryz.underlying99 rfl (szSc ⟨xm, xs⟩) ?_))
  refine (HAh _).mono ?_
  rintro e wA ⟨gA, rfl, rA, pA, bA⟩
  have B1 := b3.trans (bA.mono b3.size)
  go_wp2_with fail
  refine (HWk wA B1 gA rA).mono ?_
  rintro e wB ⟨ps, rfl, hps, hst, bB⟩
  have B2 := B1.trans (bB.mono B1.size)
  have r3 := (r3.later bA).later bB
  have hz := hide (szStops hps)
  have hl1 : (lksC (List.replicate 16 noLk)).length = (lksC ps).length := by rw [lksC_length, lksC_length, hps]; rfl
  replace hl1 := hide hl1
  have ho := hide (lks_one ps)
  go_wp2_with (first
    | (with_reducible refine wl_alloc (o := ⟨some 4, _, _, _, _, _⟩) rfl 169 _ (lksC (List.replicate 16 noLk)) rfl rfl rfl ?_; intro g4 w4 r4 p4 l4 b4)
    | (with_reducible refine wl_store_row rfl 169 (.tmp 4) (.tmp 13) g4 169 _ (lksC ps) rfl rfl rfl r4 hz.out hl1.out ho.out ?_; intro w5 r5 o5; have r3 := (r3.later b4).only o5 (by have := r3.lt; omega))
    | (with_reducible refine wl_load_row (o := ⟨some 14, _, _, _, _, _⟩) rfl 99 (.tmp 3) g3 99 [encStr xm, .int .i64 xs] _ rfl rfl r3 Tryz.underlying99 rfl (szSc ⟨xm, xs⟩) ?_))
  have B3 := B2.trans ((b4.trans (o5.below p4)).mono B2.size)
  refine (HNw _).mono ?_
  rintro e w6 ⟨gn, bn, hn, rfl, hn1, hn16, rn, rl, pn, pb, b6⟩
  have B4 := B3.trans (b6.mono B3.size)
  have r5 := r5.later b6
  go_wp2_with (first
    | (with_reducible refine wl_load_row (o := ⟨some 16, _, _, _, _, _⟩) rfl 169 (.tmp 4) g4 169 (lksC ps) _ rfl rfl r5 Tryz.underlying169 rfl hz.out ?_))
  have lo4 : w.heap.size ≤ g4 := Nat.le_trans B2.size p4
  have lon : w.heap.size ≤ gn := Nat.le_trans B3.size pn
  have lob : w.heap.size ≤ bn := by omega
  have l4 : g4 < gn := by have := r5.lt; have := b4.size; have := o5.size; have := r4.lt; omega
  have hgnb := hide (show gn < bn by omega)
  have h4bn := hide (show g4 ≠ bn by omega)
  have HZ := hide hZ
  have Hst := hide hst
  have S4 : ButZ ((hd :: Ls).map Nd.b) w w6 := ButZ.of B4
  have hz0 : ZAt w6 B (hd :: Ls) (midLk Ls k ⟨⟨xm, xs⟩, gn, bn, hn⟩ 0) := (hZ.later B4).congr fun c n lv _ _ => rfl
  have hlo : ∀ (c : Nat) (n : Nd), (hd :: Ls)[c]? = some n → n.g < w.heap.size ∧ n.b < w.heap.size := fun c n h => ⟨(hZ.node c n h).lt, (hZ.link c n h).lt⟩
  have rl0 : Row w6 176 bn (lksC ((List.range hn).map (newLk Ls k 0))) := by
    have e : (List.range hn).map (newLk Ls k 0) = List.replicate hn noLk := by
      apply List.ext_getElem <;> simp [newLk]
    rw [e]; exact rl
  replace hlo := hide hlo
  clear hst hZ HAh HNw HWk rA r3 r4 b3 bA bB b4 o5 b6 B1 B2 B3 B4 pA p3 l3 p4 pn pb rl
  go_loopw [17] (fun iv wr => ∃ i : Nat, i ≤ 16 ∧ iv = .int .i64 (i : Int) ∧ Row wr 169 g4 (lksC ps) ∧ Row wr 150 gn (nodeC ⟨xm, xs⟩ bn hn) ∧ Row wr 176 bn (lksC ((List.range hn).map (newLk Ls k i))) ∧ ZAt wr B (hd :: Ls) (midLk Ls k ⟨⟨xm, xs⟩, gn, bn, hn⟩ i) ∧ ButZ ((hd :: Ls).map Nd.b) w wr) (fun iv _ => 16 - (intOf iv).toNat)
  case atStart => exact ⟨0, by omega, rfl, r5, rn, rl0, hz0, S4⟩
  case round =>
    clear r5 rn rl0 hz0 S4
    obtain ⟨i, hi, rfl, r4, rn, rl, hz, BW⟩ := hrel
    by_cases hi2 : i < 16
    · have hi3 : (i : Int) < 16 := by omega
      obtain ⟨c, nc, hpc, hNc, hsc⟩ := Hst.out i hi2
      have h41 : (lksC ps)[1]? = some (.int .i64 (k : Int)) := by
        obtain ⟨c0, n0, hp0, hN0, hs0⟩ := Hst.out 0 (by omega)
        have e0 : c0 = k := hs0.low (by rw [List.length_cons]; omega) fun j m hj => (hz.lo j m hj).2.2.1
        rw [e0] at hp0
        rw [lksL_part ps 0 _ hp0]
        rfl
      replace h41 := hide h41
      obtain ⟨n', hn', hlt'⟩ := hsc.2.1
      have e1 : n' = nc := Option.some.inj (hn'.symm.trans hNc)
      subst e1
      have HN := hz.node c n' hNc
      have HL := hz.link c n' hNc
      have hpart := lksL_part ((List.range n'.h).map (midLk Ls k ⟨⟨xm, xs⟩, gn, bn, hn⟩ i c)) i (midLk Ls k ⟨⟨xm, xs⟩, gn, bn, hn⟩ i c i) (by simp [hlt'])
      rw [hpart] at HL
      clear hpart
      have hA : (lksC (((List.range n'.h).map (midLk Ls k ⟨⟨xm, xs⟩, gn, bn, hn⟩ i c)).take i)).length = 0 + i * 2 := by rw [lksL_ahead _ i (by simp; omega)]; omega
      have hold : midLk Ls k ⟨⟨xm, xs⟩, gn, bn, hn⟩ i c i = ⟨(nxt i (Ls.drop k)).to, (nxt i (Ls.drop k)).n + ((k - c : Nat) : Int)⟩ := by
        unfold midLk
        rw [if_neg (Nat.lt_irrefl i), stop_old hsc hkl]
      rw [hold] at HL
      have hpn := nxt_n i (Ls.drop k)
      obtain ⟨X, hX⟩ : ∃ X, X = nxt i (Ls.drop k) := ⟨_, rfl⟩
      rw [← hX] at HL hpn
      obtain ⟨xt, xn⟩ := X
      replace hX := hide hX
      have hdl : ((Ls.drop k).length : Int) ≤ 999999 := by rw [List.length_drop]; omega
      have hset : ∀ z : Lk, lksC (((List.range n'.h).map (midLk Ls k ⟨⟨xm, xs⟩, gn, bn, hn⟩ i c)).take i) ++ (z.cells ++ lksC (((List.range n'.h).map (midLk Ls k ⟨⟨xm, xs⟩, gn, bn, hn⟩ i c)).drop (i + 1))) = lksC ((List.range n'.h).map fun l => if l = i then z else midLk Ls k ⟨⟨xm, xs⟩, gn, bn, hn⟩ i c l) := by
        intro z
        rw [← List.map_take, ← List.map_drop, List.take_range, Nat.min_eq_left (Nat.le_of_lt hlt'), lks_turn _ _ _ _ hlt']
      generalize lksC (((List.range n'.h).map (midLk Ls k ⟨⟨xm, xs⟩, gn, bn, hn⟩ i c)).take i) = LA at *
      generalize lksC (((List.range n'.h).map (midLk Ls k ⟨⟨xm, xs⟩, gn, bn, hn⟩ i c)).drop (i + 1)) = LC at *
      replace hset := hide hset
      have hck := hsc.1
      obtain ⟨⟨nm, ns⟩, gc, bc, hc⟩ := n'
      have hlti : (i : Int) < (hc : Int) := by have : i < hc := hlt'; omega
      obtain ⟨pl, hpl⟩ : ∃ pl, pl = xn + ((k - c : Nat) : Int) := ⟨_, rfl⟩
      have hpl0 : 0 ≤ pl ∧ pl ≤ 2000000 := by
        have h1 : 0 ≤ xn := hpn.1
        have h2 : xn ≤ ((Ls.drop k).length : Int) := hpn.2
        omega
      have hz1 := hide (show IntKind.i64.wrap (pl + 1) = pl + 1 from wrap_id rfl (by omega) (by omega))
      rw [show (⟨xt, xn⟩ : Lk).n + ((k - c : Nat) : Int) = pl from hpl.symm] at HL
      replace hpl := hide hpl
      have cn2 := HN.cell (j := 2) rfl
      have HLr : Row wr 176 bc (LA ++ ([.pointer (xt.map fun g => ⟨g, 0, none⟩), .int .i64 pl] ++ LC)) := HL
      have hPS := hide hps
      have hPC := hide hpc
      have hLT := hide (show i < hc from hlt')
      have hAl := hide (show LA.length = i * 2 by rw [hA]; omega)
      have hcp : ∀ wz, Row wz 176 bc (LA ++ ([.pointer (xt.map fun g => ⟨g, 0, none⟩), .int .i64 pl] ++ LC)) → wz.cell? ⟨bc, i * 2 + 1, none⟩ = some (.int .i64 pl) := fun wz h => h.cell (by rw [List.getElem?_append_right (by rw [hAl.out]; omega), hAl.out, show i * 2 + 1 - i * 2 = 1 by omega]; rfl)
      replace hcp := hide hcp
      have hpn2 := hide (show 0 ≤ xn ∧ xn ≤ 999999 from ⟨hpn.1, Int.le_trans hpn.2 hdl⟩)
      clear hold HL hA hpn hps hpc hlt' hn' hdl
      have h4b := hide (show g4 ≠ bc by have := (hlo.out c _ hNc).2; exact fun e => absurd this (by simp only [← e]; omega))
      have hlob := hide (show bc < wr.heap.size by exact HLr.lt)
      have hf1 := hide (show IntKind.i64.wrap ((k : Int) + 1) = (k : Int) + 1 from wrap_id rfl (by omega) (by omega))
      have hf2 := hide (show IntKind.i64.wrap ((k : Int) + 1 - (c : Int)) = ((k - c : Nat) : Int) + 1 from wrap_id (by omega) (by omega) (by omega))
      have hbb := hide (show bn ≠ bc by have := (hlo.out c _ hNc).2; exact fun e => absurd this (by simp only [← e]; omega))
      have hgb := hide (show gn ≠ bc by have := (hlo.out c _ hNc).2; exact fun e => absurd this (by simp only [← e]; omega))
      have hlen := hide (show i * 2 + 1 < (LA ++ (([Value.pointer (xt.map fun g => ⟨g, 0, none⟩), Value.int .i64 pl] : List Value) ++ LC)).length by rw [List.length_append, List.length_append, hAl.out]; show i * 2 + 1 < i * 2 + (2 + LC.length); omega)
      replace hsc := hide hsc
      replace hNc := hide hNc
      replace hck := hide hck
      by_cases hhn : i < hn
      · have hhi : (i : Int) < (hn : Int) := by omega
        go_wp2_with (first
          | (with_reducible refine wl_run (o := ⟨some 20, _, _, _, _, _⟩) rfl (.agg #[ptr gc, .int .i64 (c : Int)]) (run_indexStop (.tmp 16) (.tmp 17) ps i ⟨some gc, (c : Int)⟩ rfl rfl rfl hPS.out hPC.out) ?_)
          | (with_reducible refine wl_alloc (o := ⟨some 7, _, _, _, _, _⟩) rfl 168 _ [.pointer none, .int .i64 0] rfl rfl rfl ?_; intro g7 w7 r7 p7 l7 b7)
          | (with_reducible refine wl_store_row (o := ⟨none, .store 168 (.tmp 7) (.tmp 20), _, _, _, _⟩) rfl 168 (.tmp 7) (.tmp 20) g7 168 _ [ptr gc, .int .i64 (c : Int)] rfl rfl rfl r7 (szStop _ _) rfl (by simp [Value.oneCell']) ?_; intro w8 r8 o8; have bq8 : Below wr.heap.size wr w8 := b7.trans (o8.below p7); have c70 := r8.cell (j := 0) rfl; have cn := (Row.later HN bq8).cell (j := 2) rfl; have cp := hcp.out w8 (Row.later HLr bq8); have HL8 := Row.later HLr bq8)
          | (with_reducible refine wl_run (o := ⟨some 27, _, _, _, _, _⟩) rfl (.pointer (some ⟨bc, 0 + i * 2, none⟩)) (run_indexSlN 148 (.tmp 25) (.tmp 26) 176 2 bc 0 hc hc i rfl Tryz.underlying148 Tryz.sizeOf176 rfl rfl hLT.out) ?_)
          | (with_reducible refine wl_run (o := ⟨some 32, _, _, _, _, _⟩) rfl (.int .i64 (pl + 1)) (run_addZ (.tmp 31) _ rfl rfl rfl hz1.out) ?_)
          | (with_reducible refine wl_store (o := ⟨none, .store 3 (.tmp 34) (.tmp 32), _, _, _, _⟩) rfl 3 (.tmp 34) (.tmp 32) bc (i * 2 + 1) 176 _ (.int .i64 (pl + 1)) rfl szInt3 rfl rfl HL8 hlen.out rfl ?_; intro w9 r9 o9; have cgn := ((Row.later rn bq8).only o9 hgb.out).cell (j := 2) rfl; have c41 := ((Row.later r4 bq8).only o9 h4b.out).cell h41.out; have c71 := (r8.only o9 (Ne.symm (Nat.ne_of_lt (Nat.lt_of_lt_of_le hlob.out p7)))).cell (j := 1) rfl)
          | (with_reducible refine wl_run (o := ⟨some 45, _, _, _, _, _⟩) rfl (.int .i64 ((k : Int) + 1)) (run_addZ (.tmp 44) _ rfl rfl rfl hf1.out) ?_)
          | (with_reducible refine wl_run (o := ⟨some 48, _, _, _, _, _⟩) rfl (.int .i64 (((k - c : Nat) : Int) + 1)) (run_subZ (.tmp 45) (.tmp 47) rfl rfl rfl hf2.out) ?_))
        rename_i K10 hK10
        have r9p : Row w9 176 bc (LA ++ ([.pointer (xt.map fun g => ⟨g, 0, none⟩), .int .i64 (pl + 1)] ++ LC)) := by rw [← set_places _ _ _ (.int .i64 pl) _ _ hAl.out]; exact r9
        have rn9 : Row w9 150 gn [encStr xm, .int .i64 xs, .slice (some ⟨bn, 0, none⟩) hn hn] := (Row.later rn bq8).only o9 hgb.out
        have rl9 := (Row.later rl bq8).only o9 hbb.out
        have hnw : newLk Ls k i i = noLk := by unfold newLk; rw [if_neg (Nat.lt_irrefl i)]
        rw [lks_part _ hn i hhn, hnw] at rl9
        have hnset := hide (lks_turn (newLk Ls k i) hn i ⟨xt, xn⟩ hhn)
        have hNA := hide (show (lksC ((List.range i).map (newLk Ls k i))).length = 0 + i * 2 by rw [lks_ahead]; omega)
        generalize lksC ((List.range i).map (newLk Ls k i)) = NA at *
        generalize lksC (((List.range hn).drop (i + 1)).map (newLk Ls k i)) = NC at *
        have hcl0 : ∀ wz, Row wz 176 bc (LA ++ ([.pointer (xt.map fun g => ⟨g, 0, none⟩), .int .i64 (pl + 1)] ++ LC)) → wz.cell? ⟨bc, i * 2, none⟩ = some (.pointer (xt.map fun g => ⟨g, 0, none⟩)) := fun wz h => h.cell (by rw [List.getElem?_append_right (by rw [hAl.out]; omega), hAl.out, Nat.sub_self]; rfl)
        have hcl1 : ∀ wz, Row wz 176 bc (LA ++ ([.pointer (xt.map fun g => ⟨g, 0, none⟩), .int .i64 (pl + 1)] ++ LC)) → wz.cell? ⟨bc, i * 2 + 1, none⟩ = some (.int .i64 (pl + 1)) := fun wz h => h.cell (by rw [List.getElem?_append_right (by rw [hAl.out]; omega), hAl.out, show i * 2 + 1 - i * 2 = 1 by omega]; rfl)
        have hf3 := hide (show IntKind.i64.wrap ((pl + 1) - (((k - c : Nat) : Int) + 1)) = xn from wrap_id (by rw [hpl.out]; omega) (by have := hpn2.out; omega) (by have := hpn2.out; omega))
        have hbl := hide (builtLink (xt.map fun g => ⟨g, 0, none⟩) xn)
        replace hhn := hide hhn
        refine wp_region_vals [17] (SIns10 k c i gn bn bc hn xm xs pl xn xt) (JG bn 176 w9 [17] (fun _ _ _ => True) 0 (NA ++ ([.pointer (xt.map fun g => ⟨g, 0, none⟩), .int .i64 xn] ++ NC))) (by kernel_rfl) (by kernel_rfl) (by kernel_rfl) (by kernel_rfl) (by kernel_rfl) (JG.start _) ?obs10 ?he10
        case obs10 =>
          refine ⟨?_, ?_, ?_, ?_, ?_, ?_, ?_, ?_, ?_, ?_, ?_, ?_, ?_, ?_, ?_, ?_, ?_, ?_, trivial⟩
          · exact .inl ⟨by kernel_rfl, fun L a1 w1 n h => ⟨_, rfl, run_move (.tmp 5) rfl (h.var n 5 (by kernel_rfl))⟩⟩
          · refine .inl ⟨by kernel_rfl, fun L a1 w1 n h => ⟨.pointer (some ⟨gn, 0, none⟩), rfl, ?_⟩⟩
            have e0 : a1.eval (.tmp 49) = _ := h.dep n 0 49 (by kernel_rfl) rfl
            unfold execOp
            simp only [e0]
            go_simp
          · refine .inl ⟨by kernel_rfl, fun L a1 w1 n h => ⟨.pointer (some ⟨gn, 2, none⟩), rfl, ?_⟩⟩
            have e0 : a1.eval (.tmp 50) = _ := h.dep n 1 50 (by kernel_rfl) rfl
            unfold execOp
            simp only [e0]
            go_simp
          · exact .inl ⟨by kernel_rfl, fun L a1 w1 n h => ⟨_, rfl, run_loadA 148 (.tmp 51) ⟨gn, 2, none⟩ rfl Tryz.isAgg148 (h.dep n 2 51 (by kernel_rfl) rfl) ((Row.later rn9 ((h.inv.1 ((bits_at rfl).trans (n.later (by kernel_rfl)))).1)).cell (j := 2) (v := .slice (some ⟨bn, 0, none⟩) hn hn) rfl)⟩⟩
          · exact .inl ⟨by kernel_rfl, fun L a1 w1 n h => ⟨_, rfl, run_move (.tmp 6) rfl (h.var n 6 (by kernel_rfl))⟩⟩
          · exact .inl ⟨by kernel_rfl, fun L a1 w1 n h => ⟨_, rfl, run_move (.tmp 8) rfl (h.var n 8 (by kernel_rfl))⟩⟩
          · refine .inl ⟨by kernel_rfl, fun L a1 w1 n h => ⟨.pointer (some ⟨bc, i * 2, none⟩), rfl, ?_⟩⟩
            have e0 : a1.eval (.tmp 54) = _ := h.dep n 5 54 (by kernel_rfl) rfl
            unfold execOp
            simp only [e0]
            go_simp
          · refine .inl ⟨by kernel_rfl, fun L a1 w1 n h => ⟨.pointer (some ⟨bc, i * 2, none⟩), rfl, ?_⟩⟩
            have e0 : a1.eval (.tmp 55) = _ := h.dep n 6 55 (by kernel_rfl) rfl
            unfold execOp
            simp only [e0]
            go_simp
          · exact .inl ⟨by kernel_rfl, fun L a1 w1 n h => ⟨_, rfl, run_loadA 147 (.tmp 56) ⟨bc, i * 2, none⟩ rfl Tryz.isAgg147 (h.dep n 7 56 (by kernel_rfl) rfl) (hcl0 w1 (Row.later r9p ((h.inv.1 ((bits_at rfl).trans (n.later (by kernel_rfl)))).1)))⟩⟩
          · exact .inl ⟨by kernel_rfl, fun L a1 w1 n h => ⟨_, rfl, run_move (.tmp 8) rfl (h.var n 8 (by kernel_rfl))⟩⟩
          · refine .inl ⟨by kernel_rfl, fun L a1 w1 n h => ⟨.pointer (some ⟨bc, i * 2, none⟩), rfl, ?_⟩⟩
            have e0 : a1.eval (.tmp 58) = _ := h.dep n 9 58 (by kernel_rfl) rfl
            unfold execOp
            simp only [e0]
            go_simp
          · refine .inl ⟨by kernel_rfl, fun L a1 w1 n h => ⟨.pointer (some ⟨bc, i * 2 + 1, none⟩), rfl, ?_⟩⟩
            have e0 : a1.eval (.tmp 59) = _ := h.dep n 10 59 (by kernel_rfl) rfl
            unfold execOp
            simp only [e0]
            go_simp
          · exact .inl ⟨by kernel_rfl, fun L a1 w1 n h => ⟨_, rfl, run_loadA 3 (.tmp 60) ⟨bc, i * 2 + 1, none⟩ rfl Tryz.isAgg3 (h.dep n 11 60 (by kernel_rfl) rfl) (hcl1 w1 (Row.later r9p ((h.inv.1 ((bits_at rfl).trans (n.later (by kernel_rfl)))).1)))⟩⟩
          · exact .inl ⟨by kernel_rfl, fun L a1 w1 n h => ⟨_, rfl, run_move (.tmp 9) rfl (h.var n 9 (by kernel_rfl))⟩⟩
          · exact .inl ⟨by kernel_rfl, fun L a1 w1 n h => ⟨_, rfl, run_subZ (.tmp 61) (.tmp 62) rfl (h.dep n 12 61 (by kernel_rfl) rfl) (h.dep n 13 62 (by kernel_rfl) rfl) hf3.out⟩⟩
          · exact .inl ⟨by kernel_rfl, fun L a1 w1 n h => ⟨_, rfl, run_build2 176 (.tmp 57) (.tmp 63) (.pointer (xt.map fun g => ⟨g, 0, none⟩)) (.int .i64 xn) rfl (h.dep n 8 57 (by kernel_rfl) rfl) (h.dep n 14 63 (by kernel_rfl) rfl) hbl.out⟩⟩
          · exact .inl ⟨by kernel_rfl, fun L a1 w1 n h => ⟨_, rfl, run_indexSlN 148 (.tmp 52) (.tmp 53) 176 2 bn 0 hn hn i rfl Tryz.underlying148 Tryz.sizeOf176 (h.dep n 3 52 (by kernel_rfl) rfl) (h.dep n 4 53 (by kernel_rfl) rfl) hhn.out⟩⟩
          · refine .inr fun L a1 w1 n h K hK => ?_
            have no : L.getD 17 false = false := n.not_yet
            have h0 := (h.inv.1 ((bits_at rfl).trans no)).1
            refine st_store_part 176 (.tmp 65) (.tmp 64) bn (0 + i * 2) 176 NA noLk.cells NC [.pointer (xt.map fun g => ⟨g, 0, none⟩), .int .i64 xn] rfl (h.dep n 16 65 (by kernel_rfl) rfl) (h.dep n 15 64 (by kernel_rfl) rfl) (Row.later rl9 h0) hNA.out rfl (szLink _ _) (by simp [Value.oneCell']) ?_
            intro w3 r3 o3
            exact JG.store h hK no rfl trivial r3 o3
        case he10 =>
          intro V w11 hV hJ
          obtain ⟨o11, rl11⟩ := JG.last hJ rfl
          clear hV hJ
          simp only [putOps, List.setIfInBounds_toArray, List.set_cons_succ, List.set_cons_zero, Nat.reduceAdd]
          refine hK10 _ _ ?_
          have r11 := r9p.but o11 (Ne.symm hbb.out)
          go_wp2_with (first
            | (with_reducible refine wl_build (o := ⟨some 69, _, _, _, _, _⟩) rfl 176 [(0, .tmp 67), (1, .tmp 68)] rfl [(0, .pointer (some ⟨gn, 0, none⟩)), (1, .int .i64 (((k - c : Nat) : Int) + 1))] rfl [.pointer (some ⟨gn, 0, none⟩), .int .i64 (((k - c : Nat) : Int) + 1)] (builtLink _ _) ?_)
            | (with_reducible refine wl_store_part rfl 176 (.tmp 70) (.tmp 69) bc (i * 2) 176 LA [.pointer (xt.map fun g => ⟨g, 0, none⟩), .int .i64 (pl + 1)] LC [.pointer (some ⟨gn, 0, none⟩), .int .i64 (((k - c : Nat) : Int) + 1)] rfl rfl rfl r11 hAl.out rfl (szLink _ _) (by simp [Value.oneCell']) ?_; intro w12 r12 o12))
          go_roundw
          case rel =>
            have hck2 := hck.out
            have hrow2 : Row w9 176 bc (lksC ((List.range hc).map fun l => if l = i then ⟨xt, pl + 1⟩ else midLk Ls k ⟨⟨xm, xs⟩, gn, bn, hn⟩ i c l)) := by
              rw [← hset.out]; exact r9p
            have hnew : nxt i ((Ls.take k ++ (⟨⟨xm, xs⟩, gn, bn, hn⟩ : Nd) :: Ls.drop k).drop c) = ⟨some gn, ((k - c : Nat) : Int) + 1⟩ := by rw [stop_new _ hsc.out hkl, if_pos hhn.out]
            have hrow3 : Row w12 176 bc (lksC ((List.range hc).map fun l => if l = i then nxt i ((Ls.take k ++ (⟨⟨xm, xs⟩, gn, bn, hn⟩ : Nd) :: Ls.drop k).drop c) else midLk Ls k ⟨⟨xm, xs⟩, gn, bn, hn⟩ i c l)) := by
              rw [← hset.out, hnew]; exact r12
            have hz9 := ((hz.later bq8).turn hNc.out o9 _ hrow2).but o11 fun d n hd => ⟨fun e => by have := (hlo.out d n hd).1; omega, fun e => by have := (hlo.out d n hd).2; omega⟩
            have hz12 := hz9.turn hNc.out o12 _ hrow3
            have hnx : newLk Ls k (i + 1) i = ⟨xt, xn⟩ := by unfold newLk; rw [if_pos (Nat.lt_succ_self i)]; exact hX.out.symm
            have hml : (List.range hn).map (newLk Ls k (i + 1)) = (List.range hn).map fun l => if l = i then ⟨xt, xn⟩ else newLk Ls k i l := List.map_congr_left fun l hl => by
              by_cases e : l = i
              · subst e; rw [if_pos rfl, hnx]
              · rw [if_neg e]
                unfold newLk
                by_cases h1 : l < i
                · rw [if_pos h1, if_pos (show l < i + 1 by omega)]
                · rw [if_neg h1, if_neg (show ¬ l < i + 1 by omega)]
            have r4z := ((((Row.later r4 bq8).only o9 h4b.out).but o11 h4bn.out).only o12 h4b.out)
            have rnz := (rn9.but o11 (show gn ≠ bn from Nat.ne_of_lt hgnb.out)).only o12 hgb.out
            have rlz : Row w12 176 bn (lksC ((List.range hn).map (newLk Ls k (i + 1)))) := by
              rw [hml, ← hnset.out]
              exact Row.only rl11 o12 hbb.out
            refine ⟨i + 1, by omega, by go_num, r4z, rnz, rlz, hz12.congr fun e n lv he hl => ?_, (((BW.trans (ButZ.of bq8)).only o9 (.inr (List.mem_map.2 ⟨_, List.mem_of_getElem? hNc.out, rfl⟩))).but o11 (.inl lob)).only o12 (.inr (List.mem_map.2 ⟨_, List.mem_of_getElem? hNc.out, rfl⟩))⟩
            rw [← mid_next _ hsc.out hkl e n lv he hl]
            by_cases hec : e = c
            · rw [if_pos hec, if_pos hec]
            · rw [if_neg hec, if_neg hec, if_neg hec]
          case measure => simp [intOf]; omega
      · have hhi : ¬ (i : Int) < (hn : Int) := by omega
        go_wp2_with (first
          | (with_reducible refine wl_run (o := ⟨some 20, _, _, _, _, _⟩) rfl (.agg #[ptr gc, .int .i64 (c : Int)]) (run_indexStop (.tmp 16) (.tmp 17) ps i ⟨some gc, (c : Int)⟩ rfl rfl rfl hPS.out hPC.out) ?_)
          | (with_reducible refine wl_alloc (o := ⟨some 7, _, _, _, _, _⟩) rfl 168 _ [.pointer none, .int .i64 0] rfl rfl rfl ?_; intro g7 w7 r7 p7 l7 b7)
          | (with_reducible refine wl_store_row (o := ⟨none, .store 168 (.tmp 7) (.tmp 20), _, _, _, _⟩) rfl 168 (.tmp 7) (.tmp 20) g7 168 _ [ptr gc, .int .i64 (c : Int)] rfl rfl rfl r7 (szStop _ _) rfl (by simp [Value.oneCell']) ?_; intro w8 r8 o8; have bq8 : Below wr.heap.size wr w8 := b7.trans (o8.below p7); have c70 := r8.cell (j := 0) rfl; have cn := (Row.later HN bq8).cell (j := 2) rfl; have cp := hcp.out w8 (Row.later HLr bq8); have HL8 := Row.later HLr bq8)
          | (with_reducible refine wl_run (o := ⟨some 27, _, _, _, _, _⟩) rfl (.pointer (some ⟨bc, 0 + i * 2, none⟩)) (run_indexSlN 148 (.tmp 25) (.tmp 26) 176 2 bc 0 hc hc i rfl Tryz.underlying148 Tryz.sizeOf176 rfl rfl hLT.out) ?_)
          | (with_reducible refine wl_run (o := ⟨some 32, _, _, _, _, _⟩) rfl (.int .i64 (pl + 1)) (run_addZ (.tmp 31) _ rfl rfl rfl hz1.out) ?_)
          | (with_reducible refine wl_store (o := ⟨none, .store 3 (.tmp 34) (.tmp 32), _, _, _, _⟩) rfl 3 (.tmp 34) (.tmp 32) bc (i * 2 + 1) 176 _ (.int .i64 (pl + 1)) rfl szInt3 rfl rfl HL8 hlen.out rfl ?_; intro w9 r9 o9; have cgn := ((Row.later rn bq8).only o9 hgb.out).cell (j := 2) rfl))
        go_roundw
        case rel =>
          have hrow : Row w9 176 bc (LA ++ ([Value.pointer (xt.map fun g => ⟨g, 0, none⟩), .int .i64 (pl + 1)] ++ LC)) := by rw [← set_places _ _ _ (.int .i64 pl) _ _ hAl.out]; exact r9
          have hnew : nxt i ((Ls.take k ++ (⟨⟨xm, xs⟩, gn, bn, hn⟩ : Nd) :: Ls.drop k).drop c) = ⟨xt, pl + 1⟩ := by rw [stop_new _ hsc.out hkl, if_neg hhn, ← hX.out, hpl.out]
          have hrow2 : Row w9 176 bc (lksC ((List.range hc).map fun l => if l = i then nxt i ((Ls.take k ++ (⟨⟨xm, xs⟩, gn, bn, hn⟩ : Nd) :: Ls.drop k).drop c) else midLk Ls k ⟨⟨xm, xs⟩, gn, bn, hn⟩ i c l)) := by
            rw [← hset.out, hnew]; exact hrow
          have hz9 := ((hz.later bq8).turn hNc.out o9 _ hrow2)
          have hml : (List.range hn).map (newLk Ls k (i + 1)) = (List.range hn).map (newLk Ls k i) := List.map_congr_left fun l hl => by
            have := List.mem_range.1 hl
            unfold newLk
            rw [if_pos (show l < i + 1 by omega), if_pos (show l < i by omega)]
          refine ⟨i + 1, by omega, by go_num, (Row.later r4 bq8).only o9 h4b.out, (Row.later rn bq8).only o9 hgb.out, by rw [hml]; exact (Row.later rl bq8).only o9 hbb.out, hz9.congr fun e n lv he hl => mid_next _ hsc.out hkl e n lv he hl, (BW.trans (ButZ.of bq8)).only o9 (.inr (List.mem_map.2 ⟨_, List.mem_of_getElem? hNc.out, rfl⟩))⟩
        case measure => simp [intOf]; omega
    · obtain rfl : i = 16 := by omega
      go_wp2_with fail
      go_end0
      have hz2 := hz.put (nd := ⟨⟨xm, xs⟩, gn, bn, hn⟩) hkl rn rl ⟨hn1, hn16⟩ ⟨Nat.le_trans hB lon, Nat.le_trans hB lob⟩ (Nat.ne_of_lt hgnb.out) fun c n hc => by
        have h1 := hlo.out c n hc
        exact ⟨Nat.ne_of_lt (Nat.lt_of_lt_of_le h1.1 lon), Nat.ne_of_lt (Nat.lt_of_lt_of_le h1.2 lob), Nat.ne_of_lt (Nat.lt_of_lt_of_le h1.1 lob), Nat.ne_of_lt (Nat.lt_of_lt_of_le h1.2 lon)⟩
      exact ⟨⟨⟨xm, xs⟩, gn, bn, hn⟩, rfl, rfl, hz2, BW, lob⟩
set_option maxRecDepth 100000 in
theorem insert_any (w : World) (B : Nat) (hd : Nd) (Ls : List Nd) (x : Sc) (hZ : ZAt w B (hd :: Ls) (full Ls)) (hh : hd.h = 16) (hl : Ls.length ≤ 999999) (hr : Rising (scs Ls)) (hxm : x.m.length ≤ 1000000) (hB : B ≤ w.heap.size) :
    Calls Tryz.prog 117 #[ptr hd.g, x.val] w fun e w' => ∃ nd : Nd, nd.a = x ∧ e = .returned (.tuple #[]) ∧ ZAt w' B (hd :: (Ls.take (nAhead x (scs Ls)) ++ nd :: Ls.drop (nAhead x (scs Ls)))) (full (Ls.take (nAhead x (scs Ls)) ++ nd :: Ls.drop (nAhead x (scs Ls)))) ∧ ButZ ((hd :: Ls).map Nd.b) w w' :=
  (insert_any2 w B hd Ls x hZ hh hl hr hxm hB).mono fun e w' ⟨nd, h1, h2, h3, h4, _⟩ => ⟨nd, h1, h2, h3, h4⟩
end Go.Proofs.YtpbkejmffddelaaGreat

/-
  A set's remove: contract. Own work.
-/
namespace Go.Proofs.YtpbkejmffddelaaGreat
open Go.RowKit Go.Shelf
theorem run_indexSlZ {P : Program} {w : World} {a : Act} {o : Oper} (t : TypeId) (x y : Operand) (e : TypeId) (z : Nat) (b off len cap : Nat)
    (ho : o.op = .indexAddr t x y) (hu : P.underlying t = some (.slice e)) (hs : ∀ w, (sizeOf e).run P w = .ok z w) (hx : a.eval x = .slice (some ⟨b, off, none⟩) len cap) (hy : a.eval y = .int .i64 0) (hi : 0 < len) :
    (execOp a.eval o).run P w = .ok (.value (.pointer (some ⟨b, off, none⟩))) w := by
  have := run_indexSlN (P := P) (w := w) (a := a) (o := o) t x y e z b off len cap 0 ho hu hs hx hy hi
  simpa using this
/-- A node's links turned. -/
theorem ZAt.turnB {w w' : World} {B : Nat} {N : List Nd} {f : Nat → Nat → Lk} {c : Nat} {n : Nd} (h : ZAt w B N f) (hc : N[c]? = some n) (ho : But n.b w w') (k : Nat → Lk) (hr : Row w' 176 n.b (lksC ((List.range n.h).map k))) : ZAt w' B N fun d => if d = c then k else f d := by
  refine ⟨fun d m e => (h.node d m e).but ho (h.gb d c m n e hc), fun d m e => ?_, h.lo, h.gb, h.gg⟩
  by_cases hd : d = c
  · subst hd
    have e2 : n = m := Option.some.inj (hc.symm.trans e)
    subst e2
    simpa using hr
  · rw [if_neg hd]
    exact (h.link d m e).but ho (h.gg d c m n e hc hd).2
/-- In a rising list a member stands where as many stand ahead. -/
theorem nAhead_at {L : List Sc} (hr : Rising L) {k : Nat} {x : Sc} (h : L[k]? = some x) : nAhead x L = k := by
  have h1 := ahead_iff (x := x) hr k x h
  rw [Sc.less_irrefl] at h1
  have h2 : ¬ k < nAhead x L := of_decide_eq_false h1.symm
  refine Nat.le_antisymm (Nat.le_of_not_lt h2) ?_
  rcases Nat.eq_zero_or_pos k with h0 | h0
  · omega
  · have hk : k < L.length := (List.getElem?_eq_some_iff.1 h).1
    have e : L[k - 1]? = some L[k - 1] := List.getElem?_eq_getElem (by omega)
    have h3 := ahead_iff (x := x) hr (k - 1) _ e
    have h4 : (L[k - 1]).less x = true := by
      have h5 := List.pairwise_iff_getElem.1 hr (k - 1) k (by omega) hk (by omega)
      rw [(List.getElem?_eq_some_iff.1 h).2] at h5
      exact h5
    rw [h4] at h3
    have := of_decide_eq_true h3.symm
    omega
theorem putL_at {Ls : List Nd} {k : Nat} {nd : Nd} (hk : k ≤ Ls.length) : (putL Ls k nd)[k]? = some nd := by
  have := put_mid (hd := nd) (nd := nd) (Ls := Ls) hk
  rwa [List.getElem?_cons_succ] at this
theorem putL_len {Ls : List Nd} {k : Nat} {nd : Nd} (hk : k ≤ Ls.length) : (putL Ls k nd).length = Ls.length + 1 := by
  show (Ls.take k ++ nd :: Ls.drop k).length = _
  rw [List.length_append, List.length_cons, List.length_take, List.length_drop]; omega
theorem scs_putL (Ls : List Nd) (k : Nat) (nd : Nd) (hk : k ≤ Ls.length) : (scs (putL Ls k nd))[k]? = some nd.a := by
  show ((putL Ls k nd).map Nd.a)[k]? = _
  rw [List.getElem?_map, putL_at hk]; rfl
theorem lks_cell0 (f : Nat → Lk) (h : Nat) (h0 : 0 < h) : (lksC ((List.range h).map f))[0]? = some (.pointer ((f 0).to.map fun g => ⟨g, 0, none⟩)) := by
  rw [lks_part f h 0 h0]; rfl
def SRem9 (k c i gn bn bc hn : Nat) (nm : Nm) (ns xn : Int) (xt : Option Nat) (opn : Nat) (v : Value) : Prop :=
  match opn with
  | 0 | 9 | 10 | 23 => v = .pointer (some ⟨bc, i * 2, none⟩)
  | 1 | 2 | 13 | 14 => v = .pointer (some ⟨gn, 0, none⟩)
  | 3 | 15 => v = .pointer (some ⟨gn, 2, none⟩)
  | 4 | 16 => v = .slice (some ⟨bn, 0, none⟩) hn hn
  | 5 | 17 => v = .int .i64 (i : Int)
  | 6 | 18 => v = .pointer (some ⟨bn, 0 + i * 2, none⟩)
  | 7 => v = .pointer (some ⟨bn, i * 2, none⟩)
  | 8 => v = .pointer (xt.map fun g => ⟨g, 0, none⟩)
  | 11 => v = .pointer (some ⟨bc, i * 2 + 1, none⟩)
  | 12 => v = .int .i64 ((k - c : Nat) : Int)
  | 19 => v = .pointer (some ⟨bn, i * 2 + 1, none⟩)
  | 20 => v = .int .i64 xn
  | 21 => v = .int .i64 (((k - c : Nat) : Int) + xn)
  | 22 => v = .agg [.pointer (xt.map fun g => ⟨g, 0, none⟩), .int .i64 (((k - c : Nat) : Int) + xn)].toArray
  | _ => True

set_option maxRecDepth 100000 in
set_option maxHeartbeats 4000000 in
theorem remove_any (w : World) (B k : Nat) (hd nd : Nd) (Ls : List Nd) (hk : k ≤ Ls.length) (hZ : ZAt w B (hd :: putL Ls k nd) (full (putL Ls k nd))) (hh : hd.h = 16) (hl : Ls.length ≤ 999998) (hr : Rising (scs (putL Ls k nd))) :
    Calls Tryz.prog 120 #[ptr hd.g, nd.a.val] w fun e w' => e = .returned (.tuple #[]) ∧ ZAt w' B (hd :: Ls) (full Ls) ∧ ButZ ((hd :: putL Ls k nd).map Nd.b) w w' := by
  have HAh := fun w => ahead_any w nd.a
  have hna : nAhead nd.a (scs (putL Ls k nd)) = k := nAhead_at hr (scs_putL Ls k nd hk)
  have hpl := putL_len (nd := nd) hk
  have HWk := fun w1 (hb : Below w.heap.size w w1) g (hx : Row w1 99 g nd.a.cells) => walkTo_any w1 B hd (putL Ls k nd) nd.a g (hZ.later hb) hh (by omega) hr hx
  rw [hna] at HWk
  have hmid := put_mid (hd := hd) (nd := nd) hk
  have hlon := hZ.lo _ _ hmid
  obtain ⟨nk, hnk⟩ : ∃ nk, (hd :: putL Ls k nd)[k]? = some nk := ⟨_, List.getElem?_eq_getElem (by rw [List.length_cons]; omega)⟩
  have hlok := hZ.lo _ _ hnk
  have Hk := hide hZ
  clear hna hr
  obtain ⟨⟨nm, ns⟩, gn, bn, hn⟩ := nd
  obtain ⟨⟨km, ks⟩, gk, bk, hk2⟩ := nk
  go_enter Tryz.func120, Tryz.ntmps120
  go_wp2_with (first
    | (with_reducible refine wl_box (o := ⟨some 3, _, _, _, _, _⟩) rfl 99 (.tmp 1) _ [encStr nm, .int .i64 ns] rfl rfl rfl ?_; intro g3 w3 r3 p3 l3 b3)
    | (with_reducible refine wl_load_row (o := ⟨some 10, _, _, _, _, _⟩) rfl 99 (.tmp 3) g3 99 [encStr nm, .int .i64 ns] _ rfl rfl r3 Tryz.underlying99 rfl (szSc ⟨nm, ns⟩) ?_))
  refine (HAh _).mono ?_
  rintro e wA ⟨gA, rfl, rA, pA, bA⟩
  have B1 := b3.trans (bA.mono b3.size)
  go_wp2_with fail
  refine (HWk wA B1 gA rA).mono ?_
  rintro e wB ⟨ps, rfl, hps, hst, bB⟩
  have B2 := B1.trans (bB.mono B1.size)
  have hz := hide (szStops hps)
  have hl1 : (lksC (List.replicate 16 noLk)).length = (lksC ps).length := by rw [lksC_length, lksC_length, hps]; rfl
  replace hl1 := hide hl1
  have ho := hide (lks_one ps)
  have h40 : (lksC ps)[0]? = some (ptr gk) := by
    obtain ⟨c0, n0, hp0, hN0, hs0⟩ := hst 0 (by omega)
    have e0 : c0 = k := hs0.low (by rw [List.length_cons]; omega) fun j m hj => (hZ.lo j m hj).2.2.1
    rw [e0] at hp0 hN0
    have e1 : (⟨⟨km, ks⟩, gk, bk, hk2⟩ : Nd) = n0 := Option.some.inj (hnk.symm.trans hN0)
    rw [lksL_part ps 0 _ hp0, ← e1]
    rfl
  have hl0 : (lksC ((List.range hk2).map (full (putL Ls k ⟨⟨nm, ns⟩, gn, bn, hn⟩) k)))[0]? = some (ptr gn) := by
    have h1 : 1 ≤ hk2 := hlok.2.2.1
    have h2 : 1 ≤ hn := hlon.2.2.1
    rw [lks_cell0 _ _ (by omega)]
    have e : full (putL Ls k ⟨⟨nm, ns⟩, gn, bn, hn⟩) k 0 = ⟨some gn, 1⟩ := by
      show nxt 0 ((Ls.take k ++ _ :: Ls.drop k).drop k) = _
      rw [put_part _ (Nat.le_refl k) hk, List.drop_of_length_le (by rw [List.length_take]; omega), List.nil_append]
      show (if 0 < hn then _ else _) = _
      rw [if_pos (by omega)]
    rw [e]
    rfl
  replace h40 := hide h40
  replace hl0 := hide hl0
  have hk2p := hide (show 0 < hk2 from hlok.2.2.1)
  replace hst := hide hst
  replace hps := hide hps
  go_wp2_with (first
    | (with_reducible refine wl_alloc (o := ⟨some 4, _, _, _, _, _⟩) rfl 169 _ (lksC (List.replicate 16 noLk)) rfl rfl rfl ?_; intro g4 w4 r4 p4 l4 b4)
    | (with_reducible refine wl_store_row rfl 169 (.tmp 4) (.tmp 12) g4 169 _ (lksC ps) rfl rfl rfl r4 hz.out hl1.out ho.out ?_; intro w5 r5 o5; have B3 := B2.trans ((b4.trans (o5.below p4)).mono B2.size); have hz5 := Hk.out.later B3; have c40 := r5.cell h40.out; have ck2 := (hz5.node _ _ hnk).cell (j := 2) rfl; have cl0 := (hz5.link _ _ hnk).cell hl0.out)
    | (with_reducible refine wl_run (o := ⟨some 19, _, _, _, _, _⟩) rfl (.pointer (some ⟨bk, 0, none⟩)) (run_indexSlZ 148 (.tmp 18) _ 176 2 bk 0 hk2 hk2 rfl Tryz.underlying148 Tryz.sizeOf176 rfl rfl hk2p.out) ?_)
    | (with_reducible refine wl_load_row (o := ⟨some 22, _, _, _, _, _⟩) rfl 169 (.tmp 4) g4 169 (lksC ps) _ rfl rfl r5 Tryz.underlying169 rfl hz.out ?_))
  have hlo : ∀ (c : Nat) (n : Nd), (hd :: putL Ls k ⟨⟨nm, ns⟩, gn, bn, hn⟩)[c]? = some n → n.g < w.heap.size ∧ n.b < w.heap.size := fun c n h => ⟨(hZ.node c n h).lt, (hZ.link c n h).lt⟩
  have lo4 : w.heap.size ≤ g4 := Nat.le_trans B2.size p4
  have S4 : ButZ ((hd :: putL Ls k ⟨⟨nm, ns⟩, gn, bn, hn⟩).map Nd.b) w w5 := ButZ.of B3
  have hz0 : ZAt w5 B (hd :: putL Ls k ⟨⟨nm, ns⟩, gn, bn, hn⟩) (midRm Ls k ⟨⟨nm, ns⟩, gn, bn, hn⟩ 0) := hz5.congr fun c n lv _ _ => rfl
  replace hlo := hide hlo
  replace hmid := hide hmid
  clear hlon hlok hl0 hk2p h40 hnk HAh HWk rA bA bB pA p3 l3 r3 b3 B1 B2 r4 p4 l4 b4 o5 B3 hz5 c40 ck2 cl0 hpl ho hl1 Hk hZ
  go_loopw [23] (fun iv wr => ∃ i : Nat, i ≤ 16 ∧ iv = .int .i64 (i : Int) ∧ Row wr 169 g4 (lksC ps) ∧ ZAt wr B (hd :: putL Ls k ⟨⟨nm, ns⟩, gn, bn, hn⟩) (midRm Ls k ⟨⟨nm, ns⟩, gn, bn, hn⟩ i) ∧ ButZ ((hd :: putL Ls k ⟨⟨nm, ns⟩, gn, bn, hn⟩).map Nd.b) w wr) (fun iv _ => 16 - (intOf iv).toNat)
  case atStart => exact ⟨0, by omega, rfl, r5, hz0, S4⟩
  case round =>
    clear r5 hz0 S4
    obtain ⟨i, hi, rfl, r4, hz, BW⟩ := hrel
    by_cases hi2 : i < 16
    · have hi3 : (i : Int) < 16 := by omega
      obtain ⟨c, nc, hpc, hNc, hsc⟩ := hst.out i hi2
      obtain ⟨n', hn', hlt'⟩ := hsc.2.1
      have e1 : n' = nc := Option.some.inj (hn'.symm.trans hNc)
      subst e1
      have hcn := hz.gg c (k + 1) _ _ hNc hmid.out (by have := hsc.1; omega)
      have hcg := hz.gb (k + 1) c _ _ hmid.out hNc
      have Hn := hz.node _ _ hmid.out
      have Hl := hz.link _ _ hmid.out
      have HN := hz.node c n' hNc
      have HL := hz.link c n' hNc
      have hpart := lksL_part ((List.range n'.h).map (midRm Ls k ⟨⟨nm, ns⟩, gn, bn, hn⟩ i c)) i (midRm Ls k ⟨⟨nm, ns⟩, gn, bn, hn⟩ i c i) (by simp [hlt'])
      rw [hpart] at HL
      clear hpart
      have hA : (lksC (((List.range n'.h).map (midRm Ls k ⟨⟨nm, ns⟩, gn, bn, hn⟩ i c)).take i)).length = 0 + i * 2 := by rw [lksL_ahead _ i (by simp; omega)]; omega
      have hsc2 : IsStop (hd :: Ls) k i c := hsc.cut hk
      have hnew : nxt i (Ls.drop c) = ⟨(nxt i (Ls.drop k)).to, (nxt i (Ls.drop k)).n + ((k - c : Nat) : Int)⟩ := stop_old hsc2 hk
      have hold : midRm Ls k ⟨⟨nm, ns⟩, gn, bn, hn⟩ i c i = if i < hn then ⟨some gn, ((k - c : Nat) : Int) + 1⟩ else ⟨(nxt i (Ls.drop k)).to, (nxt i (Ls.drop k)).n + ((k - c : Nat) : Int) + 1⟩ := by
        unfold midRm
        rw [if_neg (Nat.lt_irrefl i)]
        exact stop_new _ hsc2 hk
      have hown : midRm Ls k ⟨⟨nm, ns⟩, gn, bn, hn⟩ i (k + 1) i = nxt i (Ls.drop k) := by
        unfold midRm
        rw [if_neg (Nat.lt_irrefl i), put_drop hk (Nat.le_refl _), Nat.add_sub_cancel]
      rw [hold] at HL
      have hpn := nxt_n i (Ls.drop k)
      obtain ⟨X, hX⟩ : ∃ X, X = nxt i (Ls.drop k) := ⟨_, rfl⟩
      rw [← hX] at HL hpn hnew hown
      obtain ⟨xt, xn⟩ := X
      clear hX hold
      have hdl : ((Ls.drop k).length : Int) ≤ 999998 := by rw [List.length_drop]; omega
      have hset : ∀ z : Lk, lksC (((List.range n'.h).map (midRm Ls k ⟨⟨nm, ns⟩, gn, bn, hn⟩ i c)).take i) ++ (z.cells ++ lksC (((List.range n'.h).map (midRm Ls k ⟨⟨nm, ns⟩, gn, bn, hn⟩ i c)).drop (i + 1))) = lksC ((List.range n'.h).map fun l => if l = i then z else midRm Ls k ⟨⟨nm, ns⟩, gn, bn, hn⟩ i c l) := by
        intro z
        rw [← List.map_take, ← List.map_drop, List.take_range, Nat.min_eq_left (Nat.le_of_lt hlt'), lks_turn _ _ _ _ hlt']
      generalize lksC (((List.range n'.h).map (midRm Ls k ⟨⟨nm, ns⟩, gn, bn, hn⟩ i c)).take i) = LA at *
      generalize lksC (((List.range n'.h).map (midRm Ls k ⟨⟨nm, ns⟩, gn, bn, hn⟩ i c)).drop (i + 1)) = LC at *
      replace hset := hide hset
      have hck := hsc.1
      obtain ⟨⟨zm, zs⟩, gc, bc, hc⟩ := n'
      have hlti : (i : Int) < (hc : Int) := by have : i < hc := hlt'; omega
      have hpn2 := hide (show 0 ≤ xn ∧ xn ≤ 999998 from ⟨hpn.1, Int.le_trans hpn.2 hdl⟩)
      have hpn3 : 0 ≤ xn ∧ xn ≤ 999998 := hpn2.out
      have hkc : ((k - c : Nat) : Int) ≤ 999998 := by omega
      have hPS := hide hps.out
      have hPC := hide hpc
      have hLT := hide (show i < hc from hlt')
      have hAl := hide (show LA.length = i * 2 by rw [hA]; omega)
      have hlob := hide (show bc < wr.heap.size by exact (hz.link _ _ hNc).lt)
      have h4b := hide (show g4 ≠ bc by have := (hlo.out c _ hNc).2; exact fun e => absurd this (by simp only [← e]; omega))
      have hgb := hide (show gn ≠ bc from hcg)
      have hbb := hide (show bn ≠ bc from Ne.symm hcn.2)
      replace hnew := hide hnew
      replace hown := hide hown
      clear hA hpn hpc hlt' hn' hdl hcn hcg
      replace hsc := hide hsc
      replace hsc2 := hide hsc2
      replace hNc := hide hNc
      replace hck := hide hck
      by_cases hhn : i < hn
      · have hhi : (i : Int) < (hn : Int) := by omega
        rw [if_pos hhn] at HL
        have hAA : lksC ((List.range hn).map (midRm Ls k ⟨⟨nm, ns⟩, gn, bn, hn⟩ i (k + 1))) = _ := lks_part _ hn i hhn
        obtain ⟨pl, hpl⟩ : ∃ pl, pl = ((k - c : Nat) : Int) + 1 := ⟨_, rfl⟩
        have hpl0 : 0 ≤ pl ∧ pl ≤ 2000000 := by omega
        have HLr : Row wr 176 bc (LA ++ ([.pointer (some ⟨gn, 0, none⟩), .int .i64 pl] ++ LC)) := by rw [hpl]; exact HL
        have hz1 := hide (show IntKind.i64.wrap (pl - 1) = pl - 1 from wrap_id rfl (by omega) (by omega))
        have hpl1 : pl - 1 = ((k - c : Nat) : Int) := by omega
        replace hpl := hide hpl
        have hcp : ∀ wz, Row wz 176 bc (LA ++ ([.pointer (some ⟨gn, 0, none⟩), .int .i64 pl] ++ LC)) → wz.cell? ⟨bc, i * 2 + 1, none⟩ = some (.int .i64 pl) := fun wz h => h.cell (by rw [List.getElem?_append_right (by rw [hAl.out]; omega), hAl.out, show i * 2 + 1 - i * 2 = 1 by omega]; rfl)
        replace hcp := hide hcp
        have hlen := hide (show i * 2 + 1 < (LA ++ (([Value.pointer (some ⟨gn, 0, none⟩), Value.int .i64 pl] : List Value) ++ LC)).length by rw [List.length_append, List.length_append, hAl.out]; show i * 2 + 1 < i * 2 + (2 + LC.length); omega)
        replace hpl1 := hide hpl1
        clear HL
        replace hAA := hide hAA
        go_wp2_with (first
          | (with_reducible refine wl_run (o := ⟨some 26, _, _, _, _, _⟩) rfl (.agg #[ptr gc, .int .i64 (c : Int)]) (run_indexStop (.tmp 22) (.tmp 23) ps i ⟨some gc, (c : Int)⟩ rfl rfl rfl hPS.out hPC.out) ?_)
          | (with_reducible refine wl_alloc (o := ⟨some 7, _, _, _, _, _⟩) rfl 168 _ [.pointer none, .int .i64 0] rfl rfl rfl ?_; intro g7 w7 r7 p7 l7 b7)
          | (with_reducible refine wl_store_row (o := ⟨none, .store 168 (.tmp 7) (.tmp 26), _, _, _, _⟩) rfl 168 (.tmp 7) (.tmp 26) g7 168 _ [ptr gc, .int .i64 (c : Int)] rfl rfl rfl r7 (szStop _ _) rfl (by simp [Value.oneCell']) ?_; intro w8 r8 o8; have bq8 : Below wr.heap.size wr w8 := b7.trans (o8.below p7); have c70 := r8.cell (j := 0) rfl; have cn := (Row.later HN bq8).cell (j := 2) rfl; have cp := hcp.out w8 (Row.later HLr bq8); have HL8 := Row.later HLr bq8)
          | (with_reducible refine wl_run (o := ⟨some 33, _, _, _, _, _⟩) rfl (.pointer (some ⟨bc, 0 + i * 2, none⟩)) (run_indexSlN 148 (.tmp 31) (.tmp 32) 176 2 bc 0 hc hc i rfl Tryz.underlying148 Tryz.sizeOf176 rfl rfl hLT.out) ?_)
          | (with_reducible refine wl_run (o := ⟨some 38, _, _, _, _, _⟩) rfl (.int .i64 (pl - 1)) (run_subZ (.tmp 37) _ rfl rfl rfl hz1.out) ?_)
          | (with_reducible refine wl_store (o := ⟨none, .store 3 (.tmp 40) (.tmp 38), _, _, _, _⟩) rfl 3 (.tmp 40) (.tmp 38) bc (i * 2 + 1) 176 _ (.int .i64 (pl - 1)) rfl szInt3 rfl rfl HL8 hlen.out rfl ?_; intro w9 r9 o9; have cgn := ((Row.later Hn bq8).only o9 hgb.out).cell (j := 2) rfl))
        rename_i K10 hK10
        have r9p : Row w9 176 bc (LA ++ ([.pointer (some ⟨gn, 0, none⟩), .int .i64 ((k - c : Nat) : Int)] ++ LC)) := by rw [← hpl1.out, ← set_places _ _ _ (.int .i64 pl) _ _ hAl.out]; exact r9
        have rn9 : Row w9 150 gn [encStr nm, .int .i64 ns, .slice (some ⟨bn, 0, none⟩) hn hn] := (Row.later Hn bq8).only o9 hgb.out
        have rl9 : Row w9 176 bn (lksC ((List.range hn).map (midRm Ls k ⟨⟨nm, ns⟩, gn, bn, hn⟩ i (k + 1)))) := (Row.later Hl bq8).only o9 hbb.out
        rw [hAA.out, hown.out] at rl9
        have hNA := hide (show (lksC ((List.range i).map (midRm Ls k ⟨⟨nm, ns⟩, gn, bn, hn⟩ i (k + 1)))).length = i * 2 by rw [lks_ahead]; omega)
        generalize lksC ((List.range i).map (midRm Ls k ⟨⟨nm, ns⟩, gn, bn, hn⟩ i (k + 1))) = NA at *
        generalize lksC (((List.range hn).drop (i + 1)).map (midRm Ls k ⟨⟨nm, ns⟩, gn, bn, hn⟩ i (k + 1))) = NC at *
        replace rl9 : Row w9 176 bn (NA ++ ([.pointer (xt.map fun g => ⟨g, 0, none⟩), .int .i64 xn] ++ NC)) := rl9
        have hcl1 : ∀ wz, Row wz 176 bc (LA ++ ([.pointer (some ⟨gn, 0, none⟩), .int .i64 ((k - c : Nat) : Int)] ++ LC)) → wz.cell? ⟨bc, i * 2 + 1, none⟩ = some (.int .i64 ((k - c : Nat) : Int)) := fun wz h => h.cell (by rw [List.getElem?_append_right (by rw [hAl.out]; omega), hAl.out, show i * 2 + 1 - i * 2 = 1 by omega]; rfl)
        have hnl0 : ∀ wz, Row wz 176 bn (NA ++ ([.pointer (xt.map fun g => ⟨g, 0, none⟩), .int .i64 xn] ++ NC)) → wz.cell? ⟨bn, i * 2, none⟩ = some (.pointer (xt.map fun g => ⟨g, 0, none⟩)) := fun wz h => h.cell (by rw [List.getElem?_append_right (by rw [hNA.out]; omega), hNA.out, Nat.sub_self]; rfl)
        have hnl1 : ∀ wz, Row wz 176 bn (NA ++ ([.pointer (xt.map fun g => ⟨g, 0, none⟩), .int .i64 xn] ++ NC)) → wz.cell? ⟨bn, i * 2 + 1, none⟩ = some (.int .i64 xn) := fun wz h => h.cell (by rw [List.getElem?_append_right (by rw [hNA.out]; omega), hNA.out, show i * 2 + 1 - i * 2 = 1 by omega]; rfl)
        have hf3 := hide (show IntKind.i64.wrap (((k - c : Nat) : Int) + xn) = ((k - c : Nat) : Int) + xn from wrap_id rfl (by omega) (by omega))
        have hbl := hide (builtLink (xt.map fun g => ⟨g, 0, none⟩) (((k - c : Nat) : Int) + xn))
        replace hhn := hide hhn
        clear hAA
        refine wp_region_vals [24] (SRem9 k c i gn bn bc hn nm ns xn xt) (JG bc 176 w9 [24] (fun _ _ _ => True) 0 (LA ++ ([.pointer (xt.map fun g => ⟨g, 0, none⟩), .int .i64 (((k - c : Nat) : Int) + xn)] ++ LC))) (by kernel_rfl) (by kernel_rfl) (by kernel_rfl) (by kernel_rfl) (by kernel_rfl) (JG.start _) ?obs10 ?he10
        case obs10 =>
          refine ⟨?_, ?_, ?_, ?_, ?_, ?_, ?_, ?_, ?_, ?_, ?_, ?_, ?_, ?_, ?_, ?_, ?_, ?_, ?_, ?_, ?_, ?_, ?_, ?_, ?_, trivial⟩
          · exact .inl ⟨by kernel_rfl, fun L a1 w1 n h => ⟨_, rfl, run_move (.tmp 8) rfl (h.var n 8 (by kernel_rfl))⟩⟩
          · exact .inl ⟨by kernel_rfl, fun L a1 w1 n h => ⟨_, rfl, run_move (.tmp 5) rfl (h.var n 5 (by kernel_rfl))⟩⟩
          · refine .inl ⟨by kernel_rfl, fun L a1 w1 n h => ⟨.pointer (some ⟨gn, 0, none⟩), rfl, ?_⟩⟩
            have e0 : a1.eval (.tmp 49) = _ := h.dep n 1 49 (by kernel_rfl) rfl
            unfold execOp
            simp only [e0]
            go_simp
          · refine .inl ⟨by kernel_rfl, fun L a1 w1 n h => ⟨.pointer (some ⟨gn, 2, none⟩), rfl, ?_⟩⟩
            have e0 : a1.eval (.tmp 50) = _ := h.dep n 2 50 (by kernel_rfl) rfl
            unfold execOp
            simp only [e0]
            go_simp
          · exact .inl ⟨by kernel_rfl, fun L a1 w1 n h => ⟨_, rfl, run_loadA 148 (.tmp 51) ⟨gn, 2, none⟩ rfl Tryz.isAgg148 (h.dep n 3 51 (by kernel_rfl) rfl) ((Row.later rn9 ((h.inv.1 ((bits_at rfl).trans (n.later (by kernel_rfl)))).1)).cell (j := 2) (v := .slice (some ⟨bn, 0, none⟩) hn hn) rfl)⟩⟩
          · exact .inl ⟨by kernel_rfl, fun L a1 w1 n h => ⟨_, rfl, run_move (.tmp 6) rfl (h.var n 6 (by kernel_rfl))⟩⟩
          · exact .inl ⟨by kernel_rfl, fun L a1 w1 n h => ⟨_, rfl, run_indexSlN 148 (.tmp 52) (.tmp 53) 176 2 bn 0 hn hn i rfl Tryz.underlying148 Tryz.sizeOf176 (h.dep n 4 52 (by kernel_rfl) rfl) (h.dep n 5 53 (by kernel_rfl) rfl) hhn.out⟩⟩
          · refine .inl ⟨by kernel_rfl, fun L a1 w1 n h => ⟨.pointer (some ⟨bn, i * 2, none⟩), rfl, ?_⟩⟩
            have e0 : a1.eval (.tmp 54) = _ := h.dep n 6 54 (by kernel_rfl) rfl
            unfold execOp
            simp only [e0]
            go_simp
          · exact .inl ⟨by kernel_rfl, fun L a1 w1 n h => ⟨_, rfl, run_loadA 147 (.tmp 55) ⟨bn, i * 2, none⟩ rfl Tryz.isAgg147 (h.dep n 7 55 (by kernel_rfl) rfl) (hnl0 w1 (Row.later rl9 ((h.inv.1 ((bits_at rfl).trans (n.later (by kernel_rfl)))).1)))⟩⟩
          · exact .inl ⟨by kernel_rfl, fun L a1 w1 n h => ⟨_, rfl, run_move (.tmp 8) rfl (h.var n 8 (by kernel_rfl))⟩⟩
          · refine .inl ⟨by kernel_rfl, fun L a1 w1 n h => ⟨.pointer (some ⟨bc, i * 2, none⟩), rfl, ?_⟩⟩
            have e0 : a1.eval (.tmp 57) = _ := h.dep n 9 57 (by kernel_rfl) rfl
            unfold execOp
            simp only [e0]
            go_simp
          · refine .inl ⟨by kernel_rfl, fun L a1 w1 n h => ⟨.pointer (some ⟨bc, i * 2 + 1, none⟩), rfl, ?_⟩⟩
            have e0 : a1.eval (.tmp 58) = _ := h.dep n 10 58 (by kernel_rfl) rfl
            unfold execOp
            simp only [e0]
            go_simp
          · exact .inl ⟨by kernel_rfl, fun L a1 w1 n h => ⟨_, rfl, run_loadA 3 (.tmp 59) ⟨bc, i * 2 + 1, none⟩ rfl Tryz.isAgg3 (h.dep n 11 59 (by kernel_rfl) rfl) (hcl1 w1 (Row.later r9p ((h.inv.1 ((bits_at rfl).trans (n.later (by kernel_rfl)))).1)))⟩⟩
          · exact .inl ⟨by kernel_rfl, fun L a1 w1 n h => ⟨_, rfl, run_move (.tmp 5) rfl (h.var n 5 (by kernel_rfl))⟩⟩
          · refine .inl ⟨by kernel_rfl, fun L a1 w1 n h => ⟨.pointer (some ⟨gn, 0, none⟩), rfl, ?_⟩⟩
            have e0 : a1.eval (.tmp 61) = _ := h.dep n 13 61 (by kernel_rfl) rfl
            unfold execOp
            simp only [e0]
            go_simp
          · refine .inl ⟨by kernel_rfl, fun L a1 w1 n h => ⟨.pointer (some ⟨gn, 2, none⟩), rfl, ?_⟩⟩
            have e0 : a1.eval (.tmp 62) = _ := h.dep n 14 62 (by kernel_rfl) rfl
            unfold execOp
            simp only [e0]
            go_simp
          · exact .inl ⟨by kernel_rfl, fun L a1 w1 n h => ⟨_, rfl, run_loadA 148 (.tmp 63) ⟨gn, 2, none⟩ rfl Tryz.isAgg148 (h.dep n 15 63 (by kernel_rfl) rfl) ((Row.later rn9 ((h.inv.1 ((bits_at rfl).trans (n.later (by kernel_rfl)))).1)).cell (j := 2) (v := .slice (some ⟨bn, 0, none⟩) hn hn) rfl)⟩⟩
          · exact .inl ⟨by kernel_rfl, fun L a1 w1 n h => ⟨_, rfl, run_move (.tmp 6) rfl (h.var n 6 (by kernel_rfl))⟩⟩
          · exact .inl ⟨by kernel_rfl, fun L a1 w1 n h => ⟨_, rfl, run_indexSlN 148 (.tmp 64) (.tmp 65) 176 2 bn 0 hn hn i rfl Tryz.underlying148 Tryz.sizeOf176 (h.dep n 16 64 (by kernel_rfl) rfl) (h.dep n 17 65 (by kernel_rfl) rfl) hhn.out⟩⟩
          · refine .inl ⟨by kernel_rfl, fun L a1 w1 n h => ⟨.pointer (some ⟨bn, i * 2 + 1, none⟩), rfl, ?_⟩⟩
            have e0 : a1.eval (.tmp 66) = _ := h.dep n 18 66 (by kernel_rfl) rfl
            unfold execOp
            simp only [e0]
            go_simp
          · exact .inl ⟨by kernel_rfl, fun L a1 w1 n h => ⟨_, rfl, run_loadA 3 (.tmp 67) ⟨bn, i * 2 + 1, none⟩ rfl Tryz.isAgg3 (h.dep n 19 67 (by kernel_rfl) rfl) (hnl1 w1 (Row.later rl9 ((h.inv.1 ((bits_at rfl).trans (n.later (by kernel_rfl)))).1)))⟩⟩
          · exact .inl ⟨by kernel_rfl, fun L a1 w1 n h => ⟨_, rfl, run_addZ (.tmp 60) (.tmp 68) rfl (h.dep n 12 60 (by kernel_rfl) rfl) (h.dep n 20 68 (by kernel_rfl) rfl) hf3.out⟩⟩
          · exact .inl ⟨by kernel_rfl, fun L a1 w1 n h => ⟨_, rfl, run_build2 176 (.tmp 56) (.tmp 69) (.pointer (xt.map fun g => ⟨g, 0, none⟩)) (.int .i64 (((k - c : Nat) : Int) + xn)) rfl (h.dep n 8 56 (by kernel_rfl) rfl) (h.dep n 21 69 (by kernel_rfl) rfl) hbl.out⟩⟩
          · refine .inl ⟨by kernel_rfl, fun L a1 w1 n h => ⟨.pointer (some ⟨bc, i * 2, none⟩), rfl, ?_⟩⟩
            have e0 : a1.eval (.tmp 48) = _ := h.dep n 0 48 (by kernel_rfl) rfl
            unfold execOp
            simp only [e0]
            go_simp
          · refine .inr fun L a1 w1 n h K hK => ?_
            have no : L.getD 24 false = false := n.not_yet
            have h0 := (h.inv.1 ((bits_at rfl).trans no)).1
            refine st_store_part 176 (.tmp 71) (.tmp 70) bc (i * 2) 176 LA [.pointer (some ⟨gn, 0, none⟩), .int .i64 ((k - c : Nat) : Int)] LC [.pointer (xt.map fun g => ⟨g, 0, none⟩), .int .i64 (((k - c : Nat) : Int) + xn)] rfl (h.dep n 23 71 (by kernel_rfl) rfl) (h.dep n 22 70 (by kernel_rfl) rfl) (Row.later r9p h0) hAl.out rfl (szLink _ _) (by simp [Value.oneCell']) ?_
            intro w3 r3 o3
            exact JG.store h hK no rfl trivial r3 o3
        case he10 =>
          intro V w11 hV hJ
          obtain ⟨o11, rl11⟩ := JG.last hJ rfl
          clear hV hJ
          simp only [putOps, List.setIfInBounds_toArray, List.set_cons_succ, List.set_cons_zero, Nat.reduceAdd]
          refine hK10 _ _ ?_
          go_wp2_with fail
          go_roundw
          case rel =>
            have hrow2 : Row w9 176 bc (lksC ((List.range hc).map fun l => if l = i then ⟨some gn, ((k - c : Nat) : Int)⟩ else midRm Ls k ⟨⟨nm, ns⟩, gn, bn, hn⟩ i c l)) := by
              rw [← hset.out]; exact r9p
            have hrow3 : Row w11 176 bc (lksC ((List.range hc).map fun l => if l = i then nxt i (Ls.drop c) else midRm Ls k ⟨⟨nm, ns⟩, gn, bn, hn⟩ i c l)) := by
              rw [← hset.out, hnew.out, Int.add_comm]; exact rl11
            have hz9 := (hz.later bq8).turn hNc.out o9 _ hrow2
            have hz12 := hz9.turnB hNc.out o11 _ hrow3
            have r4z := ((Row.later r4 bq8).only o9 h4b.out).but o11 h4b.out
            refine ⟨i + 1, by omega, by go_num, r4z, hz12.congr fun e n lv he hl => ?_, ((BW.trans (ButZ.of bq8)).only o9 (.inr (List.mem_map.2 ⟨_, List.mem_of_getElem? hNc.out, rfl⟩))).but o11 (.inr (List.mem_map.2 ⟨_, List.mem_of_getElem? hNc.out, rfl⟩))⟩
            rw [← rm_next hk hsc2.out e n lv he hl]
            by_cases hec : e = c
            · rw [if_pos hec, if_pos hec]
            · rw [if_neg hec, if_neg hec, if_neg hec]
          case measure => simp [intOf]; omega
      · have hhi : ¬ (i : Int) < (hn : Int) := by omega
        rw [if_neg hhn] at HL
        obtain ⟨pl, hpl⟩ : ∃ pl, pl = xn + ((k - c : Nat) : Int) + 1 := ⟨_, rfl⟩
        have hpl0 : 0 ≤ pl ∧ pl ≤ 2000000 := by omega
        have HLr : Row wr 176 bc (LA ++ ([.pointer (xt.map fun g => ⟨g, 0, none⟩), .int .i64 pl] ++ LC)) := by rw [hpl]; exact HL
        have hz1 := hide (show IntKind.i64.wrap (pl - 1) = pl - 1 from wrap_id rfl (by omega) (by omega))
        have hpl1 : pl - 1 = xn + ((k - c : Nat) : Int) := by omega
        replace hpl := hide hpl
        have hcp : ∀ wz, Row wz 176 bc (LA ++ ([.pointer (xt.map fun g => ⟨g, 0, none⟩), .int .i64 pl] ++ LC)) → wz.cell? ⟨bc, i * 2 + 1, none⟩ = some (.int .i64 pl) := fun wz h => h.cell (by rw [List.getElem?_append_right (by rw [hAl.out]; omega), hAl.out, show i * 2 + 1 - i * 2 = 1 by omega]; rfl)
        replace hcp := hide hcp
        have hlen := hide (show i * 2 + 1 < (LA ++ (([Value.pointer (xt.map fun g => ⟨g, 0, none⟩), Value.int .i64 pl] : List Value) ++ LC)).length by rw [List.length_append, List.length_append, hAl.out]; show i * 2 + 1 < i * 2 + (2 + LC.length); omega)
        replace hpl1 := hide hpl1
        clear HL
        go_wp2_with (first
          | (with_reducible refine wl_run (o := ⟨some 26, _, _, _, _, _⟩) rfl (.agg #[ptr gc, .int .i64 (c : Int)]) (run_indexStop (.tmp 22) (.tmp 23) ps i ⟨some gc, (c : Int)⟩ rfl rfl rfl hPS.out hPC.out) ?_)
          | (with_reducible refine wl_alloc (o := ⟨some 7, _, _, _, _, _⟩) rfl 168 _ [.pointer none, .int .i64 0] rfl rfl rfl ?_; intro g7 w7 r7 p7 l7 b7)
          | (with_reducible refine wl_store_row (o := ⟨none, .store 168 (.tmp 7) (.tmp 26), _, _, _, _⟩) rfl 168 (.tmp 7) (.tmp 26) g7 168 _ [ptr gc, .int .i64 (c : Int)] rfl rfl rfl r7 (szStop _ _) rfl (by simp [Value.oneCell']) ?_; intro w8 r8 o8; have bq8 : Below wr.heap.size wr w8 := b7.trans (o8.below p7); have c70 := r8.cell (j := 0) rfl; have cn := (Row.later HN bq8).cell (j := 2) rfl; have cp := hcp.out w8 (Row.later HLr bq8); have HL8 := Row.later HLr bq8)
          | (with_reducible refine wl_run (o := ⟨some 33, _, _, _, _, _⟩) rfl (.pointer (some ⟨bc, 0 + i * 2, none⟩)) (run_indexSlN 148 (.tmp 31) (.tmp 32) 176 2 bc 0 hc hc i rfl Tryz.underlying148 Tryz.sizeOf176 rfl rfl hLT.out) ?_)
          | (with_reducible refine wl_run (o := ⟨some 38, _, _, _, _, _⟩) rfl (.int .i64 (pl - 1)) (run_subZ (.tmp 37) _ rfl rfl rfl hz1.out) ?_)
          | (with_reducible refine wl_store (o := ⟨none, .store 3 (.tmp 40) (.tmp 38), _, _, _, _⟩) rfl 3 (.tmp 40) (.tmp 38) bc (i * 2 + 1) 176 _ (.int .i64 (pl - 1)) rfl szInt3 rfl rfl HL8 hlen.out rfl ?_; intro w9 r9 o9; have cgn := ((Row.later Hn bq8).only o9 hgb.out).cell (j := 2) rfl))
        go_roundw
        case rel =>
          have hrow : Row w9 176 bc (LA ++ ([Value.pointer (xt.map fun g => ⟨g, 0, none⟩), .int .i64 (pl - 1)] ++ LC)) := by rw [← set_places _ _ _ (.int .i64 pl) _ _ hAl.out]; exact r9
          have hrow2 : Row w9 176 bc (lksC ((List.range hc).map fun l => if l = i then nxt i (Ls.drop c) else midRm Ls k ⟨⟨nm, ns⟩, gn, bn, hn⟩ i c l)) := by
            rw [← hset.out, hnew.out, ← hpl1.out]; exact hrow
          have hz9 := (hz.later bq8).turn hNc.out o9 _ hrow2
          exact ⟨i + 1, by omega, by go_num, (Row.later r4 bq8).only o9 h4b.out, hz9.congr fun e n lv he hl => rm_next hk hsc2.out e n lv he hl, (BW.trans (ButZ.of bq8)).only o9 (.inr (List.mem_map.2 ⟨_, List.mem_of_getElem? hNc.out, rfl⟩))⟩
        case measure => simp [intOf]; omega
    · obtain rfl : i = 16 := by omega
      go_wp2_with fail
      go_end0
      exact ⟨rfl, hz.cut hk, BW⟩
end Go.Proofs.YtpbkejmffddelaaGreat
