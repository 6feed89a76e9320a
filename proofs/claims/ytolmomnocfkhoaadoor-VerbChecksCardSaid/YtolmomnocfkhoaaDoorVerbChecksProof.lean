/- Proved: the law VerbChecks (P17.1, P17.2) answers true and leaves its argument as it read before. For every list of words; no condition but the tie of the library's tables (of powers of ten and of bits) and of its two errors to the program's text. -/
import Derived.ChangeArms
import Derived.OpenShut
import Derived.SliceStrings
import Derived.Test.YtolmomnocfkhoaaDoorRows
import Derived.Test.YtolmomnocfkhoaaDoorCards
import Derived.Test.YtolmomnocfkhoaaDoorTie
import Derived.WalkKit
import Derived.ProofKit
import Derived.ShutString
import Derived.ChangeOld
import Derived.Below
import Derived.LaidMore
import Derived.Stop.Joined
import Derived.SevenTiedAt
import Derived.Test.YtolmomnocfkhoaaDoorVerbZf
import Derived.Test.YtolmomnocfkhoaaDoorFrame2
set_option linter.unusedVariables false
set_option linter.unusedSimpArgs false
/-
  Words of a command in memory; the spec of words; light. Own work.
-/
namespace Go.Proofs.YtolmomnocfkhoaaDoor
open Go.RowKit Go.Shelf
abbrev Wd := List UInt8
/-- Words in memory. -/
def StV (w : World) (v : Value) (l : List Wd) : Prop := ∃ A c, v = .slice A l.length c ∧ (0 < l.length → ∃ g off, A = some ⟨g, off, none⟩ ∧ g < w.heap.size ∧ ∀ (i : Nat) (a : Wd), l[i]? = some a → w.cell? ⟨g, off + i, none⟩ = some (encStr a))
theorem StV.later {w w' : World} {v : Value} {l : List Wd} (h : StV w v l) (hb : Below w.heap.size w w') : StV w' v l := by
  obtain ⟨A, c, e, h⟩ := h
  refine ⟨A, c, e, fun h0 => ?_⟩
  obtain ⟨g, off, eA, hg, hc⟩ := h h0
  exact ⟨g, off, eA, Nat.lt_of_lt_of_le hg hb.size, fun i a hi => by rw [← hc i a hi]; exact World.cell?_of_block (hb.block g hg)⟩
theorem StV.at {w : World} {A : Option Addr} {n c : Nat} {l : List Wd} {i : Nat} {a : Wd} (h : StV w (.slice A n c) l) (hi : l[i]? = some a) : n = l.length ∧ ∃ g off, A = some ⟨g, off, none⟩ ∧ w.cell? ⟨g, off + i, none⟩ = some (encStr a) := by
  obtain ⟨A', c', e, h⟩ := h
  injection e with q1 q2 q3
  subst q1
  obtain ⟨g, off, eA, _, hc⟩ := h (by have := (List.getElem?_eq_some_iff.1 hi).1; omega)
  exact ⟨q2, g, off, eA, hc i a hi⟩
/-- Words in a row of one's own. -/
abbrev OwnW (w : World) (T : Nat) (v : Value) (l : List Wd) : Prop := w.ownsRow T 9 1 v l.length (l.map encStr)
theorem own_stv {w : World} {T : Nat} {v : Value} {l : List Wd} (h : OwnW w T v l) : StV w v l := by
  rcases h.2 with ⟨rfl, h0⟩ | ⟨g, cap, cur, rfl, hT, hg, h1, h2, h3, h4⟩
  · exact ⟨none, 0, by rw [h0], fun h => by omega⟩
  · refine ⟨_, cap, rfl, fun _ => ⟨g, 0, rfl, (Array.getElem?_eq_some_iff.1 hg).1, fun i a hi => ?_⟩⟩
    have hil : i < l.length := (List.getElem?_eq_some_iff.1 hi).1
    have e2 : (cur.toList.take (l.length * 1))[i]? = some (encStr a) := by rw [h4, List.getElem?_map, hi]; rfl
    rw [List.getElem?_take, if_pos (by omega)] at e2
    rw [Nat.zero_add, cell_of_row w g _ cur _ (0, 0) hg, ← Array.getElem?_toList]
    exact e2
/-- The spec of words, and whether there is one. -/
def spW : List Wd → Sp
  | [] => sp0
  | n :: _ => specL (upL n)
def knW : List Wd → Bool
  | [] => false
  | n :: _ => isName (upL n)
def Short (l : List Wd) : Prop := l.length ≤ 60 ∧ ∀ a ∈ l, a.length ≤ 600
def FewW (ws : List Wd) (e : Ending) : Prop := ∃ b : Bool, e = .returned (.bool b) ∧ (b = true → Short ws)
theorem builtSp0 : Tryd.prog.built 26 [] = some (Sp.cells sp0).toArray := by kernel_rfl
theorem zeroSp0 : (Tryd.prog.info? 26).map (fun i => i.zero) = some (some (Sp.val sp0)) := by kernel_rfl
theorem oneSp (x : Sp) : ∀ u ∈ x.cells, u.oneCell' = true := by simp [Value.oneCell', Sp.cells]
theorem szSpX (x : Sp) : (Tryd.prog.info? 26).map (·.size) = some x.cells.length := by kernel_rfl
theorem run_idxO {P : Program} {w : World} {a : Act} {o : Oper} (t : TypeId) (x y : Operand) (e : TypeId) (z : Nat) (b off len cap i : Nat)
    (ho : o.op = .indexAddr t x y) (hu : P.underlying t = some (.slice e)) (hs : ∀ w, (sizeOf e).run P w = .ok z w) (hx : a.eval x = .slice (some ⟨b, off, none⟩) len cap) (hy : a.eval y = .int .i64 i) (hi : i < len) :
    (execOp a.eval o).run P w = .ok (.value (.pointer (some ⟨b, off + i * z, none⟩))) w := by
  unfold execOp
  simp only [ho, hx, hy]
  go_simp
theorem run_idxO0 {P : Program} {w : World} {a : Act} {o : Oper} (t : TypeId) (x y : Operand) (e : TypeId) (z : Nat) (b off len cap : Nat)
    (ho : o.op = .indexAddr t x y) (hu : P.underlying t = some (.slice e)) (hs : ∀ w, (sizeOf e).run P w = .ok z w) (hx : a.eval x = .slice (some ⟨b, off, none⟩) len cap) (hy : a.eval y = .int .i64 0) (hi : 0 < len) :
    (execOp a.eval o).run P w = .ok (.value (.pointer (some ⟨b, off, none⟩))) w := by
  have := run_idxO (P := P) (w := w) (a := a) (o := o) t x y e z b off len cap 0 ho hu hs hx hy hi
  simpa using this
set_option maxRecDepth 100000 in
set_option maxHeartbeats 1000000 in
theorem lightW_any (w : World) (v : Value) (ws : List Wd) (h : StV w v ws) : Calls Tryd.prog 15 #[v] w fun e w' => FewW ws e ∧ w = w' := by
  have h' := h
  obtain ⟨A, c, rfl, _⟩ := h'
  by_cases hbig : ws.length ≤ 60
  · have hbI : ¬ (60 : Int) < (ws.length : Int) := by omega
    go_enter Tryd.func15, Tryd.ntmps15
    go_wp2_with fail
    go_loopw [3] (fun iv wr => ∃ i : Nat, i ≤ ws.length ∧ iv = .int .i64 (i : Int) ∧ (∀ (j : Nat) (a : Wd), j < i → ws[j]? = some a → a.length ≤ 600) ∧ w = wr) (fun iv _ => ws.length - (intOf iv).toNat)
    case atStart => exact ⟨0, by omega, rfl, fun j a hj => by omega, rfl⟩
    case round =>
      obtain ⟨i, hi, rfl, hok, rfl⟩ := hrel
      by_cases hlt : i < ws.length
      · have hltI : (i : Int) < (ws.length : Int) := by omega
        obtain ⟨a, ha⟩ : ∃ a, ws[i]? = some a := ⟨_, List.getElem?_eq_getElem hlt⟩
        obtain ⟨_, g, off, rfl, c0⟩ := h.at ha
        have hsz := str_len a
        replace hok := hide hok
        replace ha := hide ha
        by_cases hl : a.length ≤ 600
        · have hlI : ¬ (600 : Int) < (a.length : Int) := by omega
          replace hl := hide hl
          go_wp2_with (first
            | (with_reducible refine wl_run (o := ⟨some 15, _, _, _, _, _⟩) rfl (.pointer (some ⟨g, off + i * 1, none⟩)) (run_idxO 36 (.tmp 13) (.tmp 14) 9 1 g off ws.length c i rfl Tryd.underlying36 Tryd.sizeOf9 rfl rfl hlt) ?_))
          go_roundw
          case rel =>
            refine ⟨i + 1, by omega, by go_num, fun j b hj hb => ?_, trivial⟩
            by_cases h1 : j = i
            · subst h1
              rw [ha.out] at hb
              rw [← Option.some.inj hb]; exact hl.out
            · exact hok.out j b (by omega) hb
          case measure => simp [intOf]; omega
        · have hlI : (600 : Int) < (a.length : Int) := by omega
          go_wp2_with (first
            | (with_reducible refine wl_run (o := ⟨some 15, _, _, _, _, _⟩) rfl (.pointer (some ⟨g, off + i * 1, none⟩)) (run_idxO 36 (.tmp 13) (.tmp 14) 9 1 g off ws.length c i rfl Tryd.underlying36 Tryd.sizeOf9 rfl rfl hlt) ?_))
          go_ret
          exact ⟨⟨false, rfl, fun h => by cases h⟩, rfl⟩
      · obtain rfl : i = ws.length := by omega
        go_wp2_with fail
        go_ret
        refine ⟨⟨true, rfl, fun _ => ⟨hbig, fun a ha => ?_⟩⟩, rfl⟩
        obtain ⟨j, hj⟩ := List.getElem?_of_mem ha
        exact hok j a (List.getElem?_eq_some_iff.1 hj).1 hj
  · have hbI : (60 : Int) < (ws.length : Int) := by omega
    go_enter Tryd.func15, Tryd.ntmps15
    go_wp2_with fail
    go_ret
    exact ⟨⟨false, rfl, fun h => by cases h⟩, rfl⟩
set_option maxRecDepth 100000 in
set_option maxHeartbeats 1000000 in
theorem findW_any (w : World) (v : Value) (ws : List Wd) (h : StV w v ws) (hs : Short ws) : Calls Tryd.prog 29 #[v] w fun e w' => e = .returned (.tuple #[(spW ws).val, .bool (knW ws)]) ∧ Below w.heap.size w w' := by
  have h' := h
  obtain ⟨A, c, rfl, _⟩ := h'
  have hb0 := builtSp0
  cases ws with
  | nil =>
    show Calls _ _ _ _ fun e w' => e = .returned (.tuple #[(Sp.val sp0), .bool false]) ∧ _
    clear h hs
    go_enter Tryd.func29, Tryd.ntmps29
    go_wp2_with (first
      | (with_reducible refine wl_alloc (o := ⟨some 2, _, _, _, _, _⟩) rfl 26 _ (Sp.cells sp0) rfl zeroSp0 rfl ?_; intro g2 w2 r2 p2 l2 b2)
      | (with_reducible refine wl_build (o := ⟨some 7, _, _, _, _, _⟩) rfl 26 [] rfl [] rfl (Sp.cells sp0) hb0 ?_)
      | (with_reducible refine wl_store_row rfl 26 (.tmp 2) (.tmp 7) g2 26 _ (Sp.cells sp0) rfl rfl rfl r2 (szSpX sp0) rfl (oneSp sp0) ?_; intro w3 r3 o3))
    refine bodyPost_ret (v := .tuple #[(Sp.val sp0), .bool false]) ?_ rfl ⟨rfl, b2.trans (o3.below p2)⟩
    exact results_rt2 Tryd.results29 _ _ g2 26 _ _ _ rfl r3 Tryd.underlying26 rfl (szSpX sp0) rfl
  | cons nm r =>
    obtain ⟨_, g, off, rfl, c0⟩ := h.at (i := 0) (a := nm) rfl
    have hlI : ((nm :: r).length : Int) ≠ 0 := by rw [List.length_cons]; omega
    have hlI2 : ¬ ((nm :: r).length : Int) = 0 := hlI
    have hlI3 : (((nm :: r).length : Int) == 0) = false := by simpa using hlI
    have hlt0 : 0 < (nm :: r).length := by rw [List.length_cons]; omega
    have hlen : nm.length ≤ 1000000 := Nat.le_trans (hs.2 nm (by simp)) (by decide)
    show Calls _ _ _ _ fun e w' => e = .returned (.tuple #[(Sp.val (specL (upL nm))), .bool (isName (upL nm))]) ∧ _
    have HV := fun w => vfind_any w nm hlen
    generalize specL (upL nm) = x at *
    generalize isName (upL nm) = k at *
    rw [Nat.add_zero] at c0
    generalize (nm :: r).length = n at *
    clear h hs
    have hc0 : ∀ wz, Below w.heap.size w wz → wz.cell? ⟨g, off, none⟩ = some (encStr nm) := fun wz hb => by
      rw [← c0]; exact World.cell?_of_block (hb.block g (block_lt_of_cell c0))
    go_enter Tryd.func29, Tryd.ntmps29
    go_wp2_with (first
      | (with_reducible refine wl_alloc (o := ⟨some 2, _, _, _, _, _⟩) rfl 26 _ (Sp.cells sp0) rfl zeroSp0 rfl ?_; intro g2 w2 r2 p2 l2 b2; have c2 := hc0 w2 b2)
      | (with_reducible refine wl_run (o := ⟨some 9, _, _, _, _, _⟩) rfl (.pointer (some ⟨g, off, none⟩)) (run_idxO0 36 (.tmp 8) _ 9 1 g off n c rfl Tryd.underlying36 Tryd.sizeOf9 rfl rfl hlt0) ?_))
    refine (HV w2).mono ?_
    rintro e w3 ⟨rfl, b3⟩
    have r3 := r2.later b3
    go_wp2_with (first
      | (with_reducible refine wl_store_row rfl 26 (.tmp 2) (.tmp 12) g2 26 _ (Sp.cells x) rfl rfl rfl r3 (szSpX x) rfl (oneSp x) ?_; intro w4 r4 o4))
    refine bodyPost_ret (v := .tuple #[x.val, .bool k]) ?_ rfl ⟨rfl, (b2.trans (b3.mono b2.size)).trans (o4.below p2)⟩
    exact results_rt2 Tryd.results29 _ _ g2 26 _ _ _ rfl r4 Tryd.underlying26 rfl (szSpX x) rfl
end Go.Proofs.YtolmomnocfkhoaaDoor

/-
  How many words a command takes; its keys. Own work.
-/
namespace Go.Proofs.YtolmomnocfkhoaaDoor
open Go.RowKit Go.Shelf
theorem run_remZ {P : Program} {w : World} {a : Act} {o : Oper} {t s : Nat} {u v z : Int} (x y : Operand) (ho : o.op = .binOp .rem t x y s) (hx : a.eval x = .int .i64 u) (hy : a.eval y = .int .i64 v) (hv : v ≠ 0) (hz : u.tmod v = z) : (execOp a.eval o).run P w = .ok (.value (.int .i64 z)) w := by
  subst hz
  unfold execOp
  simp only [ho, hx, hy]
  go_simp
def tkS (x : Sp) (n : Nat) : Bool := decide (x.mn ≤ (n : Int)) && decide ((n : Int) ≤ x.mx) && (decide (n % 2 = 1) || !x.od) && (!decide (n % 2 = 1) || !x.ev)
set_option maxRecDepth 100000 in
set_option maxHeartbeats 1000000 in
theorem takesS_any (w : World) (x : Sp) (n : Nat) (hn : n ≤ 60) : Calls Tryd.prog 30 #[x.val, .int .i64 (n : Int)] w fun e w' => e = .returned (.bool (tkS x n)) ∧ Below w.heap.size w w' := by
  have h2 : (2 : Int) ≠ 0 := by decide
  have hrem := hide (show (n : Int).tmod 2 = ((n % 2 : Nat) : Int) by rw [Int.tmod_eq_emod_of_nonneg (by omega)]; omega)
  obtain ⟨f, l, s, nm, mn, mx, wr, od, ev⟩ := x
  show Calls _ _ #[.agg (c9 f l s nm mn mx wr od ev).toArray, _] _ _
  unfold tkS
  by_cases h1 : mn ≤ (n : Int)
  · by_cases h3 : (n : Int) ≤ mx
    · by_cases h4 : n % 2 = 1
      · have h5 : ((n % 2 : Nat) : Int) = 1 := by omega
        rw [h5] at hrem
        simp only [decide_eq_true h1, decide_eq_true h3, decide_eq_true h4]
        clear h4 h5
        cases od <;> cases ev <;> (
          go_enter Tryd.func30, Tryd.ntmps30
          go_wp2_with (first
            | (with_reducible refine wl_box (o := ⟨some 2, _, _, _, _, _⟩) rfl 26 (.tmp 0) _ (c9 f l s nm mn mx wr _ _) rfl rfl rfl ?_; intro g2 w2 r2 p2 l2 b2; have c2 := r2.cell (j := 4) rfl; have c3 := r2.cell (j := 5) rfl; have c5 := r2.cell (j := 7) rfl; have c6 := r2.cell (j := 8) rfl)
            | (with_reducible refine wl_run (o := ⟨some 7, _, _, _, _, _⟩) rfl (.int .i64 1) (run_remZ (.tmp 6) _ rfl rfl rfl h2 hrem.out) ?_))
          go_ret
          exact ⟨rfl, b2⟩)
      · have h5 : ((n % 2 : Nat) : Int) = 0 := by omega
        rw [h5] at hrem
        simp only [decide_eq_true h1, decide_eq_true h3, decide_eq_false h4]
        clear h4 h5
        cases od <;> cases ev <;> (
          go_enter Tryd.func30, Tryd.ntmps30
          go_wp2_with (first
            | (with_reducible refine wl_box (o := ⟨some 2, _, _, _, _, _⟩) rfl 26 (.tmp 0) _ (c9 f l s nm mn mx wr _ _) rfl rfl rfl ?_; intro g2 w2 r2 p2 l2 b2; have c2 := r2.cell (j := 4) rfl; have c3 := r2.cell (j := 5) rfl; have c5 := r2.cell (j := 7) rfl; have c6 := r2.cell (j := 8) rfl)
            | (with_reducible refine wl_run (o := ⟨some 7, _, _, _, _, _⟩) rfl (.int .i64 0) (run_remZ (.tmp 6) _ rfl rfl rfl h2 hrem.out) ?_))
          go_ret
          exact ⟨rfl, b2⟩)
    · simp only [decide_eq_true h1, decide_eq_false h3]
      go_enter Tryd.func30, Tryd.ntmps30
      go_wp2_with (first
        | (with_reducible refine wl_box (o := ⟨some 2, _, _, _, _, _⟩) rfl 26 (.tmp 0) _ (c9 f l s nm mn mx wr od ev) rfl rfl rfl ?_; intro g2 w2 r2 p2 l2 b2; have c2 := r2.cell (j := 4) rfl; have c3 := r2.cell (j := 5) rfl; have c5 := r2.cell (j := 7) rfl; have c6 := r2.cell (j := 8) rfl)
        | (with_reducible refine wl_run (o := ⟨some 7, _, _, _, _, _⟩) rfl (.int .i64 ((n % 2 : Nat) : Int)) (run_remZ (.tmp 6) _ rfl rfl rfl h2 hrem.out) ?_))
      go_ret
      exact ⟨by simp, b2⟩
  · simp only [decide_eq_false h1]
    go_enter Tryd.func30, Tryd.ntmps30
    go_wp2_with (first
      | (with_reducible refine wl_box (o := ⟨some 2, _, _, _, _, _⟩) rfl 26 (.tmp 0) _ (c9 f l s nm mn mx wr od ev) rfl rfl rfl ?_; intro g2 w2 r2 p2 l2 b2; have c2 := r2.cell (j := 4) rfl; have c3 := r2.cell (j := 5) rfl; have c5 := r2.cell (j := 7) rfl; have c6 := r2.cell (j := 8) rfl)
      | (with_reducible refine wl_run (o := ⟨some 7, _, _, _, _, _⟩) rfl (.int .i64 ((n % 2 : Nat) : Int)) (run_remZ (.tmp 6) _ rfl rfl rfl h2 hrem.out) ?_))
    go_ret
    exact ⟨by simp, b2⟩
end Go.Proofs.YtolmomnocfkhoaaDoor

/-
  The keys of words: contract. Own work.
-/
namespace Go.Proofs.YtolmomnocfkhoaaDoor
open Go.RowKit Go.Shelf
def PlOk (x : Sp) : Prop := x.f = 0 ∨ (x.f = 1 ∧ (x.s = 1 ∨ x.s = 2) ∧ (x.l < 0 ∨ (1 ≤ x.l ∧ x.l ≤ 2)))
instance (x : Sp) : Decidable (PlOk x) := by unfold PlOk; infer_instance
theorem pl_all : (spT.all fun p => decide (PlOk p.2)) = true := by decide
theorem pl_ok {ws : List Wd} (h : knW ws = true) : PlOk (spW ws) := by
  cases ws with
  | nil => cases h
  | cons n r =>
    obtain ⟨x, hx, h1, h2⟩ := specL_yes (nm := upL n) h
    show PlOk (specL (upL n))
    rw [h2]
    have := List.all_eq_true.1 pl_all x hx
    simpa using this
def capW (x : Sp) : Nat := if x.l < 0 then 1000 else x.l.toNat
def cnt (s t : Nat) : Nat := (t + s - 1) / s
def kyK (sn : Nat) (ws : List Wd) (k : Nat) : List Wd := (List.range k).map fun j => ws.getD (1 + sn * j) []
def kys (x : Sp) (ws : List Wd) (t : Nat) : List Wd := kyK x.s.toNat ws (cnt x.s.toNat (min t (capW x)))
def keysL (ws : List Wd) : List Wd := if knW ws = true ∧ (spW ws).f = 1 then kys (spW ws) ws (ws.length - 1) else []
theorem kyK_succ (sn : Nat) (ws : List Wd) (k : Nat) : kyK sn ws (k + 1) = kyK sn ws k ++ [ws.getD (1 + sn * k) []] := by
  unfold kyK
  rw [List.range_succ, List.map_append]; rfl
theorem kyK_len (sn : Nat) (ws : List Wd) (k : Nat) : (kyK sn ws k).length = k := by unfold kyK; simp
theorem kys_step {x : Sp} {ws : List Wd} {i sn : Nat} (hsn : x.s = (sn : Int)) (h12 : sn = 1 ∨ sn = 2) (hi : 1 ≤ i) (hi2 : i ≤ 900) :
    kys x ws i = if (i - 1) % sn = 0 ∧ (x.l < 0 ∨ (i : Int) ≤ x.l) then kys x ws (i - 1) ++ [ws.getD i []] else kys x ws (i - 1) := by
  have e : x.s.toNat = sn := by rw [hsn]; rfl
  unfold kys
  rw [e]
  have hc : (x.l < 0 ∨ (i : Int) ≤ x.l) ↔ i ≤ capW x := by
    unfold capW
    by_cases h : x.l < 0
    · rw [if_pos h]; exact ⟨fun _ => by omega, fun _ => .inl h⟩
    · rw [if_neg h]; omega
  simp only [hc]
  generalize capW x = q
  unfold cnt
  rcases h12 with rfl | rfl
  · by_cases h : i ≤ q
    · rw [if_pos ⟨Nat.mod_one _, h⟩, show (min i q + 1 - 1) / 1 = (min (i - 1) q + 1 - 1) / 1 + 1 by omega, kyK_succ]
      congr 2
      rw [show 1 + 1 * ((min (i - 1) q + 1 - 1) / 1) = i by omega]
    · rw [if_neg (fun c => h c.2), show (min i q + 1 - 1) / 1 = (min (i - 1) q + 1 - 1) / 1 by omega]
  · by_cases h : (i - 1) % 2 = 0 ∧ i ≤ q
    · rw [if_pos h, show (min i q + 2 - 1) / 2 = (min (i - 1) q + 2 - 1) / 2 + 1 by omega, kyK_succ]
      congr 2
      rw [show 1 + 2 * ((min (i - 1) q + 2 - 1) / 2) = i by omega]
    · rw [if_neg h, show (min i q + 2 - 1) / 2 = (min (i - 1) q + 2 - 1) / 2 by omega]
theorem run_min2 {P : Program} {w : World} {a : Act} {o : Oper} {u v z : Int} (x y : Operand) (t1 t2 : TypeId) (ho : o.op = .call { callee := .builtin .min, args := #[x, y], argTypes := #[t1, t2] }) (hx : a.eval x = .int .i64 u) (hy : a.eval y = .int .i64 v) (hz : min u v = z) : (execOp a.eval o).run P w = .ok (.value (.int .i64 z)) w := by
  subst hz
  unfold execOp
  simp only [ho, resolve, invoke, List.map_toArray, List.map_cons, List.map_nil, hx, hy]
  go_simp
theorem wordI : ∃ i, Tryd.prog.info? 9 = some i ∧ i.zero = some (.string ByteArray.empty) ∧ i.size = 1 ∧ i.bytes = 16 := str_infoV
theorem Row.grownS {w w' : World} {t g T e size n : Nat} {vs : List Value} {v : Value} {xs : List Value} (h : Row w t g vs) (ho : w.ownsRow T e size v n xs) (ht : t ≠ e) (hg : w.grownBy w' v.ownBlock) : Row w' t g vs := by
  refine (hg.block g h.lt (fun hk => ?_)).trans h
  rcases ho.2 with ⟨rfl, _⟩ | ⟨g', cap', cur', rfl, _, hc', _⟩
  · simp [Value.ownBlock] at hk
  · simp [Value.ownBlock] at hk
    subst hk
    have := (show w.heap[g]? = _ from h).symm.trans hc'
    simp at this
    exact ht this.2
set_option maxRecDepth 100000 in
set_option maxHeartbeats 2000000 in
theorem keysW_any (w : World) (v : Value) (ws : List Wd) (h : StV w v ws) (hs : Short ws) : Calls Tryd.prog 19 #[v] w fun e w' => ∃ v', e = .returned v' ∧ OwnW w' w.heap.size v' (keysL ws) ∧ Below w.heap.size w w' := by
  have HF := findW_any w v ws h hs
  obtain ⟨ip, hip, hiz, his, hib⟩ := wordI
  have hpl := fun hk => pl_ok (ws := ws) hk
  have h60 := hs.1
  have h0 : knW ws = true → 0 < ws.length := fun hk => by cases ws with | nil => cases hk | cons a r => simp
  unfold keysL
  have h' := h
  obtain ⟨A, c, rfl, _⟩ := h'
  obtain ⟨kn, hkn⟩ : ∃ kn, kn = knW ws := ⟨_, rfl⟩
  rw [← hkn] at HF hpl h0 ⊢
  generalize spW ws = x at *
  replace hkn := hide hkn
  cases kn with
  | false =>
    rw [if_neg (fun c => by cases c.1)]
    go_enter Tryd.func19, Tryd.ntmps19
    go_wp2_with fail
    refine HF.mono ?_
    rintro e w1 ⟨rfl, b1⟩
    go_wp2_with (first
      | (with_reducible refine wl_alloc (o := ⟨some 3, _, _, _, _, _⟩) rfl 26 _ (Sp.cells sp0) rfl zeroSp0 rfl ?_; intro g3 w3 r3 p3 l3 b3)
      | (with_reducible refine wl_store_row rfl 26 (.tmp 3) (.tmp 11) g3 26 _ (Sp.cells x) rfl rfl rfl r3 (szSpX x) rfl (oneSp x) ?_; intro w4 r4 o4; have c0 := r4.cell (j := 0) rfl))
    go_ret
    exact ⟨_, rfl, World.ownsRow_nil _ _ _ _, b1.trans ((b3.trans (o4.below p3)).mono b1.size)⟩
  | true =>
    have hpl := hpl rfl
    have h0 := h0 rfl
    obtain ⟨f, l, s, nm, mn, mx, wr9, od, ev⟩ := x
    rcases hpl with hf | ⟨hf, hs2, hl2⟩
    · obtain rfl : f = 0 := hf
      rw [if_neg (fun c => by have : (0 : Int) = 1 := c.2; omega)]
      clear hs h60 h0 hkn
      go_enter Tryd.func19, Tryd.ntmps19
      go_wp2_with fail
      refine HF.mono ?_
      rintro e w1 ⟨rfl, b1⟩
      go_wp2_with (first
        | (with_reducible refine wl_alloc (o := ⟨some 3, _, _, _, _, _⟩) rfl 26 _ (Sp.cells sp0) rfl zeroSp0 rfl ?_; intro g3 w3 r3 p3 l3 b3)
        | (with_reducible refine wl_store_row rfl 26 (.tmp 3) (.tmp 11) g3 26 _ (Sp.cells ⟨0, l, s, nm, mn, mx, wr9, od, ev⟩) rfl rfl rfl r3 (szSpX ⟨0, l, s, nm, mn, mx, wr9, od, ev⟩) rfl (oneSp ⟨0, l, s, nm, mn, mx, wr9, od, ev⟩) ?_; intro w4 r4 o4; have c0 := r4.cell (j := 0) rfl))
      go_ret
      exact ⟨_, rfl, World.ownsRow_nil _ _ _ _, b1.trans ((b3.trans (o4.below p3)).mono b1.size)⟩
    · obtain rfl : f = 1 := hf
      rw [if_pos ⟨rfl, rfl⟩]
      have hsub := hide (show IntKind.i64.wrap ((ws.length : Int) - 1) = ((ws.length - 1 : Nat) : Int) from wrap_id (by omega) (by omega) (by omega))
      have hlen0 : (ws.length : Int) ≤ 60 := by omega
      clear hs hkn
      rcases hs2 with hs2 | hs2
      · obtain rfl : s = 1 := hs2
        have hfin : kys (⟨1, l, 1, nm, mn, mx, wr9, od, ev⟩ : Sp) ws (ws.length - 1) = kyK 1 ws (cnt 1 (min (ws.length - 1) (capW ⟨1, l, 1, nm, mn, mx, wr9, od, ev⟩))) := rfl
        unfold capW at hfin
        by_cases hl : l < 0
        · obtain ⟨M, hM⟩ : ∃ M, M = ws.length - 1 := ⟨_, rfl⟩
          have hl1 : ¬ 0 ≤ l := by omega
          rw [if_pos (show (⟨1, l, 1, nm, mn, mx, wr9, od, ev⟩ : Sp).l < 0 from hl), show min (ws.length - 1) 1000 = M by omega] at hfin
          have hmin := hide (show min (M : Int) (M : Int) = (M : Int) by omega)
          rw [← hM] at hsub
          go_enter Tryd.func19, Tryd.ntmps19
          go_wp2_with fail
          refine HF.mono ?_
          rintro e w1 ⟨rfl, b1⟩
          go_wp2_with (first
            | (with_reducible refine wl_alloc (o := ⟨some 3, _, _, _, _, _⟩) rfl 26 _ (Sp.cells sp0) rfl zeroSp0 rfl ?_; intro g3 w3 r3 p3 l3 b3)
            | (with_reducible refine wl_store_row rfl 26 (.tmp 3) (.tmp 11) g3 26 _ ([.int .i64 1, .int .i64 l, .int .i64 1, encStr nm, .int .i64 mn, .int .i64 mx, .bool wr9, .bool od, .bool ev]) rfl rfl rfl r3 (szSpX ⟨1, l, 1, nm, mn, mx, wr9, od, ev⟩) rfl (oneSp ⟨1, l, 1, nm, mn, mx, wr9, od, ev⟩) ?_; intro w4 r4 o4; have BW0 : Below w.heap.size w w4 := b1.trans ((b3.trans (o4.below p3)).mono b1.size); have c0 := r4.cell (j := 0) rfl; have c1 := r4.cell (j := 1) rfl)
            | (with_reducible refine wl_run (o := ⟨some 23, _, _, _, _, _⟩) rfl (.int .i64 (M : Int)) (run_subZ (.tmp 22) _ rfl rfl rfl hsub.out) ?_)
            | (with_reducible refine wl_run (o := ⟨some 32, _, _, _, _, _⟩) rfl (.int .i64 (M : Int)) (run_min2 (.tmp 30) (.tmp 31) _ _ rfl rfl rfl hmin.out) ?_))
          clear b1 b3 p3 l3 r3 o4 c0 c1 HF
          go_loopw [6, 7] (fun ov iv wr => ∃ k : Nat, (k = 0 ∨ 1 + 1 * (k - 1) ≤ M) ∧ iv = .int .i64 ((1 + 1 * k : Nat) : Int) ∧ OwnW wr w.heap.size ov (kyK 1 ws k) ∧ Row wr 26 g3 ([.int .i64 1, .int .i64 l, .int .i64 1, encStr nm, .int .i64 mn, .int .i64 mx, .bool wr9, .bool od, .bool ev]) ∧ Below w.heap.size w wr) (fun _ iv _ => 200 - (intOf iv).toNat)
          case atStart => exact ⟨0, .inl rfl, rfl, World.ownsRow_nil _ _ _ _, r4, BW0⟩
          case round =>
            clear r4 BW0
            obtain ⟨k, hk, rfl, own, r3, BW⟩ := hrel
            have hwb := BW.size
            by_cases hin : 1 + 1 * k ≤ M
            · have hinI : ((1 + 1 * k : Nat) : Int) ≤ (M : Int) := by omega
              have hlt : 1 + 1 * k < ws.length := by omega
              have hltI : ((1 + 1 * k : Nat) : Int) < (ws.length : Int) := by omega
              obtain ⟨a, ha⟩ : ∃ a, ws[1 + 1 * k]? = some a := ⟨_, List.getElem?_eq_getElem hlt⟩
              obtain ⟨_, g, off, rfl, c0⟩ := (h.later BW).at ha
              have hgd : ws.getD (1 + 1 * k) [] = a := by rw [List.getD, ha]; rfl
              have hlen : (kyK 1 ws k).length = k := kyK_len _ _ _
              have hm1 : (kyK 1 ws k).length + 1 ≤ maxLen := by simp only [maxLen]; omega
              have hm2 : ((kyK 1 ws k).length + 1) * 16 ≤ 140737488355328 := by omega
              have h01 : 0 < 1 := by decide
              obtain ⟨ii, hii⟩ : ∃ ii, ii = 1 + 1 * k := ⟨_, rfl⟩
              rw [← hii] at c0 hltI hinI hlt
              have hadd := hide (show IntKind.i64.wrap ((ii : Int) + 1) = ((1 + 1 * (k + 1) : Nat) : Int) from wrap_id (by omega) (by omega) (by omega))
              have ho1 : ∀ u ∈ [encStr a], u.oneCell' = true := by simp [Value.oneCell', encStr]
              rw [show ((1 + 1 * k : Nat) : Int) = (ii : Int) by rw [hii]]
              generalize u6 = ov at *
              replace hgd := hide hgd
              replace h := hide h
              have hii2 := hide hii
              have hM9 := hide hM
              have hk9 := hide hk
              have hin9 := hide hin
              clear ha hii hk hin hlen
              go_wp2_with (first
                | (with_reducible refine wl_run (o := ⟨some 47, _, _, _, _, _⟩) rfl (.pointer (some ⟨g, off + (ii) * 1, none⟩)) (run_idxO 36 (.tmp 45) (.tmp 46) 9 1 g off ws.length c (ii) rfl Tryd.underlying36 Tryd.sizeOf9 rfl rfl hlt) ?_)
                | ((with_reducible refine wl_build1 (o := ⟨some 49, _, _, _, _, _⟩) rfl 36 (.tmp 48) rfl 9 ip (.string ByteArray.empty) (encStr a) Tryd.underlying36 hip hiz his rfl rfl rfl ?_); intro g6 w6 r6 p6 l6 b6; have own6 := own_later own b6; have hwb6 := Nat.le_trans hwb b6.size)
                | ((at_builtin; with_reducible refine wl_append_at (o := ⟨some 50, _, _, _, _, _⟩) rfl (.tmp 44) (.tmp 49) 36 rfl w.heap.size 9 ip _ 1 16 Tryd.underlying36 hip hiz his hib rfl h01 ov _ _ rfl own6 ⟨g6, 0, none⟩ 1 1 [encStr a] rfl rfl (row_src r6) ho1 hm1 hm2 hwb6 ?_); intro v7 w7 own7 gr7 at7; have B7 : Below w.heap.size w w7 := (BW.trans (b6.mono hwb)).grown gr7 hwb6 (fun k hk => (own6.lt k hk).1); have r37 := (r3.later b6).grownS own6 (by decide) gr7; have c37 := r37.cell (j := 2) rfl)
                | (with_reducible refine wl_run (o := ⟨some 43, _, _, _, _, _⟩) rfl (.int .i64 ((1 + 1 * (k + 1) : Nat) : Int)) (run_addZ (.tmp 39) (.tmp 42) rfl rfl rfl hadd.out) ?_))
              go_roundw
              case rel =>
                refine ⟨k + 1, .inr (by have := hin9.out; omega), congrArg (Value.int IntKind.i64) (by omega), ?_, r37, B7⟩
                rw [kyK_succ, hgd.out, OwnW, List.map_append, List.length_append]
                exact own7
              case measure => have := hin9.out; have := hii2.out; have := hM9.out; simp [intOf]; omega
            · have hinI : ¬ ((1 + 1 * k : Nat) : Int) ≤ (M : Int) := by omega
              have hkM : k = cnt 1 M := by unfold cnt; omega
              have hkM2 := hide hkM
              have hfin9 := hide hfin
              clear hkM hfin hk hin
              go_wp2_with fail
              go_ret
              refine ⟨_, rfl, ?_, BW⟩
              rw [hfin9.out]
              have q := own
              rw [hkM2.out] at q
              exact q
        · have hl1 : 0 ≤ l := by omega
          obtain ⟨M, hM⟩ : ∃ M, M = min (ws.length - 1) l.toNat := ⟨_, rfl⟩
          rw [if_neg (show ¬ (⟨1, l, 1, nm, mn, mx, wr9, od, ev⟩ : Sp).l < 0 from hl), show min (ws.length - 1) (⟨1, l, 1, nm, mn, mx, wr9, od, ev⟩ : Sp).l.toNat = M from hM.symm] at hfin
          have hmin := hide (show min l ((ws.length - 1 : Nat) : Int) = (M : Int) by omega)
          go_enter Tryd.func19, Tryd.ntmps19
          go_wp2_with fail
          refine HF.mono ?_
          rintro e w1 ⟨rfl, b1⟩
          go_wp2_with (first
            | (with_reducible refine wl_alloc (o := ⟨some 3, _, _, _, _, _⟩) rfl 26 _ (Sp.cells sp0) rfl zeroSp0 rfl ?_; intro g3 w3 r3 p3 l3 b3)
            | (with_reducible refine wl_store_row rfl 26 (.tmp 3) (.tmp 11) g3 26 _ ([.int .i64 1, .int .i64 l, .int .i64 1, encStr nm, .int .i64 mn, .int .i64 mx, .bool wr9, .bool od, .bool ev]) rfl rfl rfl r3 (szSpX ⟨1, l, 1, nm, mn, mx, wr9, od, ev⟩) rfl (oneSp ⟨1, l, 1, nm, mn, mx, wr9, od, ev⟩) ?_; intro w4 r4 o4; have BW0 : Below w.heap.size w w4 := b1.trans ((b3.trans (o4.below p3)).mono b1.size); have c0 := r4.cell (j := 0) rfl; have c1 := r4.cell (j := 1) rfl)
            | (with_reducible refine wl_run (o := ⟨some 23, _, _, _, _, _⟩) rfl (.int .i64 ((ws.length - 1 : Nat) : Int)) (run_subZ (.tmp 22) _ rfl rfl rfl hsub.out) ?_)
            | (with_reducible refine wl_run (o := ⟨some 32, _, _, _, _, _⟩) rfl (.int .i64 (M : Int)) (run_min2 (.tmp 30) (.tmp 31) _ _ rfl rfl rfl hmin.out) ?_))
          clear b1 b3 p3 l3 r3 o4 c0 c1 HF
          go_loopw [6, 7] (fun ov iv wr => ∃ k : Nat, (k = 0 ∨ 1 + 1 * (k - 1) ≤ M) ∧ iv = .int .i64 ((1 + 1 * k : Nat) : Int) ∧ OwnW wr w.heap.size ov (kyK 1 ws k) ∧ Row wr 26 g3 ([.int .i64 1, .int .i64 l, .int .i64 1, encStr nm, .int .i64 mn, .int .i64 mx, .bool wr9, .bool od, .bool ev]) ∧ Below w.heap.size w wr) (fun _ iv _ => 200 - (intOf iv).toNat)
          case atStart => exact ⟨0, .inl rfl, rfl, World.ownsRow_nil _ _ _ _, r4, BW0⟩
          case round =>
            clear r4 BW0
            obtain ⟨k, hk, rfl, own, r3, BW⟩ := hrel
            have hwb := BW.size
            by_cases hin : 1 + 1 * k ≤ M
            · have hinI : ((1 + 1 * k : Nat) : Int) ≤ (M : Int) := by omega
              have hlt : 1 + 1 * k < ws.length := by omega
              have hltI : ((1 + 1 * k : Nat) : Int) < (ws.length : Int) := by omega
              obtain ⟨a, ha⟩ : ∃ a, ws[1 + 1 * k]? = some a := ⟨_, List.getElem?_eq_getElem hlt⟩
              obtain ⟨_, g, off, rfl, c0⟩ := (h.later BW).at ha
              have hgd : ws.getD (1 + 1 * k) [] = a := by rw [List.getD, ha]; rfl
              have hlen : (kyK 1 ws k).length = k := kyK_len _ _ _
              have hm1 : (kyK 1 ws k).length + 1 ≤ maxLen := by simp only [maxLen]; omega
              have hm2 : ((kyK 1 ws k).length + 1) * 16 ≤ 140737488355328 := by omega
              have h01 : 0 < 1 := by decide
              obtain ⟨ii, hii⟩ : ∃ ii, ii = 1 + 1 * k := ⟨_, rfl⟩
              rw [← hii] at c0 hltI hinI hlt
              have hadd := hide (show IntKind.i64.wrap ((ii : Int) + 1) = ((1 + 1 * (k + 1) : Nat) : Int) from wrap_id (by omega) (by omega) (by omega))
              have ho1 : ∀ u ∈ [encStr a], u.oneCell' = true := by simp [Value.oneCell', encStr]
              rw [show ((1 + 1 * k : Nat) : Int) = (ii : Int) by rw [hii]]
              generalize u6 = ov at *
              replace hgd := hide hgd
              replace h := hide h
              have hii2 := hide hii
              have hM9 := hide hM
              have hk9 := hide hk
              have hin9 := hide hin
              clear ha hii hk hin hlen
              go_wp2_with (first
                | (with_reducible refine wl_run (o := ⟨some 47, _, _, _, _, _⟩) rfl (.pointer (some ⟨g, off + (ii) * 1, none⟩)) (run_idxO 36 (.tmp 45) (.tmp 46) 9 1 g off ws.length c (ii) rfl Tryd.underlying36 Tryd.sizeOf9 rfl rfl hlt) ?_)
                | ((with_reducible refine wl_build1 (o := ⟨some 49, _, _, _, _, _⟩) rfl 36 (.tmp 48) rfl 9 ip (.string ByteArray.empty) (encStr a) Tryd.underlying36 hip hiz his rfl rfl rfl ?_); intro g6 w6 r6 p6 l6 b6; have own6 := own_later own b6; have hwb6 := Nat.le_trans hwb b6.size)
                | ((at_builtin; with_reducible refine wl_append_at (o := ⟨some 50, _, _, _, _, _⟩) rfl (.tmp 44) (.tmp 49) 36 rfl w.heap.size 9 ip _ 1 16 Tryd.underlying36 hip hiz his hib rfl h01 ov _ _ rfl own6 ⟨g6, 0, none⟩ 1 1 [encStr a] rfl rfl (row_src r6) ho1 hm1 hm2 hwb6 ?_); intro v7 w7 own7 gr7 at7; have B7 : Below w.heap.size w w7 := (BW.trans (b6.mono hwb)).grown gr7 hwb6 (fun k hk => (own6.lt k hk).1); have r37 := (r3.later b6).grownS own6 (by decide) gr7; have c37 := r37.cell (j := 2) rfl)
                | (with_reducible refine wl_run (o := ⟨some 43, _, _, _, _, _⟩) rfl (.int .i64 ((1 + 1 * (k + 1) : Nat) : Int)) (run_addZ (.tmp 39) (.tmp 42) rfl rfl rfl hadd.out) ?_))
              go_roundw
              case rel =>
                refine ⟨k + 1, .inr (by have := hin9.out; omega), congrArg (Value.int IntKind.i64) (by omega), ?_, r37, B7⟩
                rw [kyK_succ, hgd.out, OwnW, List.map_append, List.length_append]
                exact own7
              case measure => have := hin9.out; have := hii2.out; have := hM9.out; simp [intOf]; omega
            · have hinI : ¬ ((1 + 1 * k : Nat) : Int) ≤ (M : Int) := by omega
              have hkM : k = cnt 1 M := by unfold cnt; omega
              have hkM2 := hide hkM
              have hfin9 := hide hfin
              clear hkM hfin hk hin
              go_wp2_with fail
              go_ret
              refine ⟨_, rfl, ?_, BW⟩
              rw [hfin9.out]
              have q := own
              rw [hkM2.out] at q
              exact q
      · obtain rfl : s = 2 := hs2
        have hfin : kys (⟨1, l, 2, nm, mn, mx, wr9, od, ev⟩ : Sp) ws (ws.length - 1) = kyK 2 ws (cnt 2 (min (ws.length - 1) (capW ⟨1, l, 2, nm, mn, mx, wr9, od, ev⟩))) := rfl
        unfold capW at hfin
        by_cases hl : l < 0
        · obtain ⟨M, hM⟩ : ∃ M, M = ws.length - 1 := ⟨_, rfl⟩
          have hl1 : ¬ 0 ≤ l := by omega
          rw [if_pos (show (⟨1, l, 2, nm, mn, mx, wr9, od, ev⟩ : Sp).l < 0 from hl), show min (ws.length - 1) 1000 = M by omega] at hfin
          have hmin := hide (show min (M : Int) (M : Int) = (M : Int) by omega)
          rw [← hM] at hsub
          go_enter Tryd.func19, Tryd.ntmps19
          go_wp2_with fail
          refine HF.mono ?_
          rintro e w1 ⟨rfl, b1⟩
          go_wp2_with (first
            | (with_reducible refine wl_alloc (o := ⟨some 3, _, _, _, _, _⟩) rfl 26 _ (Sp.cells sp0) rfl zeroSp0 rfl ?_; intro g3 w3 r3 p3 l3 b3)
            | (with_reducible refine wl_store_row rfl 26 (.tmp 3) (.tmp 11) g3 26 _ ([.int .i64 1, .int .i64 l, .int .i64 2, encStr nm, .int .i64 mn, .int .i64 mx, .bool wr9, .bool od, .bool ev]) rfl rfl rfl r3 (szSpX ⟨1, l, 2, nm, mn, mx, wr9, od, ev⟩) rfl (oneSp ⟨1, l, 2, nm, mn, mx, wr9, od, ev⟩) ?_; intro w4 r4 o4; have BW0 : Below w.heap.size w w4 := b1.trans ((b3.trans (o4.below p3)).mono b1.size); have c0 := r4.cell (j := 0) rfl; have c1 := r4.cell (j := 1) rfl)
            | (with_reducible refine wl_run (o := ⟨some 23, _, _, _, _, _⟩) rfl (.int .i64 (M : Int)) (run_subZ (.tmp 22) _ rfl rfl rfl hsub.out) ?_)
            | (with_reducible refine wl_run (o := ⟨some 32, _, _, _, _, _⟩) rfl (.int .i64 (M : Int)) (run_min2 (.tmp 30) (.tmp 31) _ _ rfl rfl rfl hmin.out) ?_))
          clear b1 b3 p3 l3 r3 o4 c0 c1 HF
          go_loopw [6, 7] (fun ov iv wr => ∃ k : Nat, (k = 0 ∨ 1 + 2 * (k - 1) ≤ M) ∧ iv = .int .i64 ((1 + 2 * k : Nat) : Int) ∧ OwnW wr w.heap.size ov (kyK 2 ws k) ∧ Row wr 26 g3 ([.int .i64 1, .int .i64 l, .int .i64 2, encStr nm, .int .i64 mn, .int .i64 mx, .bool wr9, .bool od, .bool ev]) ∧ Below w.heap.size w wr) (fun _ iv _ => 200 - (intOf iv).toNat)
          case atStart => exact ⟨0, .inl rfl, rfl, World.ownsRow_nil _ _ _ _, r4, BW0⟩
          case round =>
            clear r4 BW0
            obtain ⟨k, hk, rfl, own, r3, BW⟩ := hrel
            have hwb := BW.size
            by_cases hin : 1 + 2 * k ≤ M
            · have hinI : ((1 + 2 * k : Nat) : Int) ≤ (M : Int) := by omega
              have hlt : 1 + 2 * k < ws.length := by omega
              have hltI : ((1 + 2 * k : Nat) : Int) < (ws.length : Int) := by omega
              obtain ⟨a, ha⟩ : ∃ a, ws[1 + 2 * k]? = some a := ⟨_, List.getElem?_eq_getElem hlt⟩
              obtain ⟨_, g, off, rfl, c0⟩ := (h.later BW).at ha
              have hgd : ws.getD (1 + 2 * k) [] = a := by rw [List.getD, ha]; rfl
              have hlen : (kyK 2 ws k).length = k := kyK_len _ _ _
              have hm1 : (kyK 2 ws k).length + 1 ≤ maxLen := by simp only [maxLen]; omega
              have hm2 : ((kyK 2 ws k).length + 1) * 16 ≤ 140737488355328 := by omega
              have h01 : 0 < 1 := by decide
              obtain ⟨ii, hii⟩ : ∃ ii, ii = 1 + 2 * k := ⟨_, rfl⟩
              rw [← hii] at c0 hltI hinI hlt
              have hadd := hide (show IntKind.i64.wrap ((ii : Int) + 2) = ((1 + 2 * (k + 1) : Nat) : Int) from wrap_id (by omega) (by omega) (by omega))
              have ho1 : ∀ u ∈ [encStr a], u.oneCell' = true := by simp [Value.oneCell', encStr]
              rw [show ((1 + 2 * k : Nat) : Int) = (ii : Int) by rw [hii]]
              generalize u6 = ov at *
              replace hgd := hide hgd
              replace h := hide h
              have hii2 := hide hii
              have hM9 := hide hM
              have hk9 := hide hk
              have hin9 := hide hin
              clear ha hii hk hin hlen
              go_wp2_with (first
                | (with_reducible refine wl_run (o := ⟨some 47, _, _, _, _, _⟩) rfl (.pointer (some ⟨g, off + (ii) * 1, none⟩)) (run_idxO 36 (.tmp 45) (.tmp 46) 9 1 g off ws.length c (ii) rfl Tryd.underlying36 Tryd.sizeOf9 rfl rfl hlt) ?_)
                | ((with_reducible refine wl_build1 (o := ⟨some 49, _, _, _, _, _⟩) rfl 36 (.tmp 48) rfl 9 ip (.string ByteArray.empty) (encStr a) Tryd.underlying36 hip hiz his rfl rfl rfl ?_); intro g6 w6 r6 p6 l6 b6; have own6 := own_later own b6; have hwb6 := Nat.le_trans hwb b6.size)
                | ((at_builtin; with_reducible refine wl_append_at (o := ⟨some 50, _, _, _, _, _⟩) rfl (.tmp 44) (.tmp 49) 36 rfl w.heap.size 9 ip _ 1 16 Tryd.underlying36 hip hiz his hib rfl h01 ov _ _ rfl own6 ⟨g6, 0, none⟩ 1 1 [encStr a] rfl rfl (row_src r6) ho1 hm1 hm2 hwb6 ?_); intro v7 w7 own7 gr7 at7; have B7 : Below w.heap.size w w7 := (BW.trans (b6.mono hwb)).grown gr7 hwb6 (fun k hk => (own6.lt k hk).1); have r37 := (r3.later b6).grownS own6 (by decide) gr7; have c37 := r37.cell (j := 2) rfl)
                | (with_reducible refine wl_run (o := ⟨some 43, _, _, _, _, _⟩) rfl (.int .i64 ((1 + 2 * (k + 1) : Nat) : Int)) (run_addZ (.tmp 39) (.tmp 42) rfl rfl rfl hadd.out) ?_))
              go_roundw
              case rel =>
                refine ⟨k + 1, .inr (by have := hin9.out; omega), congrArg (Value.int IntKind.i64) (by omega), ?_, r37, B7⟩
                rw [kyK_succ, hgd.out, OwnW, List.map_append, List.length_append]
                exact own7
              case measure => have := hin9.out; have := hii2.out; have := hM9.out; simp [intOf]; omega
            · have hinI : ¬ ((1 + 2 * k : Nat) : Int) ≤ (M : Int) := by omega
              have hkM : k = cnt 2 M := by unfold cnt; omega
              have hkM2 := hide hkM
              have hfin9 := hide hfin
              clear hkM hfin hk hin
              go_wp2_with fail
              go_ret
              refine ⟨_, rfl, ?_, BW⟩
              rw [hfin9.out]
              have q := own
              rw [hkM2.out] at q
              exact q
        · have hl1 : 0 ≤ l := by omega
          obtain ⟨M, hM⟩ : ∃ M, M = min (ws.length - 1) l.toNat := ⟨_, rfl⟩
          rw [if_neg (show ¬ (⟨1, l, 2, nm, mn, mx, wr9, od, ev⟩ : Sp).l < 0 from hl), show min (ws.length - 1) (⟨1, l, 2, nm, mn, mx, wr9, od, ev⟩ : Sp).l.toNat = M from hM.symm] at hfin
          have hmin := hide (show min l ((ws.length - 1 : Nat) : Int) = (M : Int) by omega)
          go_enter Tryd.func19, Tryd.ntmps19
          go_wp2_with fail
          refine HF.mono ?_
          rintro e w1 ⟨rfl, b1⟩
          go_wp2_with (first
            | (with_reducible refine wl_alloc (o := ⟨some 3, _, _, _, _, _⟩) rfl 26 _ (Sp.cells sp0) rfl zeroSp0 rfl ?_; intro g3 w3 r3 p3 l3 b3)
            | (with_reducible refine wl_store_row rfl 26 (.tmp 3) (.tmp 11) g3 26 _ ([.int .i64 1, .int .i64 l, .int .i64 2, encStr nm, .int .i64 mn, .int .i64 mx, .bool wr9, .bool od, .bool ev]) rfl rfl rfl r3 (szSpX ⟨1, l, 2, nm, mn, mx, wr9, od, ev⟩) rfl (oneSp ⟨1, l, 2, nm, mn, mx, wr9, od, ev⟩) ?_; intro w4 r4 o4; have BW0 : Below w.heap.size w w4 := b1.trans ((b3.trans (o4.below p3)).mono b1.size); have c0 := r4.cell (j := 0) rfl; have c1 := r4.cell (j := 1) rfl)
            | (with_reducible refine wl_run (o := ⟨some 23, _, _, _, _, _⟩) rfl (.int .i64 ((ws.length - 1 : Nat) : Int)) (run_subZ (.tmp 22) _ rfl rfl rfl hsub.out) ?_)
            | (with_reducible refine wl_run (o := ⟨some 32, _, _, _, _, _⟩) rfl (.int .i64 (M : Int)) (run_min2 (.tmp 30) (.tmp 31) _ _ rfl rfl rfl hmin.out) ?_))
          clear b1 b3 p3 l3 r3 o4 c0 c1 HF
          go_loopw [6, 7] (fun ov iv wr => ∃ k : Nat, (k = 0 ∨ 1 + 2 * (k - 1) ≤ M) ∧ iv = .int .i64 ((1 + 2 * k : Nat) : Int) ∧ OwnW wr w.heap.size ov (kyK 2 ws k) ∧ Row wr 26 g3 ([.int .i64 1, .int .i64 l, .int .i64 2, encStr nm, .int .i64 mn, .int .i64 mx, .bool wr9, .bool od, .bool ev]) ∧ Below w.heap.size w wr) (fun _ iv _ => 200 - (intOf iv).toNat)
          case atStart => exact ⟨0, .inl rfl, rfl, World.ownsRow_nil _ _ _ _, r4, BW0⟩
          case round =>
            clear r4 BW0
            obtain ⟨k, hk, rfl, own, r3, BW⟩ := hrel
            have hwb := BW.size
            by_cases hin : 1 + 2 * k ≤ M
            · have hinI : ((1 + 2 * k : Nat) : Int) ≤ (M : Int) := by omega
              have hlt : 1 + 2 * k < ws.length := by omega
              have hltI : ((1 + 2 * k : Nat) : Int) < (ws.length : Int) := by omega
              obtain ⟨a, ha⟩ : ∃ a, ws[1 + 2 * k]? = some a := ⟨_, List.getElem?_eq_getElem hlt⟩
              obtain ⟨_, g, off, rfl, c0⟩ := (h.later BW).at ha
              have hgd : ws.getD (1 + 2 * k) [] = a := by rw [List.getD, ha]; rfl
              have hlen : (kyK 2 ws k).length = k := kyK_len _ _ _
              have hm1 : (kyK 2 ws k).length + 1 ≤ maxLen := by simp only [maxLen]; omega
              have hm2 : ((kyK 2 ws k).length + 1) * 16 ≤ 140737488355328 := by omega
              have h01 : 0 < 1 := by decide
              obtain ⟨ii, hii⟩ : ∃ ii, ii = 1 + 2 * k := ⟨_, rfl⟩
              rw [← hii] at c0 hltI hinI hlt
              have hadd := hide (show IntKind.i64.wrap ((ii : Int) + 2) = ((1 + 2 * (k + 1) : Nat) : Int) from wrap_id (by omega) (by omega) (by omega))
              have ho1 : ∀ u ∈ [encStr a], u.oneCell' = true := by simp [Value.oneCell', encStr]
              rw [show ((1 + 2 * k : Nat) : Int) = (ii : Int) by rw [hii]]
              generalize u6 = ov at *
              replace hgd := hide hgd
              replace h := hide h
              have hii2 := hide hii
              have hM9 := hide hM
              have hk9 := hide hk
              have hin9 := hide hin
              clear ha hii hk hin hlen
              go_wp2_with (first
                | (with_reducible refine wl_run (o := ⟨some 47, _, _, _, _, _⟩) rfl (.pointer (some ⟨g, off + (ii) * 1, none⟩)) (run_idxO 36 (.tmp 45) (.tmp 46) 9 1 g off ws.length c (ii) rfl Tryd.underlying36 Tryd.sizeOf9 rfl rfl hlt) ?_)
                | ((with_reducible refine wl_build1 (o := ⟨some 49, _, _, _, _, _⟩) rfl 36 (.tmp 48) rfl 9 ip (.string ByteArray.empty) (encStr a) Tryd.underlying36 hip hiz his rfl rfl rfl ?_); intro g6 w6 r6 p6 l6 b6; have own6 := own_later own b6; have hwb6 := Nat.le_trans hwb b6.size)
                | ((at_builtin; with_reducible refine wl_append_at (o := ⟨some 50, _, _, _, _, _⟩) rfl (.tmp 44) (.tmp 49) 36 rfl w.heap.size 9 ip _ 1 16 Tryd.underlying36 hip hiz his hib rfl h01 ov _ _ rfl own6 ⟨g6, 0, none⟩ 1 1 [encStr a] rfl rfl (row_src r6) ho1 hm1 hm2 hwb6 ?_); intro v7 w7 own7 gr7 at7; have B7 : Below w.heap.size w w7 := (BW.trans (b6.mono hwb)).grown gr7 hwb6 (fun k hk => (own6.lt k hk).1); have r37 := (r3.later b6).grownS own6 (by decide) gr7; have c37 := r37.cell (j := 2) rfl)
                | (with_reducible refine wl_run (o := ⟨some 43, _, _, _, _, _⟩) rfl (.int .i64 ((1 + 2 * (k + 1) : Nat) : Int)) (run_addZ (.tmp 39) (.tmp 42) rfl rfl rfl hadd.out) ?_))
              go_roundw
              case rel =>
                refine ⟨k + 1, .inr (by have := hin9.out; omega), congrArg (Value.int IntKind.i64) (by omega), ?_, r37, B7⟩
                rw [kyK_succ, hgd.out, OwnW, List.map_append, List.length_append]
                exact own7
              case measure => have := hin9.out; have := hii2.out; have := hM9.out; simp [intOf]; omega
            · have hinI : ¬ ((1 + 2 * k : Nat) : Int) ≤ (M : Int) := by omega
              have hkM : k = cnt 2 M := by unfold cnt; omega
              have hkM2 := hide hkM
              have hfin9 := hide hfin
              clear hkM hfin hk hin
              go_wp2_with fail
              go_ret
              refine ⟨_, rfl, ?_, BW⟩
              rw [hfin9.out]
              have q := own
              rw [hkM2.out] at q
              exact q
end Go.Proofs.YtolmomnocfkhoaaDoor

/-
  Closures over words; slices.ContainsFunc; the program's Check. Own work.
-/
namespace Go.Proofs.YtolmomnocfkhoaaDoor
open Go.RowKit Go.Shelf
/-- A closure of one argument, that holds nothing, is called. -/
theorem wl_callF1 {o : Oper} {a : Act} {w : World} {ops : Array Oper} {rest : List Oper} {Q : Exit → Act → World → Prop} (hgd : o.guard = none) (f : FuncId) (x y : Operand) (t : TypeId) (v1 : Value) (ho : o.op = .call { callee := .value x, args := #[y], argTypes := #[t] }) (hx : a.eval x = .func (.func f) #[] #[]) (hy : a.eval y = v1)
    (hf : ∀ (xs : Array Value) (w : World), (callFunc f xs).run Tryd.prog w = .ok (.enter f xs) w)
    {R : Ending → World → Prop} (hc : Calls Tryd.prog f #[v1] w R) (hk : ∀ e w', R e w' → ∃ v, e = .returned v ∧ wpList Tryd.prog ops Q rest (a.put o.dst v) w') : wpList Tryd.prog ops Q (o :: rest) a w := by
  refine wpList_plain hgd fun K hK => ?_
  unfold Oper.wp execOp
  simp only [ho, resolve, hx, Deferred.ofValue, List.map_toArray, List.map_cons, List.map_nil, hy]
  go_simp
  refine hc.mono fun e w' h => ?_
  obtain ⟨v, rfl, h2⟩ := hk e w' h
  exact hK _ _ h2
theorem callChk1 : ∀ (xs : Array Value) (w : World), (callFunc 32 xs).run Tryd.prog w = .ok (.enter 32 xs) w := fun xs w => by kernel_rfl
theorem callChk2 : ∀ (xs : Array Value) (w : World), (callFunc 33 xs).run Tryd.prog w = .ok (.enter 33 xs) w := fun xs w => by kernel_rfl
def longW (a : Wd) : Bool := decide (512 < a.length)
def badW (a : Wd) : Bool := decide (a.length < 1) || decide (64 < a.length)
set_option maxRecDepth 100000 in
theorem chk1_any (w : World) (a : Wd) : Calls Tryd.prog 32 #[encStr a] w fun e w' => e = .returned (.bool (longW a)) ∧ w = w' := by
  have hsz := str_len a
  unfold longW
  by_cases hl : 512 < a.length
  · have hlI : (512 : Int) < (a.length : Int) := by omega
    rw [decide_eq_true hl]
    clear hl
    go_enter Tryd.func32, Tryd.ntmps32
    go_wp2_with fail
    go_ret
    exact ⟨rfl, rfl⟩
  · have hlI : ¬ (512 : Int) < (a.length : Int) := by omega
    rw [decide_eq_false hl]
    clear hl
    go_enter Tryd.func32, Tryd.ntmps32
    go_wp2_with fail
    go_ret
    exact ⟨rfl, rfl⟩
set_option maxRecDepth 100000 in
theorem chk2_any (w : World) (a : Wd) : Calls Tryd.prog 33 #[encStr a] w fun e w' => e = .returned (.bool (badW a)) ∧ w = w' := by
  have hsz := str_len a
  unfold badW
  by_cases h1 : a.length < 1
  · have hlI : (a.length : Int) < (1 : Int) := by omega
    rw [decide_eq_true h1, Bool.true_or]
    clear h1
    go_enter Tryd.func33, Tryd.ntmps33
    go_wp2_with fail
    go_ret
    exact ⟨rfl, rfl⟩
  · have hlI : ¬ (a.length : Int) < (1 : Int) := by omega
    rw [decide_eq_false h1, Bool.false_or]
    clear h1
    by_cases hl : 64 < a.length
    · have hl2 : (64 : Int) < (a.length : Int) := by omega
      rw [decide_eq_true hl]
      clear hl
      go_enter Tryd.func33, Tryd.ntmps33
      go_wp2_with fail
      go_ret
      exact ⟨rfl, rfl⟩
    · have hl2 : ¬ (64 : Int) < (a.length : Int) := by omega
      rw [decide_eq_false hl]
      clear hl
      go_enter Tryd.func33, Tryd.ntmps33
      go_wp2_with fail
      go_ret
      exact ⟨rfl, rfl⟩
set_option maxRecDepth 100000 in
set_option maxHeartbeats 1000000 in
theorem indexF_any (w : World) (v : Value) (ws : List Wd) (h : StV w v ws) (h60 : ws.length ≤ 60) (f : FuncId) (p : Wd → Bool) (hf : ∀ (xs : Array Value) (w : World), (callFunc f xs).run Tryd.prog w = .ok (.enter f xs) w) (HC : ∀ (w : World) (a : Wd), Calls Tryd.prog f #[encStr a] w fun e w' => e = .returned (.bool (p a)) ∧ w = w') :
    Calls Tryd.prog 45 #[v, .func (.func f) #[] #[]] w fun e w' => ∃ z : Int, e = .returned (.int .i64 z) ∧ decide (0 ≤ z) = ws.any p ∧ w = w' := by
  obtain ⟨A, c, rfl, _⟩ := id h
  replace HC := hide HC
  replace hf := hide hf
  go_enter Tryd.func45, Tryd.ntmps45
  go_wp2_with fail
  go_loopw [8] (fun iv wr => ∃ i : Nat, i ≤ ws.length ∧ iv = .int .i64 (i : Int) ∧ (∀ (j : Nat) (a : Wd), j < i → ws[j]? = some a → p a = false) ∧ w = wr) (fun iv _ => ws.length - (intOf iv).toNat)
  case atStart => exact ⟨0, by omega, rfl, fun j a hj => by omega, rfl⟩
  case round =>
    obtain ⟨i, hi, rfl, hok, rfl⟩ := hrel
    by_cases hlt : i < ws.length
    · have hltI : (i : Int) < (ws.length : Int) := by omega
      obtain ⟨a, ha⟩ : ∃ a, ws[i]? = some a := ⟨_, List.getElem?_eq_getElem hlt⟩
      obtain ⟨_, g, off, rfl, c0⟩ := h.at ha
      replace hok := hide hok
      replace ha := hide ha
      replace h := hide h
      obtain ⟨pa, hpa⟩ : ∃ pa, pa = p a := ⟨_, rfl⟩
      have HC2 := HC.out w a
      rw [← hpa] at HC2
      replace HC2 := hide HC2
      replace hpa := hide hpa
      cases pa with
      | false =>
        go_wp2_with (first
          | (with_reducible refine wl_run (o := ⟨some 14, _, _, _, _, _⟩) rfl (.pointer (some ⟨g, off + i * 1, none⟩)) (run_idxO 36 (.tmp 12) (.tmp 13) 9 1 g off ws.length c i rfl Tryd.underlying36 Tryd.sizeOf9 rfl rfl hlt) ?_)
          | (with_reducible refine wl_callF1 (o := ⟨some 16, _, _, _, _, _⟩) rfl f (.tmp 11) (.tmp 15) _ (encStr a) rfl rfl rfl hf.out HC2.out ?_; rintro _ _ ⟨rfl, rfl⟩; refine ⟨_, rfl, ?_⟩))
        go_roundw
        case rel =>
          refine ⟨i + 1, by omega, by go_num, fun j b hj hb => ?_, trivial⟩
          by_cases h1 : j = i
          · subst h1
            rw [ha.out] at hb
            rw [← Option.some.inj hb]; exact hpa.out.symm
          · exact hok.out j b (by omega) hb
        case measure => simp [intOf]; omega
      | true =>
        go_wp2_with (first
          | (with_reducible refine wl_run (o := ⟨some 14, _, _, _, _, _⟩) rfl (.pointer (some ⟨g, off + i * 1, none⟩)) (run_idxO 36 (.tmp 12) (.tmp 13) 9 1 g off ws.length c i rfl Tryd.underlying36 Tryd.sizeOf9 rfl rfl hlt) ?_)
          | (with_reducible refine wl_callF1 (o := ⟨some 16, _, _, _, _, _⟩) rfl f (.tmp 11) (.tmp 15) _ (encStr a) rfl rfl rfl hf.out HC2.out ?_; rintro _ _ ⟨rfl, rfl⟩; refine ⟨_, rfl, ?_⟩))
        go_ret
        refine ⟨_, rfl, ?_, rfl⟩
        rw [decide_eq_true (by omega)]
        exact (List.any_eq_true.2 ⟨a, List.mem_of_getElem? ha.out, hpa.out.symm⟩).symm
    · obtain rfl : i = ws.length := by omega
      replace hok := hide hok
      go_wp2_with fail
      go_ret
      refine ⟨_, rfl, ?_, rfl⟩
      rw [decide_eq_false (by omega)]
      refine (List.any_eq_false.2 fun a ha => ?_).symm
      obtain ⟨j, hj⟩ := List.getElem?_of_mem ha
      rw [hok.out j a (List.getElem?_eq_some_iff.1 hj).1 hj]
      exact Bool.noConfusion
set_option maxRecDepth 100000 in
theorem containsF_any (w : World) (v : Value) (ws : List Wd) (h : StV w v ws) (h60 : ws.length ≤ 60) (f : FuncId) (p : Wd → Bool) (hf : ∀ (xs : Array Value) (w : World), (callFunc f xs).run Tryd.prog w = .ok (.enter f xs) w) (HC : ∀ (w : World) (a : Wd), Calls Tryd.prog f #[encStr a] w fun e w' => e = .returned (.bool (p a)) ∧ w = w') :
    Calls Tryd.prog 31 #[v, .func (.func f) #[] #[]] w fun e w' => e = .returned (.bool (ws.any p)) ∧ w = w' := by
  have HI := indexF_any w v ws h h60 f p hf HC
  clear hf HC h h60
  generalize ws.any p = r at *
  go_enter Tryd.func31, Tryd.ntmps31
  go_wp2_with fail
  refine HI.mono ?_
  rintro e w1 ⟨z, rfl, hz, rfl⟩
  subst hz
  go_wp2_with fail
  go_ret
  exact ⟨rfl, rfl⟩
theorem keysL_len {ws : List Wd} : (keysL ws).length ≤ ws.length := by
  unfold keysL
  split
  · rename_i h
    rcases pl_ok h.1 with h2 | ⟨_, h2, _⟩
    · omega
    · unfold kys
      rw [kyK_len]
      unfold cnt
      rcases h2 with h2 | h2 <;> (rw [h2]; simp; omega)
  · exact Nat.zero_le _
def eUnk : Wd := [69, 82, 82, 32, 117, 110, 107, 110, 111, 119, 110, 32, 99, 111, 109, 109, 97, 110, 100]
def eNum : Wd := [69, 82, 82, 32, 119, 114, 111, 110, 103, 32, 110, 117, 109, 98, 101, 114, 32, 111, 102, 32, 97, 114, 103, 117, 109, 101, 110, 116, 115]
def eLng : Wd := [69, 82, 82, 32, 116, 111, 111, 32, 108, 111, 110, 103]
def eKey : Wd := [69, 82, 82, 32, 98, 97, 100, 32, 107, 101, 121]
def chkP (kn tk lo bk : Bool) (x : Sp) : Sp × Wd := if kn = false then (sp0, eUnk) else if tk = false then (sp0, eNum) else if lo = true then (sp0, eLng) else if bk = true then (sp0, eKey) else (x, [])
def chkL (ws : List Wd) : Sp × Wd := chkP (knW ws) (tkS (spW ws) ws.length) (ws.any longW) ((keysL ws).any badW) (spW ws)
set_option maxRecDepth 100000 in
set_option maxHeartbeats 2000000 in
theorem checkW_any (w : World) (v : Value) (ws : List Wd) (h : StV w v ws) (hs : Short ws) : Calls Tryd.prog 16 #[v] w fun e w' => e = .returned (.tuple #[(chkL ws).1.val, encStr (chkL ws).2]) ∧ Below w.heap.size w w' := by
  have HF := fun w2 (hb : Below w.heap.size w w2) => findW_any w2 v ws (h.later hb) hs
  have HT := fun w2 => takesS_any w2 (spW ws) ws.length hs.1
  have HK := fun w2 (hb : Below w.heap.size w w2) => keysW_any w2 v ws (h.later hb) hs
  have HC1 := fun w2 (hb : Below w.heap.size w w2) => containsF_any w2 v ws (h.later hb) hs.1 32 longW callChk1 chk1_any
  have HC2 := fun w2 v' (hb : StV w2 v' (keysL ws)) => containsF_any w2 v' (keysL ws) hb (Nat.le_trans keysL_len hs.1) 33 badW callChk2 chk2_any
  have hb0 := builtSp0
  obtain ⟨A, c, rfl, _⟩ := id h
  unfold chkL
  generalize (keysL ws).any badW = bk at *
  generalize ws.any longW = lo at *
  generalize tkS (spW ws) ws.length = tk at *
  generalize knW ws = kn at *
  generalize spW ws = x at *
  generalize keysL ws = kl at *
  clear h hs
  cases kn with
  | false =>
    show Calls _ _ _ _ fun e w' => e = .returned (.tuple #[Sp.val sp0, encStr eUnk]) ∧ _
    clear HT HK HC1 HC2
    go_enter Tryd.func16, Tryd.ntmps16
    go_wp2_with (first
      | (with_reducible refine wl_alloc (o := ⟨some 2, _, _, _, _, _⟩) rfl 26 _ (Sp.cells sp0) rfl zeroSp0 rfl ?_; intro g2 w2 r2 p2 l2 b2))
    refine (HF w2 b2).mono ?_
    rintro e w3 ⟨rfl, b3⟩
    have B3 : Below w.heap.size w w3 := b2.trans (b3.mono b2.size)
    have r23 := r2.later b3
    clear HF
    go_wp2_with (first
      | (with_reducible refine wl_alloc (o := ⟨some 4, _, _, _, _, _⟩) rfl 26 _ (Sp.cells sp0) rfl zeroSp0 rfl ?_; intro g4 w4 r4 p4 l4 b4)
      | (with_reducible refine wl_store_row rfl 26 (.tmp 4) (.tmp 9) g4 26 _ (Sp.cells x) rfl rfl rfl r4 (szSpX x) rfl (oneSp x) ?_; intro w5 r5 o5; have B5 : Below w.heap.size w w5 := B3.trans ((b4.trans (o5.below p4)).mono B3.size); have r25 := (r23.later b4).only o5 (Nat.ne_of_lt (Nat.lt_of_lt_of_le r23.lt p4)))
      | (with_reducible refine wl_build (o := ⟨some 14, _, _, _, _, _⟩) rfl 26 [] rfl [] rfl (Sp.cells sp0) hb0 ?_)
      | (with_reducible refine wl_store_row rfl 26 (.tmp 2) (.tmp 14) g2 26 _ (Sp.cells sp0) rfl rfl rfl r25 (szSpX sp0) rfl (oneSp sp0) ?_; intro w9 r9 o9))
    refine bodyPost_ret (v := .tuple #[Sp.val sp0, encStr eUnk]) ?_ rfl ⟨rfl, B5.trans ((o9.below p2).mono (Nat.le_refl _))⟩
    exact results_rt2 Tryd.results16 _ _ g2 26 _ _ _ rfl r9 Tryd.underlying26 rfl (szSpX sp0) rfl
  | true =>
  cases tk with
  | false =>
    show Calls _ _ _ _ fun e w' => e = .returned (.tuple #[Sp.val sp0, encStr eNum]) ∧ _
    clear HK HC1 HC2
    go_enter Tryd.func16, Tryd.ntmps16
    go_wp2_with (first
      | (with_reducible refine wl_alloc (o := ⟨some 2, _, _, _, _, _⟩) rfl 26 _ (Sp.cells sp0) rfl zeroSp0 rfl ?_; intro g2 w2 r2 p2 l2 b2))
    refine (HF w2 b2).mono ?_
    rintro e w3 ⟨rfl, b3⟩
    have B3 : Below w.heap.size w w3 := b2.trans (b3.mono b2.size)
    have r23 := r2.later b3
    clear HF
    go_wp2_with (first
      | (with_reducible refine wl_alloc (o := ⟨some 4, _, _, _, _, _⟩) rfl 26 _ (Sp.cells sp0) rfl zeroSp0 rfl ?_; intro g4 w4 r4 p4 l4 b4)
      | (with_reducible refine wl_store_row rfl 26 (.tmp 4) (.tmp 9) g4 26 _ (Sp.cells x) rfl rfl rfl r4 (szSpX x) rfl (oneSp x) ?_; intro w5 r5 o5; have B5 : Below w.heap.size w w5 := B3.trans ((b4.trans (o5.below p4)).mono B3.size); have r25 := (r23.later b4).only o5 (Nat.ne_of_lt (Nat.lt_of_lt_of_le r23.lt p4)))
      | (with_reducible refine wl_load_row (o := ⟨some 16, _, _, _, _, _⟩) rfl 26 (.tmp 4) g4 26 (Sp.cells x) _ rfl rfl r5 Tryd.underlying26 rfl (szSpX x) ?_))
    refine (HT w5).mono ?_
    rintro e w6 ⟨rfl, b6⟩
    have B6 : Below w.heap.size w w6 := B5.trans (b6.mono B5.size)
    have r26 := r25.later b6
    have r46 := r5.later b6
    clear HT
    go_wp2_with (first
      | (with_reducible refine wl_build (o := ⟨some 21, _, _, _, _, _⟩) rfl 26 [] rfl [] rfl (Sp.cells sp0) hb0 ?_)
      | (with_reducible refine wl_store_row rfl 26 (.tmp 2) (.tmp 21) g2 26 _ (Sp.cells sp0) rfl rfl rfl r26 (szSpX sp0) rfl (oneSp sp0) ?_; intro w9 r9 o9))
    refine bodyPost_ret (v := .tuple #[Sp.val sp0, encStr eNum]) ?_ rfl ⟨rfl, B6.trans ((o9.below p2).mono (Nat.le_refl _))⟩
    exact results_rt2 Tryd.results16 _ _ g2 26 _ _ _ rfl r9 Tryd.underlying26 rfl (szSpX sp0) rfl
  | true =>
  cases lo with
  | true =>
    show Calls _ _ _ _ fun e w' => e = .returned (.tuple #[Sp.val sp0, encStr eLng]) ∧ _
    clear HK HC2
    go_enter Tryd.func16, Tryd.ntmps16
    go_wp2_with (first
      | (with_reducible refine wl_alloc (o := ⟨some 2, _, _, _, _, _⟩) rfl 26 _ (Sp.cells sp0) rfl zeroSp0 rfl ?_; intro g2 w2 r2 p2 l2 b2))
    refine (HF w2 b2).mono ?_
    rintro e w3 ⟨rfl, b3⟩
    have B3 : Below w.heap.size w w3 := b2.trans (b3.mono b2.size)
    have r23 := r2.later b3
    clear HF
    go_wp2_with (first
      | (with_reducible refine wl_alloc (o := ⟨some 4, _, _, _, _, _⟩) rfl 26 _ (Sp.cells sp0) rfl zeroSp0 rfl ?_; intro g4 w4 r4 p4 l4 b4)
      | (with_reducible refine wl_store_row rfl 26 (.tmp 4) (.tmp 9) g4 26 _ (Sp.cells x) rfl rfl rfl r4 (szSpX x) rfl (oneSp x) ?_; intro w5 r5 o5; have B5 : Below w.heap.size w w5 := B3.trans ((b4.trans (o5.below p4)).mono B3.size); have r25 := (r23.later b4).only o5 (Nat.ne_of_lt (Nat.lt_of_lt_of_le r23.lt p4)))
      | (with_reducible refine wl_load_row (o := ⟨some 16, _, _, _, _, _⟩) rfl 26 (.tmp 4) g4 26 (Sp.cells x) _ rfl rfl r5 Tryd.underlying26 rfl (szSpX x) ?_))
    refine (HT w5).mono ?_
    rintro e w6 ⟨rfl, b6⟩
    have B6 : Below w.heap.size w w6 := B5.trans (b6.mono B5.size)
    have r26 := r25.later b6
    have r46 := r5.later b6
    clear HT
    go_wp2_with fail
    refine (HC1 w6 B6).mono ?_
    rintro e w7 ⟨rfl, rfl⟩
    clear HC1
    go_wp2_with (first
      | (with_reducible refine wl_build (o := ⟨some 25, _, _, _, _, _⟩) rfl 26 [] rfl [] rfl (Sp.cells sp0) hb0 ?_)
      | (with_reducible refine wl_store_row rfl 26 (.tmp 2) (.tmp 25) g2 26 _ (Sp.cells sp0) rfl rfl rfl r26 (szSpX sp0) rfl (oneSp sp0) ?_; intro w9 r9 o9))
    refine bodyPost_ret (v := .tuple #[Sp.val sp0, encStr eLng]) ?_ rfl ⟨rfl, B6.trans ((o9.below p2).mono (Nat.le_refl _))⟩
    exact results_rt2 Tryd.results16 _ _ g2 26 _ _ _ rfl r9 Tryd.underlying26 rfl (szSpX sp0) rfl
  | false =>
  cases bk with
  | true =>
    show Calls _ _ _ _ fun e w' => e = .returned (.tuple #[Sp.val sp0, encStr eKey]) ∧ _
    go_enter Tryd.func16, Tryd.ntmps16
    go_wp2_with (first
      | (with_reducible refine wl_alloc (o := ⟨some 2, _, _, _, _, _⟩) rfl 26 _ (Sp.cells sp0) rfl zeroSp0 rfl ?_; intro g2 w2 r2 p2 l2 b2))
    refine (HF w2 b2).mono ?_
    rintro e w3 ⟨rfl, b3⟩
    have B3 : Below w.heap.size w w3 := b2.trans (b3.mono b2.size)
    have r23 := r2.later b3
    clear HF
    go_wp2_with (first
      | (with_reducible refine wl_alloc (o := ⟨some 4, _, _, _, _, _⟩) rfl 26 _ (Sp.cells sp0) rfl zeroSp0 rfl ?_; intro g4 w4 r4 p4 l4 b4)
      | (with_reducible refine wl_store_row rfl 26 (.tmp 4) (.tmp 9) g4 26 _ (Sp.cells x) rfl rfl rfl r4 (szSpX x) rfl (oneSp x) ?_; intro w5 r5 o5; have B5 : Below w.heap.size w w5 := B3.trans ((b4.trans (o5.below p4)).mono B3.size); have r25 := (r23.later b4).only o5 (Nat.ne_of_lt (Nat.lt_of_lt_of_le r23.lt p4)))
      | (with_reducible refine wl_load_row (o := ⟨some 16, _, _, _, _, _⟩) rfl 26 (.tmp 4) g4 26 (Sp.cells x) _ rfl rfl r5 Tryd.underlying26 rfl (szSpX x) ?_))
    refine (HT w5).mono ?_
    rintro e w6 ⟨rfl, b6⟩
    have B6 : Below w.heap.size w w6 := B5.trans (b6.mono B5.size)
    have r26 := r25.later b6
    have r46 := r5.later b6
    clear HT
    go_wp2_with fail
    refine (HC1 w6 B6).mono ?_
    rintro e w7 ⟨rfl, rfl⟩
    clear HC1
    go_wp2_with fail
    refine (HK w6 B6).mono ?_
    rintro e w8 ⟨vk, rfl, ok, b8⟩
    have B8 : Below w.heap.size w w8 := B6.trans (b8.mono B6.size)
    have r28 := r26.later b8
    have r48 := r46.later b8
    clear HK
    go_wp2_with fail
    refine (HC2 w8 vk (own_stv ok)).mono ?_
    rintro e w9 ⟨rfl, rfl⟩
    clear HC2
    go_wp2_with (first
      | (with_reducible refine wl_build (o := ⟨some 30, _, _, _, _, _⟩) rfl 26 [] rfl [] rfl (Sp.cells sp0) hb0 ?_)
      | (with_reducible refine wl_store_row rfl 26 (.tmp 2) (.tmp 30) g2 26 _ (Sp.cells sp0) rfl rfl rfl r28 (szSpX sp0) rfl (oneSp sp0) ?_; intro w9 r9 o9))
    refine bodyPost_ret (v := .tuple #[Sp.val sp0, encStr eKey]) ?_ rfl ⟨rfl, B8.trans ((o9.below p2).mono (Nat.le_refl _))⟩
    exact results_rt2 Tryd.results16 _ _ g2 26 _ _ _ rfl r9 Tryd.underlying26 rfl (szSpX sp0) rfl
  | false =>
    show Calls _ _ _ _ fun e w' => e = .returned (.tuple #[Sp.val x, encStr []]) ∧ _
    go_enter Tryd.func16, Tryd.ntmps16
    go_wp2_with (first
      | (with_reducible refine wl_alloc (o := ⟨some 2, _, _, _, _, _⟩) rfl 26 _ (Sp.cells sp0) rfl zeroSp0 rfl ?_; intro g2 w2 r2 p2 l2 b2))
    refine (HF w2 b2).mono ?_
    rintro e w3 ⟨rfl, b3⟩
    have B3 : Below w.heap.size w w3 := b2.trans (b3.mono b2.size)
    have r23 := r2.later b3
    clear HF
    go_wp2_with (first
      | (with_reducible refine wl_alloc (o := ⟨some 4, _, _, _, _, _⟩) rfl 26 _ (Sp.cells sp0) rfl zeroSp0 rfl ?_; intro g4 w4 r4 p4 l4 b4)
      | (with_reducible refine wl_store_row rfl 26 (.tmp 4) (.tmp 9) g4 26 _ (Sp.cells x) rfl rfl rfl r4 (szSpX x) rfl (oneSp x) ?_; intro w5 r5 o5; have B5 : Below w.heap.size w w5 := B3.trans ((b4.trans (o5.below p4)).mono B3.size); have r25 := (r23.later b4).only o5 (Nat.ne_of_lt (Nat.lt_of_lt_of_le r23.lt p4)))
      | (with_reducible refine wl_load_row (o := ⟨some 16, _, _, _, _, _⟩) rfl 26 (.tmp 4) g4 26 (Sp.cells x) _ rfl rfl r5 Tryd.underlying26 rfl (szSpX x) ?_))
    refine (HT w5).mono ?_
    rintro e w6 ⟨rfl, b6⟩
    have B6 : Below w.heap.size w w6 := B5.trans (b6.mono B5.size)
    have r26 := r25.later b6
    have r46 := r5.later b6
    clear HT
    go_wp2_with fail
    refine (HC1 w6 B6).mono ?_
    rintro e w7 ⟨rfl, rfl⟩
    clear HC1
    go_wp2_with fail
    refine (HK w6 B6).mono ?_
    rintro e w8 ⟨vk, rfl, ok, b8⟩
    have B8 : Below w.heap.size w w8 := B6.trans (b8.mono B6.size)
    have r28 := r26.later b8
    have r48 := r46.later b8
    clear HK
    go_wp2_with fail
    refine (HC2 w8 vk (own_stv ok)).mono ?_
    rintro e w9 ⟨rfl, rfl⟩
    clear HC2
    go_wp2_with (first
      | (with_reducible refine wl_load_row (o := ⟨some 31, _, _, _, _, _⟩) rfl 26 (.tmp 4) g4 26 (Sp.cells x) _ rfl rfl r48 Tryd.underlying26 rfl (szSpX x) ?_)
      | (with_reducible refine wl_store_row rfl 26 (.tmp 2) (.tmp 31) g2 26 _ (Sp.cells x) rfl rfl rfl r28 (szSpX x) rfl (oneSp x) ?_; intro w9 r9 o9))
    refine bodyPost_ret (v := .tuple #[Sp.val x, encStr []]) ?_ rfl ⟨rfl, B8.trans ((o9.below p2).mono (Nat.le_refl _))⟩
    exact results_rt2 Tryd.results16 _ _ g2 26 _ _ _ rfl r9 Tryd.underlying26 rfl (szSpX x) rfl
end Go.Proofs.YtolmomnocfkhoaaDoor

/-
  The document's Keys. Own work.
-/
namespace Go.Proofs.YtolmomnocfkhoaaDoor
open Go.RowKit Go.Shelf
theorem cnt0 (s : Nat) (h : s = 1 ∨ s = 2) : cnt s 0 = 0 := by rcases h with rfl | rfl <;> rfl
theorem kys_zero {x : Sp} {ws : List Wd} (h : x.s = 1 ∨ x.s = 2) : kys x ws 0 = [] := by
  have hs : x.s.toNat = 1 ∨ x.s.toNat = 2 := by rcases h with h | h <;> rw [h] <;> simp
  unfold kys
  rw [Nat.zero_min, cnt0 _ hs]; rfl
theorem kys_len {x : Sp} {ws : List Wd} {t : Nat} (h : x.s = 1 ∨ x.s = 2) : (kys x ws t).length ≤ t := by
  unfold kys
  rw [kyK_len]
  unfold cnt
  rcases h with h | h <;> (rw [h]; simp; omega)
theorem rf_zero (ws : List Wd) (h : (spW ws).f = 0) : keysL ws = [] := by
  unfold keysL
  rw [if_neg (fun c => by have := c.2; omega)]
set_option maxRecDepth 100000 in
set_option maxHeartbeats 4000000 in
theorem keysR_any (w : World) (v : Value) (ws : List Wd) (h : StV w v ws) (hs : Short ws) : Calls Tryd.prog 20 #[v] w fun e w' => ∃ v', e = .returned v' ∧ OwnW w' w.heap.size v' (keysL ws) ∧ Below w.heap.size w w' := by
  obtain ⟨ip, hip, hiz, his, hib⟩ := wordI
  obtain ⟨A, c, rfl, _⟩ := id h
  cases ws with
  | nil =>
    clear h hs hip hiz his hib
    go_enter Tryd.func20, Tryd.ntmps20
    go_wp2_with fail
    go_ret
    exact ⟨_, rfl, World.ownsRow_nil _ _ _ _, Below.refl _ _⟩
  | cons n r =>
    obtain ⟨_, g, off, rfl, c0⟩ := h.at (i := 0) (a := n) rfl
    rw [Nat.add_zero] at c0
    have hlen : n.length ≤ 1000000 := Nat.le_trans (hs.2 n (by simp)) (by decide)
    have h60 := hs.1
    have hlt0 : 0 < (n :: r).length := by rw [List.length_cons]; omega
    have hlI : ((n :: r).length : Int) ≠ 0 := by omega
    have hlI2 : ¬ ((n :: r).length : Int) = 0 := hlI
    have hlI3 : (((n :: r).length : Int) == 0) = false := by simpa using hlI
    have HV := fun w => rfind_any w n hlen
    obtain ⟨h1, h2⟩ := row_spec (upL n)
    rw [h1, h2] at HV
    have hkn : knW (n :: r) = isName (upL n) := rfl
    have hsp : spW (n :: r) = specL (upL n) := rfl
    have hpl := fun hk => pl_ok (ws := n :: r) hk
    unfold keysL
    rw [hsp] at hpl ⊢
    rw [hkn] at hpl ⊢
    clear hkn hsp h1 h2 hlen hs
    generalize specL (upL n) = x at *
    generalize isName (upL n) = kn at *
    generalize hws : n :: r = ws at *
    replace hws := hide hws
    replace hip := hide hip
    replace hip := hip.out
    obtain ⟨f, l, s, nm, mn, mx, wr9, od, ev⟩ := x
    cases kn with
    | false =>
      rw [if_neg (fun c => by cases c.1)]
      clear hpl h h60 hip hiz his hib
      go_enter Tryd.func20, Tryd.ntmps20
      go_wp2_with (first
        | (with_reducible refine wl_run (o := ⟨some 13, _, _, _, _, _⟩) rfl (.pointer (some ⟨g, off, none⟩)) (run_idxO0 36 (.tmp 12) _ 9 1 g off ws.length c rfl Tryd.underlying36 Tryd.sizeOf9 rfl rfl hlt0) ?_))
      refine (HV w).mono ?_
      rintro e w3 ⟨rfl, b3⟩
      clear HV
      go_wp2_with (first
        | (with_reducible refine wl_alloc (o := ⟨some 4, _, _, _, _, _⟩) rfl 30 _ [encStr [], .int .i64 0, .int .i64 0, .bool false, .int .i64 0, .int .i64 0, .int .i64 0, .bool false, .bool false] rfl rfl rfl ?_; intro g4 w4 r4 p4 l4 b4)
        | (with_reducible refine wl_store_row rfl 30 (.tmp 4) (.tmp 16) g4 30 _ ([encStr nm, .int .i64 mn, .int .i64 mx, .bool wr9, .int .i64 f, .int .i64 l, .int .i64 s, .bool od, .bool ev]) rfl rfl rfl r4 (szRf _ _ _ _ _ _ _ _ _) rfl (by simp [Value.oneCell']) ?_; intro w5 r5 o5))
      have B5 : Below w.heap.size w w5 := b3.trans ((b4.trans (o5.below p4)).mono b3.size)
      clear b3 b4 p4 l4 r4 o5
      go_loopw [3, 6] (fun ov iv wr => ov = .slice none 0 0 ∧ iv = .int .i64 1 ∧ Row wr 30 g4 ([encStr nm, .int .i64 mn, .int .i64 mx, .bool wr9, .int .i64 f, .int .i64 l, .int .i64 s, .bool od, .bool ev]) ∧ Below w.heap.size w wr) (fun _ iv _ => 0)
      case atStart => exact ⟨rfl, rfl, r5, B5⟩
      case round =>
        clear r5 B5
        obtain ⟨rfl, rfl, r3, BW⟩ := hrel
        have c4 := r3.cell (j := 4) rfl
        clear r3
        go_wp2_with fail
        go_ret
        exact ⟨_, rfl, World.ownsRow_nil _ _ _ _, BW⟩
    | true =>
      rcases hpl rfl with hf | ⟨hf, hs2, hl2⟩
      · obtain rfl : f = 0 := hf
        rw [if_neg (fun c => by have : (0 : Int) = 1 := c.2; omega)]
        clear hpl h h60 hip hiz his hib
        go_enter Tryd.func20, Tryd.ntmps20
        go_wp2_with (first
          | (with_reducible refine wl_run (o := ⟨some 13, _, _, _, _, _⟩) rfl (.pointer (some ⟨g, off, none⟩)) (run_idxO0 36 (.tmp 12) _ 9 1 g off ws.length c rfl Tryd.underlying36 Tryd.sizeOf9 rfl rfl hlt0) ?_))
        refine (HV w).mono ?_
        rintro e w3 ⟨rfl, b3⟩
        clear HV
        go_wp2_with (first
          | (with_reducible refine wl_alloc (o := ⟨some 4, _, _, _, _, _⟩) rfl 30 _ [encStr [], .int .i64 0, .int .i64 0, .bool false, .int .i64 0, .int .i64 0, .int .i64 0, .bool false, .bool false] rfl rfl rfl ?_; intro g4 w4 r4 p4 l4 b4)
          | (with_reducible refine wl_store_row rfl 30 (.tmp 4) (.tmp 16) g4 30 _ ([encStr nm, .int .i64 mn, .int .i64 mx, .bool wr9, .int .i64 0, .int .i64 l, .int .i64 s, .bool od, .bool ev]) rfl rfl rfl r4 (szRf _ _ _ _ _ _ _ _ _) rfl (by simp [Value.oneCell']) ?_; intro w5 r5 o5))
        have B5 : Below w.heap.size w w5 := b3.trans ((b4.trans (o5.below p4)).mono b3.size)
        clear b3 b4 p4 l4 r4 o5
        go_loopw [3, 6] (fun ov iv wr => ov = .slice none 0 0 ∧ iv = .int .i64 1 ∧ Row wr 30 g4 ([encStr nm, .int .i64 mn, .int .i64 mx, .bool wr9, .int .i64 0, .int .i64 l, .int .i64 s, .bool od, .bool ev]) ∧ Below w.heap.size w wr) (fun _ iv _ => 0)
        case atStart => exact ⟨rfl, rfl, r5, B5⟩
        case round =>
          clear r5 B5
          obtain ⟨rfl, rfl, r3, BW⟩ := hrel
          have c4 := r3.cell (j := 4) rfl
          clear r3
          go_wp2_with fail
          go_ret
          exact ⟨_, rfl, World.ownsRow_nil _ _ _ _, BW⟩
      · obtain rfl : f = 1 := hf
        rw [if_pos ⟨rfl, rfl⟩]
        clear hpl hl2
        rcases hs2 with hs2 | hs2
        · obtain rfl : s = 1 := hs2
          go_enter Tryd.func20, Tryd.ntmps20
          go_wp2_with (first
            | (with_reducible refine wl_run (o := ⟨some 13, _, _, _, _, _⟩) rfl (.pointer (some ⟨g, off, none⟩)) (run_idxO0 36 (.tmp 12) _ 9 1 g off ws.length c rfl Tryd.underlying36 Tryd.sizeOf9 rfl rfl hlt0) ?_))
          refine (HV w).mono ?_
          rintro e w3 ⟨rfl, b3⟩
          clear HV
          go_wp2_with (first
            | (with_reducible refine wl_alloc (o := ⟨some 4, _, _, _, _, _⟩) rfl 30 _ [encStr [], .int .i64 0, .int .i64 0, .bool false, .int .i64 0, .int .i64 0, .int .i64 0, .bool false, .bool false] rfl rfl rfl ?_; intro g4 w4 r4 p4 l4 b4)
            | (with_reducible refine wl_store_row rfl 30 (.tmp 4) (.tmp 16) g4 30 _ ([encStr nm, .int .i64 mn, .int .i64 mx, .bool wr9, .int .i64 1, .int .i64 l, .int .i64 1, .bool od, .bool ev]) rfl rfl rfl r4 (szRf _ _ _ _ _ _ _ _ _) rfl (by simp [Value.oneCell']) ?_; intro w5 r5 o5))
          have B5 : Below w.heap.size w w5 := b3.trans ((b4.trans (o5.below p4)).mono b3.size)
          clear b3 b4 p4 l4 r4 o5
          go_loopw [3, 6] (fun ov iv wr => ∃ i : Nat, 1 ≤ i ∧ i ≤ ws.length ∧ iv = .int .i64 (i : Int) ∧ OwnW wr w.heap.size ov (kys (⟨1, l, 1, nm, mn, mx, wr9, od, ev⟩ : Sp) ws (i - 1)) ∧ Row wr 30 g4 ([encStr nm, .int .i64 mn, .int .i64 mx, .bool wr9, .int .i64 1, .int .i64 l, .int .i64 1, .bool od, .bool ev]) ∧ Below w.heap.size w wr) (fun _ iv _ => ws.length - (intOf iv).toNat)
          case atStart => exact ⟨1, Nat.le_refl _, hlt0, rfl, by rw [show kys (⟨1, l, 1, nm, mn, mx, wr9, od, ev⟩ : Sp) ws (1 - 1) = [] from kys_zero (x := (⟨1, l, 1, nm, mn, mx, wr9, od, ev⟩ : Sp)) (.inl rfl)]; exact World.ownsRow_nil _ _ _ _, r5, B5⟩
          case round =>
            clear r5 B5
            obtain ⟨i, hi1, hi2, rfl, own, r3, BW⟩ := hrel
            have hwb := BW.size
            have c4 := r3.cell (j := 4) rfl
            have c5 := r3.cell (j := 5) rfl
            have c6 := r3.cell (j := 6) rfl
            by_cases hlt : i < ws.length
            · have hltI : (i : Int) < (ws.length : Int) := by omega
              have hadd := hide (show IntKind.i64.wrap ((i : Int) + 1) = ((i + 1 : Nat) : Int) from wrap_id (by omega) (by omega) (by omega))
              have hsub := hide (show IntKind.i64.wrap ((i : Int) - 1) = ((i - 1 : Nat) : Int) from wrap_id (by omega) (by omega) (by omega))
              obtain ⟨a, ha⟩ : ∃ a, ws[i]? = some a := ⟨_, List.getElem?_eq_getElem hlt⟩
              obtain ⟨_, g9, off9, eA, c0⟩ := (h.later BW).at ha
              have hgd : ws.getD i [] = a := by rw [List.getD, ha]; rfl
              have hst := kys_step (x := (⟨1, l, 1, nm, mn, mx, wr9, od, ev⟩ : Sp)) (ws := ws) (i := i) (sn := 1) rfl (by decide) hi1 (by omega)
              rw [hgd] at hst
              obtain ⟨K, hK⟩ : ∃ K, K = kys (⟨1, l, 1, nm, mn, mx, wr9, od, ev⟩ : Sp) ws (i - 1) := ⟨_, rfl⟩
              have hKl : K.length ≤ i - 1 := by rw [hK]; exact kys_len (x := (⟨1, l, 1, nm, mn, mx, wr9, od, ev⟩ : Sp)) (.inl rfl)
              rw [← hK] at own hst
              have hm1 : K.length + 1 ≤ maxLen := by simp only [maxLen]; omega
              have hm2 : (K.length + 1) * 16 ≤ 140737488355328 := by omega
              have h01 : 0 < 1 := by decide
              have ho1 : ∀ u ∈ [encStr a], u.oneCell' = true := by simp [Value.oneCell', encStr]
              generalize u3 = ov at *
              injection eA with eA
              clear ha hgd hK hKl
              replace h := hide h
              have hm0 : (i - 1) % 1 = 0 := Nat.mod_one _
              have hrem := hide (show (((i - 1 : Nat) : Int)).tmod 1 = 0 by rw [Int.tmod_eq_emod_of_nonneg (by omega)]; omega)
              by_cases hl : l < 0
              · replace hst := hide (hst.trans (if_pos ⟨hm0, .inl hl⟩))
                clear hm0
                go_wp2_with (first
                  | (with_reducible refine wl_run (o := ⟨some 35, _, _, _, _, _⟩) rfl (.int .i64 ((i - 1 : Nat) : Int)) (run_subZ (.tmp 32) (.tmp 34) rfl rfl rfl hsub.out) ?_)
                  | (with_reducible refine wl_run (o := ⟨some 38, _, _, _, _, _⟩) rfl (.int .i64 0) (run_remZ (.tmp 35) (.tmp 37) rfl rfl rfl (by decide) hrem.out) ?_)
                  | (with_reducible refine wl_run (o := ⟨some 54, _, _, _, _, _⟩) rfl (.pointer (some ⟨g9, off9 + i * 1, none⟩)) (run_idxO 36 (.tmp 52) (.tmp 53) 9 1 g9 off9 ws.length c i rfl Tryd.underlying36 Tryd.sizeOf9 rfl rfl hlt) ?_)
                  | ((with_reducible refine wl_build1 (o := ⟨some 56, _, _, _, _, _⟩) rfl 36 (.tmp 55) rfl 9 ip (.string ByteArray.empty) (encStr a) Tryd.underlying36 hip hiz his rfl rfl rfl ?_); intro g6 w6 r6 p6 l6 b6; have own6 := own_later own b6; have hwb6 := Nat.le_trans hwb b6.size)
                  | ((at_builtin; with_reducible refine wl_append_at (o := ⟨some 57, _, _, _, _, _⟩) rfl (.tmp 51) (.tmp 56) 36 rfl w.heap.size 9 ip _ 1 16 Tryd.underlying36 hip hiz his hib rfl h01 ov _ _ rfl own6 ⟨g6, 0, none⟩ 1 1 [encStr a] rfl rfl (row_src r6) ho1 hm1 hm2 hwb6 ?_); intro v7 w7 own7 gr7 at7; have B7 : Below w.heap.size w w7 := (BW.trans (b6.mono hwb)).grown gr7 hwb6 (fun k hk => (own6.lt k hk).1); have r37 := (r3.later b6).grownS own6 (by decide) gr7)
                  | (with_reducible refine wl_run (o := ⟨some 31, _, _, _, _, _⟩) rfl (.int .i64 ((i + 1 : Nat) : Int)) (run_addZ (.tmp 30) _ rfl rfl rfl hadd.out) ?_))
                go_roundw
                case rel =>
                  refine ⟨i + 1, by omega, by omega, by omega, ?_⟩
                  rw [show i + 1 - 1 = i from rfl, hst.out, OwnW, List.map_append, List.length_append]
                  exact own7
                case measure => simp [intOf]; omega
              · by_cases hil : (i : Int) ≤ l
                · replace hst := hide (hst.trans (if_pos ⟨hm0, .inr hil⟩))
                  clear hm0
                  go_wp2_with (first
                    | (with_reducible refine wl_run (o := ⟨some 35, _, _, _, _, _⟩) rfl (.int .i64 ((i - 1 : Nat) : Int)) (run_subZ (.tmp 32) (.tmp 34) rfl rfl rfl hsub.out) ?_)
                    | (with_reducible refine wl_run (o := ⟨some 38, _, _, _, _, _⟩) rfl (.int .i64 0) (run_remZ (.tmp 35) (.tmp 37) rfl rfl rfl (by decide) hrem.out) ?_)
                    | (with_reducible refine wl_run (o := ⟨some 54, _, _, _, _, _⟩) rfl (.pointer (some ⟨g9, off9 + i * 1, none⟩)) (run_idxO 36 (.tmp 52) (.tmp 53) 9 1 g9 off9 ws.length c i rfl Tryd.underlying36 Tryd.sizeOf9 rfl rfl hlt) ?_)
                    | ((with_reducible refine wl_build1 (o := ⟨some 56, _, _, _, _, _⟩) rfl 36 (.tmp 55) rfl 9 ip (.string ByteArray.empty) (encStr a) Tryd.underlying36 hip hiz his rfl rfl rfl ?_); intro g6 w6 r6 p6 l6 b6; have own6 := own_later own b6; have hwb6 := Nat.le_trans hwb b6.size)
                    | ((at_builtin; with_reducible refine wl_append_at (o := ⟨some 57, _, _, _, _, _⟩) rfl (.tmp 51) (.tmp 56) 36 rfl w.heap.size 9 ip _ 1 16 Tryd.underlying36 hip hiz his hib rfl h01 ov _ _ rfl own6 ⟨g6, 0, none⟩ 1 1 [encStr a] rfl rfl (row_src r6) ho1 hm1 hm2 hwb6 ?_); intro v7 w7 own7 gr7 at7; have B7 : Below w.heap.size w w7 := (BW.trans (b6.mono hwb)).grown gr7 hwb6 (fun k hk => (own6.lt k hk).1); have r37 := (r3.later b6).grownS own6 (by decide) gr7)
                    | (with_reducible refine wl_run (o := ⟨some 31, _, _, _, _, _⟩) rfl (.int .i64 ((i + 1 : Nat) : Int)) (run_addZ (.tmp 30) _ rfl rfl rfl hadd.out) ?_))
                  go_roundw
                  case rel =>
                    refine ⟨i + 1, by omega, by omega, by omega, ?_⟩
                    rw [show i + 1 - 1 = i from rfl, hst.out, OwnW, List.map_append, List.length_append]
                    exact own7
                  case measure => simp [intOf]; omega
                · replace hst := hide (hst.trans (if_neg (fun c => c.2.elim hl hil)))
                  clear hm0
                  go_wp2_with (first
                    | (with_reducible refine wl_run (o := ⟨some 35, _, _, _, _, _⟩) rfl (.int .i64 ((i - 1 : Nat) : Int)) (run_subZ (.tmp 32) (.tmp 34) rfl rfl rfl hsub.out) ?_)
                    | (with_reducible refine wl_run (o := ⟨some 38, _, _, _, _, _⟩) rfl (.int .i64 0) (run_remZ (.tmp 35) (.tmp 37) rfl rfl rfl (by decide) hrem.out) ?_)
                    | (with_reducible refine wl_run (o := ⟨some 31, _, _, _, _, _⟩) rfl (.int .i64 ((i + 1 : Nat) : Int)) (run_addZ (.tmp 30) _ rfl rfl rfl hadd.out) ?_))
                  go_roundw
                  case rel =>
                    refine ⟨i + 1, by omega, by omega, by omega, ?_⟩
                    rw [show i + 1 - 1 = i from rfl, hst.out]
                    exact own
                  case measure => simp [intOf]; omega
            · obtain rfl : i = ws.length := by omega
              go_wp2_with fail
              go_ret
              exact ⟨_, rfl, own, BW⟩
        · obtain rfl : s = 2 := hs2
          go_enter Tryd.func20, Tryd.ntmps20
          go_wp2_with (first
            | (with_reducible refine wl_run (o := ⟨some 13, _, _, _, _, _⟩) rfl (.pointer (some ⟨g, off, none⟩)) (run_idxO0 36 (.tmp 12) _ 9 1 g off ws.length c rfl Tryd.underlying36 Tryd.sizeOf9 rfl rfl hlt0) ?_))
          refine (HV w).mono ?_
          rintro e w3 ⟨rfl, b3⟩
          clear HV
          go_wp2_with (first
            | (with_reducible refine wl_alloc (o := ⟨some 4, _, _, _, _, _⟩) rfl 30 _ [encStr [], .int .i64 0, .int .i64 0, .bool false, .int .i64 0, .int .i64 0, .int .i64 0, .bool false, .bool false] rfl rfl rfl ?_; intro g4 w4 r4 p4 l4 b4)
            | (with_reducible refine wl_store_row rfl 30 (.tmp 4) (.tmp 16) g4 30 _ ([encStr nm, .int .i64 mn, .int .i64 mx, .bool wr9, .int .i64 1, .int .i64 l, .int .i64 2, .bool od, .bool ev]) rfl rfl rfl r4 (szRf _ _ _ _ _ _ _ _ _) rfl (by simp [Value.oneCell']) ?_; intro w5 r5 o5))
          have B5 : Below w.heap.size w w5 := b3.trans ((b4.trans (o5.below p4)).mono b3.size)
          clear b3 b4 p4 l4 r4 o5
          go_loopw [3, 6] (fun ov iv wr => ∃ i : Nat, 1 ≤ i ∧ i ≤ ws.length ∧ iv = .int .i64 (i : Int) ∧ OwnW wr w.heap.size ov (kys (⟨1, l, 2, nm, mn, mx, wr9, od, ev⟩ : Sp) ws (i - 1)) ∧ Row wr 30 g4 ([encStr nm, .int .i64 mn, .int .i64 mx, .bool wr9, .int .i64 1, .int .i64 l, .int .i64 2, .bool od, .bool ev]) ∧ Below w.heap.size w wr) (fun _ iv _ => ws.length - (intOf iv).toNat)
          case atStart => exact ⟨1, Nat.le_refl _, hlt0, rfl, by rw [show kys (⟨1, l, 2, nm, mn, mx, wr9, od, ev⟩ : Sp) ws (1 - 1) = [] from kys_zero (x := (⟨1, l, 2, nm, mn, mx, wr9, od, ev⟩ : Sp)) (.inr rfl)]; exact World.ownsRow_nil _ _ _ _, r5, B5⟩
          case round =>
            clear r5 B5
            obtain ⟨i, hi1, hi2, rfl, own, r3, BW⟩ := hrel
            have hwb := BW.size
            have c4 := r3.cell (j := 4) rfl
            have c5 := r3.cell (j := 5) rfl
            have c6 := r3.cell (j := 6) rfl
            by_cases hlt : i < ws.length
            · have hltI : (i : Int) < (ws.length : Int) := by omega
              have hadd := hide (show IntKind.i64.wrap ((i : Int) + 1) = ((i + 1 : Nat) : Int) from wrap_id (by omega) (by omega) (by omega))
              have hsub := hide (show IntKind.i64.wrap ((i : Int) - 1) = ((i - 1 : Nat) : Int) from wrap_id (by omega) (by omega) (by omega))
              obtain ⟨a, ha⟩ : ∃ a, ws[i]? = some a := ⟨_, List.getElem?_eq_getElem hlt⟩
              obtain ⟨_, g9, off9, eA, c0⟩ := (h.later BW).at ha
              have hgd : ws.getD i [] = a := by rw [List.getD, ha]; rfl
              have hst := kys_step (x := (⟨1, l, 2, nm, mn, mx, wr9, od, ev⟩ : Sp)) (ws := ws) (i := i) (sn := 2) rfl (by decide) hi1 (by omega)
              rw [hgd] at hst
              obtain ⟨K, hK⟩ : ∃ K, K = kys (⟨1, l, 2, nm, mn, mx, wr9, od, ev⟩ : Sp) ws (i - 1) := ⟨_, rfl⟩
              have hKl : K.length ≤ i - 1 := by rw [hK]; exact kys_len (x := (⟨1, l, 2, nm, mn, mx, wr9, od, ev⟩ : Sp)) (.inr rfl)
              rw [← hK] at own hst
              have hm1 : K.length + 1 ≤ maxLen := by simp only [maxLen]; omega
              have hm2 : (K.length + 1) * 16 ≤ 140737488355328 := by omega
              have h01 : 0 < 1 := by decide
              have ho1 : ∀ u ∈ [encStr a], u.oneCell' = true := by simp [Value.oneCell', encStr]
              generalize u3 = ov at *
              injection eA with eA
              clear ha hgd hK hKl
              replace h := hide h
              by_cases hm0 : (i - 1) % 2 = 0
              · have hrem := hide (show (((i - 1 : Nat) : Int)).tmod 2 = 0 by rw [Int.tmod_eq_emod_of_nonneg (by omega)]; omega)
                by_cases hl : l < 0
                · replace hst := hide (hst.trans (if_pos ⟨hm0, .inl hl⟩))
                  clear hm0
                  go_wp2_with (first
                    | (with_reducible refine wl_run (o := ⟨some 35, _, _, _, _, _⟩) rfl (.int .i64 ((i - 1 : Nat) : Int)) (run_subZ (.tmp 32) (.tmp 34) rfl rfl rfl hsub.out) ?_)
                    | (with_reducible refine wl_run (o := ⟨some 38, _, _, _, _, _⟩) rfl (.int .i64 0) (run_remZ (.tmp 35) (.tmp 37) rfl rfl rfl (by decide) hrem.out) ?_)
                    | (with_reducible refine wl_run (o := ⟨some 54, _, _, _, _, _⟩) rfl (.pointer (some ⟨g9, off9 + i * 1, none⟩)) (run_idxO 36 (.tmp 52) (.tmp 53) 9 1 g9 off9 ws.length c i rfl Tryd.underlying36 Tryd.sizeOf9 rfl rfl hlt) ?_)
                    | ((with_reducible refine wl_build1 (o := ⟨some 56, _, _, _, _, _⟩) rfl 36 (.tmp 55) rfl 9 ip (.string ByteArray.empty) (encStr a) Tryd.underlying36 hip hiz his rfl rfl rfl ?_); intro g6 w6 r6 p6 l6 b6; have own6 := own_later own b6; have hwb6 := Nat.le_trans hwb b6.size)
                    | ((at_builtin; with_reducible refine wl_append_at (o := ⟨some 57, _, _, _, _, _⟩) rfl (.tmp 51) (.tmp 56) 36 rfl w.heap.size 9 ip _ 1 16 Tryd.underlying36 hip hiz his hib rfl h01 ov _ _ rfl own6 ⟨g6, 0, none⟩ 1 1 [encStr a] rfl rfl (row_src r6) ho1 hm1 hm2 hwb6 ?_); intro v7 w7 own7 gr7 at7; have B7 : Below w.heap.size w w7 := (BW.trans (b6.mono hwb)).grown gr7 hwb6 (fun k hk => (own6.lt k hk).1); have r37 := (r3.later b6).grownS own6 (by decide) gr7)
                    | (with_reducible refine wl_run (o := ⟨some 31, _, _, _, _, _⟩) rfl (.int .i64 ((i + 1 : Nat) : Int)) (run_addZ (.tmp 30) _ rfl rfl rfl hadd.out) ?_))
                  go_roundw
                  case rel =>
                    refine ⟨i + 1, by omega, by omega, by omega, ?_⟩
                    rw [show i + 1 - 1 = i from rfl, hst.out, OwnW, List.map_append, List.length_append]
                    exact own7
                  case measure => simp [intOf]; omega
                · by_cases hil : (i : Int) ≤ l
                  · replace hst := hide (hst.trans (if_pos ⟨hm0, .inr hil⟩))
                    clear hm0
                    go_wp2_with (first
                      | (with_reducible refine wl_run (o := ⟨some 35, _, _, _, _, _⟩) rfl (.int .i64 ((i - 1 : Nat) : Int)) (run_subZ (.tmp 32) (.tmp 34) rfl rfl rfl hsub.out) ?_)
                      | (with_reducible refine wl_run (o := ⟨some 38, _, _, _, _, _⟩) rfl (.int .i64 0) (run_remZ (.tmp 35) (.tmp 37) rfl rfl rfl (by decide) hrem.out) ?_)
                      | (with_reducible refine wl_run (o := ⟨some 54, _, _, _, _, _⟩) rfl (.pointer (some ⟨g9, off9 + i * 1, none⟩)) (run_idxO 36 (.tmp 52) (.tmp 53) 9 1 g9 off9 ws.length c i rfl Tryd.underlying36 Tryd.sizeOf9 rfl rfl hlt) ?_)
                      | ((with_reducible refine wl_build1 (o := ⟨some 56, _, _, _, _, _⟩) rfl 36 (.tmp 55) rfl 9 ip (.string ByteArray.empty) (encStr a) Tryd.underlying36 hip hiz his rfl rfl rfl ?_); intro g6 w6 r6 p6 l6 b6; have own6 := own_later own b6; have hwb6 := Nat.le_trans hwb b6.size)
                      | ((at_builtin; with_reducible refine wl_append_at (o := ⟨some 57, _, _, _, _, _⟩) rfl (.tmp 51) (.tmp 56) 36 rfl w.heap.size 9 ip _ 1 16 Tryd.underlying36 hip hiz his hib rfl h01 ov _ _ rfl own6 ⟨g6, 0, none⟩ 1 1 [encStr a] rfl rfl (row_src r6) ho1 hm1 hm2 hwb6 ?_); intro v7 w7 own7 gr7 at7; have B7 : Below w.heap.size w w7 := (BW.trans (b6.mono hwb)).grown gr7 hwb6 (fun k hk => (own6.lt k hk).1); have r37 := (r3.later b6).grownS own6 (by decide) gr7)
                      | (with_reducible refine wl_run (o := ⟨some 31, _, _, _, _, _⟩) rfl (.int .i64 ((i + 1 : Nat) : Int)) (run_addZ (.tmp 30) _ rfl rfl rfl hadd.out) ?_))
                    go_roundw
                    case rel =>
                      refine ⟨i + 1, by omega, by omega, by omega, ?_⟩
                      rw [show i + 1 - 1 = i from rfl, hst.out, OwnW, List.map_append, List.length_append]
                      exact own7
                    case measure => simp [intOf]; omega
                  · replace hst := hide (hst.trans (if_neg (fun c => c.2.elim hl hil)))
                    clear hm0
                    go_wp2_with (first
                      | (with_reducible refine wl_run (o := ⟨some 35, _, _, _, _, _⟩) rfl (.int .i64 ((i - 1 : Nat) : Int)) (run_subZ (.tmp 32) (.tmp 34) rfl rfl rfl hsub.out) ?_)
                      | (with_reducible refine wl_run (o := ⟨some 38, _, _, _, _, _⟩) rfl (.int .i64 0) (run_remZ (.tmp 35) (.tmp 37) rfl rfl rfl (by decide) hrem.out) ?_)
                      | (with_reducible refine wl_run (o := ⟨some 31, _, _, _, _, _⟩) rfl (.int .i64 ((i + 1 : Nat) : Int)) (run_addZ (.tmp 30) _ rfl rfl rfl hadd.out) ?_))
                    go_roundw
                    case rel =>
                      refine ⟨i + 1, by omega, by omega, by omega, ?_⟩
                      rw [show i + 1 - 1 = i from rfl, hst.out]
                      exact own
                    case measure => simp [intOf]; omega
              · have hrem := hide (show (((i - 1 : Nat) : Int)).tmod 2 = 1 by rw [Int.tmod_eq_emod_of_nonneg (by omega)]; omega)
                replace hst := hide (hst.trans (if_neg (fun c => hm0 c.1)))
                clear hm0
                go_wp2_with (first
                  | (with_reducible refine wl_run (o := ⟨some 35, _, _, _, _, _⟩) rfl (.int .i64 ((i - 1 : Nat) : Int)) (run_subZ (.tmp 32) (.tmp 34) rfl rfl rfl hsub.out) ?_)
                  | (with_reducible refine wl_run (o := ⟨some 38, _, _, _, _, _⟩) rfl (.int .i64 1) (run_remZ (.tmp 35) (.tmp 37) rfl rfl rfl (by decide) hrem.out) ?_)
                  | (with_reducible refine wl_run (o := ⟨some 31, _, _, _, _, _⟩) rfl (.int .i64 ((i + 1 : Nat) : Int)) (run_addZ (.tmp 30) _ rfl rfl rfl hadd.out) ?_))
                go_roundw
                case rel =>
                  refine ⟨i + 1, by omega, by omega, by omega, ?_⟩
                  rw [show i + 1 - 1 = i from rfl, hst.out]
                  exact own
                case measure => simp [intOf]; omega
            · obtain rfl : i = ws.length := by omega
              go_wp2_with fail
              go_ret
              exact ⟨_, rfl, own, BW⟩
end Go.Proofs.YtolmomnocfkhoaaDoor

/-
  The document's Same, of equal lists of words. Own work.
-/
namespace Go.Proofs.YtolmomnocfkhoaaDoor
open Go.RowKit Go.Shelf
def SVm6 (ga gb oa ob i c c2 : Nat) (l : List Wd) (a : Wd) (opn : Nat) (v : Value) : Prop :=
  match opn with
  | 0 => v = .slice (some ⟨ga, oa, none⟩) l.length c
  | 1 | 5 => v = .int .i64 (i : Int)
  | 2 => v = .pointer (some ⟨ga, oa + i * 1, none⟩)
  | 3 | 7 => v = encStr a
  | 4 => v = .slice (some ⟨gb, ob, none⟩) l.length c2
  | 6 => v = .pointer (some ⟨gb, ob + i * 1, none⟩)
  | 8 => v = .bool false
  | _ => True

set_option maxRecDepth 100000 in
set_option maxHeartbeats 1000000 in
/-- Same. -/
theorem sameW_any (w : World) (v v2 : Value) (l : List Wd) (h : StV w v l) (h2 : StV w v2 l) (hl : l.length ≤ 60) : Calls Tryd.prog 18 #[v, v2] w fun e w' => e = .returned (.bool true) ∧ Below w.heap.size w w' := by
  obtain ⟨A, c, rfl, x1⟩ := id h
  obtain ⟨A2, c2, rfl, x2⟩ := id h2
  clear x1 x2
  go_enter Tryd.func18, Tryd.ntmps18
  go_wp2_with fail
  go_loopw [5] (fun iv wr => ∃ i : Nat, i ≤ l.length ∧ iv = .int .i64 (i : Int) ∧ Below w.heap.size w wr) (fun iv _ => l.length - (intOf iv).toNat)
  case atStart => exact ⟨0, by omega, rfl, Below.refl _ _⟩
  case round =>
    obtain ⟨i, hi, rfl, BW⟩ := hrel
    have hwb := BW.size
    by_cases hlt : i < l.length
    · have hltI : (i : Int) < (l.length : Int) := by omega
      obtain ⟨a, ha⟩ : ∃ a, l[i]? = some a := ⟨_, List.getElem?_eq_getElem hlt⟩
      obtain ⟨x1, ga, oa, rfl, ca⟩ := (h.later BW).at ha
      obtain ⟨x2, gb, ob, rfl, cb⟩ := (h2.later BW).at ha
      have hac : ∀ w1, Below wr.heap.size wr w1 → w1.cell? ⟨ga, oa + i * 1, none⟩ = some (encStr a) := by
        intro w1 hb1
        rw [Nat.mul_one, ← ca]; exact World.cell?_of_block (hb1.block ga (block_lt_of_cell ca))
      have hbc : ∀ w1, Below wr.heap.size wr w1 → w1.cell? ⟨gb, ob + i * 1, none⟩ = some (encStr a) := by
        intro w1 hb1
        rw [Nat.mul_one, ← cb]; exact World.cell?_of_block (hb1.block gb (block_lt_of_cell cb))
      clear ca cb x1 x2
      replace hlt := hide hlt
      replace ha := hide ha
      replace h := hide h
      replace h2 := hide h2
      go_wp2_with fail
      rename_i K6 hK6
      refine wp_region_vals [] (SVm6 ga gb oa ob i c c2 l a) (fun _ _ wz => Below wr.heap.size wr wz) (by kernel_rfl) (by kernel_rfl) (by kernel_rfl) (by kernel_rfl) (by kernel_rfl) ((Below.refl _ _).drew) ?obs6 ?he6
      case obs6 =>
        refine ⟨?_, ?_, ?_, ?_, ?_, ?_, ?_, ?_, ?_, trivial⟩
        · exact .inl ⟨by kernel_rfl, fun L a1 w1 n h => ⟨_, rfl, run_move (.tmp 0) rfl (h.var n 0 (by kernel_rfl))⟩⟩
        · exact .inl ⟨by kernel_rfl, fun L a1 w1 n h => ⟨_, rfl, run_move (.tmp 5) rfl (h.var n 5 (by kernel_rfl))⟩⟩
        · exact .inl ⟨by kernel_rfl, fun L a1 w1 n h => ⟨_, rfl, run_idxO 36 (.tmp 17) (.tmp 18) 9 1 ga oa l.length c i rfl Tryd.underlying36 Tryd.sizeOf9 (h.dep n 0 17 (by kernel_rfl) rfl) (h.dep n 1 18 (by kernel_rfl) rfl) hlt.out⟩⟩
        · exact .inl ⟨by kernel_rfl, fun L a1 w1 n h => ⟨_, rfl, run_load1 9 (.tmp 19) ga (oa + i * 1) (encStr a) rfl Tryd.isAgg9 (h.dep n 2 19 (by kernel_rfl) rfl) (hac w1 h.inv)⟩⟩
        · exact .inl ⟨by kernel_rfl, fun L a1 w1 n h => ⟨_, rfl, run_move (.tmp 1) rfl (h.var n 1 (by kernel_rfl))⟩⟩
        · exact .inl ⟨by kernel_rfl, fun L a1 w1 n h => ⟨_, rfl, run_move (.tmp 5) rfl (h.var n 5 (by kernel_rfl))⟩⟩
        · exact .inl ⟨by kernel_rfl, fun L a1 w1 n h => ⟨_, rfl, run_idxO 36 (.tmp 21) (.tmp 22) 9 1 gb ob l.length c2 i rfl Tryd.underlying36 Tryd.sizeOf9 (h.dep n 4 21 (by kernel_rfl) rfl) (h.dep n 5 22 (by kernel_rfl) rfl) hlt.out⟩⟩
        · exact .inl ⟨by kernel_rfl, fun L a1 w1 n h => ⟨_, rfl, run_load1 9 (.tmp 23) gb (ob + i * 1) (encStr a) rfl Tryd.isAgg9 (h.dep n 6 23 (by kernel_rfl) rfl) (hbc w1 h.inv)⟩⟩
        · exact .inl ⟨by kernel_rfl, fun L a1 w1 n h => ⟨_, rfl, run_neStr (.tmp 20) (.tmp 24) rfl (h.dep n 3 20 (by kernel_rfl) rfl) (h.dep n 7 24 (by kernel_rfl) rfl) (by simp)⟩⟩
      case he6 =>
        intro V w11 hV hJ
        have b11 : Below wr.heap.size wr w11 := hJ
        have hE : V 8 = .bool false := hV 8 _ rfl
        clear hV hJ
        simp only [putOps, List.setIfInBounds_toArray, List.set_cons_succ, List.set_cons_zero, Nat.reduceAdd]
        rw [hE]
        refine hK6 _ _ ?_
        have B11 := BW.trans (b11.mono hwb)
        go_wp2_with fail
        go_roundw
        case rel =>
          exact ⟨i + 1, by have := hlt.out; omega, by go_num, B11⟩
        case measure => have := hlt.out; simp [intOf]; omega
    · obtain rfl : i = l.length := by omega
      go_wp2_with fail
      go_ret
      exact ⟨rfl, BW⟩
end Go.Proofs.YtolmomnocfkhoaaDoor

/-
  The document's Check. Own work.
-/
namespace Go.Proofs.YtolmomnocfkhoaaDoor
open Go.RowKit Go.Shelf
theorem builtRf0 : Tryd.prog.built 30 [] = some (rsC sp0).toArray := by kernel_rfl
theorem zeroRf0 : (Tryd.prog.info? 30).map (fun i => i.zero) = some (some (.agg (rsC sp0).toArray)) := by kernel_rfl
theorem szRs (x : Sp) : (Tryd.prog.info? 30).map (·.size) = some (rsC x).length := by kernel_rfl
theorem oneRs (x : Sp) : ∀ u ∈ rsC x, u.oneCell' = true := by simp [Value.oneCell']
set_option maxRecDepth 100000 in
set_option maxHeartbeats 16000000 in
theorem checkR_any (w : World) (v : Value) (ws : List Wd) (h : StV w v ws) (hs : Short ws) : Calls Tryd.prog 17 #[v] w fun e w' => e = .returned (.tuple #[.agg (rsC (chkL ws).1).toArray, encStr (chkL ws).2]) ∧ Below w.heap.size w w' := by
  have hb0 := builtRf0
  have HK := fun w2 (hb : Below w.heap.size w w2) => keysR_any w2 v ws (h.later hb) hs
  obtain ⟨A, c, rfl, x1⟩ := id h
  clear x1
  cases ws with
  | nil =>
    show Calls _ _ _ _ fun e w' => e = .returned (.tuple #[.agg (rsC sp0).toArray, encStr eUnk]) ∧ _
    clear h hs HK
    go_enter Tryd.func17, Tryd.ntmps17
    go_wp2_with (first
      | (with_reducible refine wl_alloc (o := ⟨some 2, _, _, _, _, _⟩) rfl 30 _ (rsC sp0) rfl zeroRf0 rfl ?_; intro g2 w2 r2 p2 l2 b2)
      | (with_reducible refine wl_build (o := ⟨some 13, _, _, _, _, _⟩) rfl 30 [] rfl [] rfl (rsC sp0) hb0 ?_)
      | (with_reducible refine wl_store_row rfl 30 (.tmp 2) (.tmp 13) g2 30 _ (rsC sp0) rfl rfl rfl r2 (szRs sp0) rfl (oneRs sp0) ?_; intro w9 r9 o9))
    refine bodyPost_ret (v := .tuple #[.agg (rsC sp0).toArray, encStr eUnk]) ?_ rfl ⟨rfl, b2.trans ((o9.below p2).mono (Nat.le_refl _))⟩
    exact results_rt2 Tryd.results17 _ _ g2 30 _ _ _ rfl r9 Tryd.underlying30 rfl (szRs sp0) rfl
  | cons n r =>
    obtain ⟨x1, g, off, rfl, c0⟩ := h.at (i := 0) (a := n) rfl
    clear x1
    rw [Nat.add_zero] at c0
    have hlen : n.length ≤ 1000000 := Nat.le_trans (hs.2 n (by simp)) (by decide)
    have h60 := hs.1
    have hlt0 : 0 < (n :: r).length := by rw [List.length_cons]; omega
    have hlI : ((n :: r).length : Int) ≠ 0 := by omega
    have hlI2 : ¬ ((n :: r).length : Int) = 0 := hlI
    have hlI3 : (((n :: r).length : Int) == 0) = false := by simpa using hlI
    have HV := fun w => rfind_any w n hlen
    obtain ⟨h1, h2⟩ := row_spec (upL n)
    rw [h1, h2] at HV
    have hkn : knW (n :: r) = isName (upL n) := rfl
    have hsp : spW (n :: r) = specL (upL n) := rfl
    have hc0 : ∀ wz, Below w.heap.size w wz → wz.cell? ⟨g, off, none⟩ = some (encStr n) := fun wz hb => by
      rw [← c0]; exact World.cell?_of_block (hb.block g (block_lt_of_cell c0))
    unfold chkL
    rw [hkn, hsp]
    clear hkn hsp h1 h2 hlen hs c0
    generalize specL (upL n) = x at *
    generalize isName (upL n) = kn at *
    generalize hws : n :: r = ws at *
    obtain ⟨kl, hkl⟩ : ∃ kl, kl = keysL ws := ⟨_, rfl⟩
    rw [← hkl] at HK ⊢
    obtain ⟨lo, hlo⟩ : ∃ lo, lo = ws.any longW := ⟨_, rfl⟩
    obtain ⟨bk, hbk⟩ : ∃ bk, bk = kl.any badW := ⟨_, rfl⟩
    obtain ⟨tk, htk⟩ : ∃ tk, tk = tkS x ws.length := ⟨_, rfl⟩
    have hk60 : kl.length ≤ 60 := by rw [hkl]; exact Nat.le_trans keysL_len h60
    rw [← hlo, ← hbk, ← htk]
    clear hws hkl
    replace hlo := hide hlo
    replace hbk := hide hbk
    replace h := hide h
    obtain ⟨f, l, s, nm, mn, mx, wr9, od, ev⟩ := x
    cases kn with
    | false =>
      show Calls _ _ _ _ fun e w' => e = .returned (.tuple #[.agg (rsC sp0).toArray, encStr eUnk]) ∧ _
      clear HK htk hlo hbk
      go_enter Tryd.func17, Tryd.ntmps17
      go_wp2_with (first
        | (with_reducible refine wl_alloc (o := ⟨some 2, _, _, _, _, _⟩) rfl 30 _ (rsC sp0) rfl zeroRf0 rfl ?_; intro g2 w2 r2 p2 l2 b2; have c2 := hc0 w2 b2)
        | (with_reducible refine wl_run (o := ⟨some 16, _, _, _, _, _⟩) rfl (.pointer (some ⟨g, off, none⟩)) (run_idxO0 36 (.tmp 15) _ 9 1 g off ws.length c rfl Tryd.underlying36 Tryd.sizeOf9 rfl rfl hlt0) ?_))
      refine (HV w2).mono ?_
      rintro e w3 ⟨rfl, b3⟩
      have B3 : Below w.heap.size w w3 := b2.trans (b3.mono b2.size)
      have r23 := r2.later b3
      clear HV c2
      go_wp2_with (first
        | (with_reducible refine wl_alloc (o := ⟨some 4, _, _, _, _, _⟩) rfl 30 _ (rsC sp0) rfl zeroRf0 rfl ?_; intro g4 w4 r4 p4 l4 b4)
        | (with_reducible refine wl_store_row rfl 30 (.tmp 4) (.tmp 19) g4 30 _ ([encStr nm, .int .i64 mn, .int .i64 mx, .bool wr9, .int .i64 f, .int .i64 l, .int .i64 s, .bool od, .bool ev]) rfl rfl rfl r4 (szRf _ _ _ _ _ _ _ _ _) rfl (by simp [Value.oneCell']) ?_; intro w5 r5 o5; have B5 : Below w.heap.size w w5 := B3.trans ((b4.trans (o5.below p4)).mono B3.size); have r25 := (r23.later b4).only o5 (Nat.ne_of_lt (Nat.lt_of_lt_of_le r23.lt p4)); have c1 := r5.cell (j := 1) rfl; have c2 := r5.cell (j := 2) rfl; have c7 := r5.cell (j := 7) rfl; have c8 := r5.cell (j := 8) rfl)
        | (with_reducible refine wl_build (o := ⟨some 23, _, _, _, _, _⟩) rfl 30 [] rfl [] rfl (rsC sp0) hb0 ?_)
        | (with_reducible refine wl_store_row rfl 30 (.tmp 2) (.tmp 23) g2 30 _ (rsC sp0) rfl rfl rfl r25 (szRs sp0) rfl (oneRs sp0) ?_; intro w9 r9 o9))
      refine bodyPost_ret (v := .tuple #[.agg (rsC sp0).toArray, encStr eUnk]) ?_ rfl ⟨rfl, B5.trans ((o9.below p2).mono (Nat.le_refl _))⟩
      exact results_rt2 Tryd.results17 _ _ g2 30 _ _ _ rfl r9 Tryd.underlying30 rfl (szRs sp0) rfl
    | true =>
    by_cases h1 : mn ≤ (ws.length : Int)
    · have hmn : ¬ (ws.length : Int) < mn := by omega
      by_cases h3 : (ws.length : Int) ≤ mx
      · have hmx : ¬ mx < (ws.length : Int) := by omega
        by_cases hp : ws.length % 2 = 1
        · have hrem := hide (show ((ws.length : Int)).tmod 2 = 1 by rw [Int.tmod_eq_emod_of_nonneg (by omega)]; omega)
          cases od <;> cases ev
          · -- 1 false false
            obtain rfl : tk = true := by rw [htk]; unfold tkS; rw [decide_eq_true h1, decide_eq_true h3, decide_eq_true hp]; rfl
            clear h1 h3 htk hp
            go_enter Tryd.func17, Tryd.ntmps17
            go_wp2_with (first
              | (with_reducible refine wl_alloc (o := ⟨some 2, _, _, _, _, _⟩) rfl 30 _ (rsC sp0) rfl zeroRf0 rfl ?_; intro g2 w2 r2 p2 l2 b2; have c2 := hc0 w2 b2)
              | (with_reducible refine wl_run (o := ⟨some 16, _, _, _, _, _⟩) rfl (.pointer (some ⟨g, off, none⟩)) (run_idxO0 36 (.tmp 15) _ 9 1 g off ws.length c rfl Tryd.underlying36 Tryd.sizeOf9 rfl rfl hlt0) ?_))
            refine (HV w2).mono ?_
            rintro e w3 ⟨rfl, b3⟩
            have B3 : Below w.heap.size w w3 := b2.trans (b3.mono b2.size)
            have r23 := r2.later b3
            clear HV c2
            go_wp2_with (first
              | (with_reducible refine wl_alloc (o := ⟨some 4, _, _, _, _, _⟩) rfl 30 _ (rsC sp0) rfl zeroRf0 rfl ?_; intro g4 w4 r4 p4 l4 b4)
              | (with_reducible refine wl_store_row rfl 30 (.tmp 4) (.tmp 19) g4 30 _ ([encStr nm, .int .i64 mn, .int .i64 mx, .bool wr9, .int .i64 f, .int .i64 l, .int .i64 s, .bool false, .bool false]) rfl rfl rfl r4 (szRf _ _ _ _ _ _ _ _ _) rfl (by simp [Value.oneCell']) ?_; intro w5 r5 o5; have B5 : Below w.heap.size w w5 := B3.trans ((b4.trans (o5.below p4)).mono B3.size); have r25 := (r23.later b4).only o5 (Nat.ne_of_lt (Nat.lt_of_lt_of_le r23.lt p4)); have c1 := r5.cell (j := 1) rfl; have c2 := r5.cell (j := 2) rfl; have c7 := r5.cell (j := 7) rfl; have c8 := r5.cell (j := 8) rfl)
              | (with_reducible refine wg_run (o := ⟨some 41, _, _, _, _, _⟩) 13 true 39 rfl rfl rfl (.int .i64 1) (run_remZ (.tmp 40) _ rfl rfl rfl (by decide) hrem.out) ?_)
              | (with_reducible refine wg_run (o := ⟨some 50, _, _, _, _, _⟩) 22 true 48 rfl rfl rfl (.int .i64 1) (run_remZ (.tmp 49) _ rfl rfl rfl (by decide) hrem.out) ?_))
            clear c1 c2 c7 c8 b2 b3 b4 p4 l4 r23 r4 o5 hmn hmx hrem
            go_loopw [7] (fun iv wr => ∃ i : Nat, i ≤ ws.length ∧ iv = .int .i64 (i : Int) ∧ (∀ (j : Nat) (a : Wd), j < i → ws[j]? = some a → longW a = false) ∧ w5 = wr) (fun iv _ => ws.length - (intOf iv).toNat)
            case atStart => exact ⟨0, Nat.zero_le _, rfl, fun j a hj => by omega, rfl⟩
            case round =>
              obtain ⟨i, hi, rfl, hok, rfl⟩ := hrel
              by_cases hlt : i < ws.length
              · have hltI : (i : Int) < (ws.length : Int) := by omega
                obtain ⟨a, ha⟩ : ∃ a, ws[i]? = some a := ⟨_, List.getElem?_eq_getElem hlt⟩
                obtain ⟨x1, g9, off9, eA, c9⟩ := (h.out.later B5).at ha
                injection eA with eA
                injection eA with e1 e2
                subst e1
                subst e2
                clear x1
                have hsz := str_len a
                replace hok := hide hok
                replace ha := hide ha
                by_cases hl : 512 < a.length
                · have hlI : (512 : Int) < (a.length : Int) := by omega
                  have e1 : lo = true := by rw [hlo.out]; exact List.any_eq_true.2 ⟨a, List.mem_of_getElem? ha.out, decide_eq_true hl⟩
                  replace e1 := hide e1
                  clear hl
                  go_wp2_with (first
                    | (with_reducible refine wl_run (o := ⟨some 62, _, _, _, _, _⟩) rfl (.pointer (some ⟨g, off + i * 1, none⟩)) (run_idxO 36 (.tmp 60) (.tmp 61) 9 1 g off ws.length c i rfl Tryd.underlying36 Tryd.sizeOf9 rfl rfl hlt) ?_)
                    | (with_reducible refine wl_build (o := ⟨some 66, _, _, _, _, _⟩) rfl 30 [] rfl [] rfl (rsC sp0) hb0 ?_)
                    | (with_reducible refine wl_store_row rfl 30 (.tmp 2) (.tmp 66) g2 30 _ (rsC sp0) rfl rfl rfl r25 (szRs sp0) rfl (oneRs sp0) ?_; intro w9 r9 o9))
                  refine bodyPost_ret (v := .tuple #[.agg (rsC sp0).toArray, encStr eLng]) ?_ rfl ⟨by rw [e1.out]; rfl, B5.trans ((o9.below p2).mono (Nat.le_refl _))⟩
                  exact results_rt2 Tryd.results17 _ _ g2 30 _ _ _ rfl r9 Tryd.underlying30 rfl (szRs sp0) rfl
                · have hlI : ¬ (512 : Int) < (a.length : Int) := by omega
                  replace hl := hide hl
                  go_wp2_with (first
                    | (with_reducible refine wl_run (o := ⟨some 62, _, _, _, _, _⟩) rfl (.pointer (some ⟨g, off + i * 1, none⟩)) (run_idxO 36 (.tmp 60) (.tmp 61) 9 1 g off ws.length c i rfl Tryd.underlying36 Tryd.sizeOf9 rfl rfl hlt) ?_))
                  go_roundw
                  case rel =>
                    refine ⟨i + 1, by omega, by go_num, fun j b hj hb => ?_, trivial⟩
                    by_cases h1 : j = i
                    · subst h1
                      rw [ha.out] at hb
                      rw [← Option.some.inj hb]; exact decide_eq_false hl.out
                    · exact hok.out j b (by omega) hb
                  case measure => simp [intOf]; omega
              · obtain rfl : i = ws.length := by omega
                have e1 : lo = false := by
                  rw [hlo.out]
                  refine List.any_eq_false.2 fun a ha => ?_
                  obtain ⟨j, hj⟩ := List.getElem?_of_mem ha
                  rw [hok j a (List.getElem?_eq_some_iff.1 hj).1 hj]
                  exact Bool.noConfusion
                replace e1 := hide e1
                clear hok hi hlt
                go_wp2_with fail
                refine (HK w5 B5).mono ?_
                rintro e w6 ⟨vk, rfl, ok, b6⟩
                clear HK
                have B6 : Below w.heap.size w w6 := B5.trans (b6.mono B5.size)
                have r26 := r25.later b6
                have r46 := r5.later b6
                have hk := own_stv ok
                clear ok r25 r5 b6
                obtain ⟨A3, c3, rfl, x9⟩ := id hk
                clear x9
                replace hk := hide hk
                go_wp2_with fail
                go_loopw [9] (fun iv wr => ∃ i : Nat, i ≤ kl.length ∧ iv = .int .i64 (i : Int) ∧ (∀ (j : Nat) (a : Wd), j < i → kl[j]? = some a → badW a = false) ∧ w6 = wr) (fun iv _ => kl.length - (intOf iv).toNat)
                case atStart => exact ⟨0, Nat.zero_le _, rfl, fun j a hj => by omega, rfl⟩
                case round =>
                  obtain ⟨i, hi, rfl, hok, rfl⟩ := hrel
                  by_cases hlt : i < kl.length
                  · have hltI : (i : Int) < (kl.length : Int) := by omega
                    obtain ⟨a, ha⟩ : ∃ a, kl[i]? = some a := ⟨_, List.getElem?_eq_getElem hlt⟩
                    obtain ⟨x1, g8, off8, rfl, c9⟩ := hk.out.at ha
                    clear x1
                    have hsz := str_len a
                    replace hok := hide hok
                    replace ha := hide ha
                    by_cases h1 : a.length < 1
                    · have h1I : (a.length : Int) < (1 : Int) := by omega
                      have e2 : bk = true := by rw [hbk.out]; exact List.any_eq_true.2 ⟨a, List.mem_of_getElem? ha.out, by unfold badW; rw [decide_eq_true h1]; rfl⟩
                      replace e2 := hide e2
                      clear h1
                      go_wp2_with (first
                        | (with_reducible refine wl_run (o := ⟨some 77, _, _, _, _, _⟩) rfl (.pointer (some ⟨g8, off8 + i * 1, none⟩)) (run_idxO 36 (.tmp 75) (.tmp 76) 9 1 g8 off8 kl.length c3 i rfl Tryd.underlying36 Tryd.sizeOf9 rfl rfl hlt) ?_)
                        | (with_reducible refine wl_build (o := ⟨some 89, _, _, _, _, _⟩) rfl 30 [] rfl [] rfl (rsC sp0) hb0 ?_)
                        | (with_reducible refine wl_store_row rfl 30 (.tmp 2) (.tmp 89) g2 30 _ (rsC sp0) rfl rfl rfl r26 (szRs sp0) rfl (oneRs sp0) ?_; intro w9 r9 o9))
                      refine bodyPost_ret (v := .tuple #[.agg (rsC sp0).toArray, encStr eKey]) ?_ rfl ⟨by rw [e1.out, e2.out]; rfl, B6.trans ((o9.below p2).mono (Nat.le_refl _))⟩
                      exact results_rt2 Tryd.results17 _ _ g2 30 _ _ _ rfl r9 Tryd.underlying30 rfl (szRs sp0) rfl
                    · have h1I : ¬ (a.length : Int) < (1 : Int) := by omega
                      by_cases h2 : 64 < a.length
                      · have h2I : (64 : Int) < (a.length : Int) := by omega
                        have e2 : bk = true := by rw [hbk.out]; exact List.any_eq_true.2 ⟨a, List.mem_of_getElem? ha.out, by unfold badW; rw [decide_eq_true h2, Bool.or_true]⟩
                        replace e2 := hide e2
                        clear h1 h2
                        go_wp2_with (first
                          | (with_reducible refine wl_run (o := ⟨some 77, _, _, _, _, _⟩) rfl (.pointer (some ⟨g8, off8 + i * 1, none⟩)) (run_idxO 36 (.tmp 75) (.tmp 76) 9 1 g8 off8 kl.length c3 i rfl Tryd.underlying36 Tryd.sizeOf9 rfl rfl hlt) ?_)
                          | (with_reducible refine wg_run (o := ⟨some 84, _, _, _, _, _⟩) 6 false 81 rfl rfl rfl (.pointer (some ⟨g8, off8 + i * 1, none⟩)) (run_idxO 36 (.tmp 82) (.tmp 83) 9 1 g8 off8 kl.length c3 i rfl Tryd.underlying36 Tryd.sizeOf9 rfl rfl hlt) ?_)
                          | (with_reducible refine wl_build (o := ⟨some 89, _, _, _, _, _⟩) rfl 30 [] rfl [] rfl (rsC sp0) hb0 ?_)
                          | (with_reducible refine wl_store_row rfl 30 (.tmp 2) (.tmp 89) g2 30 _ (rsC sp0) rfl rfl rfl r26 (szRs sp0) rfl (oneRs sp0) ?_; intro w9 r9 o9))
                        refine bodyPost_ret (v := .tuple #[.agg (rsC sp0).toArray, encStr eKey]) ?_ rfl ⟨by rw [e1.out, e2.out]; rfl, B6.trans ((o9.below p2).mono (Nat.le_refl _))⟩
                        exact results_rt2 Tryd.results17 _ _ g2 30 _ _ _ rfl r9 Tryd.underlying30 rfl (szRs sp0) rfl
                      · have h2I : ¬ (64 : Int) < (a.length : Int) := by omega
                        have hbd := hide (show badW a = false by unfold badW; rw [decide_eq_false h1, decide_eq_false h2]; rfl)
                        clear h1 h2
                        go_wp2_with (first
                          | (with_reducible refine wl_run (o := ⟨some 77, _, _, _, _, _⟩) rfl (.pointer (some ⟨g8, off8 + i * 1, none⟩)) (run_idxO 36 (.tmp 75) (.tmp 76) 9 1 g8 off8 kl.length c3 i rfl Tryd.underlying36 Tryd.sizeOf9 rfl rfl hlt) ?_)
                          | (with_reducible refine wg_run (o := ⟨some 84, _, _, _, _, _⟩) 6 false 81 rfl rfl rfl (.pointer (some ⟨g8, off8 + i * 1, none⟩)) (run_idxO 36 (.tmp 82) (.tmp 83) 9 1 g8 off8 kl.length c3 i rfl Tryd.underlying36 Tryd.sizeOf9 rfl rfl hlt) ?_))
                        go_roundw
                        case rel =>
                          refine ⟨i + 1, by omega, by go_num, fun j b hj hb => ?_, trivial⟩
                          by_cases h1 : j = i
                          · subst h1
                            rw [ha.out] at hb
                            rw [← Option.some.inj hb]; exact hbd.out
                          · exact hok.out j b (by omega) hb
                        case measure => simp [intOf]; omega
                  · obtain rfl : i = kl.length := by omega
                    have e2 : bk = false := by
                      rw [hbk.out]
                      refine List.any_eq_false.2 fun a ha => ?_
                      obtain ⟨j, hj⟩ := List.getElem?_of_mem ha
                      rw [hok j a (List.getElem?_eq_some_iff.1 hj).1 hj]
                      exact Bool.noConfusion
                    replace e2 := hide e2
                    clear hok hi hlt
                    go_wp2_with (first
                      | (with_reducible refine wl_load_row (o := ⟨some 90, _, _, _, _, _⟩) rfl 30 (.tmp 4) g4 30 ([encStr nm, .int .i64 mn, .int .i64 mx, .bool wr9, .int .i64 f, .int .i64 l, .int .i64 s, .bool false, .bool false]) _ rfl rfl r46 Tryd.underlying30 rfl (szRf _ _ _ _ _ _ _ _ _) ?_)
                      | (with_reducible refine wl_store_row rfl 30 (.tmp 2) (.tmp 90) g2 30 _ ([encStr nm, .int .i64 mn, .int .i64 mx, .bool wr9, .int .i64 f, .int .i64 l, .int .i64 s, .bool false, .bool false]) rfl rfl rfl r26 (szRf _ _ _ _ _ _ _ _ _) rfl (by simp [Value.oneCell']) ?_; intro w9 r9 o9))
                    refine bodyPost_ret (v := .tuple #[.agg ([encStr nm, .int .i64 mn, .int .i64 mx, .bool wr9, .int .i64 f, .int .i64 l, .int .i64 s, .bool false, .bool false]).toArray, encStr []]) ?_ rfl ⟨by rw [e1.out, e2.out]; rfl, B6.trans ((o9.below p2).mono (Nat.le_refl _))⟩
                    exact results_rt2 Tryd.results17 _ _ g2 30 _ _ _ rfl r9 Tryd.underlying30 rfl (szRf _ _ _ _ _ _ _ _ _) rfl
          · -- 1 false true
            obtain rfl : tk = false := by rw [htk]; unfold tkS; rw [decide_eq_true h1, decide_eq_true h3, decide_eq_true hp]; rfl
            clear h1 h3 htk hp
            show Calls _ _ _ _ fun e w' => e = .returned (.tuple #[.agg (rsC sp0).toArray, encStr eNum]) ∧ _
            clear HK
            go_enter Tryd.func17, Tryd.ntmps17
            go_wp2_with (first
              | (with_reducible refine wl_alloc (o := ⟨some 2, _, _, _, _, _⟩) rfl 30 _ (rsC sp0) rfl zeroRf0 rfl ?_; intro g2 w2 r2 p2 l2 b2; have c2 := hc0 w2 b2)
              | (with_reducible refine wl_run (o := ⟨some 16, _, _, _, _, _⟩) rfl (.pointer (some ⟨g, off, none⟩)) (run_idxO0 36 (.tmp 15) _ 9 1 g off ws.length c rfl Tryd.underlying36 Tryd.sizeOf9 rfl rfl hlt0) ?_))
            refine (HV w2).mono ?_
            rintro e w3 ⟨rfl, b3⟩
            have B3 : Below w.heap.size w w3 := b2.trans (b3.mono b2.size)
            have r23 := r2.later b3
            clear HV c2
            go_wp2_with (first
              | (with_reducible refine wl_alloc (o := ⟨some 4, _, _, _, _, _⟩) rfl 30 _ (rsC sp0) rfl zeroRf0 rfl ?_; intro g4 w4 r4 p4 l4 b4)
              | (with_reducible refine wl_store_row rfl 30 (.tmp 4) (.tmp 19) g4 30 _ ([encStr nm, .int .i64 mn, .int .i64 mx, .bool wr9, .int .i64 f, .int .i64 l, .int .i64 s, .bool false, .bool true]) rfl rfl rfl r4 (szRf _ _ _ _ _ _ _ _ _) rfl (by simp [Value.oneCell']) ?_; intro w5 r5 o5; have B5 : Below w.heap.size w w5 := B3.trans ((b4.trans (o5.below p4)).mono B3.size); have r25 := (r23.later b4).only o5 (Nat.ne_of_lt (Nat.lt_of_lt_of_le r23.lt p4)); have c1 := r5.cell (j := 1) rfl; have c2 := r5.cell (j := 2) rfl; have c7 := r5.cell (j := 7) rfl; have c8 := r5.cell (j := 8) rfl)
              | (with_reducible refine wg_run (o := ⟨some 41, _, _, _, _, _⟩) 13 true 39 rfl rfl rfl (.int .i64 1) (run_remZ (.tmp 40) _ rfl rfl rfl (by decide) hrem.out) ?_)
              | (with_reducible refine wg_run (o := ⟨some 50, _, _, _, _, _⟩) 22 true 48 rfl rfl rfl (.int .i64 1) (run_remZ (.tmp 49) _ rfl rfl rfl (by decide) hrem.out) ?_)
              | (with_reducible refine wl_build (o := ⟨some 54, _, _, _, _, _⟩) rfl 30 [] rfl [] rfl (rsC sp0) hb0 ?_)
              | (with_reducible refine wl_store_row rfl 30 (.tmp 2) (.tmp 54) g2 30 _ (rsC sp0) rfl rfl rfl r25 (szRs sp0) rfl (oneRs sp0) ?_; intro w9 r9 o9))
            refine bodyPost_ret (v := .tuple #[.agg (rsC sp0).toArray, encStr eNum]) ?_ rfl ⟨rfl, B5.trans ((o9.below p2).mono (Nat.le_refl _))⟩
            exact results_rt2 Tryd.results17 _ _ g2 30 _ _ _ rfl r9 Tryd.underlying30 rfl (szRs sp0) rfl
          · -- 1 true false
            obtain rfl : tk = true := by rw [htk]; unfold tkS; rw [decide_eq_true h1, decide_eq_true h3, decide_eq_true hp]; rfl
            clear h1 h3 htk hp
            go_enter Tryd.func17, Tryd.ntmps17
            go_wp2_with (first
              | (with_reducible refine wl_alloc (o := ⟨some 2, _, _, _, _, _⟩) rfl 30 _ (rsC sp0) rfl zeroRf0 rfl ?_; intro g2 w2 r2 p2 l2 b2; have c2 := hc0 w2 b2)
              | (with_reducible refine wl_run (o := ⟨some 16, _, _, _, _, _⟩) rfl (.pointer (some ⟨g, off, none⟩)) (run_idxO0 36 (.tmp 15) _ 9 1 g off ws.length c rfl Tryd.underlying36 Tryd.sizeOf9 rfl rfl hlt0) ?_))
            refine (HV w2).mono ?_
            rintro e w3 ⟨rfl, b3⟩
            have B3 : Below w.heap.size w w3 := b2.trans (b3.mono b2.size)
            have r23 := r2.later b3
            clear HV c2
            go_wp2_with (first
              | (with_reducible refine wl_alloc (o := ⟨some 4, _, _, _, _, _⟩) rfl 30 _ (rsC sp0) rfl zeroRf0 rfl ?_; intro g4 w4 r4 p4 l4 b4)
              | (with_reducible refine wl_store_row rfl 30 (.tmp 4) (.tmp 19) g4 30 _ ([encStr nm, .int .i64 mn, .int .i64 mx, .bool wr9, .int .i64 f, .int .i64 l, .int .i64 s, .bool true, .bool false]) rfl rfl rfl r4 (szRf _ _ _ _ _ _ _ _ _) rfl (by simp [Value.oneCell']) ?_; intro w5 r5 o5; have B5 : Below w.heap.size w w5 := B3.trans ((b4.trans (o5.below p4)).mono B3.size); have r25 := (r23.later b4).only o5 (Nat.ne_of_lt (Nat.lt_of_lt_of_le r23.lt p4)); have c1 := r5.cell (j := 1) rfl; have c2 := r5.cell (j := 2) rfl; have c7 := r5.cell (j := 7) rfl; have c8 := r5.cell (j := 8) rfl)
              | (with_reducible refine wg_run (o := ⟨some 41, _, _, _, _, _⟩) 13 true 39 rfl rfl rfl (.int .i64 1) (run_remZ (.tmp 40) _ rfl rfl rfl (by decide) hrem.out) ?_)
              | (with_reducible refine wg_run (o := ⟨some 50, _, _, _, _, _⟩) 22 true 48 rfl rfl rfl (.int .i64 1) (run_remZ (.tmp 49) _ rfl rfl rfl (by decide) hrem.out) ?_))
            clear c1 c2 c7 c8 b2 b3 b4 p4 l4 r23 r4 o5 hmn hmx hrem
            go_loopw [7] (fun iv wr => ∃ i : Nat, i ≤ ws.length ∧ iv = .int .i64 (i : Int) ∧ (∀ (j : Nat) (a : Wd), j < i → ws[j]? = some a → longW a = false) ∧ w5 = wr) (fun iv _ => ws.length - (intOf iv).toNat)
            case atStart => exact ⟨0, Nat.zero_le _, rfl, fun j a hj => by omega, rfl⟩
            case round =>
              obtain ⟨i, hi, rfl, hok, rfl⟩ := hrel
              by_cases hlt : i < ws.length
              · have hltI : (i : Int) < (ws.length : Int) := by omega
                obtain ⟨a, ha⟩ : ∃ a, ws[i]? = some a := ⟨_, List.getElem?_eq_getElem hlt⟩
                obtain ⟨x1, g9, off9, eA, c9⟩ := (h.out.later B5).at ha
                injection eA with eA
                injection eA with e1 e2
                subst e1
                subst e2
                clear x1
                have hsz := str_len a
                replace hok := hide hok
                replace ha := hide ha
                by_cases hl : 512 < a.length
                · have hlI : (512 : Int) < (a.length : Int) := by omega
                  have e1 : lo = true := by rw [hlo.out]; exact List.any_eq_true.2 ⟨a, List.mem_of_getElem? ha.out, decide_eq_true hl⟩
                  replace e1 := hide e1
                  clear hl
                  go_wp2_with (first
                    | (with_reducible refine wl_run (o := ⟨some 62, _, _, _, _, _⟩) rfl (.pointer (some ⟨g, off + i * 1, none⟩)) (run_idxO 36 (.tmp 60) (.tmp 61) 9 1 g off ws.length c i rfl Tryd.underlying36 Tryd.sizeOf9 rfl rfl hlt) ?_)
                    | (with_reducible refine wl_build (o := ⟨some 66, _, _, _, _, _⟩) rfl 30 [] rfl [] rfl (rsC sp0) hb0 ?_)
                    | (with_reducible refine wl_store_row rfl 30 (.tmp 2) (.tmp 66) g2 30 _ (rsC sp0) rfl rfl rfl r25 (szRs sp0) rfl (oneRs sp0) ?_; intro w9 r9 o9))
                  refine bodyPost_ret (v := .tuple #[.agg (rsC sp0).toArray, encStr eLng]) ?_ rfl ⟨by rw [e1.out]; rfl, B5.trans ((o9.below p2).mono (Nat.le_refl _))⟩
                  exact results_rt2 Tryd.results17 _ _ g2 30 _ _ _ rfl r9 Tryd.underlying30 rfl (szRs sp0) rfl
                · have hlI : ¬ (512 : Int) < (a.length : Int) := by omega
                  replace hl := hide hl
                  go_wp2_with (first
                    | (with_reducible refine wl_run (o := ⟨some 62, _, _, _, _, _⟩) rfl (.pointer (some ⟨g, off + i * 1, none⟩)) (run_idxO 36 (.tmp 60) (.tmp 61) 9 1 g off ws.length c i rfl Tryd.underlying36 Tryd.sizeOf9 rfl rfl hlt) ?_))
                  go_roundw
                  case rel =>
                    refine ⟨i + 1, by omega, by go_num, fun j b hj hb => ?_, trivial⟩
                    by_cases h1 : j = i
                    · subst h1
                      rw [ha.out] at hb
                      rw [← Option.some.inj hb]; exact decide_eq_false hl.out
                    · exact hok.out j b (by omega) hb
                  case measure => simp [intOf]; omega
              · obtain rfl : i = ws.length := by omega
                have e1 : lo = false := by
                  rw [hlo.out]
                  refine List.any_eq_false.2 fun a ha => ?_
                  obtain ⟨j, hj⟩ := List.getElem?_of_mem ha
                  rw [hok j a (List.getElem?_eq_some_iff.1 hj).1 hj]
                  exact Bool.noConfusion
                replace e1 := hide e1
                clear hok hi hlt
                go_wp2_with fail
                refine (HK w5 B5).mono ?_
                rintro e w6 ⟨vk, rfl, ok, b6⟩
                clear HK
                have B6 : Below w.heap.size w w6 := B5.trans (b6.mono B5.size)
                have r26 := r25.later b6
                have r46 := r5.later b6
                have hk := own_stv ok
                clear ok r25 r5 b6
                obtain ⟨A3, c3, rfl, x9⟩ := id hk
                clear x9
                replace hk := hide hk
                go_wp2_with fail
                go_loopw [9] (fun iv wr => ∃ i : Nat, i ≤ kl.length ∧ iv = .int .i64 (i : Int) ∧ (∀ (j : Nat) (a : Wd), j < i → kl[j]? = some a → badW a = false) ∧ w6 = wr) (fun iv _ => kl.length - (intOf iv).toNat)
                case atStart => exact ⟨0, Nat.zero_le _, rfl, fun j a hj => by omega, rfl⟩
                case round =>
                  obtain ⟨i, hi, rfl, hok, rfl⟩ := hrel
                  by_cases hlt : i < kl.length
                  · have hltI : (i : Int) < (kl.length : Int) := by omega
                    obtain ⟨a, ha⟩ : ∃ a, kl[i]? = some a := ⟨_, List.getElem?_eq_getElem hlt⟩
                    obtain ⟨x1, g8, off8, rfl, c9⟩ := hk.out.at ha
                    clear x1
                    have hsz := str_len a
                    replace hok := hide hok
                    replace ha := hide ha
                    by_cases h1 : a.length < 1
                    · have h1I : (a.length : Int) < (1 : Int) := by omega
                      have e2 : bk = true := by rw [hbk.out]; exact List.any_eq_true.2 ⟨a, List.mem_of_getElem? ha.out, by unfold badW; rw [decide_eq_true h1]; rfl⟩
                      replace e2 := hide e2
                      clear h1
                      go_wp2_with (first
                        | (with_reducible refine wl_run (o := ⟨some 77, _, _, _, _, _⟩) rfl (.pointer (some ⟨g8, off8 + i * 1, none⟩)) (run_idxO 36 (.tmp 75) (.tmp 76) 9 1 g8 off8 kl.length c3 i rfl Tryd.underlying36 Tryd.sizeOf9 rfl rfl hlt) ?_)
                        | (with_reducible refine wl_build (o := ⟨some 89, _, _, _, _, _⟩) rfl 30 [] rfl [] rfl (rsC sp0) hb0 ?_)
                        | (with_reducible refine wl_store_row rfl 30 (.tmp 2) (.tmp 89) g2 30 _ (rsC sp0) rfl rfl rfl r26 (szRs sp0) rfl (oneRs sp0) ?_; intro w9 r9 o9))
                      refine bodyPost_ret (v := .tuple #[.agg (rsC sp0).toArray, encStr eKey]) ?_ rfl ⟨by rw [e1.out, e2.out]; rfl, B6.trans ((o9.below p2).mono (Nat.le_refl _))⟩
                      exact results_rt2 Tryd.results17 _ _ g2 30 _ _ _ rfl r9 Tryd.underlying30 rfl (szRs sp0) rfl
                    · have h1I : ¬ (a.length : Int) < (1 : Int) := by omega
                      by_cases h2 : 64 < a.length
                      · have h2I : (64 : Int) < (a.length : Int) := by omega
                        have e2 : bk = true := by rw [hbk.out]; exact List.any_eq_true.2 ⟨a, List.mem_of_getElem? ha.out, by unfold badW; rw [decide_eq_true h2, Bool.or_true]⟩
                        replace e2 := hide e2
                        clear h1 h2
                        go_wp2_with (first
                          | (with_reducible refine wl_run (o := ⟨some 77, _, _, _, _, _⟩) rfl (.pointer (some ⟨g8, off8 + i * 1, none⟩)) (run_idxO 36 (.tmp 75) (.tmp 76) 9 1 g8 off8 kl.length c3 i rfl Tryd.underlying36 Tryd.sizeOf9 rfl rfl hlt) ?_)
                          | (with_reducible refine wg_run (o := ⟨some 84, _, _, _, _, _⟩) 6 false 81 rfl rfl rfl (.pointer (some ⟨g8, off8 + i * 1, none⟩)) (run_idxO 36 (.tmp 82) (.tmp 83) 9 1 g8 off8 kl.length c3 i rfl Tryd.underlying36 Tryd.sizeOf9 rfl rfl hlt) ?_)
                          | (with_reducible refine wl_build (o := ⟨some 89, _, _, _, _, _⟩) rfl 30 [] rfl [] rfl (rsC sp0) hb0 ?_)
                          | (with_reducible refine wl_store_row rfl 30 (.tmp 2) (.tmp 89) g2 30 _ (rsC sp0) rfl rfl rfl r26 (szRs sp0) rfl (oneRs sp0) ?_; intro w9 r9 o9))
                        refine bodyPost_ret (v := .tuple #[.agg (rsC sp0).toArray, encStr eKey]) ?_ rfl ⟨by rw [e1.out, e2.out]; rfl, B6.trans ((o9.below p2).mono (Nat.le_refl _))⟩
                        exact results_rt2 Tryd.results17 _ _ g2 30 _ _ _ rfl r9 Tryd.underlying30 rfl (szRs sp0) rfl
                      · have h2I : ¬ (64 : Int) < (a.length : Int) := by omega
                        have hbd := hide (show badW a = false by unfold badW; rw [decide_eq_false h1, decide_eq_false h2]; rfl)
                        clear h1 h2
                        go_wp2_with (first
                          | (with_reducible refine wl_run (o := ⟨some 77, _, _, _, _, _⟩) rfl (.pointer (some ⟨g8, off8 + i * 1, none⟩)) (run_idxO 36 (.tmp 75) (.tmp 76) 9 1 g8 off8 kl.length c3 i rfl Tryd.underlying36 Tryd.sizeOf9 rfl rfl hlt) ?_)
                          | (with_reducible refine wg_run (o := ⟨some 84, _, _, _, _, _⟩) 6 false 81 rfl rfl rfl (.pointer (some ⟨g8, off8 + i * 1, none⟩)) (run_idxO 36 (.tmp 82) (.tmp 83) 9 1 g8 off8 kl.length c3 i rfl Tryd.underlying36 Tryd.sizeOf9 rfl rfl hlt) ?_))
                        go_roundw
                        case rel =>
                          refine ⟨i + 1, by omega, by go_num, fun j b hj hb => ?_, trivial⟩
                          by_cases h1 : j = i
                          · subst h1
                            rw [ha.out] at hb
                            rw [← Option.some.inj hb]; exact hbd.out
                          · exact hok.out j b (by omega) hb
                        case measure => simp [intOf]; omega
                  · obtain rfl : i = kl.length := by omega
                    have e2 : bk = false := by
                      rw [hbk.out]
                      refine List.any_eq_false.2 fun a ha => ?_
                      obtain ⟨j, hj⟩ := List.getElem?_of_mem ha
                      rw [hok j a (List.getElem?_eq_some_iff.1 hj).1 hj]
                      exact Bool.noConfusion
                    replace e2 := hide e2
                    clear hok hi hlt
                    go_wp2_with (first
                      | (with_reducible refine wl_load_row (o := ⟨some 90, _, _, _, _, _⟩) rfl 30 (.tmp 4) g4 30 ([encStr nm, .int .i64 mn, .int .i64 mx, .bool wr9, .int .i64 f, .int .i64 l, .int .i64 s, .bool true, .bool false]) _ rfl rfl r46 Tryd.underlying30 rfl (szRf _ _ _ _ _ _ _ _ _) ?_)
                      | (with_reducible refine wl_store_row rfl 30 (.tmp 2) (.tmp 90) g2 30 _ ([encStr nm, .int .i64 mn, .int .i64 mx, .bool wr9, .int .i64 f, .int .i64 l, .int .i64 s, .bool true, .bool false]) rfl rfl rfl r26 (szRf _ _ _ _ _ _ _ _ _) rfl (by simp [Value.oneCell']) ?_; intro w9 r9 o9))
                    refine bodyPost_ret (v := .tuple #[.agg ([encStr nm, .int .i64 mn, .int .i64 mx, .bool wr9, .int .i64 f, .int .i64 l, .int .i64 s, .bool true, .bool false]).toArray, encStr []]) ?_ rfl ⟨by rw [e1.out, e2.out]; rfl, B6.trans ((o9.below p2).mono (Nat.le_refl _))⟩
                    exact results_rt2 Tryd.results17 _ _ g2 30 _ _ _ rfl r9 Tryd.underlying30 rfl (szRf _ _ _ _ _ _ _ _ _) rfl
          · -- 1 true true
            obtain rfl : tk = false := by rw [htk]; unfold tkS; rw [decide_eq_true h1, decide_eq_true h3, decide_eq_true hp]; rfl
            clear h1 h3 htk hp
            show Calls _ _ _ _ fun e w' => e = .returned (.tuple #[.agg (rsC sp0).toArray, encStr eNum]) ∧ _
            clear HK
            go_enter Tryd.func17, Tryd.ntmps17
            go_wp2_with (first
              | (with_reducible refine wl_alloc (o := ⟨some 2, _, _, _, _, _⟩) rfl 30 _ (rsC sp0) rfl zeroRf0 rfl ?_; intro g2 w2 r2 p2 l2 b2; have c2 := hc0 w2 b2)
              | (with_reducible refine wl_run (o := ⟨some 16, _, _, _, _, _⟩) rfl (.pointer (some ⟨g, off, none⟩)) (run_idxO0 36 (.tmp 15) _ 9 1 g off ws.length c rfl Tryd.underlying36 Tryd.sizeOf9 rfl rfl hlt0) ?_))
            refine (HV w2).mono ?_
            rintro e w3 ⟨rfl, b3⟩
            have B3 : Below w.heap.size w w3 := b2.trans (b3.mono b2.size)
            have r23 := r2.later b3
            clear HV c2
            go_wp2_with (first
              | (with_reducible refine wl_alloc (o := ⟨some 4, _, _, _, _, _⟩) rfl 30 _ (rsC sp0) rfl zeroRf0 rfl ?_; intro g4 w4 r4 p4 l4 b4)
              | (with_reducible refine wl_store_row rfl 30 (.tmp 4) (.tmp 19) g4 30 _ ([encStr nm, .int .i64 mn, .int .i64 mx, .bool wr9, .int .i64 f, .int .i64 l, .int .i64 s, .bool true, .bool true]) rfl rfl rfl r4 (szRf _ _ _ _ _ _ _ _ _) rfl (by simp [Value.oneCell']) ?_; intro w5 r5 o5; have B5 : Below w.heap.size w w5 := B3.trans ((b4.trans (o5.below p4)).mono B3.size); have r25 := (r23.later b4).only o5 (Nat.ne_of_lt (Nat.lt_of_lt_of_le r23.lt p4)); have c1 := r5.cell (j := 1) rfl; have c2 := r5.cell (j := 2) rfl; have c7 := r5.cell (j := 7) rfl; have c8 := r5.cell (j := 8) rfl)
              | (with_reducible refine wg_run (o := ⟨some 41, _, _, _, _, _⟩) 13 true 39 rfl rfl rfl (.int .i64 1) (run_remZ (.tmp 40) _ rfl rfl rfl (by decide) hrem.out) ?_)
              | (with_reducible refine wg_run (o := ⟨some 50, _, _, _, _, _⟩) 22 true 48 rfl rfl rfl (.int .i64 1) (run_remZ (.tmp 49) _ rfl rfl rfl (by decide) hrem.out) ?_)
              | (with_reducible refine wl_build (o := ⟨some 54, _, _, _, _, _⟩) rfl 30 [] rfl [] rfl (rsC sp0) hb0 ?_)
              | (with_reducible refine wl_store_row rfl 30 (.tmp 2) (.tmp 54) g2 30 _ (rsC sp0) rfl rfl rfl r25 (szRs sp0) rfl (oneRs sp0) ?_; intro w9 r9 o9))
            refine bodyPost_ret (v := .tuple #[.agg (rsC sp0).toArray, encStr eNum]) ?_ rfl ⟨rfl, B5.trans ((o9.below p2).mono (Nat.le_refl _))⟩
            exact results_rt2 Tryd.results17 _ _ g2 30 _ _ _ rfl r9 Tryd.underlying30 rfl (szRs sp0) rfl
        · have hrem := hide (show ((ws.length : Int)).tmod 2 = 0 by rw [Int.tmod_eq_emod_of_nonneg (by omega)]; omega)
          cases od <;> cases ev
          · -- 0 false false
            obtain rfl : tk = true := by rw [htk]; unfold tkS; rw [decide_eq_true h1, decide_eq_true h3, decide_eq_false hp]; rfl
            clear h1 h3 htk hp
            go_enter Tryd.func17, Tryd.ntmps17
            go_wp2_with (first
              | (with_reducible refine wl_alloc (o := ⟨some 2, _, _, _, _, _⟩) rfl 30 _ (rsC sp0) rfl zeroRf0 rfl ?_; intro g2 w2 r2 p2 l2 b2; have c2 := hc0 w2 b2)
              | (with_reducible refine wl_run (o := ⟨some 16, _, _, _, _, _⟩) rfl (.pointer (some ⟨g, off, none⟩)) (run_idxO0 36 (.tmp 15) _ 9 1 g off ws.length c rfl Tryd.underlying36 Tryd.sizeOf9 rfl rfl hlt0) ?_))
            refine (HV w2).mono ?_
            rintro e w3 ⟨rfl, b3⟩
            have B3 : Below w.heap.size w w3 := b2.trans (b3.mono b2.size)
            have r23 := r2.later b3
            clear HV c2
            go_wp2_with (first
              | (with_reducible refine wl_alloc (o := ⟨some 4, _, _, _, _, _⟩) rfl 30 _ (rsC sp0) rfl zeroRf0 rfl ?_; intro g4 w4 r4 p4 l4 b4)
              | (with_reducible refine wl_store_row rfl 30 (.tmp 4) (.tmp 19) g4 30 _ ([encStr nm, .int .i64 mn, .int .i64 mx, .bool wr9, .int .i64 f, .int .i64 l, .int .i64 s, .bool false, .bool false]) rfl rfl rfl r4 (szRf _ _ _ _ _ _ _ _ _) rfl (by simp [Value.oneCell']) ?_; intro w5 r5 o5; have B5 : Below w.heap.size w w5 := B3.trans ((b4.trans (o5.below p4)).mono B3.size); have r25 := (r23.later b4).only o5 (Nat.ne_of_lt (Nat.lt_of_lt_of_le r23.lt p4)); have c1 := r5.cell (j := 1) rfl; have c2 := r5.cell (j := 2) rfl; have c7 := r5.cell (j := 7) rfl; have c8 := r5.cell (j := 8) rfl)
              | (with_reducible refine wg_run (o := ⟨some 41, _, _, _, _, _⟩) 13 true 39 rfl rfl rfl (.int .i64 0) (run_remZ (.tmp 40) _ rfl rfl rfl (by decide) hrem.out) ?_)
              | (with_reducible refine wg_run (o := ⟨some 50, _, _, _, _, _⟩) 22 true 48 rfl rfl rfl (.int .i64 0) (run_remZ (.tmp 49) _ rfl rfl rfl (by decide) hrem.out) ?_))
            clear c1 c2 c7 c8 b2 b3 b4 p4 l4 r23 r4 o5 hmn hmx hrem
            go_loopw [7] (fun iv wr => ∃ i : Nat, i ≤ ws.length ∧ iv = .int .i64 (i : Int) ∧ (∀ (j : Nat) (a : Wd), j < i → ws[j]? = some a → longW a = false) ∧ w5 = wr) (fun iv _ => ws.length - (intOf iv).toNat)
            case atStart => exact ⟨0, Nat.zero_le _, rfl, fun j a hj => by omega, rfl⟩
            case round =>
              obtain ⟨i, hi, rfl, hok, rfl⟩ := hrel
              by_cases hlt : i < ws.length
              · have hltI : (i : Int) < (ws.length : Int) := by omega
                obtain ⟨a, ha⟩ : ∃ a, ws[i]? = some a := ⟨_, List.getElem?_eq_getElem hlt⟩
                obtain ⟨x1, g9, off9, eA, c9⟩ := (h.out.later B5).at ha
                injection eA with eA
                injection eA with e1 e2
                subst e1
                subst e2
                clear x1
                have hsz := str_len a
                replace hok := hide hok
                replace ha := hide ha
                by_cases hl : 512 < a.length
                · have hlI : (512 : Int) < (a.length : Int) := by omega
                  have e1 : lo = true := by rw [hlo.out]; exact List.any_eq_true.2 ⟨a, List.mem_of_getElem? ha.out, decide_eq_true hl⟩
                  replace e1 := hide e1
                  clear hl
                  go_wp2_with (first
                    | (with_reducible refine wl_run (o := ⟨some 62, _, _, _, _, _⟩) rfl (.pointer (some ⟨g, off + i * 1, none⟩)) (run_idxO 36 (.tmp 60) (.tmp 61) 9 1 g off ws.length c i rfl Tryd.underlying36 Tryd.sizeOf9 rfl rfl hlt) ?_)
                    | (with_reducible refine wl_build (o := ⟨some 66, _, _, _, _, _⟩) rfl 30 [] rfl [] rfl (rsC sp0) hb0 ?_)
                    | (with_reducible refine wl_store_row rfl 30 (.tmp 2) (.tmp 66) g2 30 _ (rsC sp0) rfl rfl rfl r25 (szRs sp0) rfl (oneRs sp0) ?_; intro w9 r9 o9))
                  refine bodyPost_ret (v := .tuple #[.agg (rsC sp0).toArray, encStr eLng]) ?_ rfl ⟨by rw [e1.out]; rfl, B5.trans ((o9.below p2).mono (Nat.le_refl _))⟩
                  exact results_rt2 Tryd.results17 _ _ g2 30 _ _ _ rfl r9 Tryd.underlying30 rfl (szRs sp0) rfl
                · have hlI : ¬ (512 : Int) < (a.length : Int) := by omega
                  replace hl := hide hl
                  go_wp2_with (first
                    | (with_reducible refine wl_run (o := ⟨some 62, _, _, _, _, _⟩) rfl (.pointer (some ⟨g, off + i * 1, none⟩)) (run_idxO 36 (.tmp 60) (.tmp 61) 9 1 g off ws.length c i rfl Tryd.underlying36 Tryd.sizeOf9 rfl rfl hlt) ?_))
                  go_roundw
                  case rel =>
                    refine ⟨i + 1, by omega, by go_num, fun j b hj hb => ?_, trivial⟩
                    by_cases h1 : j = i
                    · subst h1
                      rw [ha.out] at hb
                      rw [← Option.some.inj hb]; exact decide_eq_false hl.out
                    · exact hok.out j b (by omega) hb
                  case measure => simp [intOf]; omega
              · obtain rfl : i = ws.length := by omega
                have e1 : lo = false := by
                  rw [hlo.out]
                  refine List.any_eq_false.2 fun a ha => ?_
                  obtain ⟨j, hj⟩ := List.getElem?_of_mem ha
                  rw [hok j a (List.getElem?_eq_some_iff.1 hj).1 hj]
                  exact Bool.noConfusion
                replace e1 := hide e1
                clear hok hi hlt
                go_wp2_with fail
                refine (HK w5 B5).mono ?_
                rintro e w6 ⟨vk, rfl, ok, b6⟩
                clear HK
                have B6 : Below w.heap.size w w6 := B5.trans (b6.mono B5.size)
                have r26 := r25.later b6
                have r46 := r5.later b6
                have hk := own_stv ok
                clear ok r25 r5 b6
                obtain ⟨A3, c3, rfl, x9⟩ := id hk
                clear x9
                replace hk := hide hk
                go_wp2_with fail
                go_loopw [9] (fun iv wr => ∃ i : Nat, i ≤ kl.length ∧ iv = .int .i64 (i : Int) ∧ (∀ (j : Nat) (a : Wd), j < i → kl[j]? = some a → badW a = false) ∧ w6 = wr) (fun iv _ => kl.length - (intOf iv).toNat)
                case atStart => exact ⟨0, Nat.zero_le _, rfl, fun j a hj => by omega, rfl⟩
                case round =>
                  obtain ⟨i, hi, rfl, hok, rfl⟩ := hrel
                  by_cases hlt : i < kl.length
                  · have hltI : (i : Int) < (kl.length : Int) := by omega
                    obtain ⟨a, ha⟩ : ∃ a, kl[i]? = some a := ⟨_, List.getElem?_eq_getElem hlt⟩
                    obtain ⟨x1, g8, off8, rfl, c9⟩ := hk.out.at ha
                    clear x1
                    have hsz := str_len a
                    replace hok := hide hok
                    replace ha := hide ha
                    by_cases h1 : a.length < 1
                    · have h1I : (a.length : Int) < (1 : Int) := by omega
                      have e2 : bk = true := by rw [hbk.out]; exact List.any_eq_true.2 ⟨a, List.mem_of_getElem? ha.out, by unfold badW; rw [decide_eq_true h1]; rfl⟩
                      replace e2 := hide e2
                      clear h1
                      go_wp2_with (first
                        | (with_reducible refine wl_run (o := ⟨some 77, _, _, _, _, _⟩) rfl (.pointer (some ⟨g8, off8 + i * 1, none⟩)) (run_idxO 36 (.tmp 75) (.tmp 76) 9 1 g8 off8 kl.length c3 i rfl Tryd.underlying36 Tryd.sizeOf9 rfl rfl hlt) ?_)
                        | (with_reducible refine wl_build (o := ⟨some 89, _, _, _, _, _⟩) rfl 30 [] rfl [] rfl (rsC sp0) hb0 ?_)
                        | (with_reducible refine wl_store_row rfl 30 (.tmp 2) (.tmp 89) g2 30 _ (rsC sp0) rfl rfl rfl r26 (szRs sp0) rfl (oneRs sp0) ?_; intro w9 r9 o9))
                      refine bodyPost_ret (v := .tuple #[.agg (rsC sp0).toArray, encStr eKey]) ?_ rfl ⟨by rw [e1.out, e2.out]; rfl, B6.trans ((o9.below p2).mono (Nat.le_refl _))⟩
                      exact results_rt2 Tryd.results17 _ _ g2 30 _ _ _ rfl r9 Tryd.underlying30 rfl (szRs sp0) rfl
                    · have h1I : ¬ (a.length : Int) < (1 : Int) := by omega
                      by_cases h2 : 64 < a.length
                      · have h2I : (64 : Int) < (a.length : Int) := by omega
                        have e2 : bk = true := by rw [hbk.out]; exact List.any_eq_true.2 ⟨a, List.mem_of_getElem? ha.out, by unfold badW; rw [decide_eq_true h2, Bool.or_true]⟩
                        replace e2 := hide e2
                        clear h1 h2
                        go_wp2_with (first
                          | (with_reducible refine wl_run (o := ⟨some 77, _, _, _, _, _⟩) rfl (.pointer (some ⟨g8, off8 + i * 1, none⟩)) (run_idxO 36 (.tmp 75) (.tmp 76) 9 1 g8 off8 kl.length c3 i rfl Tryd.underlying36 Tryd.sizeOf9 rfl rfl hlt) ?_)
                          | (with_reducible refine wg_run (o := ⟨some 84, _, _, _, _, _⟩) 6 false 81 rfl rfl rfl (.pointer (some ⟨g8, off8 + i * 1, none⟩)) (run_idxO 36 (.tmp 82) (.tmp 83) 9 1 g8 off8 kl.length c3 i rfl Tryd.underlying36 Tryd.sizeOf9 rfl rfl hlt) ?_)
                          | (with_reducible refine wl_build (o := ⟨some 89, _, _, _, _, _⟩) rfl 30 [] rfl [] rfl (rsC sp0) hb0 ?_)
                          | (with_reducible refine wl_store_row rfl 30 (.tmp 2) (.tmp 89) g2 30 _ (rsC sp0) rfl rfl rfl r26 (szRs sp0) rfl (oneRs sp0) ?_; intro w9 r9 o9))
                        refine bodyPost_ret (v := .tuple #[.agg (rsC sp0).toArray, encStr eKey]) ?_ rfl ⟨by rw [e1.out, e2.out]; rfl, B6.trans ((o9.below p2).mono (Nat.le_refl _))⟩
                        exact results_rt2 Tryd.results17 _ _ g2 30 _ _ _ rfl r9 Tryd.underlying30 rfl (szRs sp0) rfl
                      · have h2I : ¬ (64 : Int) < (a.length : Int) := by omega
                        have hbd := hide (show badW a = false by unfold badW; rw [decide_eq_false h1, decide_eq_false h2]; rfl)
                        clear h1 h2
                        go_wp2_with (first
                          | (with_reducible refine wl_run (o := ⟨some 77, _, _, _, _, _⟩) rfl (.pointer (some ⟨g8, off8 + i * 1, none⟩)) (run_idxO 36 (.tmp 75) (.tmp 76) 9 1 g8 off8 kl.length c3 i rfl Tryd.underlying36 Tryd.sizeOf9 rfl rfl hlt) ?_)
                          | (with_reducible refine wg_run (o := ⟨some 84, _, _, _, _, _⟩) 6 false 81 rfl rfl rfl (.pointer (some ⟨g8, off8 + i * 1, none⟩)) (run_idxO 36 (.tmp 82) (.tmp 83) 9 1 g8 off8 kl.length c3 i rfl Tryd.underlying36 Tryd.sizeOf9 rfl rfl hlt) ?_))
                        go_roundw
                        case rel =>
                          refine ⟨i + 1, by omega, by go_num, fun j b hj hb => ?_, trivial⟩
                          by_cases h1 : j = i
                          · subst h1
                            rw [ha.out] at hb
                            rw [← Option.some.inj hb]; exact hbd.out
                          · exact hok.out j b (by omega) hb
                        case measure => simp [intOf]; omega
                  · obtain rfl : i = kl.length := by omega
                    have e2 : bk = false := by
                      rw [hbk.out]
                      refine List.any_eq_false.2 fun a ha => ?_
                      obtain ⟨j, hj⟩ := List.getElem?_of_mem ha
                      rw [hok j a (List.getElem?_eq_some_iff.1 hj).1 hj]
                      exact Bool.noConfusion
                    replace e2 := hide e2
                    clear hok hi hlt
                    go_wp2_with (first
                      | (with_reducible refine wl_load_row (o := ⟨some 90, _, _, _, _, _⟩) rfl 30 (.tmp 4) g4 30 ([encStr nm, .int .i64 mn, .int .i64 mx, .bool wr9, .int .i64 f, .int .i64 l, .int .i64 s, .bool false, .bool false]) _ rfl rfl r46 Tryd.underlying30 rfl (szRf _ _ _ _ _ _ _ _ _) ?_)
                      | (with_reducible refine wl_store_row rfl 30 (.tmp 2) (.tmp 90) g2 30 _ ([encStr nm, .int .i64 mn, .int .i64 mx, .bool wr9, .int .i64 f, .int .i64 l, .int .i64 s, .bool false, .bool false]) rfl rfl rfl r26 (szRf _ _ _ _ _ _ _ _ _) rfl (by simp [Value.oneCell']) ?_; intro w9 r9 o9))
                    refine bodyPost_ret (v := .tuple #[.agg ([encStr nm, .int .i64 mn, .int .i64 mx, .bool wr9, .int .i64 f, .int .i64 l, .int .i64 s, .bool false, .bool false]).toArray, encStr []]) ?_ rfl ⟨by rw [e1.out, e2.out]; rfl, B6.trans ((o9.below p2).mono (Nat.le_refl _))⟩
                    exact results_rt2 Tryd.results17 _ _ g2 30 _ _ _ rfl r9 Tryd.underlying30 rfl (szRf _ _ _ _ _ _ _ _ _) rfl
          · -- 0 false true
            obtain rfl : tk = true := by rw [htk]; unfold tkS; rw [decide_eq_true h1, decide_eq_true h3, decide_eq_false hp]; rfl
            clear h1 h3 htk hp
            go_enter Tryd.func17, Tryd.ntmps17
            go_wp2_with (first
              | (with_reducible refine wl_alloc (o := ⟨some 2, _, _, _, _, _⟩) rfl 30 _ (rsC sp0) rfl zeroRf0 rfl ?_; intro g2 w2 r2 p2 l2 b2; have c2 := hc0 w2 b2)
              | (with_reducible refine wl_run (o := ⟨some 16, _, _, _, _, _⟩) rfl (.pointer (some ⟨g, off, none⟩)) (run_idxO0 36 (.tmp 15) _ 9 1 g off ws.length c rfl Tryd.underlying36 Tryd.sizeOf9 rfl rfl hlt0) ?_))
            refine (HV w2).mono ?_
            rintro e w3 ⟨rfl, b3⟩
            have B3 : Below w.heap.size w w3 := b2.trans (b3.mono b2.size)
            have r23 := r2.later b3
            clear HV c2
            go_wp2_with (first
              | (with_reducible refine wl_alloc (o := ⟨some 4, _, _, _, _, _⟩) rfl 30 _ (rsC sp0) rfl zeroRf0 rfl ?_; intro g4 w4 r4 p4 l4 b4)
              | (with_reducible refine wl_store_row rfl 30 (.tmp 4) (.tmp 19) g4 30 _ ([encStr nm, .int .i64 mn, .int .i64 mx, .bool wr9, .int .i64 f, .int .i64 l, .int .i64 s, .bool false, .bool true]) rfl rfl rfl r4 (szRf _ _ _ _ _ _ _ _ _) rfl (by simp [Value.oneCell']) ?_; intro w5 r5 o5; have B5 : Below w.heap.size w w5 := B3.trans ((b4.trans (o5.below p4)).mono B3.size); have r25 := (r23.later b4).only o5 (Nat.ne_of_lt (Nat.lt_of_lt_of_le r23.lt p4)); have c1 := r5.cell (j := 1) rfl; have c2 := r5.cell (j := 2) rfl; have c7 := r5.cell (j := 7) rfl; have c8 := r5.cell (j := 8) rfl)
              | (with_reducible refine wg_run (o := ⟨some 41, _, _, _, _, _⟩) 13 true 39 rfl rfl rfl (.int .i64 0) (run_remZ (.tmp 40) _ rfl rfl rfl (by decide) hrem.out) ?_)
              | (with_reducible refine wg_run (o := ⟨some 50, _, _, _, _, _⟩) 22 true 48 rfl rfl rfl (.int .i64 0) (run_remZ (.tmp 49) _ rfl rfl rfl (by decide) hrem.out) ?_))
            clear c1 c2 c7 c8 b2 b3 b4 p4 l4 r23 r4 o5 hmn hmx hrem
            go_loopw [7] (fun iv wr => ∃ i : Nat, i ≤ ws.length ∧ iv = .int .i64 (i : Int) ∧ (∀ (j : Nat) (a : Wd), j < i → ws[j]? = some a → longW a = false) ∧ w5 = wr) (fun iv _ => ws.length - (intOf iv).toNat)
            case atStart => exact ⟨0, Nat.zero_le _, rfl, fun j a hj => by omega, rfl⟩
            case round =>
              obtain ⟨i, hi, rfl, hok, rfl⟩ := hrel
              by_cases hlt : i < ws.length
              · have hltI : (i : Int) < (ws.length : Int) := by omega
                obtain ⟨a, ha⟩ : ∃ a, ws[i]? = some a := ⟨_, List.getElem?_eq_getElem hlt⟩
                obtain ⟨x1, g9, off9, eA, c9⟩ := (h.out.later B5).at ha
                injection eA with eA
                injection eA with e1 e2
                subst e1
                subst e2
                clear x1
                have hsz := str_len a
                replace hok := hide hok
                replace ha := hide ha
                by_cases hl : 512 < a.length
                · have hlI : (512 : Int) < (a.length : Int) := by omega
                  have e1 : lo = true := by rw [hlo.out]; exact List.any_eq_true.2 ⟨a, List.mem_of_getElem? ha.out, decide_eq_true hl⟩
                  replace e1 := hide e1
                  clear hl
                  go_wp2_with (first
                    | (with_reducible refine wl_run (o := ⟨some 62, _, _, _, _, _⟩) rfl (.pointer (some ⟨g, off + i * 1, none⟩)) (run_idxO 36 (.tmp 60) (.tmp 61) 9 1 g off ws.length c i rfl Tryd.underlying36 Tryd.sizeOf9 rfl rfl hlt) ?_)
                    | (with_reducible refine wl_build (o := ⟨some 66, _, _, _, _, _⟩) rfl 30 [] rfl [] rfl (rsC sp0) hb0 ?_)
                    | (with_reducible refine wl_store_row rfl 30 (.tmp 2) (.tmp 66) g2 30 _ (rsC sp0) rfl rfl rfl r25 (szRs sp0) rfl (oneRs sp0) ?_; intro w9 r9 o9))
                  refine bodyPost_ret (v := .tuple #[.agg (rsC sp0).toArray, encStr eLng]) ?_ rfl ⟨by rw [e1.out]; rfl, B5.trans ((o9.below p2).mono (Nat.le_refl _))⟩
                  exact results_rt2 Tryd.results17 _ _ g2 30 _ _ _ rfl r9 Tryd.underlying30 rfl (szRs sp0) rfl
                · have hlI : ¬ (512 : Int) < (a.length : Int) := by omega
                  replace hl := hide hl
                  go_wp2_with (first
                    | (with_reducible refine wl_run (o := ⟨some 62, _, _, _, _, _⟩) rfl (.pointer (some ⟨g, off + i * 1, none⟩)) (run_idxO 36 (.tmp 60) (.tmp 61) 9 1 g off ws.length c i rfl Tryd.underlying36 Tryd.sizeOf9 rfl rfl hlt) ?_))
                  go_roundw
                  case rel =>
                    refine ⟨i + 1, by omega, by go_num, fun j b hj hb => ?_, trivial⟩
                    by_cases h1 : j = i
                    · subst h1
                      rw [ha.out] at hb
                      rw [← Option.some.inj hb]; exact decide_eq_false hl.out
                    · exact hok.out j b (by omega) hb
                  case measure => simp [intOf]; omega
              · obtain rfl : i = ws.length := by omega
                have e1 : lo = false := by
                  rw [hlo.out]
                  refine List.any_eq_false.2 fun a ha => ?_
                  obtain ⟨j, hj⟩ := List.getElem?_of_mem ha
                  rw [hok j a (List.getElem?_eq_some_iff.1 hj).1 hj]
                  exact Bool.noConfusion
                replace e1 := hide e1
                clear hok hi hlt
                go_wp2_with fail
                refine (HK w5 B5).mono ?_
                rintro e w6 ⟨vk, rfl, ok, b6⟩
                clear HK
                have B6 : Below w.heap.size w w6 := B5.trans (b6.mono B5.size)
                have r26 := r25.later b6
                have r46 := r5.later b6
                have hk := own_stv ok
                clear ok r25 r5 b6
                obtain ⟨A3, c3, rfl, x9⟩ := id hk
                clear x9
                replace hk := hide hk
                go_wp2_with fail
                go_loopw [9] (fun iv wr => ∃ i : Nat, i ≤ kl.length ∧ iv = .int .i64 (i : Int) ∧ (∀ (j : Nat) (a : Wd), j < i → kl[j]? = some a → badW a = false) ∧ w6 = wr) (fun iv _ => kl.length - (intOf iv).toNat)
                case atStart => exact ⟨0, Nat.zero_le _, rfl, fun j a hj => by omega, rfl⟩
                case round =>
                  obtain ⟨i, hi, rfl, hok, rfl⟩ := hrel
                  by_cases hlt : i < kl.length
                  · have hltI : (i : Int) < (kl.length : Int) := by omega
                    obtain ⟨a, ha⟩ : ∃ a, kl[i]? = some a := ⟨_, List.getElem?_eq_getElem hlt⟩
                    obtain ⟨x1, g8, off8, rfl, c9⟩ := hk.out.at ha
                    clear x1
                    have hsz := str_len a
                    replace hok := hide hok
                    replace ha := hide ha
                    by_cases h1 : a.length < 1
                    · have h1I : (a.length : Int) < (1 : Int) := by omega
                      have e2 : bk = true := by rw [hbk.out]; exact List.any_eq_true.2 ⟨a, List.mem_of_getElem? ha.out, by unfold badW; rw [decide_eq_true h1]; rfl⟩
                      replace e2 := hide e2
                      clear h1
                      go_wp2_with (first
                        | (with_reducible refine wl_run (o := ⟨some 77, _, _, _, _, _⟩) rfl (.pointer (some ⟨g8, off8 + i * 1, none⟩)) (run_idxO 36 (.tmp 75) (.tmp 76) 9 1 g8 off8 kl.length c3 i rfl Tryd.underlying36 Tryd.sizeOf9 rfl rfl hlt) ?_)
                        | (with_reducible refine wl_build (o := ⟨some 89, _, _, _, _, _⟩) rfl 30 [] rfl [] rfl (rsC sp0) hb0 ?_)
                        | (with_reducible refine wl_store_row rfl 30 (.tmp 2) (.tmp 89) g2 30 _ (rsC sp0) rfl rfl rfl r26 (szRs sp0) rfl (oneRs sp0) ?_; intro w9 r9 o9))
                      refine bodyPost_ret (v := .tuple #[.agg (rsC sp0).toArray, encStr eKey]) ?_ rfl ⟨by rw [e1.out, e2.out]; rfl, B6.trans ((o9.below p2).mono (Nat.le_refl _))⟩
                      exact results_rt2 Tryd.results17 _ _ g2 30 _ _ _ rfl r9 Tryd.underlying30 rfl (szRs sp0) rfl
                    · have h1I : ¬ (a.length : Int) < (1 : Int) := by omega
                      by_cases h2 : 64 < a.length
                      · have h2I : (64 : Int) < (a.length : Int) := by omega
                        have e2 : bk = true := by rw [hbk.out]; exact List.any_eq_true.2 ⟨a, List.mem_of_getElem? ha.out, by unfold badW; rw [decide_eq_true h2, Bool.or_true]⟩
                        replace e2 := hide e2
                        clear h1 h2
                        go_wp2_with (first
                          | (with_reducible refine wl_run (o := ⟨some 77, _, _, _, _, _⟩) rfl (.pointer (some ⟨g8, off8 + i * 1, none⟩)) (run_idxO 36 (.tmp 75) (.tmp 76) 9 1 g8 off8 kl.length c3 i rfl Tryd.underlying36 Tryd.sizeOf9 rfl rfl hlt) ?_)
                          | (with_reducible refine wg_run (o := ⟨some 84, _, _, _, _, _⟩) 6 false 81 rfl rfl rfl (.pointer (some ⟨g8, off8 + i * 1, none⟩)) (run_idxO 36 (.tmp 82) (.tmp 83) 9 1 g8 off8 kl.length c3 i rfl Tryd.underlying36 Tryd.sizeOf9 rfl rfl hlt) ?_)
                          | (with_reducible refine wl_build (o := ⟨some 89, _, _, _, _, _⟩) rfl 30 [] rfl [] rfl (rsC sp0) hb0 ?_)
                          | (with_reducible refine wl_store_row rfl 30 (.tmp 2) (.tmp 89) g2 30 _ (rsC sp0) rfl rfl rfl r26 (szRs sp0) rfl (oneRs sp0) ?_; intro w9 r9 o9))
                        refine bodyPost_ret (v := .tuple #[.agg (rsC sp0).toArray, encStr eKey]) ?_ rfl ⟨by rw [e1.out, e2.out]; rfl, B6.trans ((o9.below p2).mono (Nat.le_refl _))⟩
                        exact results_rt2 Tryd.results17 _ _ g2 30 _ _ _ rfl r9 Tryd.underlying30 rfl (szRs sp0) rfl
                      · have h2I : ¬ (64 : Int) < (a.length : Int) := by omega
                        have hbd := hide (show badW a = false by unfold badW; rw [decide_eq_false h1, decide_eq_false h2]; rfl)
                        clear h1 h2
                        go_wp2_with (first
                          | (with_reducible refine wl_run (o := ⟨some 77, _, _, _, _, _⟩) rfl (.pointer (some ⟨g8, off8 + i * 1, none⟩)) (run_idxO 36 (.tmp 75) (.tmp 76) 9 1 g8 off8 kl.length c3 i rfl Tryd.underlying36 Tryd.sizeOf9 rfl rfl hlt) ?_)
                          | (with_reducible refine wg_run (o := ⟨some 84, _, _, _, _, _⟩) 6 false 81 rfl rfl rfl (.pointer (some ⟨g8, off8 + i * 1, none⟩)) (run_idxO 36 (.tmp 82) (.tmp 83) 9 1 g8 off8 kl.length c3 i rfl Tryd.underlying36 Tryd.sizeOf9 rfl rfl hlt) ?_))
                        go_roundw
                        case rel =>
                          refine ⟨i + 1, by omega, by go_num, fun j b hj hb => ?_, trivial⟩
                          by_cases h1 : j = i
                          · subst h1
                            rw [ha.out] at hb
                            rw [← Option.some.inj hb]; exact hbd.out
                          · exact hok.out j b (by omega) hb
                        case measure => simp [intOf]; omega
                  · obtain rfl : i = kl.length := by omega
                    have e2 : bk = false := by
                      rw [hbk.out]
                      refine List.any_eq_false.2 fun a ha => ?_
                      obtain ⟨j, hj⟩ := List.getElem?_of_mem ha
                      rw [hok j a (List.getElem?_eq_some_iff.1 hj).1 hj]
                      exact Bool.noConfusion
                    replace e2 := hide e2
                    clear hok hi hlt
                    go_wp2_with (first
                      | (with_reducible refine wl_load_row (o := ⟨some 90, _, _, _, _, _⟩) rfl 30 (.tmp 4) g4 30 ([encStr nm, .int .i64 mn, .int .i64 mx, .bool wr9, .int .i64 f, .int .i64 l, .int .i64 s, .bool false, .bool true]) _ rfl rfl r46 Tryd.underlying30 rfl (szRf _ _ _ _ _ _ _ _ _) ?_)
                      | (with_reducible refine wl_store_row rfl 30 (.tmp 2) (.tmp 90) g2 30 _ ([encStr nm, .int .i64 mn, .int .i64 mx, .bool wr9, .int .i64 f, .int .i64 l, .int .i64 s, .bool false, .bool true]) rfl rfl rfl r26 (szRf _ _ _ _ _ _ _ _ _) rfl (by simp [Value.oneCell']) ?_; intro w9 r9 o9))
                    refine bodyPost_ret (v := .tuple #[.agg ([encStr nm, .int .i64 mn, .int .i64 mx, .bool wr9, .int .i64 f, .int .i64 l, .int .i64 s, .bool false, .bool true]).toArray, encStr []]) ?_ rfl ⟨by rw [e1.out, e2.out]; rfl, B6.trans ((o9.below p2).mono (Nat.le_refl _))⟩
                    exact results_rt2 Tryd.results17 _ _ g2 30 _ _ _ rfl r9 Tryd.underlying30 rfl (szRf _ _ _ _ _ _ _ _ _) rfl
          · -- 0 true false
            obtain rfl : tk = false := by rw [htk]; unfold tkS; rw [decide_eq_true h1, decide_eq_true h3, decide_eq_false hp]; rfl
            clear h1 h3 htk hp
            show Calls _ _ _ _ fun e w' => e = .returned (.tuple #[.agg (rsC sp0).toArray, encStr eNum]) ∧ _
            clear HK
            go_enter Tryd.func17, Tryd.ntmps17
            go_wp2_with (first
              | (with_reducible refine wl_alloc (o := ⟨some 2, _, _, _, _, _⟩) rfl 30 _ (rsC sp0) rfl zeroRf0 rfl ?_; intro g2 w2 r2 p2 l2 b2; have c2 := hc0 w2 b2)
              | (with_reducible refine wl_run (o := ⟨some 16, _, _, _, _, _⟩) rfl (.pointer (some ⟨g, off, none⟩)) (run_idxO0 36 (.tmp 15) _ 9 1 g off ws.length c rfl Tryd.underlying36 Tryd.sizeOf9 rfl rfl hlt0) ?_))
            refine (HV w2).mono ?_
            rintro e w3 ⟨rfl, b3⟩
            have B3 : Below w.heap.size w w3 := b2.trans (b3.mono b2.size)
            have r23 := r2.later b3
            clear HV c2
            go_wp2_with (first
              | (with_reducible refine wl_alloc (o := ⟨some 4, _, _, _, _, _⟩) rfl 30 _ (rsC sp0) rfl zeroRf0 rfl ?_; intro g4 w4 r4 p4 l4 b4)
              | (with_reducible refine wl_store_row rfl 30 (.tmp 4) (.tmp 19) g4 30 _ ([encStr nm, .int .i64 mn, .int .i64 mx, .bool wr9, .int .i64 f, .int .i64 l, .int .i64 s, .bool true, .bool false]) rfl rfl rfl r4 (szRf _ _ _ _ _ _ _ _ _) rfl (by simp [Value.oneCell']) ?_; intro w5 r5 o5; have B5 : Below w.heap.size w w5 := B3.trans ((b4.trans (o5.below p4)).mono B3.size); have r25 := (r23.later b4).only o5 (Nat.ne_of_lt (Nat.lt_of_lt_of_le r23.lt p4)); have c1 := r5.cell (j := 1) rfl; have c2 := r5.cell (j := 2) rfl; have c7 := r5.cell (j := 7) rfl; have c8 := r5.cell (j := 8) rfl)
              | (with_reducible refine wl_build (o := ⟨some 54, _, _, _, _, _⟩) rfl 30 [] rfl [] rfl (rsC sp0) hb0 ?_)
              | (with_reducible refine wl_store_row rfl 30 (.tmp 2) (.tmp 54) g2 30 _ (rsC sp0) rfl rfl rfl r25 (szRs sp0) rfl (oneRs sp0) ?_; intro w9 r9 o9))
            refine bodyPost_ret (v := .tuple #[.agg (rsC sp0).toArray, encStr eNum]) ?_ rfl ⟨rfl, B5.trans ((o9.below p2).mono (Nat.le_refl _))⟩
            exact results_rt2 Tryd.results17 _ _ g2 30 _ _ _ rfl r9 Tryd.underlying30 rfl (szRs sp0) rfl
          · -- 0 true true
            obtain rfl : tk = false := by rw [htk]; unfold tkS; rw [decide_eq_true h1, decide_eq_true h3, decide_eq_false hp]; rfl
            clear h1 h3 htk hp
            show Calls _ _ _ _ fun e w' => e = .returned (.tuple #[.agg (rsC sp0).toArray, encStr eNum]) ∧ _
            clear HK
            go_enter Tryd.func17, Tryd.ntmps17
            go_wp2_with (first
              | (with_reducible refine wl_alloc (o := ⟨some 2, _, _, _, _, _⟩) rfl 30 _ (rsC sp0) rfl zeroRf0 rfl ?_; intro g2 w2 r2 p2 l2 b2; have c2 := hc0 w2 b2)
              | (with_reducible refine wl_run (o := ⟨some 16, _, _, _, _, _⟩) rfl (.pointer (some ⟨g, off, none⟩)) (run_idxO0 36 (.tmp 15) _ 9 1 g off ws.length c rfl Tryd.underlying36 Tryd.sizeOf9 rfl rfl hlt0) ?_))
            refine (HV w2).mono ?_
            rintro e w3 ⟨rfl, b3⟩
            have B3 : Below w.heap.size w w3 := b2.trans (b3.mono b2.size)
            have r23 := r2.later b3
            clear HV c2
            go_wp2_with (first
              | (with_reducible refine wl_alloc (o := ⟨some 4, _, _, _, _, _⟩) rfl 30 _ (rsC sp0) rfl zeroRf0 rfl ?_; intro g4 w4 r4 p4 l4 b4)
              | (with_reducible refine wl_store_row rfl 30 (.tmp 4) (.tmp 19) g4 30 _ ([encStr nm, .int .i64 mn, .int .i64 mx, .bool wr9, .int .i64 f, .int .i64 l, .int .i64 s, .bool true, .bool true]) rfl rfl rfl r4 (szRf _ _ _ _ _ _ _ _ _) rfl (by simp [Value.oneCell']) ?_; intro w5 r5 o5; have B5 : Below w.heap.size w w5 := B3.trans ((b4.trans (o5.below p4)).mono B3.size); have r25 := (r23.later b4).only o5 (Nat.ne_of_lt (Nat.lt_of_lt_of_le r23.lt p4)); have c1 := r5.cell (j := 1) rfl; have c2 := r5.cell (j := 2) rfl; have c7 := r5.cell (j := 7) rfl; have c8 := r5.cell (j := 8) rfl)
              | (with_reducible refine wl_build (o := ⟨some 54, _, _, _, _, _⟩) rfl 30 [] rfl [] rfl (rsC sp0) hb0 ?_)
              | (with_reducible refine wl_store_row rfl 30 (.tmp 2) (.tmp 54) g2 30 _ (rsC sp0) rfl rfl rfl r25 (szRs sp0) rfl (oneRs sp0) ?_; intro w9 r9 o9))
            refine bodyPost_ret (v := .tuple #[.agg (rsC sp0).toArray, encStr eNum]) ?_ rfl ⟨rfl, B5.trans ((o9.below p2).mono (Nat.le_refl _))⟩
            exact results_rt2 Tryd.results17 _ _ g2 30 _ _ _ rfl r9 Tryd.underlying30 rfl (szRs sp0) rfl
        
      · have hmx : mx < (ws.length : Int) := by omega
        obtain rfl : tk = false := by rw [htk]; unfold tkS; rw [decide_eq_true h1, decide_eq_false h3]; rfl
        clear h1 h3 htk
        show Calls _ _ _ _ fun e w' => e = .returned (.tuple #[.agg (rsC sp0).toArray, encStr eNum]) ∧ _
        clear HK
        go_enter Tryd.func17, Tryd.ntmps17
        go_wp2_with (first
          | (with_reducible refine wl_alloc (o := ⟨some 2, _, _, _, _, _⟩) rfl 30 _ (rsC sp0) rfl zeroRf0 rfl ?_; intro g2 w2 r2 p2 l2 b2; have c2 := hc0 w2 b2)
          | (with_reducible refine wl_run (o := ⟨some 16, _, _, _, _, _⟩) rfl (.pointer (some ⟨g, off, none⟩)) (run_idxO0 36 (.tmp 15) _ 9 1 g off ws.length c rfl Tryd.underlying36 Tryd.sizeOf9 rfl rfl hlt0) ?_))
        refine (HV w2).mono ?_
        rintro e w3 ⟨rfl, b3⟩
        have B3 : Below w.heap.size w w3 := b2.trans (b3.mono b2.size)
        have r23 := r2.later b3
        clear HV c2
        go_wp2_with (first
          | (with_reducible refine wl_alloc (o := ⟨some 4, _, _, _, _, _⟩) rfl 30 _ (rsC sp0) rfl zeroRf0 rfl ?_; intro g4 w4 r4 p4 l4 b4)
          | (with_reducible refine wl_store_row rfl 30 (.tmp 4) (.tmp 19) g4 30 _ ([encStr nm, .int .i64 mn, .int .i64 mx, .bool wr9, .int .i64 f, .int .i64 l, .int .i64 s, .bool od, .bool ev]) rfl rfl rfl r4 (szRf _ _ _ _ _ _ _ _ _) rfl (by simp [Value.oneCell']) ?_; intro w5 r5 o5; have B5 : Below w.heap.size w w5 := B3.trans ((b4.trans (o5.below p4)).mono B3.size); have r25 := (r23.later b4).only o5 (Nat.ne_of_lt (Nat.lt_of_lt_of_le r23.lt p4)); have c1 := r5.cell (j := 1) rfl; have c2 := r5.cell (j := 2) rfl; have c7 := r5.cell (j := 7) rfl; have c8 := r5.cell (j := 8) rfl)
          | (with_reducible refine wl_build (o := ⟨some 54, _, _, _, _, _⟩) rfl 30 [] rfl [] rfl (rsC sp0) hb0 ?_)
          | (with_reducible refine wl_store_row rfl 30 (.tmp 2) (.tmp 54) g2 30 _ (rsC sp0) rfl rfl rfl r25 (szRs sp0) rfl (oneRs sp0) ?_; intro w9 r9 o9))
        refine bodyPost_ret (v := .tuple #[.agg (rsC sp0).toArray, encStr eNum]) ?_ rfl ⟨rfl, B5.trans ((o9.below p2).mono (Nat.le_refl _))⟩
        exact results_rt2 Tryd.results17 _ _ g2 30 _ _ _ rfl r9 Tryd.underlying30 rfl (szRs sp0) rfl
    · have hmn : (ws.length : Int) < mn := by omega
      obtain rfl : tk = false := by rw [htk]; unfold tkS; rw [decide_eq_false h1]; rfl
      clear h1 htk
      show Calls _ _ _ _ fun e w' => e = .returned (.tuple #[.agg (rsC sp0).toArray, encStr eNum]) ∧ _
      clear HK
      go_enter Tryd.func17, Tryd.ntmps17
      go_wp2_with (first
        | (with_reducible refine wl_alloc (o := ⟨some 2, _, _, _, _, _⟩) rfl 30 _ (rsC sp0) rfl zeroRf0 rfl ?_; intro g2 w2 r2 p2 l2 b2; have c2 := hc0 w2 b2)
        | (with_reducible refine wl_run (o := ⟨some 16, _, _, _, _, _⟩) rfl (.pointer (some ⟨g, off, none⟩)) (run_idxO0 36 (.tmp 15) _ 9 1 g off ws.length c rfl Tryd.underlying36 Tryd.sizeOf9 rfl rfl hlt0) ?_))
      refine (HV w2).mono ?_
      rintro e w3 ⟨rfl, b3⟩
      have B3 : Below w.heap.size w w3 := b2.trans (b3.mono b2.size)
      have r23 := r2.later b3
      clear HV c2
      go_wp2_with (first
        | (with_reducible refine wl_alloc (o := ⟨some 4, _, _, _, _, _⟩) rfl 30 _ (rsC sp0) rfl zeroRf0 rfl ?_; intro g4 w4 r4 p4 l4 b4)
        | (with_reducible refine wl_store_row rfl 30 (.tmp 4) (.tmp 19) g4 30 _ ([encStr nm, .int .i64 mn, .int .i64 mx, .bool wr9, .int .i64 f, .int .i64 l, .int .i64 s, .bool od, .bool ev]) rfl rfl rfl r4 (szRf _ _ _ _ _ _ _ _ _) rfl (by simp [Value.oneCell']) ?_; intro w5 r5 o5; have B5 : Below w.heap.size w w5 := B3.trans ((b4.trans (o5.below p4)).mono B3.size); have r25 := (r23.later b4).only o5 (Nat.ne_of_lt (Nat.lt_of_lt_of_le r23.lt p4)); have c1 := r5.cell (j := 1) rfl; have c2 := r5.cell (j := 2) rfl; have c7 := r5.cell (j := 7) rfl; have c8 := r5.cell (j := 8) rfl)
        | (with_reducible refine wl_build (o := ⟨some 54, _, _, _, _, _⟩) rfl 30 [] rfl [] rfl (rsC sp0) hb0 ?_)
        | (with_reducible refine wl_store_row rfl 30 (.tmp 2) (.tmp 54) g2 30 _ (rsC sp0) rfl rfl rfl r25 (szRs sp0) rfl (oneRs sp0) ?_; intro w9 r9 o9))
      refine bodyPost_ret (v := .tuple #[.agg (rsC sp0).toArray, encStr eNum]) ?_ rfl ⟨rfl, B5.trans ((o9.below p2).mono (Nat.le_refl _))⟩
      exact results_rt2 Tryd.results17 _ _ g2 30 _ _ _ rfl r9 Tryd.underlying30 rfl (szRs sp0) rfl
end Go.Proofs.YtolmomnocfkhoaaDoor

/-
  The law VerbChecks: its walk. Own work.
-/
namespace Go.Proofs.YtolmomnocfkhoaaDoor
open Go.RowKit Go.Shelf
set_option maxRecDepth 100000 in
set_option maxHeartbeats 4000000 in
theorem verbChecks_any (w : World) (v : Value) (ws : List Wd) (h : StV w v ws) (hT : TabV w) : Calls Tryd.prog 4 #[v] w fun e w' => e = .returned (.bool true) ∧ Below w.heap.size w w' := by
  have H4 := awake_any
  have HL := lightW_any w v ws h
  have F1 := fun hs => checkW_any w v ws h hs
  have F2 := fun w2 (hb : Below w.heap.size w w2) hs => checkR_any w2 v ws (h.later hb) hs
  have K1 := fun w2 (hb : Below w.heap.size w w2) hs => keysW_any w2 v ws (h.later hb) hs
  have K2 := fun w2 (hb : Below w.heap.size w w2) hs => keysR_any w2 v ws (h.later hb) hs
  have hkl := fun (hs : Short ws) => Nat.le_trans (keysL_len (ws := ws)) hs.1
  obtain ⟨A, c, rfl, x1⟩ := id h
  clear x1 h
  generalize keysL ws = kl at *
  generalize chkL ws = y at *
  obtain ⟨x, m⟩ := y
  have HS := fun w => same_any w x
  go_enter Tryd.func4, Tryd.ntmps4
  go_wp2_with fail
  refine HL.mono ?_
  rintro e w1 ⟨⟨b, rfl, hb⟩, rfl⟩
  clear HL
  cases b with
  | false =>
    clear hb F1 F2 K1 K2 HS
    go_wp2_with fail
    refine (H4 w hT).mono ?_
    rintro e w4 ⟨rfl, b4⟩
    go_wp2_with fail
    go_ret
    exact ⟨rfl, b4⟩
  | true =>
    have hs := hb rfl
    replace F1 := F1 hs
    replace F2 := fun w2 hb => F2 w2 hb hs
    replace K1 := fun w2 hb => K1 w2 hb hs
    replace K2 := fun w2 hb => K2 w2 hb hs
    replace hkl := hide (hkl hs)
    clear hb hs
    go_wp2_with fail
    refine F1.mono ?_
    rintro e w2 ⟨rfl, b2⟩
    clear F1
    go_wp2_with (first
      | ((with_reducible refine wl_alloc (o := ⟨some 3, _, _, _, _, _⟩) rfl 26 _ (Sp.cells sp0) rfl zeroSp0 rfl ?_); intro g3 w3 r3 p3 l3 b3)
      | ((with_reducible refine wl_store_row rfl 26 (.tmp 3) (.tmp 14) g3 26 _ x.cells rfl rfl rfl r3 (szSpX x) rfl (oneSp x) ?_); intro w4 r4 o4))
    have B4 : Below w.heap.size w w4 := b2.trans ((b3.trans (o4.below p3)).mono b2.size)
    refine (F2 w4 B4).mono ?_
    rintro e w5 ⟨rfl, b5⟩
    clear F2
    have r5 := r4.later b5
    have B5 : Below w.heap.size w w5 := B4.trans (b5.mono B4.size)
    replace r5 := hide r5
    go_wp2_with (first
      | ((with_reducible refine wl_alloc (o := ⟨some 5, _, _, _, _, _⟩) rfl 30 _ (rsC sp0) rfl zeroRf0 rfl ?_); intro g6 w6 r6 p6 l6 b6)
      | ((with_reducible refine wl_store_row rfl 30 (.tmp 5) (.tmp 19) g6 30 _ (rsC x) rfl rfl rfl r6 (szRs x) rfl (oneRs x) ?_); intro w7 r7 o7; have r57 := (r5.out.later b6).only o7 (Nat.ne_of_lt (Nat.lt_of_lt_of_le r5.out.lt p6)))
      | (with_reducible refine wl_load_row (o := ⟨some 21, _, _, _, _, _⟩) rfl 26 (.tmp 3) g3 26 x.cells _ rfl rfl r57 Tryd.underlying26 rfl (szSpX x) ?_)
      | (with_reducible refine wl_load_row (o := ⟨some 22, _, _, _, _, _⟩) rfl 30 (.tmp 5) g6 30 (rsC x) _ rfl rfl r7 Tryd.underlying30 rfl (szRs x) ?_))
    have B7 : Below w.heap.size w w7 := B5.trans ((b6.trans (o7.below p6)).mono B5.size)
    refine (HS w7).mono ?_
    rintro e w8 ⟨rfl, b8⟩
    clear HS
    have B8 : Below w.heap.size w w8 := B7.trans (b8.mono B7.size)
    go_wp2_with (first
      | (with_reducible refine wg_run (o := ⟨some 27, _, _, _, _, _⟩) 3 true 24 rfl rfl rfl (.bool true) (run_eqStr (.tmp 25) (.tmp 26) rfl rfl rfl (decide_eq_true rfl)) ?_))
    refine (K1 w8 B8).mono ?_
    rintro e w9 ⟨v1, rfl, ow1, b9⟩
    clear K1
    have B9 : Below w.heap.size w w9 := B8.trans (b9.mono B8.size)
    have s1 := own_stv ow1
    clear ow1
    go_wp2_with fail
    refine (K2 w9 B9).mono ?_
    rintro e wa ⟨v2, rfl, ow2, ba⟩
    clear K2
    have Ba : Below w.heap.size w wa := B9.trans (ba.mono B9.size)
    have s2 := own_stv ow2
    replace s1 := s1.later ba
    clear ow2
    go_wp2_with fail
    refine (sameW_any wa v1 v2 kl s1 s2 hkl.out).mono ?_
    rintro e wb ⟨rfl, bb⟩
    clear s1 s2
    have Bb : Below w.heap.size w wb := Ba.trans (bb.mono Ba.size)
    have hTb := hT.later Bb
    clear hT
    go_wp2_with fail
    refine (H4 wb hTb).mono ?_
    rintro e wc ⟨rfl, bc⟩
    go_wp2_with fail
    go_ret
    exact ⟨rfl, Bb.trans (bc.mono Bb.size)⟩
end Go.Proofs.YtolmomnocfkhoaaDoor

/-
  Words that came in as an argument. Own work.
-/
namespace Go.Proofs.YtolmomnocfkhoaaDoor
open Go.RowKit Go.Shelf Go.ChangeShapes Go.WideShapes
section
variable {H : Type} {enc : TypeId × Value → H} {w : World} {spare : Nat → Bool} {held : Bool}
set_option maxRecDepth 100000 in
theorem trod_words {A : Option Addr} {n c : Nat} {d : DataW H} {p : List MemPlace} (h : DataW.Trod enc Tryd.prog w 0 spare held 36 (.slice A n c) d p) :
    ∃ ws : List Wd, StV w (.slice A n c) ws := by
  obtain ⟨fuel, hf⟩ := h
  rcases open_strings Tryd.underlying36 Tryd.underlying9 (by kernel_rfl) hf with ⟨hcs, _⟩ | ⟨a, len, cap, ss, hcs, _, hl, hm, hz, _, hcell, hsz⟩
  · simp [Value.cells] at hcs
    obtain ⟨rfl, rfl, rfl⟩ := hcs
    exact ⟨[], none, 0, rfl, fun h => absurd h (by simp)⟩
  · simp [Value.cells] at hcs
    obtain ⟨rfl, rfl, rfl⟩ := hcs
    have hn : n ≤ ss.length := by rw [hz]; split <;> omega
    have hlen : ((ss.take n).map fun s => s.data.toList).length = n := by simp; omega
    refine ⟨(ss.take n).map fun s => s.data.toList, some a, c, by rw [hlen], fun h0 => ?_⟩
    rw [hlen] at h0
    obtain ⟨b, off, spot⟩ := a
    have hc0 := hcell 0 (by omega)
    have hspot : spot = none := by simpa [Addr.add] using World.cell?_spot hc0
    subst hspot
    refine ⟨b, off, rfl, ?_, fun i x hx => ?_⟩
    · have := block_lt_of_cell hc0
      simpa [Addr.add] using this
    · have hi : i < n := by have := (List.getElem?_eq_some_iff.1 hx).1; rw [hlen] at this; exact this
      rw [List.getElem?_map, List.getElem?_take, if_pos hi] at hx
      obtain ⟨s, hs, rfl⟩ := Option.map_eq_some_iff.1 hx
      have := hcell i (by omega)
      rw [List.getD, hs] at this
      have e : (⟨b, off, none⟩ : Addr).add i = ⟨b, off + i, none⟩ := by
        by_cases h0 : i = 0
        · subst h0; simp [Addr.add]
        · simp [Addr.add, h0]
      rw [e] at this
      simpa [encStr] using this
end
end Go.Proofs.YtolmomnocfkhoaaDoor

/- Proved: the law VerbChecks (P17.1, P17.2) answers true and leaves its argument as it read before. For every list of words; no condition but the tie of the library's tables (of powers of ten and of bits) and of its two errors to the program's text. -/
namespace Go.Proofs.YtolmomnocfkhoaaDoor.verbChecks
open Go.ChangeShapes Go.WideShapes Go.ChangeAt Go.WideMaps Go.WideElems Go.RowKit

theorem own : ownKnob Tryd.prog.godebug = none := by kernel_rfl
theorem laidOut : laidOutB Tryd.prog = true := by kernel_rfl
theorem door_met (os : Os) (args : Array Value) : laidMetH Tryd.prog laidV ((World.doorLaid Tryd.prog 400 os).forCall (fun _ _ => 0) ⟨#[], args, []⟩).memory :=
  laidMetH_of_parts3 (fuel := 8) (laidMet_of_run' 8 (by kernel_rfl) (by kernel_rfl)) (by kernel_rfl) (by kernel_rfl)

set_option maxRecDepth 100000 in
theorem lifted (os : Os) (started : os.Started) (H : Type) (enc : TypeId × Value → H) :
    ReturnsInHanded {} Tryd.checked os 4 .any (fun w args => (Rows.verbChecksSpec.pre enc Tryd.prog Tryd.f4 [] false w args ∧ laidMetH Tryd.prog laidV w) ∧ sizedMet enc Tryd.prog Tryd.f4 (OpenSpec.ofChange Rows.verbChecksSpec) false w args)
      (Rows.verbChecksSpec.post enc Tryd.prog Tryd.f4 false true false false) := by
  refine returnsInHanded_of_change_and (C := Tryd.checked) (X := fun w _ => laidMetH Tryd.prog laidV w) (fun _ _ _ hh h => h.of_heap hh) own started (by kernel_rfl) Tryd.func4
    (ChangeSpec.witness_shaped (enc := enc) (C := Tryd.checked) (os := os) (X := fun w _ => laidMetH Tryd.prog laidV w) false (World.doorLaid Tryd.prog 400 os) #[.slice none 0 0] 8 rfl (World.shaped_of_RefB (by kernel_rfl) (by kernel_rfl)) (by kernel_rfl) (by kernel_rfl) (by kernel_rfl) (door_met os _)) ?_
  intro W base args ds gs before hval0 hW _ _ hL _
  have hval : ∀ (j : Nat) t v, Tryd.f4.params[j]? = some t → args[j]? = some v → Value.okWide Tryd.prog W .any base t v := hval0
  have hW' := hW
  obtain ⟨p, q, hA0, hV, rfl, hfz, hnd⟩ := hW
  have hA : DataW.TrodAll enc Tryd.prog W 0 (fun _ => true) true Tryd.f4.params.toList args.toList ds p := hA0
  rw [Tryd.params4] at hA hval
  obtain ⟨v0, vs0, d0, ds0, p0, q0, hargs, rfl, rfl, h0, r0⟩ := trodAll_cons hA
  obtain ⟨rfl, rfl, rfl⟩ := trodAll_nil r0
  obtain rfl : args = #[v0] := by cases args; simp_all
  obtain ⟨rfl, rfl⟩ := trodVars_none hV
  obtain ⟨a0, len0, cap0, rfl⟩ := okWide_slice Tryd.underlying36 (hval 0 36 v0 rfl rfl)
  have k0 := h0
  have lt0 : ∀ x ∈ p0, x.block < W.heap.size := by obtain ⟨m, hm⟩ := k0; exact DataW.trod_lt m _ _ _ hm
  clear hA0 hval0
  have hT : TabV W := tabV_of_laid hL
  obtain ⟨ws0, hs0⟩ := trod_words k0
  refine (verbChecks_any W (.slice a0 len0 cap0) ws0 hs0 hT).mono fun e W' ⟨he, bel⟩ => ?_
  subst he
  exact ⟨_, rfl, _, _, _, [], _, [], hW', trodAll_mk1 (shut_bool Tryd.underlying4 _), (trodAll_cons_mk (Below.trod laidOut (by kernel_rfl) (of_decide_eq_true (by kernel_rfl)) k0 bel lt0) trodAll_mk0), rfl, bel.frame _, fun h => by cases h⟩

theorem over : Rows.VerbChecksSaid :=
  OpenClaim.holds_of_wide 4 Tryd.f4 rfl rfl rfl rfl rfl rfl rfl ⟨rfl, rfl, rfl, rfl, rfl⟩ rfl rfl rfl rfl rfl (by kernel_rfl) Tryd.func4 (by kernel_rfl)
    (of_decide_eq_true (by kernel_rfl)) (by unfold Func.isWrapper; first | (rw [if_pos (by decide +kernel)]; kernel_rfl) | (rw [if_neg (by decide +kernel)]; exact ⟨rfl, rfl⟩))
    (fun os started H enc _ => lifted os started H enc)

/-- The given statement. -/
theorem proved : Rows.VerbChecksCardSaid :=
  Claim7.holds_tied_plain_at .later [] [.data, .data, .data, .sentinel, .sentinel] true (true, "8c94621b44bb9d34dbc5c12de8854065aad4c93e5431c3111611d581ffb35357") true
    over (fun _ h => by cases h) (by kernel_rfl) (fun _ h => by cases h) verbChecks_row_tie rfl ⟨rfl, rfl⟩ (by kernel_rfl) rfl
    (fun f fn hf hfn => by
      obtain rfl : f = 4 := Option.some.inj ((show Tryd.prog.funcNamed "intaglio/intagliolaw17.VerbChecks" = some 4 by kernel_rfl).symm.trans hf) |>.symm
      obtain rfl : fn = Tryd.f4 := (Option.some.inj (Tryd.func4.symm.trans hfn)).symm
      exact ⟨by kernel_rfl, fun j t ht => by
        rw [Tryd.params4] at ht
        have hm : t ∈ [36] := by simpa using Array.mem_of_getElem? ht
        have hall : ([36].all fun u => !Tryd.prog.wantsStandIn u) = true := by kernel_rfl
        exact (show Tryd.prog.wantsStandIn t = false by simpa using List.all_eq_true.1 hall t hm)⟩)
    (by kernel_rfl)
#print axioms proved
end Go.Proofs.YtolmomnocfkhoaaDoor.verbChecks
