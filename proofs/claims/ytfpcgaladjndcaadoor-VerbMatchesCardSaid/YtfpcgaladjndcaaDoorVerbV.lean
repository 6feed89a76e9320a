/-
  Patterns: the document's matching. Contract. Own work.
-/
import Derived.Test.YtfpcgaladjndcaaDoorVerbU
namespace Go.Proofs.YtfpcgaladjndcaaDoor
open Go.RowKit
set_option linter.unusedVariables false
set_option linter.unusedSimpArgs false
def M15T (p s : List UInt8) (ob gi gj NN cp MM i j k m nn : Nat) (X Y : Bool) (opn : Nat) (v : Value) : Prop :=
  match opn with
  | 0 | 5 => v = .slice (some ⟨ob, 0, none⟩) NN cp
  | 1 | 6 => v = .int .i64 (i : Int)
  | 2 => v = .pointer (some ⟨ob, i, none⟩)
  | 3 => v = .slice (some ⟨gi, 0, none⟩) MM MM
  | 4 | 10 => v = .int .i64 (k : Int)
  | 7 => v = .int .i64 (j : Int)
  | 8 => v = .pointer (some ⟨ob, j, none⟩)
  | 9 => v = .slice (some ⟨gj, 0, none⟩) MM MM
  | 11 => v = .pointer (some ⟨gj, k, none⟩)
  | 12 | 13 | 28 => v = .bool true
  | 14 | 15 | 16 | 17 | 18 | 19 | 20 | 21 | 22 | 23 | 24 | 25 | 26 | 27 => v = undef
  | 29 => v = .pointer (some ⟨gi, k, none⟩)
  | _ => True

def M15F (p s : List UInt8) (ob gi gj NN cp MM i j k m nn : Nat) (X Y : Bool) (opn : Nat) (v : Value) : Prop :=
  match opn with
  | 0 | 5 | 19 => v = .slice (some ⟨ob, 0, none⟩) NN cp
  | 1 | 6 | 20 => v = .int .i64 (i : Int)
  | 2 | 21 => v = .pointer (some ⟨ob, i, none⟩)
  | 3 | 22 => v = .slice (some ⟨gi, 0, none⟩) MM MM
  | 4 | 10 | 14 | 23 => v = .int .i64 (k : Int)
  | 7 => v = .int .i64 (j : Int)
  | 8 => v = .pointer (some ⟨ob, j, none⟩)
  | 9 => v = .slice (some ⟨gj, 0, none⟩) MM MM
  | 11 => v = .pointer (some ⟨gj, k, none⟩)
  | 12 | 13 => v = .bool false
  | 15 => v = encStr s
  | 16 => v = .int .i64 (s.length : Int)
  | 17 | 18 => v = .bool true
  | 24 => v = .int .i64 (m : Int)
  | 25 => v = .pointer (some ⟨gi, m, none⟩)
  | 26 | 27 | 28 => v = .bool Y
  | 29 => v = .pointer (some ⟨gi, k, none⟩)
  | _ => True

def M15E (p s : List UInt8) (ob gi gj NN cp MM i j k m nn : Nat) (X Y : Bool) (opn : Nat) (v : Value) : Prop :=
  match opn with
  | 0 | 5 => v = .slice (some ⟨ob, 0, none⟩) NN cp
  | 1 | 6 => v = .int .i64 (i : Int)
  | 2 => v = .pointer (some ⟨ob, i, none⟩)
  | 3 => v = .slice (some ⟨gi, 0, none⟩) MM MM
  | 4 | 10 | 14 => v = .int .i64 (k : Int)
  | 7 => v = .int .i64 (j : Int)
  | 8 => v = .pointer (some ⟨ob, j, none⟩)
  | 9 => v = .slice (some ⟨gj, 0, none⟩) MM MM
  | 11 => v = .pointer (some ⟨gj, k, none⟩)
  | 12 | 13 | 17 | 18 | 27 | 28 => v = .bool false
  | 15 => v = encStr s
  | 16 => v = .int .i64 (s.length : Int)
  | 19 | 20 | 21 | 22 | 23 | 24 | 25 | 26 => v = undef
  | 29 => v = .pointer (some ⟨gi, k, none⟩)
  | _ => True

def M18T (p s : List UInt8) (ob gi gj NN cp MM i j k m nn : Nat) (X Y : Bool) (opn : Nat) (v : Value) : Prop :=
  match opn with
  | 0 | 7 => v = .slice (some ⟨ob, 0, none⟩) NN cp
  | 1 | 8 => v = .int .i64 (i : Int)
  | 2 => v = .pointer (some ⟨ob, i, none⟩)
  | 3 => v = .slice (some ⟨gi, 0, none⟩) MM MM
  | 4 | 13 => v = .int .i64 (k : Int)
  | 5 | 6 => v = .bool true
  | 9 => v = .int .i64 (nn : Int)
  | 10 => v = .int .i64 (j : Int)
  | 11 => v = .pointer (some ⟨ob, j, none⟩)
  | 12 => v = .slice (some ⟨gj, 0, none⟩) MM MM
  | 14 => v = .int .i64 (m : Int)
  | 15 => v = .pointer (some ⟨gj, m, none⟩)
  | 16 | 17 => v = .bool X
  | 18 => v = .pointer (some ⟨gi, k, none⟩)
  | _ => True

def M18F (p s : List UInt8) (ob gi gj NN cp MM i j k m nn : Nat) (X Y : Bool) (opn : Nat) (v : Value) : Prop :=
  match opn with
  | 0 => v = .slice (some ⟨ob, 0, none⟩) NN cp
  | 1 => v = .int .i64 (i : Int)
  | 2 => v = .pointer (some ⟨ob, i, none⟩)
  | 3 => v = .slice (some ⟨gi, 0, none⟩) MM MM
  | 4 => v = .int .i64 (k : Int)
  | 5 | 6 | 17 => v = .bool false
  | 7 | 8 | 9 | 10 | 11 | 12 | 13 | 14 | 15 | 16 => v = undef
  | 18 => v = .pointer (some ⟨gi, k, none⟩)
  | _ => True

def M17 (p s rest : List UInt8) (a c : UInt8) (i k nn : Nat) (TT : Bool) (opn : Nat) (v : Value) : Prop :=
  match opn with
  | 0 => v = encStr p
  | 1 => v = .int .i64 (i : Int)
  | 2 => v = encStr (a :: rest)
  | 3 => v = encStr s
  | 4 => v = .int .i64 (k : Int)
  | 5 => v = .int .u8 (c.toNat : Int)
  | 6 | 7 => v = .tuple #[.bool TT, .int .i64 (nn : Int)]
  | 8 | 10 => v = .bool TT
  | 9 | 11 => v = .int .i64 (nn : Int)
  | _ => True

theorem beq_eq_decide' (a b : Int) : (a == b) = decide (a = b) := by rw [Bool.eq_iff_iff]; simp
theorem classAt_drop {ng : Bool} : ∀ {t : List UInt8} {q : Pt × List UInt8}, classAt ng t = some q → ∃ m, t.drop m = q.2 ∧ m ≤ t.length
  | [], q, h => by cases h
  | x :: t, q, h => by
    simp only [classAt] at h
    split at h
    · cases h
    · rename_i hz
      injection h with h
      subst h
      have h1 := indexByte_lt t 93 hz
      have h2 := Lib.indexByte_ge t 93
      exact ⟨_, rfl, by simp only [List.length_cons]; omega⟩
theorem cutPartL_drop (a : UInt8) (r : List UInt8) : ∃ m, (a :: r).drop m = (cutPartL a r).2 ∧ m ≤ (a :: r).length ∧ True ∧ True := by
  have e1 : ∃ m, (a :: r).drop m = r ∧ m ≤ (a :: r).length ∧ True ∧ True := ⟨1, rfl, by simp, trivial, trivial⟩
  unfold cutPartL
  split
  · exact e1
  · split
    · exact e1
    · split
      · split
        · rename_i q hq
          unfold cutClassL at hq
          split at hq
          · obtain ⟨m, h1, h2⟩ := classAt_drop hq
            exact ⟨m + 2, by simpa using h1, by simp at h2 ⊢; omega, trivial, trivial⟩
          · obtain ⟨m, h1, h2⟩ := classAt_drop hq
            exact ⟨m + 1, by simpa using h1, by simp at h2 ⊢; omega, trivial, trivial⟩
        · exact e1
      · split
        · split
          · exact ⟨2, rfl, by simp, trivial, trivial⟩
          · exact ⟨1, rfl, by simp, trivial, trivial⟩
        · exact e1
theorem bool_info : ∃ i, Tryd.prog.info? 4 = some i ∧ i.zero = some (.bool false) ∧ i.size = 1 ∧ i.bytes = 1 :=
  info_partsV (show (Tryd.prog.info? 4).map (fun i => (i.zero, i.size, i.bytes)) = some (some (.bool false), 1, 1) by kernel_rfl)
theorem row_info : ∃ i, Tryd.prog.info? 67 = some i ∧ i.zero = some (.slice none 0 0) ∧ i.size = 1 ∧ i.bytes = 24 :=
  info_partsV (show (Tryd.prog.info? 67).map (fun i => (i.zero, i.size, i.bytes)) = some (some (.slice none 0 0), 1, 24) by kernel_rfl)
theorem rowB_no (S : Nat) : List.replicate (S + 1) (Value.bool false) = rowB S (fun _ => false) := by
  unfold rowB
  rw [List.map_const']
  simp
def slv (S g : Nat) : Value := .slice (some ⟨g, 0, none⟩) (S + 1) (S + 1)
/-- The rows that are made so far. -/
structure Made (B : Nat) (v : Value) (gs : List Nat) (S : Nat) (w : World) : Prop where
  own : w.ownsRow B 67 1 v gs.length (gs.map (slv S))
  rows : ∀ (i g : Nat), gs[i]? = some g → Row w 4 g (rowB S (fun _ => false))
  inj : ∀ (i j g : Nat), gs[i]? = some g → gs[j]? = some g → i = j
  out : ∀ (i g : Nat), gs[i]? = some g → v.ownBlock ≠ some g ∧ B ≤ g
theorem Made.tab {B S : Nat} {v : Value} {gs : List Nat} {w : World} (h : Made B v gs S w) (h0 : 0 < gs.length) : ∃ ob cp, v = .slice (some ⟨ob, 0, none⟩) gs.length cp ∧ Tab B ob gs S (fun _ _ => false) w := by
  rcases h.own.2 with ⟨_, e⟩ | ⟨g, cap, cur, hv, h1, hg, hrest⟩
  · omega
  · subst hv
    refine ⟨g, cap, rfl, fun i x hx => ?_, h.rows, h.inj, fun i x hx => ⟨fun e => (h.out i x hx).1 (by rw [e]; rfl), (h.out i x hx).2⟩, h1, (h.own.lt g rfl).2⟩
    have hl := lt_of_get hx
    rw [h.own.cellAt i (by omega), List.getElem?_map, hx]
    rfl
/-- While the table is filled: what is done stands, what is not is false. -/
def Fil (p s : List UInt8) (i k : Nat) (f : Nat → Nat → Bool) : Prop := ∀ a b, a ≤ p.length → b ≤ s.length → f a b = if i < a ∨ (a = i ∧ k ≤ b) then LL p s a b else false
theorem Fil.step {p s : List UInt8} {i k : Nat} {f : Nat → Nat → Bool} {v : Bool} (h : Fil p s i (k + 1) f) (hv : v = LL p s i k) : Fil p s i k (upd f i k v) := by
  intro a b ha hb
  unfold upd
  by_cases e : a = i ∧ b = k
  · rw [if_pos e, if_pos (.inr ⟨e.1, by omega⟩), hv, e.1, e.2]
  · rw [if_neg e, h a b ha hb]
    by_cases e2 : i < a ∨ (a = i ∧ k + 1 ≤ b)
    · rw [if_pos e2, if_pos (by omega)]
    · rw [if_neg e2, if_neg (by omega)]
theorem Fil.same {p s : List UInt8} {i k : Nat} {f : Nat → Nat → Bool} (h : Fil p s i (k + 1) f) (hv : LL p s i k = false) : Fil p s i k f := by
  intro a b ha hb
  rw [h a b ha hb]
  by_cases e : a = i ∧ b = k
  · rw [if_neg (by omega), if_pos (.inr ⟨e.1, by omega⟩), e.1, e.2, hv]
  · by_cases e2 : i < a ∨ (a = i ∧ k + 1 ≤ b)
    · rw [if_pos e2, if_pos (by omega)]
    · rw [if_neg e2, if_neg (by omega)]
theorem Fil.next {p s : List UInt8} {i : Nat} {f : Nat → Nat → Bool} (h : Fil p s (i + 1) 0 f) : Fil p s i (s.length + 1) f := by
  intro a b ha hb
  rw [h a b ha hb]
  by_cases e : i + 1 ≤ a
  · rw [if_pos (by omega), if_pos (by omega)]
  · rw [if_neg (by omega), if_neg (by omega)]
theorem Fil.past {p s : List UInt8} {i k a b : Nat} {f : Nat → Nat → Bool} (h : Fil p s i k f) (ha : a ≤ p.length) (hb : b ≤ s.length) (e : i < a ∨ (a = i ∧ k ≤ b)) : f a b = LL p s a b := by rw [h a b ha hb, if_pos e]
set_option maxRecDepth 100000 in
set_option maxHeartbeats 16000000 in
theorem rmatch_any (w : World) (p s : List UInt8) (hp : p.length ≤ 80) (hs : s.length ≤ 80) :
    Calls Tryd.prog 26 #[encStr p, encStr s] w fun e w' => e = .returned (.bool (lang (partsL p) s)) ∧ Below w.heap.size w w' := by
  obtain ⟨ib, hib, hibz, hibs, hibb⟩ := bool_info
  obtain ⟨ir, hir, hirz, hirs, hirb⟩ := row_info
  have hpI : (p.length : Int) ≤ 80 := by omega
  have hsI : (s.length : Int) ≤ 80 := by omega
  obtain ⟨R, hR⟩ : ∃ R, R = lang (partsL p) s := ⟨_, rfl⟩
  rw [← hR]
  replace hR := hide hR
  obtain ⟨MM, hMM⟩ : ∃ MM, MM = s.length + 1 := ⟨_, rfl⟩
  have hMz := hide (show IntKind.i64.wrap ((s.length : Int) + 1) = (MM : Int) from wrap_id (by omega) (by omega) (by omega))
  have hMb := hide (show ib.bytes * MM ≤ 281474976710656 by rw [hibb]; omega)
  have hMl := hide (show MM ≤ 9223372036854775807 by omega)
  replace hMM := hide hMM
  have h01 : 0 < 1 := by decide
  go_enter Tryd.func26, Tryd.ntmps26
  go_wp2_with fail
  go_loopw [5, 6] (fun tv iv wr => ∃ gs : List Nat, iv = .int .i64 (gs.length : Int) ∧ gs.length ≤ p.length + 1 ∧ Made w.heap.size tv gs s.length wr ∧ Below w.heap.size w wr) (fun _ iv _ => 100 - (intOf iv).toNat)
  case atStart => exact ⟨[], rfl, by simp, ⟨World.ownsRow_nil _ _ _ _, fun i g h => by simp at h, fun i j g h => by simp at h, fun i g h => by simp at h⟩, Below.refl _ _⟩
  case round =>
    obtain ⟨gs, rfl, hgl, mad, bw⟩ := hrel
    by_cases hi : gs.length ≤ p.length
    · have hiI : (gs.length : Int) ≤ (p.length : Int) := by omega
      obtain ⟨q, hq⟩ : ∃ q, q = gs.length := ⟨_, rfl⟩
      have hm2 : gs.length + 1 ≤ maxLen := by simp only [maxLen]; omega
      have hm8 : (gs.length + 1) * 24 ≤ 140737488355328 := by omega
      have hwb := bw.size
      have own := hide mad.own
      replace mad := hide mad
      clear hq q
      go_wp2_with (first
        | (with_reducible refine wl_run (o := ⟨some 13, _, _, _, _, _⟩) rfl (.int .i64 (p.length : Int)) (run_lenStr 9 (.tmp 12) p rfl Tryd.underlying9 rfl) ?_)
        | (with_reducible refine wl_run (o := ⟨some 19, _, _, _, _, _⟩) rfl (.int .i64 (s.length : Int)) (run_lenStr 9 (.tmp 18) s rfl Tryd.underlying9 rfl) ?_)
        | (with_reducible refine wl_run (o := ⟨some 20, _, _, _, _, _⟩) rfl (.int .i64 (MM : Int)) (run_addZ (.tmp 19) (.const (.int .i64 1)) rfl rfl rfl hMz.out) ?_)
        | ((with_reducible refine wl_make (o := ⟨some 21, _, _, _, _, _⟩) rfl 67 (.tmp 20) (.tmp 20) rfl 4 ib (.bool false) Tryd.underlying67 hib hibz hibs rfl .i64 .i64 MM MM _ _ rfl rfl rfl rfl (Nat.le_refl _) hMb.out hMl.out ?_); intro g4 w4 r4 p4 l4 b4)
        | ((with_reducible refine wl_build1 (o := ⟨some 22, _, _, _, _, _⟩) rfl 66 (.tmp 21) rfl 67 ir (.slice none 0 0) (.slice (some ⟨g4, 0, none⟩) MM MM) Tryd.underlying66 hir hirz hirs rfl rfl rfl ?_); intro g6 w6 r6 p6 l6 b6; have own6 := own_later (own_later own.out b4) b6; have hwb6 := Nat.le_trans (Nat.le_trans hwb b4.size) b6.size)
        | ((at_builtin; with_reducible refine wl_append_at (o := ⟨some 23, _, _, _, _, _⟩) rfl (.tmp 17) (.tmp 22) 66 rfl w.heap.size 67 ir _ 1 24 Tryd.underlying66 hir hirz hirs hirb rfl h01 u5 gs.length (gs.map (slv s.length)) rfl own6 ⟨g6, 0, none⟩ 1 1 [.slice (some ⟨g4, 0, none⟩) MM MM] rfl rfl (row_src r6) (by simp [Value.oneCell']) hm2 hm8 hwb6 ?_); intro v7 w7 own7 gr7 at7))
      have B6 : Below w.heap.size w w6 := bw.trans ((b4.trans (b6.mono b4.size)).mono hwb)
      have B7 : Below w.heap.size w w7 := B6.grown gr7 hwb6 (fun k hk => (own6.lt k hk).1)
      have hblk : ∀ g, g < w6.heap.size → u5.ownBlock ≠ some g → w7.heap[g]? = w6.heap[g]? := fun g h1 h2 => gr7.block g h1 (Ne.symm h2)
      have hslv : (.slice (some ⟨g4, 0, none⟩) MM MM : Value) = slv s.length g4 := by rw [hMM.out]; rfl
      have r4' : Row w4 4 g4 (rowB s.length (fun _ => false)) := by rw [← rowB_no, ← hMM.out]; exact r4
      have hlt4 : g4 < w6.heap.size := Nat.lt_of_lt_of_le r4.lt b6.size
      have hob4 : ∀ g, u5.ownBlock = some g → g < wr.heap.size := fun g h => (mad.out.own.lt g h).2
      go_roundw
      case rel =>
        refine ⟨gs ++ [g4], by rw [List.length_append, List.length_singleton]; go_num, by rw [List.length_append, List.length_singleton]; omega, ⟨?_, ?_, ?_, ?_⟩, B7⟩
        · rw [List.length_append, List.map_append, List.length_singleton]
          show w7.ownsRow _ _ _ _ _ (_ ++ [slv s.length g4])
          rw [← hslv]; exact own7
        · intro i g hg
          rw [List.getElem?_append] at hg
          split at hg
          · have hr := ((mad.out.rows i g hg).later b4).later b6
            exact (hblk g hr.lt (mad.out.out i g hg).1).trans hr
          · have e : g = g4 := by
              have := List.getElem?_eq_some_iff.1 hg
              obtain ⟨h1, h2⟩ := this
              simp at h2
              exact h2.symm
            subst e
            have hr := r4'.later b6
            exact (hblk g hr.lt (fun e => by have := hob4 g e; omega)).trans hr
        · intro i j g hi2 hj2
          have hold : ∀ i, gs[i]? = some g → g < wr.heap.size := fun i h => (mad.out.rows i g h).lt
          rw [List.getElem?_append] at hi2 hj2
          split at hi2 <;> split at hj2
          · exact mad.out.inj i j g hi2 hj2
          · exfalso
            have e : g = g4 := by obtain ⟨_, h2⟩ := List.getElem?_eq_some_iff.1 hj2; simp at h2; exact h2.symm
            have := hold i hi2
            omega
          · exfalso
            have e : g = g4 := by obtain ⟨_, h2⟩ := List.getElem?_eq_some_iff.1 hi2; simp at h2; exact h2.symm
            have := hold j hj2
            omega
          · have a1 := lt_of_get hi2
            have a2 := lt_of_get hj2
            simp at a1 a2
            omega
        · intro i g hg
          have hnew : ∀ g', v7.ownBlock = some g' → u5.ownBlock = some g' ∨ g' = w6.heap.size := fun g' e => by
            rcases at7 with h | h
            · left; rw [← h]; exact e
            · right; rw [h] at e; injection e with e; exact e.symm
          rw [List.getElem?_append] at hg
          split at hg
          · have ho := mad.out.out i g hg
            have hl := (mad.out.rows i g hg).lt
            refine ⟨fun e => ?_, ho.2⟩
            rcases hnew g e with h | h
            · exact ho.1 h
            · have := b4.size; have := b6.size; omega
          · have e : g = g4 := by obtain ⟨_, h2⟩ := List.getElem?_eq_some_iff.1 hg; simp at h2; exact h2.symm
            subst e
            refine ⟨fun e => ?_, by omega⟩
            rcases hnew g e with h | h
            · have := hob4 g h; omega
            · omega
      case measure => simp [intOf]; omega
    · have hiI : ¬ (gs.length : Int) ≤ (p.length : Int) := by omega
      have hge : gs.length = p.length + 1 := by omega
      obtain ⟨ob, cp, hv, tab⟩ := mad.tab (by omega)
      subst hv
      obtain ⟨NN, hNN⟩ : ∃ NN, NN = gs.length := ⟨_, rfl⟩
      rw [← hNN]
      rw [← hNN] at hge
      clear mad hgl
      replace hNN := hide hNN
      have hge2 := hide hge
      have hiI : ¬ (NN : Int) ≤ (p.length : Int) := by omega
      clear hge hi
      go_wp2_with (first
        | (with_reducible refine wl_run (o := ⟨some 13, _, _, _, _, _⟩) rfl (.int .i64 (p.length : Int)) (run_lenStr 9 (.tmp 12) p rfl Tryd.underlying9 rfl) ?_)
        | (with_reducible refine wl_run (o := ⟨some 25, _, _, _, _, _⟩) rfl (.int .i64 (p.length : Int)) (run_lenStr 9 (.tmp 24) p rfl Tryd.underlying9 rfl) ?_))
      go_loopw [7] (fun iv wr => ∃ (z : Int) (i : Nat) (f : Nat → Nat → Bool), iv = .int .i64 z ∧ z = (i : Int) - 1 ∧ i ≤ p.length + 1 ∧ Tab w.heap.size ob gs s.length f wr ∧ Fil p s i 0 f ∧ Below w.heap.size w wr) (fun iv _ => (intOf iv + 1).toNat)
      case atStart => exact ⟨_, p.length + 1, _, rfl, by omega, Nat.le_refl _, tab, fun a b ha hb => by rw [if_neg (by omega)], bw⟩
      case round =>
        clear tab bw
        obtain ⟨z, i, f, rfl, hz, hi, tab, fil, bw⟩ := hrel
        replace tab := hide tab
        replace fil := hide fil
        by_cases hi0 : i = 0
        · subst hi0
          obtain rfl : z = -1 := by omega
          obtain ⟨gi, hgi⟩ : ∃ g, gs[0]? = some g := ⟨_, List.getElem?_eq_getElem (by have := hNN.out; have := hge2.out; omega)⟩
          have c1 := tab.out.outer 0 gi hgi
          have c2 := (tab.out.rows 0 gi hgi).cell (rowB_at (k := 0) (Nat.zero_le s.length))
          have hf : f 0 0 = R := by
            rw [fil.out.past (Nat.zero_le _) (Nat.zero_le _) (.inr ⟨rfl, Nat.le_refl _⟩), hR.out]; rfl
          rw [hf] at c2
          rw [← hMM.out] at c1
          have hN0 := hide (show 0 < NN by have := hge2.out; omega)
          have hM0 := hide (show 0 < MM by have := hMM.out; omega)
          clear hf hz hgi
          go_wp2_with (first
            | (with_reducible refine wl_run (o := ⟨some 118, _, _, _, _, _⟩) rfl (.pointer (some ⟨ob, 0, none⟩)) (run_idxSl1 66 (.tmp 117) (.const (.int .i64 0)) 67 ob NN cp 0 rfl Tryd.underlying66 Tryd.sizeOf67 rfl rfl hN0.out) ?_)
            | (with_reducible refine wl_run (o := ⟨some 119, _, _, _, _, _⟩) rfl (.slice (some ⟨gi, 0, none⟩) MM MM) (run_load1 67 (.tmp 118) ob 0 _ rfl Tryd.isAgg67 rfl c1) ?_)
            | (with_reducible refine wl_run (o := ⟨some 120, _, _, _, _, _⟩) rfl (.pointer (some ⟨gi, 0, none⟩)) (run_idxSl1 67 (.tmp 119) (.const (.int .i64 0)) 4 gi MM MM 0 rfl Tryd.underlying67 Tryd.sizeOf4 rfl rfl hM0.out) ?_))
          go_ret
          exact ⟨rfl, bw⟩
        · obtain ⟨i0, hi1⟩ : ∃ i0, i = i0 + 1 := ⟨i - 1, by omega⟩
          subst hi1
          obtain rfl : z = (i0 : Int) := by omega
          have hz0 : (0 : Int) ≤ (i0 : Int) := by omega
          have his := hide (show IntKind.i64.wrap ((i0 : Int) - 1) = (i0 : Int) - 1 from wrap_id rfl (by omega) (by omega))
          have hi9 : i0 ≤ p.length := by omega
          have hi9I : (i0 : Int) ≤ 80 := by omega
          clear hz hi0 hi
          go_wp2_with (first
            | (with_reducible refine wl_run (o := ⟨some 31, _, _, _, _, _⟩) rfl (.int .i64 (s.length : Int)) (run_lenStr 9 (.tmp 30) s rfl Tryd.underlying9 rfl) ?_))
          go_loopw [8] (fun kv wr => ∃ (z : Int) (k : Nat) (f : Nat → Nat → Bool), kv = .int .i64 z ∧ z = (k : Int) - 1 ∧ k ≤ s.length + 1 ∧ Tab w.heap.size ob gs s.length f wr ∧ Fil p s i0 k f ∧ Below w.heap.size w wr) (fun kv _ => (intOf kv + 1).toNat)
          case atStart => exact ⟨_, s.length + 1, _, rfl, by omega, Nat.le_refl _, tab.out, fil.out.next, bw⟩
          case round =>
            clear tab fil bw
            obtain ⟨i, hii⟩ : ∃ i, i = i0 := ⟨_, rfl⟩
            subst hii
            obtain ⟨z, k1, f, rfl, hz, hk, tab, fil, bw⟩ := hrel
            replace tab := hide tab
            replace fil := hide fil
            by_cases hk0 : k1 = 0
            · subst hk0
              obtain rfl : z = -1 := by omega
              clear hz
              go_wp2_with (first
                | (with_reducible refine wl_run (o := ⟨some 29, _, _, _, _, _⟩) rfl (.int .i64 ((i : Int) - 1)) (run_subZ (.tmp 28) (.const (.int .i64 1)) rfl rfl rfl his.out) ?_))
              go_roundw
              case rel => exact ⟨(i : Int) - 1, i, _, rfl, rfl, by omega, tab.out, fil.out, bw⟩
              case measure => first | (simp [intOf]; done) | (simp [intOf]; omega)
            · obtain ⟨k, hk1⟩ : ∃ k, k1 = k + 1 := ⟨k1 - 1, by omega⟩
              subst hk1
              obtain rfl : z = (k : Int) := by omega
              have hkz0 : (0 : Int) ≤ (k : Int) := by omega
              have hks := hide (show IntKind.i64.wrap ((k : Int) - 1) = (k : Int) - 1 from wrap_id rfl (by omega) (by omega))
              have hkS1 := hide (show k ≤ s.length by omega)
              have hkbI : (k : Int) ≤ 80 := by omega
              obtain ⟨gi, hgi0⟩ : ∃ g, gs[i]? = some g := ⟨_, List.getElem?_eq_getElem (by have := hNN.out; have := hge2.out; omega)⟩
              have hgi := hide hgi0
              clear hz hk0 hk hgi0
              have hiN := hide (show i < NN by have := hge2.out; omega)
              have hkM := hide (show k < MM by have := hMM.out; have := hkS1.out; omega)
              obtain ⟨cur, hcu⟩ : ∃ cur, cur = rowB s.length (f i) := ⟨_, rfl⟩
              have hcur := hide hcu
              have ri : Row wr 4 gi cur := by rw [hcu]; exact tab.out.rows i gi hgi.out
              have hkc := hide (show k < cur.length by rw [hcu, rowB_len]; have := hkS1.out; omega)
              clear hcu
              have hgB := hide (tab.out.out i gi hgi.out).2
              have cI : ∀ w', But gi wr w' → w'.cell? ⟨ob, i, none⟩ = some (.slice (some ⟨gi, 0, none⟩) MM MM) := fun w' h => by
                rw [hMM.out]; exact (but_cell h (tab.out.out i gi hgi.out).1 tab.out.hi).trans (tab.out.outer i gi hgi.out)
              by_cases hip9 : i = p.length
              · have hqe : ((i : Int) == (p.length : Int)) = true := by rw [beq_iff_eq]; omega
                have hqe2 : (i == p.length) = true := by rw [beq_iff_eq]; exact hip9
                replace hip9 := hide hip9
                obtain ⟨BB, hBB⟩ : ∃ BB : Bool, BB = decide (k = s.length) := ⟨_, rfl⟩
                have hBI : ((k : Int) == (s.length : Int)) = BB := by rw [hBB, Bool.eq_iff_iff, beq_iff_eq, decide_eq_true_eq]; omega
                have hval := hide (show BB = LL p s i k by rw [hip9.out, LL_end p s k hkS1.out, hBB])
                have hBd := hide ((beq_eq_decide' _ _).symm.trans hBI)
                clear hBB hBI
                go_wp2_with (first
                  | (with_reducible refine wl_run (o := ⟨some 38, _, _, _, _, _⟩) rfl (.int .i64 (p.length : Int)) (run_lenStr 9 (.tmp 37) p rfl Tryd.underlying9 rfl) ?_)
                  | (with_reducible refine wl_run (o := ⟨some 42, _, _, _, _, _⟩) rfl (.pointer (some ⟨ob, i, none⟩)) (run_idxSl1 66 (.tmp 40) (.tmp 41) 67 ob NN cp i rfl Tryd.underlying66 Tryd.sizeOf67 rfl rfl hiN.out) ?_)
                  | (with_reducible refine wl_run (o := ⟨some 43, _, _, _, _, _⟩) rfl (.slice (some ⟨gi, 0, none⟩) MM MM) (run_load1 67 (.tmp 42) ob i _ rfl Tryd.isAgg67 rfl (cI wr (But.refl _ _))) ?_)
                  | (with_reducible refine wl_run (o := ⟨some 47, _, _, _, _, _⟩) rfl (.int .i64 (s.length : Int)) (run_lenStr 9 (.tmp 46) s rfl Tryd.underlying9 rfl) ?_)
                  | (with_reducible refine wl_run (o := ⟨some 48, _, _, _, _, _⟩) rfl (.bool BB) (run_eqlI (.tmp 45) (.tmp 47) rfl rfl rfl hBd.out) ?_)
                  | (with_reducible refine wl_run (o := ⟨some 49, _, _, _, _, _⟩) rfl (.pointer (some ⟨gi, k, none⟩)) (run_idxSl1 67 (.tmp 43) (.tmp 44) 4 gi MM MM k rfl Tryd.underlying67 Tryd.sizeOf4 rfl rfl hkM.out) ?_)
                  | ((with_reducible refine wl_store rfl 4 (.tmp 49) (.tmp 48) gi k 4 cur (.bool BB) rfl (by kernel_rfl) rfl rfl ri hkc.out rfl ?_); intro wz rz oz)
                  | (with_reducible refine wl_run (o := ⟨some 35, _, _, _, _, _⟩) rfl (.int .i64 ((k : Int) - 1)) (run_subZ (.tmp 34) (.const (.int .i64 1)) rfl rfl rfl hks.out) ?_))
                have tab2 := hide (tab.out.set hgi.out hkS1.out (But.only oz) (hcur.out ▸ rz))
                have fil2 := hide (fil.out.step (v := BB) hval.out)
                go_roundw
                case rel => exact ⟨(k : Int) - 1, k, _, rfl, rfl, by have := hkS1.out; omega, tab2.out, fil2.out, bw.trans (oz.below hgB.out)⟩
                case measure => first | (simp [intOf]; done) | (simp [intOf]; omega)
              · obtain ⟨a, ha⟩ : ∃ a, p[i]? = some a := ⟨_, List.getElem?_eq_getElem (by omega)⟩
                have hpa := hide ha
                have hab := u8_lt a
                have hqe : ((i : Int) == (p.length : Int)) = false := beq_eq_false_iff_ne.2 (by omega)
                have hqe2 : (i == p.length) = false := beq_eq_false_iff_ne.2 hip9
                have hil : i < p.length := by omega
                clear ha hip9
                by_cases h42 : a.toNat = 42
                · have hq42 : ((a.toNat : Int) == 42) = true := by rw [beq_iff_eq]; omega
                  obtain ⟨gj, hgj0⟩ : ∃ g, gs[i + 1]? = some g := ⟨_, List.getElem?_eq_getElem (by have := hNN.out; have := hge2.out; omega)⟩
                  obtain ⟨j, hj⟩ : ∃ j, j = i + 1 := ⟨_, rfl⟩
                  have hjz := hide (show IntKind.i64.wrap ((i : Int) + 1) = (j : Int) from wrap_id (by omega) (by omega) (by omega))
                  have hgj : gs[j]? = some gj := by rw [hj]; exact hgj0
                  have hjN := hide (show j < NN by have := hge2.out; omega)
                  have hne : gj ≠ gi := fun e => by
                    subst e
                    have := tab.out.inj _ _ _ hgj hgi.out
                    omega
                  have cJ : ∀ w', But gi wr w' → w'.cell? ⟨ob, j, none⟩ = some (.slice (some ⟨gj, 0, none⟩) MM MM) := fun w' h => by
                    rw [hMM.out]; exact (but_cell h (tab.out.out i gi hgi.out).1 tab.out.hi).trans (tab.out.outer j gj hgj)
                  obtain ⟨X, hX⟩ : ∃ X, X = f j k := ⟨_, rfl⟩
                  have cX : ∀ w', But gi wr w' → w'.cell? ⟨gj, k, none⟩ = some (.bool X) := fun w' h => by
                    have := ((tab.out.rows j gj hgj).but h hne).cell (rowB_at hkS1.out)
                    rw [hX]; exact this
                  have hXL : X = LL p s (i + 1) k := by rw [hX, ← hj]; exact fil.out.past (by omega) hkS1.out (.inl (by omega))
                  have hst := LL_star (s := s) (k := k) hpa.out h42
                  rw [← hXL] at hst
                  clear hX hgj0 hne
                  replace hst := hide hst
                  replace hj := hide hj
                  replace hgj := hide hgj
                  replace hXL := hide hXL
                  cases X with
                  | true =>
                    have hval := hide (show true = LL p s i k by rw [hst.out]; rfl)
                    clear h42
                    go_wp2_with (first
                      | (with_reducible refine wl_run (o := ⟨some 38, _, _, _, _, _⟩) rfl (.int .i64 (p.length : Int)) (run_lenStr 9 (.tmp 37) p rfl Tryd.underlying9 rfl) ?_)
                      | (with_reducible refine wl_run (o := ⟨some 52, _, _, _, _, _⟩) rfl (.int .u8 (a.toNat : Int)) (run_idxStr 9 (.tmp 50) (.tmp 51) p i a rfl Tryd.underlying9 rfl rfl hpa.out) ?_)
                      | (with_reducible refine wl_run (o := ⟨some 86, _, _, _, _, _⟩) rfl (.int .i64 (s.length : Int)) (run_lenStr 9 (.tmp 85) s rfl Tryd.underlying9 rfl) ?_))
                    rename_i K9 hK9
                    refine wp_region_valsS [30] (M15T p s ob gi gj NN cp MM i j k 0 0 true false) (JB gi 4 wr 0 cur (cur.set k (.bool true))) (by kernel_rfl) (by kernel_rfl) (by kernel_rfl) (by kernel_rfl) (JB.start ri rfl) ?obsR1 ?heR1
                    case obsR1 =>
                      refine ⟨?_, ?_, ?_, ?_, ?_, ?_, ?_, ?_, ?_, ?_, ?_, ?_, ?_, ?_, ?_, ?_, ?_, ?_, ?_, ?_, ?_, ?_, ?_, ?_, ?_, ?_, ?_, ?_, ?_, ?_, ?_, trivial⟩
                      · refine .inl ⟨.inl rfl, ?_⟩
                        exact .inl ⟨by kernel_rfl, fun L a1 w1 n' h => ⟨_, rfl, run_move (.tmp 5) rfl (h.var n' 5 (by kernel_rfl))⟩⟩
                      · refine .inl ⟨.inl rfl, ?_⟩
                        exact .inl ⟨by kernel_rfl, fun L a1 w1 n' h => ⟨_, rfl, run_move (.tmp 7) rfl (h.var n' 7 (by kernel_rfl))⟩⟩
                      · refine .inl ⟨.inl rfl, ?_⟩
                        exact .inl ⟨by kernel_rfl, fun L a1 w1 n' h => ⟨_, rfl, run_idxSl1 66 (.tmp 54) (.tmp 55) 67 ob NN cp i rfl Tryd.underlying66 Tryd.sizeOf67 (h.dep n' 0 54 (by kernel_rfl) rfl) (h.dep n' 1 55 (by kernel_rfl) rfl) hiN.out⟩⟩
                      · refine .inl ⟨.inl rfl, ?_⟩
                        exact .inl ⟨by kernel_rfl, fun L a1 w1 n' h => ⟨_, rfl, run_load1 67 (.tmp 56) ob i _ rfl Tryd.isAgg67 (h.dep n' 2 56 (by kernel_rfl) rfl) (cI w1 h.inv.2.2)⟩⟩
                      · refine .inl ⟨.inl rfl, ?_⟩
                        exact .inl ⟨by kernel_rfl, fun L a1 w1 n' h => ⟨_, rfl, run_move (.tmp 8) rfl (h.var n' 8 (by kernel_rfl))⟩⟩
                      · refine .inl ⟨.inl rfl, ?_⟩
                        exact .inl ⟨by kernel_rfl, fun L a1 w1 n' h => ⟨_, rfl, run_move (.tmp 5) rfl (h.var n' 5 (by kernel_rfl))⟩⟩
                      · refine .inl ⟨.inl rfl, ?_⟩
                        exact .inl ⟨by kernel_rfl, fun L a1 w1 n' h => ⟨_, rfl, run_move (.tmp 7) rfl (h.var n' 7 (by kernel_rfl))⟩⟩
                      · refine .inl ⟨.inl rfl, ?_⟩
                        exact .inl ⟨by kernel_rfl, fun L a1 w1 n' h => ⟨_, rfl, run_addZ (.tmp 60) (.const (.int .i64 1)) rfl (h.dep n' 6 60 (by kernel_rfl) rfl) rfl hjz.out⟩⟩
                      · refine .inl ⟨.inl rfl, ?_⟩
                        exact .inl ⟨by kernel_rfl, fun L a1 w1 n' h => ⟨_, rfl, run_idxSl1 66 (.tmp 59) (.tmp 61) 67 ob NN cp j rfl Tryd.underlying66 Tryd.sizeOf67 (h.dep n' 5 59 (by kernel_rfl) rfl) (h.dep n' 7 61 (by kernel_rfl) rfl) hjN.out⟩⟩
                      · refine .inl ⟨.inl rfl, ?_⟩
                        exact .inl ⟨by kernel_rfl, fun L a1 w1 n' h => ⟨_, rfl, run_load1 67 (.tmp 62) ob j _ rfl Tryd.isAgg67 (h.dep n' 8 62 (by kernel_rfl) rfl) (cJ w1 h.inv.2.2)⟩⟩
                      · refine .inl ⟨.inl rfl, ?_⟩
                        exact .inl ⟨by kernel_rfl, fun L a1 w1 n' h => ⟨_, rfl, run_move (.tmp 8) rfl (h.var n' 8 (by kernel_rfl))⟩⟩
                      · refine .inl ⟨.inl rfl, ?_⟩
                        exact .inl ⟨by kernel_rfl, fun L a1 w1 n' h => ⟨_, rfl, run_idxSl1 67 (.tmp 63) (.tmp 64) 4 gj MM MM k rfl Tryd.underlying67 Tryd.sizeOf4 (h.dep n' 9 63 (by kernel_rfl) rfl) (h.dep n' 10 64 (by kernel_rfl) rfl) hkM.out⟩⟩
                      · refine .inl ⟨.inl rfl, ?_⟩
                        exact .inl ⟨by kernel_rfl, fun L a1 w1 n' h => ⟨_, rfl, run_load1 4 (.tmp 65) gj k _ rfl Tryd.isAgg4 (h.dep n' 11 65 (by kernel_rfl) rfl) (cX w1 h.inv.2.2)⟩⟩
                      · refine .inl ⟨.inl rfl, ?_⟩
                        exact .inl ⟨by kernel_rfl, fun L a1 w1 n' h => ⟨_, rfl, run_move (.tmp 66) rfl (h.dep n' 12 66 (by kernel_rfl) rfl)⟩⟩
                      · exact .inr ⟨⟨13, false, 67, rfl, by kernel_rfl, rfl, by simp, fun v h => by rw [show v = .bool true from h]; first | exact ne_tf | exact ne_ft | exact ne_undef _⟩, by kernel_rfl, rfl⟩
                      · exact .inr ⟨⟨13, false, 67, rfl, by kernel_rfl, rfl, by simp, fun v h => by rw [show v = .bool true from h]; first | exact ne_tf | exact ne_ft | exact ne_undef _⟩, by kernel_rfl, rfl⟩
                      · exact .inr ⟨⟨13, false, 67, rfl, by kernel_rfl, rfl, by simp, fun v h => by rw [show v = .bool true from h]; first | exact ne_tf | exact ne_ft | exact ne_undef _⟩, by kernel_rfl, rfl⟩
                      · exact .inr ⟨⟨13, false, 67, rfl, by kernel_rfl, rfl, by simp, fun v h => by rw [show v = .bool true from h]; first | exact ne_tf | exact ne_ft | exact ne_undef _⟩, by kernel_rfl, rfl⟩
                      · exact .inr ⟨⟨13, false, 67, rfl, by kernel_rfl, rfl, by simp, fun v h => by rw [show v = .bool true from h]; first | exact ne_tf | exact ne_ft | exact ne_undef _⟩, by kernel_rfl, rfl⟩
                      · exact .inr ⟨⟨18, true, 72, rfl, by kernel_rfl, rfl, by simp, fun v h => by rw [show v = undef from h]; first | exact ne_tf | exact ne_ft | exact ne_undef _⟩, by kernel_rfl, rfl⟩
                      · exact .inr ⟨⟨18, true, 72, rfl, by kernel_rfl, rfl, by simp, fun v h => by rw [show v = undef from h]; first | exact ne_tf | exact ne_ft | exact ne_undef _⟩, by kernel_rfl, rfl⟩
                      · exact .inr ⟨⟨18, true, 72, rfl, by kernel_rfl, rfl, by simp, fun v h => by rw [show v = undef from h]; first | exact ne_tf | exact ne_ft | exact ne_undef _⟩, by kernel_rfl, rfl⟩
                      · exact .inr ⟨⟨18, true, 72, rfl, by kernel_rfl, rfl, by simp, fun v h => by rw [show v = undef from h]; first | exact ne_tf | exact ne_ft | exact ne_undef _⟩, by kernel_rfl, rfl⟩
                      · exact .inr ⟨⟨18, true, 72, rfl, by kernel_rfl, rfl, by simp, fun v h => by rw [show v = undef from h]; first | exact ne_tf | exact ne_ft | exact ne_undef _⟩, by kernel_rfl, rfl⟩
                      · exact .inr ⟨⟨18, true, 72, rfl, by kernel_rfl, rfl, by simp, fun v h => by rw [show v = undef from h]; first | exact ne_tf | exact ne_ft | exact ne_undef _⟩, by kernel_rfl, rfl⟩
                      · exact .inr ⟨⟨18, true, 72, rfl, by kernel_rfl, rfl, by simp, fun v h => by rw [show v = undef from h]; first | exact ne_tf | exact ne_ft | exact ne_undef _⟩, by kernel_rfl, rfl⟩
                      · exact .inr ⟨⟨18, true, 72, rfl, by kernel_rfl, rfl, by simp, fun v h => by rw [show v = undef from h]; first | exact ne_tf | exact ne_ft | exact ne_undef _⟩, by kernel_rfl, rfl⟩
                      · exact .inr ⟨⟨13, false, 67, rfl, by kernel_rfl, rfl, by simp, fun v h => by rw [show v = .bool true from h]; first | exact ne_tf | exact ne_ft | exact ne_undef _⟩, by kernel_rfl, rfl⟩
                      · refine .inl ⟨.inl rfl, ?_⟩
                        exact .inl ⟨by kernel_rfl, fun L a1 w1 n' h => ⟨_, rfl, run_pickT (.tmp 67) _ _ rfl (h.dep n' 13 67 (by kernel_rfl) rfl) rfl⟩⟩
                      · refine .inl ⟨.inl rfl, ?_⟩
                        exact .inl ⟨by kernel_rfl, fun L a1 w1 n' h => ⟨_, rfl, run_idxSl1 67 (.tmp 57) (.tmp 58) 4 gi MM MM k rfl Tryd.underlying67 Tryd.sizeOf4 (h.dep n' 3 57 (by kernel_rfl) rfl) (h.dep n' 4 58 (by kernel_rfl) rfl) hkM.out⟩⟩
                      · refine .inl ⟨.inl rfl, ?_⟩
                        refine .inr fun L a1 w1 n' h K hK => ?_
                        have no : L.getD 30 false = false := n'.not_yet
                        refine st_store 4 (.tmp 83) (.tmp 82) gi k 4 cur (.bool true) rfl (by kernel_rfl) (h.dep n' 29 83 (by kernel_rfl) rfl) (h.dep n' 28 82 (by kernel_rfl) rfl) (h.inv.1 no) hkc.out rfl ?_
                        intro w3 r3 o3
                        exact hK undef w3 trivial (JB.store h.inv o3 r3 rfl)
                    case heR1 =>
                      intro V wz hV hJ
                      have rz := hJ.2.1 rfl
                      have bu := hJ.2.2
                      clear hV hJ
                      simp only [putOps, List.setIfInBounds_toArray, List.set_cons_succ, List.set_cons_zero, Nat.reduceAdd, Act.put]
                      refine hK9 _ _ ?_
                      have tab2 := tab.out.set hgi.out hkS1.out bu (hcur.out ▸ rz)
                      have fil2 := fil.out.step (v := true) hval.out
                      have bw2 := bw.trans (bu.below hgB.out bw.size)
                      replace tab2 := hide tab2
                      replace fil2 := hide fil2
                      clear ri
                      go_wp2_with (first
                        | (with_reducible refine wl_run (o := ⟨some 35, _, _, _, _, _⟩) rfl (.int .i64 ((k : Int) - 1)) (run_subZ (.tmp 34) (.const (.int .i64 1)) rfl rfl rfl hks.out) ?_))
                      go_roundw
                      case rel => exact ⟨(k : Int) - 1, k, _, rfl, rfl, by have := hkS1.out; omega, tab2.out, fil2.out, bw2⟩
                      case measure => first | (simp [intOf]; done) | (simp [intOf]; omega)
                  | false =>
                    by_cases hks2 : k < s.length
                    · have hkSI : (k : Int) < (s.length : Int) := by omega
                      have hkS := hide hkSI
                      obtain ⟨m, hm⟩ : ∃ m, m = k + 1 := ⟨_, rfl⟩
                      have hmz := hide (show IntKind.i64.wrap ((k : Int) + 1) = (m : Int) from wrap_id (by omega) (by omega) (by omega))
                      have hmM := hide (show m < MM by have := hMM.out; omega)
                      obtain ⟨Y, hY⟩ : ∃ Y, Y = f i m := ⟨_, rfl⟩
                      have cY : ∀ w', Row w' 4 gi cur → w'.cell? ⟨gi, m, none⟩ = some (.bool Y) := fun w' h => by
                        rw [hcur.out] at h
                        have := h.cell (rowB_at (S := s.length) (k := m) (f := f i) (by omega))
                        rw [hY]; exact this
                      have hYL : Y = LL p s i (k + 1) := by rw [hY, hm]; exact fil.out.past (by omega) (by omega) (.inr ⟨rfl, by omega⟩)
                      have hval := hide (show Y = LL p s i k by rw [hst.out, decide_eq_true hks2, ← hYL]; rfl)
                      clear h42 hY hYL hks2
                      replace hm := hide hm
                      go_wp2_with (first
                        | (with_reducible refine wl_run (o := ⟨some 38, _, _, _, _, _⟩) rfl (.int .i64 (p.length : Int)) (run_lenStr 9 (.tmp 37) p rfl Tryd.underlying9 rfl) ?_)
                        | (with_reducible refine wl_run (o := ⟨some 52, _, _, _, _, _⟩) rfl (.int .u8 (a.toNat : Int)) (run_idxStr 9 (.tmp 50) (.tmp 51) p i a rfl Tryd.underlying9 rfl rfl hpa.out) ?_)
                        | (with_reducible refine wl_run (o := ⟨some 86, _, _, _, _, _⟩) rfl (.int .i64 (s.length : Int)) (run_lenStr 9 (.tmp 85) s rfl Tryd.underlying9 rfl) ?_))
                      rename_i K9 hK9
                      refine wp_region_valsS [30] (M15F p s ob gi gj NN cp MM i j k m 0 false Y) (JB gi 4 wr 0 cur (cur.set k (.bool Y))) (by kernel_rfl) (by kernel_rfl) (by kernel_rfl) (by kernel_rfl) (JB.start ri rfl) ?obsR2 ?heR2
                      case obsR2 =>
                        refine ⟨?_, ?_, ?_, ?_, ?_, ?_, ?_, ?_, ?_, ?_, ?_, ?_, ?_, ?_, ?_, ?_, ?_, ?_, ?_, ?_, ?_, ?_, ?_, ?_, ?_, ?_, ?_, ?_, ?_, ?_, ?_, trivial⟩
                        · refine .inl ⟨.inl rfl, ?_⟩
                          exact .inl ⟨by kernel_rfl, fun L a1 w1 n' h => ⟨_, rfl, run_move (.tmp 5) rfl (h.var n' 5 (by kernel_rfl))⟩⟩
                        · refine .inl ⟨.inl rfl, ?_⟩
                          exact .inl ⟨by kernel_rfl, fun L a1 w1 n' h => ⟨_, rfl, run_move (.tmp 7) rfl (h.var n' 7 (by kernel_rfl))⟩⟩
                        · refine .inl ⟨.inl rfl, ?_⟩
                          exact .inl ⟨by kernel_rfl, fun L a1 w1 n' h => ⟨_, rfl, run_idxSl1 66 (.tmp 54) (.tmp 55) 67 ob NN cp i rfl Tryd.underlying66 Tryd.sizeOf67 (h.dep n' 0 54 (by kernel_rfl) rfl) (h.dep n' 1 55 (by kernel_rfl) rfl) hiN.out⟩⟩
                        · refine .inl ⟨.inl rfl, ?_⟩
                          exact .inl ⟨by kernel_rfl, fun L a1 w1 n' h => ⟨_, rfl, run_load1 67 (.tmp 56) ob i _ rfl Tryd.isAgg67 (h.dep n' 2 56 (by kernel_rfl) rfl) (cI w1 h.inv.2.2)⟩⟩
                        · refine .inl ⟨.inl rfl, ?_⟩
                          exact .inl ⟨by kernel_rfl, fun L a1 w1 n' h => ⟨_, rfl, run_move (.tmp 8) rfl (h.var n' 8 (by kernel_rfl))⟩⟩
                        · refine .inl ⟨.inl rfl, ?_⟩
                          exact .inl ⟨by kernel_rfl, fun L a1 w1 n' h => ⟨_, rfl, run_move (.tmp 5) rfl (h.var n' 5 (by kernel_rfl))⟩⟩
                        · refine .inl ⟨.inl rfl, ?_⟩
                          exact .inl ⟨by kernel_rfl, fun L a1 w1 n' h => ⟨_, rfl, run_move (.tmp 7) rfl (h.var n' 7 (by kernel_rfl))⟩⟩
                        · refine .inl ⟨.inl rfl, ?_⟩
                          exact .inl ⟨by kernel_rfl, fun L a1 w1 n' h => ⟨_, rfl, run_addZ (.tmp 60) (.const (.int .i64 1)) rfl (h.dep n' 6 60 (by kernel_rfl) rfl) rfl hjz.out⟩⟩
                        · refine .inl ⟨.inl rfl, ?_⟩
                          exact .inl ⟨by kernel_rfl, fun L a1 w1 n' h => ⟨_, rfl, run_idxSl1 66 (.tmp 59) (.tmp 61) 67 ob NN cp j rfl Tryd.underlying66 Tryd.sizeOf67 (h.dep n' 5 59 (by kernel_rfl) rfl) (h.dep n' 7 61 (by kernel_rfl) rfl) hjN.out⟩⟩
                        · refine .inl ⟨.inl rfl, ?_⟩
                          exact .inl ⟨by kernel_rfl, fun L a1 w1 n' h => ⟨_, rfl, run_load1 67 (.tmp 62) ob j _ rfl Tryd.isAgg67 (h.dep n' 8 62 (by kernel_rfl) rfl) (cJ w1 h.inv.2.2)⟩⟩
                        · refine .inl ⟨.inl rfl, ?_⟩
                          exact .inl ⟨by kernel_rfl, fun L a1 w1 n' h => ⟨_, rfl, run_move (.tmp 8) rfl (h.var n' 8 (by kernel_rfl))⟩⟩
                        · refine .inl ⟨.inl rfl, ?_⟩
                          exact .inl ⟨by kernel_rfl, fun L a1 w1 n' h => ⟨_, rfl, run_idxSl1 67 (.tmp 63) (.tmp 64) 4 gj MM MM k rfl Tryd.underlying67 Tryd.sizeOf4 (h.dep n' 9 63 (by kernel_rfl) rfl) (h.dep n' 10 64 (by kernel_rfl) rfl) hkM.out⟩⟩
                        · refine .inl ⟨.inl rfl, ?_⟩
                          exact .inl ⟨by kernel_rfl, fun L a1 w1 n' h => ⟨_, rfl, run_load1 4 (.tmp 65) gj k _ rfl Tryd.isAgg4 (h.dep n' 11 65 (by kernel_rfl) rfl) (cX w1 h.inv.2.2)⟩⟩
                        · refine .inl ⟨.inl rfl, ?_⟩
                          exact .inl ⟨by kernel_rfl, fun L a1 w1 n' h => ⟨_, rfl, run_move (.tmp 66) rfl (h.dep n' 12 66 (by kernel_rfl) rfl)⟩⟩
                        · refine .inl ⟨.inr ⟨13, false, 67, rfl, by kernel_rfl, rfl, by simp, fun v h => h⟩, ?_⟩
                          exact .inl ⟨by kernel_rfl, fun L a1 w1 n' h => ⟨_, rfl, run_move (.tmp 8) rfl (h.var n' 8 (by kernel_rfl))⟩⟩
                        · refine .inl ⟨.inr ⟨13, false, 67, rfl, by kernel_rfl, rfl, by simp, fun v h => h⟩, ?_⟩
                          exact .inl ⟨by kernel_rfl, fun L a1 w1 n' h => ⟨_, rfl, run_move (.tmp 1) rfl (h.var n' 1 (by kernel_rfl))⟩⟩
                        · refine .inl ⟨.inr ⟨13, false, 67, rfl, by kernel_rfl, rfl, by simp, fun v h => h⟩, ?_⟩
                          exact .inl ⟨by kernel_rfl, fun L a1 w1 n' h => ⟨_, rfl, run_lenStr 9 (.tmp 69) s rfl Tryd.underlying9 (h.dep n' 15 69 (by kernel_rfl) rfl)⟩⟩
                        · refine .inl ⟨.inr ⟨13, false, 67, rfl, by kernel_rfl, rfl, by simp, fun v h => h⟩, ?_⟩
                          exact .inl ⟨by kernel_rfl, fun L a1 w1 n' h => ⟨_, rfl, run_lssI (.tmp 68) (.tmp 70) rfl (h.dep n' 14 68 (by kernel_rfl) rfl) (h.dep n' 16 70 (by kernel_rfl) rfl) (decide_eq_true hkS.out)⟩⟩
                        · refine .inl ⟨.inr ⟨13, false, 67, rfl, by kernel_rfl, rfl, by simp, fun v h => h⟩, ?_⟩
                          exact .inl ⟨by kernel_rfl, fun L a1 w1 n' h => ⟨_, rfl, run_move (.tmp 71) rfl (h.dep n' 17 71 (by kernel_rfl) rfl)⟩⟩
                        · refine .inl ⟨.inr ⟨18, true, 72, rfl, by kernel_rfl, rfl, by simp, fun v h => h⟩, ?_⟩
                          exact .inl ⟨by kernel_rfl, fun L a1 w1 n' h => ⟨_, rfl, run_move (.tmp 5) rfl (h.var n' 5 (by kernel_rfl))⟩⟩
                        · refine .inl ⟨.inr ⟨18, true, 72, rfl, by kernel_rfl, rfl, by simp, fun v h => h⟩, ?_⟩
                          exact .inl ⟨by kernel_rfl, fun L a1 w1 n' h => ⟨_, rfl, run_move (.tmp 7) rfl (h.var n' 7 (by kernel_rfl))⟩⟩
                        · refine .inl ⟨.inr ⟨18, true, 72, rfl, by kernel_rfl, rfl, by simp, fun v h => h⟩, ?_⟩
                          exact .inl ⟨by kernel_rfl, fun L a1 w1 n' h => ⟨_, rfl, run_idxSl1 66 (.tmp 73) (.tmp 74) 67 ob NN cp i rfl Tryd.underlying66 Tryd.sizeOf67 (h.dep n' 19 73 (by kernel_rfl) rfl) (h.dep n' 20 74 (by kernel_rfl) rfl) hiN.out⟩⟩
                        · refine .inl ⟨.inr ⟨18, true, 72, rfl, by kernel_rfl, rfl, by simp, fun v h => h⟩, ?_⟩
                          exact .inl ⟨by kernel_rfl, fun L a1 w1 n' h => ⟨_, rfl, run_load1 67 (.tmp 75) ob i _ rfl Tryd.isAgg67 (h.dep n' 21 75 (by kernel_rfl) rfl) (cI w1 h.inv.2.2)⟩⟩
                        · refine .inl ⟨.inr ⟨18, true, 72, rfl, by kernel_rfl, rfl, by simp, fun v h => h⟩, ?_⟩
                          exact .inl ⟨by kernel_rfl, fun L a1 w1 n' h => ⟨_, rfl, run_move (.tmp 8) rfl (h.var n' 8 (by kernel_rfl))⟩⟩
                        · refine .inl ⟨.inr ⟨18, true, 72, rfl, by kernel_rfl, rfl, by simp, fun v h => h⟩, ?_⟩
                          exact .inl ⟨by kernel_rfl, fun L a1 w1 n' h => ⟨_, rfl, run_addZ (.tmp 77) (.const (.int .i64 1)) rfl (h.dep n' 23 77 (by kernel_rfl) rfl) rfl hmz.out⟩⟩
                        · refine .inl ⟨.inr ⟨18, true, 72, rfl, by kernel_rfl, rfl, by simp, fun v h => h⟩, ?_⟩
                          exact .inl ⟨by kernel_rfl, fun L a1 w1 n' h => ⟨_, rfl, run_idxSl1 67 (.tmp 76) (.tmp 78) 4 gi MM MM m rfl Tryd.underlying67 Tryd.sizeOf4 (h.dep n' 22 76 (by kernel_rfl) rfl) (h.dep n' 24 78 (by kernel_rfl) rfl) hmM.out⟩⟩
                        · refine .inl ⟨.inr ⟨18, true, 72, rfl, by kernel_rfl, rfl, by simp, fun v h => h⟩, ?_⟩
                          exact .inl ⟨by kernel_rfl, fun L a1 w1 n' h => ⟨_, rfl, run_load1 4 (.tmp 79) gi m _ rfl Tryd.isAgg4 (h.dep n' 25 79 (by kernel_rfl) rfl) (cY w1 (h.inv.1 (n'.later (by kernel_rfl) : L.getD 30 false = false)))⟩⟩
                        · refine .inl ⟨.inr ⟨13, false, 67, rfl, by kernel_rfl, rfl, by simp, fun v h => h⟩, ?_⟩
                          exact .inl ⟨by kernel_rfl, fun L a1 w1 n' h => ⟨_, rfl, run_pickT (.tmp 72) _ _ rfl (h.dep n' 18 72 (by kernel_rfl) rfl) (h.dep n' 26 80 (by kernel_rfl) rfl)⟩⟩
                        · refine .inl ⟨.inl rfl, ?_⟩
                          exact .inl ⟨by kernel_rfl, fun L a1 w1 n' h => ⟨_, rfl, run_pickF (.tmp 67) _ _ rfl (h.dep n' 13 67 (by kernel_rfl) rfl) (h.dep n' 27 81 (by kernel_rfl) rfl)⟩⟩
                        · refine .inl ⟨.inl rfl, ?_⟩
                          exact .inl ⟨by kernel_rfl, fun L a1 w1 n' h => ⟨_, rfl, run_idxSl1 67 (.tmp 57) (.tmp 58) 4 gi MM MM k rfl Tryd.underlying67 Tryd.sizeOf4 (h.dep n' 3 57 (by kernel_rfl) rfl) (h.dep n' 4 58 (by kernel_rfl) rfl) hkM.out⟩⟩
                        · refine .inl ⟨.inl rfl, ?_⟩
                          refine .inr fun L a1 w1 n' h K hK => ?_
                          have no : L.getD 30 false = false := n'.not_yet
                          refine st_store 4 (.tmp 83) (.tmp 82) gi k 4 cur (.bool Y) rfl (by kernel_rfl) (h.dep n' 29 83 (by kernel_rfl) rfl) (h.dep n' 28 82 (by kernel_rfl) rfl) (h.inv.1 no) hkc.out rfl ?_
                          intro w3 r3 o3
                          exact hK undef w3 trivial (JB.store h.inv o3 r3 rfl)
                      case heR2 =>
                        intro V wz hV hJ
                        have rz := hJ.2.1 rfl
                        have bu := hJ.2.2
                        clear hV hJ
                        simp only [putOps, List.setIfInBounds_toArray, List.set_cons_succ, List.set_cons_zero, Nat.reduceAdd, Act.put]
                        refine hK9 _ _ ?_
                        have tab2 := tab.out.set hgi.out hkS1.out bu (hcur.out ▸ rz)
                        have fil2 := fil.out.step (v := Y) hval.out
                        have bw2 := bw.trans (bu.below hgB.out bw.size)
                        replace tab2 := hide tab2
                        replace fil2 := hide fil2
                        clear ri
                        go_wp2_with (first
                          | (with_reducible refine wl_run (o := ⟨some 35, _, _, _, _, _⟩) rfl (.int .i64 ((k : Int) - 1)) (run_subZ (.tmp 34) (.const (.int .i64 1)) rfl rfl rfl hks.out) ?_))
                        go_roundw
                        case rel => exact ⟨(k : Int) - 1, k, _, rfl, rfl, by have := hkS1.out; omega, tab2.out, fil2.out, bw2⟩
                        case measure => first | (simp [intOf]; done) | (simp [intOf]; omega)
                    · have hkSI : ¬ (k : Int) < (s.length : Int) := by omega
                      have hkS := hide (show (s.length : Int) ≤ (k : Int) by omega)
                      have hval := hide (show false = LL p s i k by rw [hst.out, decide_eq_false hks2]; rfl)
                      clear h42 hks2
                      go_wp2_with (first
                        | (with_reducible refine wl_run (o := ⟨some 38, _, _, _, _, _⟩) rfl (.int .i64 (p.length : Int)) (run_lenStr 9 (.tmp 37) p rfl Tryd.underlying9 rfl) ?_)
                        | (with_reducible refine wl_run (o := ⟨some 52, _, _, _, _, _⟩) rfl (.int .u8 (a.toNat : Int)) (run_idxStr 9 (.tmp 50) (.tmp 51) p i a rfl Tryd.underlying9 rfl rfl hpa.out) ?_)
                        | (with_reducible refine wl_run (o := ⟨some 86, _, _, _, _, _⟩) rfl (.int .i64 (s.length : Int)) (run_lenStr 9 (.tmp 85) s rfl Tryd.underlying9 rfl) ?_))
                      rename_i K9 hK9
                      refine wp_region_valsS [30] (M15E p s ob gi gj NN cp MM i j k 0 0 false false) (JB gi 4 wr 0 cur (cur.set k (.bool false))) (by kernel_rfl) (by kernel_rfl) (by kernel_rfl) (by kernel_rfl) (JB.start ri rfl) ?obsR3 ?heR3
                      case obsR3 =>
                        refine ⟨?_, ?_, ?_, ?_, ?_, ?_, ?_, ?_, ?_, ?_, ?_, ?_, ?_, ?_, ?_, ?_, ?_, ?_, ?_, ?_, ?_, ?_, ?_, ?_, ?_, ?_, ?_, ?_, ?_, ?_, ?_, trivial⟩
                        · refine .inl ⟨.inl rfl, ?_⟩
                          exact .inl ⟨by kernel_rfl, fun L a1 w1 n' h => ⟨_, rfl, run_move (.tmp 5) rfl (h.var n' 5 (by kernel_rfl))⟩⟩
                        · refine .inl ⟨.inl rfl, ?_⟩
                          exact .inl ⟨by kernel_rfl, fun L a1 w1 n' h => ⟨_, rfl, run_move (.tmp 7) rfl (h.var n' 7 (by kernel_rfl))⟩⟩
                        · refine .inl ⟨.inl rfl, ?_⟩
                          exact .inl ⟨by kernel_rfl, fun L a1 w1 n' h => ⟨_, rfl, run_idxSl1 66 (.tmp 54) (.tmp 55) 67 ob NN cp i rfl Tryd.underlying66 Tryd.sizeOf67 (h.dep n' 0 54 (by kernel_rfl) rfl) (h.dep n' 1 55 (by kernel_rfl) rfl) hiN.out⟩⟩
                        · refine .inl ⟨.inl rfl, ?_⟩
                          exact .inl ⟨by kernel_rfl, fun L a1 w1 n' h => ⟨_, rfl, run_load1 67 (.tmp 56) ob i _ rfl Tryd.isAgg67 (h.dep n' 2 56 (by kernel_rfl) rfl) (cI w1 h.inv.2.2)⟩⟩
                        · refine .inl ⟨.inl rfl, ?_⟩
                          exact .inl ⟨by kernel_rfl, fun L a1 w1 n' h => ⟨_, rfl, run_move (.tmp 8) rfl (h.var n' 8 (by kernel_rfl))⟩⟩
                        · refine .inl ⟨.inl rfl, ?_⟩
                          exact .inl ⟨by kernel_rfl, fun L a1 w1 n' h => ⟨_, rfl, run_move (.tmp 5) rfl (h.var n' 5 (by kernel_rfl))⟩⟩
                        · refine .inl ⟨.inl rfl, ?_⟩
                          exact .inl ⟨by kernel_rfl, fun L a1 w1 n' h => ⟨_, rfl, run_move (.tmp 7) rfl (h.var n' 7 (by kernel_rfl))⟩⟩
                        · refine .inl ⟨.inl rfl, ?_⟩
                          exact .inl ⟨by kernel_rfl, fun L a1 w1 n' h => ⟨_, rfl, run_addZ (.tmp 60) (.const (.int .i64 1)) rfl (h.dep n' 6 60 (by kernel_rfl) rfl) rfl hjz.out⟩⟩
                        · refine .inl ⟨.inl rfl, ?_⟩
                          exact .inl ⟨by kernel_rfl, fun L a1 w1 n' h => ⟨_, rfl, run_idxSl1 66 (.tmp 59) (.tmp 61) 67 ob NN cp j rfl Tryd.underlying66 Tryd.sizeOf67 (h.dep n' 5 59 (by kernel_rfl) rfl) (h.dep n' 7 61 (by kernel_rfl) rfl) hjN.out⟩⟩
                        · refine .inl ⟨.inl rfl, ?_⟩
                          exact .inl ⟨by kernel_rfl, fun L a1 w1 n' h => ⟨_, rfl, run_load1 67 (.tmp 62) ob j _ rfl Tryd.isAgg67 (h.dep n' 8 62 (by kernel_rfl) rfl) (cJ w1 h.inv.2.2)⟩⟩
                        · refine .inl ⟨.inl rfl, ?_⟩
                          exact .inl ⟨by kernel_rfl, fun L a1 w1 n' h => ⟨_, rfl, run_move (.tmp 8) rfl (h.var n' 8 (by kernel_rfl))⟩⟩
                        · refine .inl ⟨.inl rfl, ?_⟩
                          exact .inl ⟨by kernel_rfl, fun L a1 w1 n' h => ⟨_, rfl, run_idxSl1 67 (.tmp 63) (.tmp 64) 4 gj MM MM k rfl Tryd.underlying67 Tryd.sizeOf4 (h.dep n' 9 63 (by kernel_rfl) rfl) (h.dep n' 10 64 (by kernel_rfl) rfl) hkM.out⟩⟩
                        · refine .inl ⟨.inl rfl, ?_⟩
                          exact .inl ⟨by kernel_rfl, fun L a1 w1 n' h => ⟨_, rfl, run_load1 4 (.tmp 65) gj k _ rfl Tryd.isAgg4 (h.dep n' 11 65 (by kernel_rfl) rfl) (cX w1 h.inv.2.2)⟩⟩
                        · refine .inl ⟨.inl rfl, ?_⟩
                          exact .inl ⟨by kernel_rfl, fun L a1 w1 n' h => ⟨_, rfl, run_move (.tmp 66) rfl (h.dep n' 12 66 (by kernel_rfl) rfl)⟩⟩
                        · refine .inl ⟨.inr ⟨13, false, 67, rfl, by kernel_rfl, rfl, by simp, fun v h => h⟩, ?_⟩
                          exact .inl ⟨by kernel_rfl, fun L a1 w1 n' h => ⟨_, rfl, run_move (.tmp 8) rfl (h.var n' 8 (by kernel_rfl))⟩⟩
                        · refine .inl ⟨.inr ⟨13, false, 67, rfl, by kernel_rfl, rfl, by simp, fun v h => h⟩, ?_⟩
                          exact .inl ⟨by kernel_rfl, fun L a1 w1 n' h => ⟨_, rfl, run_move (.tmp 1) rfl (h.var n' 1 (by kernel_rfl))⟩⟩
                        · refine .inl ⟨.inr ⟨13, false, 67, rfl, by kernel_rfl, rfl, by simp, fun v h => h⟩, ?_⟩
                          exact .inl ⟨by kernel_rfl, fun L a1 w1 n' h => ⟨_, rfl, run_lenStr 9 (.tmp 69) s rfl Tryd.underlying9 (h.dep n' 15 69 (by kernel_rfl) rfl)⟩⟩
                        · refine .inl ⟨.inr ⟨13, false, 67, rfl, by kernel_rfl, rfl, by simp, fun v h => h⟩, ?_⟩
                          exact .inl ⟨by kernel_rfl, fun L a1 w1 n' h => ⟨_, rfl, run_lssI (.tmp 68) (.tmp 70) rfl (h.dep n' 14 68 (by kernel_rfl) rfl) (h.dep n' 16 70 (by kernel_rfl) rfl) (decide_eq_false (Int.not_lt.2 hkS.out))⟩⟩
                        · refine .inl ⟨.inr ⟨13, false, 67, rfl, by kernel_rfl, rfl, by simp, fun v h => h⟩, ?_⟩
                          exact .inl ⟨by kernel_rfl, fun L a1 w1 n' h => ⟨_, rfl, run_move (.tmp 71) rfl (h.dep n' 17 71 (by kernel_rfl) rfl)⟩⟩
                        · exact .inr ⟨⟨18, true, 72, rfl, by kernel_rfl, rfl, by simp, fun v h => by rw [show v = .bool false from h]; first | exact ne_tf | exact ne_ft | exact ne_undef _⟩, by kernel_rfl, rfl⟩
                        · exact .inr ⟨⟨18, true, 72, rfl, by kernel_rfl, rfl, by simp, fun v h => by rw [show v = .bool false from h]; first | exact ne_tf | exact ne_ft | exact ne_undef _⟩, by kernel_rfl, rfl⟩
                        · exact .inr ⟨⟨18, true, 72, rfl, by kernel_rfl, rfl, by simp, fun v h => by rw [show v = .bool false from h]; first | exact ne_tf | exact ne_ft | exact ne_undef _⟩, by kernel_rfl, rfl⟩
                        · exact .inr ⟨⟨18, true, 72, rfl, by kernel_rfl, rfl, by simp, fun v h => by rw [show v = .bool false from h]; first | exact ne_tf | exact ne_ft | exact ne_undef _⟩, by kernel_rfl, rfl⟩
                        · exact .inr ⟨⟨18, true, 72, rfl, by kernel_rfl, rfl, by simp, fun v h => by rw [show v = .bool false from h]; first | exact ne_tf | exact ne_ft | exact ne_undef _⟩, by kernel_rfl, rfl⟩
                        · exact .inr ⟨⟨18, true, 72, rfl, by kernel_rfl, rfl, by simp, fun v h => by rw [show v = .bool false from h]; first | exact ne_tf | exact ne_ft | exact ne_undef _⟩, by kernel_rfl, rfl⟩
                        · exact .inr ⟨⟨18, true, 72, rfl, by kernel_rfl, rfl, by simp, fun v h => by rw [show v = .bool false from h]; first | exact ne_tf | exact ne_ft | exact ne_undef _⟩, by kernel_rfl, rfl⟩
                        · exact .inr ⟨⟨18, true, 72, rfl, by kernel_rfl, rfl, by simp, fun v h => by rw [show v = .bool false from h]; first | exact ne_tf | exact ne_ft | exact ne_undef _⟩, by kernel_rfl, rfl⟩
                        · refine .inl ⟨.inr ⟨13, false, 67, rfl, by kernel_rfl, rfl, by simp, fun v h => h⟩, ?_⟩
                          exact .inl ⟨by kernel_rfl, fun L a1 w1 n' h => ⟨_, rfl, run_pickF (.tmp 72) _ _ rfl (h.dep n' 18 72 (by kernel_rfl) rfl) rfl⟩⟩
                        · refine .inl ⟨.inl rfl, ?_⟩
                          exact .inl ⟨by kernel_rfl, fun L a1 w1 n' h => ⟨_, rfl, run_pickF (.tmp 67) _ _ rfl (h.dep n' 13 67 (by kernel_rfl) rfl) (h.dep n' 27 81 (by kernel_rfl) rfl)⟩⟩
                        · refine .inl ⟨.inl rfl, ?_⟩
                          exact .inl ⟨by kernel_rfl, fun L a1 w1 n' h => ⟨_, rfl, run_idxSl1 67 (.tmp 57) (.tmp 58) 4 gi MM MM k rfl Tryd.underlying67 Tryd.sizeOf4 (h.dep n' 3 57 (by kernel_rfl) rfl) (h.dep n' 4 58 (by kernel_rfl) rfl) hkM.out⟩⟩
                        · refine .inl ⟨.inl rfl, ?_⟩
                          refine .inr fun L a1 w1 n' h K hK => ?_
                          have no : L.getD 30 false = false := n'.not_yet
                          refine st_store 4 (.tmp 83) (.tmp 82) gi k 4 cur (.bool false) rfl (by kernel_rfl) (h.dep n' 29 83 (by kernel_rfl) rfl) (h.dep n' 28 82 (by kernel_rfl) rfl) (h.inv.1 no) hkc.out rfl ?_
                          intro w3 r3 o3
                          exact hK undef w3 trivial (JB.store h.inv o3 r3 rfl)
                      case heR3 =>
                        intro V wz hV hJ
                        have rz := hJ.2.1 rfl
                        have bu := hJ.2.2
                        clear hV hJ
                        simp only [putOps, List.setIfInBounds_toArray, List.set_cons_succ, List.set_cons_zero, Nat.reduceAdd, Act.put]
                        refine hK9 _ _ ?_
                        have tab2 := tab.out.set hgi.out hkS1.out bu (hcur.out ▸ rz)
                        have fil2 := fil.out.step (v := false) hval.out
                        have bw2 := bw.trans (bu.below hgB.out bw.size)
                        replace tab2 := hide tab2
                        replace fil2 := hide fil2
                        clear ri
                        go_wp2_with (first
                          | (with_reducible refine wl_run (o := ⟨some 35, _, _, _, _, _⟩) rfl (.int .i64 ((k : Int) - 1)) (run_subZ (.tmp 34) (.const (.int .i64 1)) rfl rfl rfl hks.out) ?_))
                        go_roundw
                        case rel => exact ⟨(k : Int) - 1, k, _, rfl, rfl, by have := hkS1.out; omega, tab2.out, fil2.out, bw2⟩
                        case measure => first | (simp [intOf]; done) | (simp [intOf]; omega)
                · have hq42 : ((a.toNat : Int) == 42) = false := beq_eq_false_iff_ne.2 (by omega)
                  by_cases hks2 : k < s.length
                  · have hkSI : (k : Int) < (s.length : Int) := by omega
                    obtain ⟨c, hc⟩ : ∃ c, s[k]? = some c := ⟨_, List.getElem?_eq_getElem hks2⟩
                    have hpd := hide (show encStr (p.drop i) = encStr (a :: p.drop (i + 1)) by rw [drop_cons hpa.out])
                    have hlr : (p.drop (i + 1)).length ≤ 1000 := by simp; omega
                    obtain ⟨nn, hnn⟩ : ∃ nn, nn = (a :: p.drop (i + 1)).length - (cutPartL a (p.drop (i + 1))).2.length := ⟨_, rfl⟩
                    have hn1 := first_n a (p.drop (i + 1)) nn hnn wr c
                    have HF := fun w => first_val w a (p.drop (i + 1)) c h42 hlr nn hnn
                    have hone := LL_one hpa.out h42 hc
                    have hrest : (a :: p.drop (i + 1)).drop nn = (cutPartL a (p.drop (i + 1))).2 := by
                      obtain ⟨m, e1, e2, e3, e4⟩ : ∃ m, (a :: p.drop (i + 1)).drop m = (cutPartL a (p.drop (i + 1))).2 ∧ m ≤ (a :: p.drop (i + 1)).length ∧ True ∧ True := by
                        exact cutPartL_drop a (p.drop (i + 1))
                      have : m = nn := by
                        have := congrArg List.length e1
                        rw [List.length_drop] at this
                        omega
                      rw [← this]; exact e1
                    rw [← hrest, ← drop_cons hpa.out, List.drop_drop] at hone
                    have hone2 : LL p s i k = ((cutPartL a (p.drop (i + 1))).1.takes c && LL p s (i + nn) (k + 1)) := hone
                    clear hone hrest
                    have hnl : i + nn ≤ p.length := by
                      have := hn1.2
                      rw [List.length_cons, List.length_drop] at this
                      omega
                    have hn0 := hn1.1
                    generalize p.drop (i + 1) = rest at *
                    obtain ⟨TT, hTT⟩ : ∃ TT, TT = (cutPartL a rest).1.takes c := ⟨_, rfl⟩
                    rw [← hTT] at HF hone2
                    clear hTT hnn hn1 h42
                    replace hone2 := hide hone2
                    have hsc := hide hc
                    have hip := hide (show i ≤ p.length by omega)
                    clear hc hlr
                    go_wp2_with (first
                      | (with_reducible refine wl_run (o := ⟨some 38, _, _, _, _, _⟩) rfl (.int .i64 (p.length : Int)) (run_lenStr 9 (.tmp 37) p rfl Tryd.underlying9 rfl) ?_)
                      | (with_reducible refine wl_run (o := ⟨some 52, _, _, _, _, _⟩) rfl (.int .u8 (a.toNat : Int)) (run_idxStr 9 (.tmp 50) (.tmp 51) p i a rfl Tryd.underlying9 rfl rfl hpa.out) ?_)
                      | (with_reducible refine wl_run (o := ⟨some 86, _, _, _, _, _⟩) rfl (.int .i64 (s.length : Int)) (run_lenStr 9 (.tmp 85) s rfl Tryd.underlying9 rfl) ?_))
                    rename_i K7 hK7
                    refine wp_region_vals [6] (M17 p s rest a c i k nn TT) (fun _ _ wz => Below wr.heap.size wr wz) (by kernel_rfl) (by kernel_rfl) (by kernel_rfl) (by kernel_rfl) (by kernel_rfl) ((Below.refl _ _).drew) ?obs17 ?he17
                    case obs17 =>
                      refine ⟨?_, ?_, ?_, ?_, ?_, ?_, ?_, ?_, ?_, ?_, ?_, ?_, trivial⟩
                      · exact .inl ⟨by kernel_rfl, fun L a1 w1 n' h => ⟨_, rfl, run_move (.tmp 0) rfl (h.var n' 0 (by kernel_rfl))⟩⟩
                      · exact .inl ⟨by kernel_rfl, fun L a1 w1 n' h => ⟨_, rfl, run_move (.tmp 7) rfl (h.var n' 7 (by kernel_rfl))⟩⟩
                      · exact .inl ⟨by kernel_rfl, fun L a1 w1 n' h => ⟨_, rfl, (run_sliceStrL 9 (.tmp 89) (.tmp 90) p i rfl Tryd.underlying9 (h.dep n' 0 89 (by kernel_rfl) rfl) (h.dep n' 1 90 (by kernel_rfl) rfl) hip.out).trans (by rw [hpd.out])⟩⟩
                      · exact .inl ⟨by kernel_rfl, fun L a1 w1 n' h => ⟨_, rfl, run_move (.tmp 1) rfl (h.var n' 1 (by kernel_rfl))⟩⟩
                      · exact .inl ⟨by kernel_rfl, fun L a1 w1 n' h => ⟨_, rfl, run_move (.tmp 8) rfl (h.var n' 8 (by kernel_rfl))⟩⟩
                      · exact .inl ⟨by kernel_rfl, fun L a1 w1 n' h => ⟨_, rfl, run_idxStr 9 (.tmp 92) (.tmp 93) s k c rfl Tryd.underlying9 (h.dep n' 3 92 (by kernel_rfl) rfl) (h.dep n' 4 93 (by kernel_rfl) rfl) hsc.out⟩⟩
                      · refine .inr fun L a1 w1 n' h K hK => ?_
                        have e0 : a1.eval (.tmp 91) = encStr (a :: rest) := h.dep n' 2 91 (by kernel_rfl) rfl
                        have e1 : a1.eval (.tmp 94) = .int .u8 (c.toNat : Int) := h.dep n' 5 94 (by kernel_rfl) rfl
                        refine st_call 38 _ _ #[encStr (a :: rest), .int .u8 (c.toNat : Int)] rfl Tryd.call38 ?_ (HF w1) ?_
                        · simp only [List.map_toArray, List.map_cons, List.map_nil, e0, e1]
                        · rintro e w3 ⟨rfl, b9⟩
                          exact ⟨_, rfl, hK _ w3 rfl (h.inv.trans (b9.mono h.inv.size))⟩
                      · exact .inl ⟨by kernel_rfl, fun L a1 w1 n' h => ⟨_, rfl, run_move (.tmp 95) rfl (h.dep n' 6 95 (by kernel_rfl) rfl)⟩⟩
                      · exact .inl ⟨by kernel_rfl, fun L a1 w1 n' h => ⟨_, rfl, run_extract (.tmp 88) 0 _ _ rfl (h.dep n' 7 88 (by kernel_rfl) rfl) rfl⟩⟩
                      · exact .inl ⟨by kernel_rfl, fun L a1 w1 n' h => ⟨_, rfl, run_extract (.tmp 88) 1 _ _ rfl (h.dep n' 7 88 (by kernel_rfl) rfl) rfl⟩⟩
                      · exact .inl ⟨by kernel_rfl, fun L a1 w1 n' h => ⟨_, rfl, run_assign (.tmp 96) rfl (h.dep n' 8 96 (by kernel_rfl) rfl)⟩⟩
                      · exact .inl ⟨by kernel_rfl, fun L a1 w1 n' h => ⟨_, rfl, run_assign (.tmp 97) rfl (h.dep n' 9 97 (by kernel_rfl) rfl)⟩⟩
                    case he17 =>
                      intro V w2 hV hJ
                      have b2 : Below wr.heap.size wr w2 := hJ
                      have h1 : V 10 = .bool TT := hV 10 _ rfl
                      have h2 : V 11 = .int .i64 (nn : Int) := hV 11 _ rfl
                      clear hV hJ HF
                      simp only [putOps, List.setIfInBounds_toArray, List.set_cons_succ, List.set_cons_zero, Nat.reduceAdd, Act.put]
                      rw [h1, h2]
                      clear h1 h2
                      refine hK7 _ _ ?_
                      have tabw := hide (tab.out.later b2)
                      have bww := bw.trans (b2.mono bw.size)
                      have cI : ∀ w', But gi w2 w' → w'.cell? ⟨ob, i, none⟩ = some (.slice (some ⟨gi, 0, none⟩) MM MM) := fun w' h => by
                        rw [hMM.out]; exact (but_cell h (tabw.out.out i gi hgi.out).1 tabw.out.hi).trans (tabw.out.outer i gi hgi.out)
                      have ri : Row w2 4 gi cur := by rw [hcur.out]; exact tabw.out.rows i gi hgi.out
                      cases TT with
                      | true =>
                        obtain ⟨j, hj⟩ : ∃ j, j = i + nn := ⟨_, rfl⟩
                        have hjz := hide (show IntKind.i64.wrap ((i : Int) + (nn : Int)) = (j : Int) from wrap_id (by omega) (by omega) (by omega))
                        obtain ⟨gj, hgj⟩ : ∃ g, gs[j]? = some g := ⟨_, List.getElem?_eq_getElem (by have := hNN.out; have := hge2.out; omega)⟩
                        have hjN := hide (show j < NN by have := hge2.out; omega)
                        have hne : gj ≠ gi := fun e => by
                          subst e
                          have := tabw.out.inj _ _ _ hgj hgi.out
                          omega
                        have cJ : ∀ w', But gi w2 w' → w'.cell? ⟨ob, j, none⟩ = some (.slice (some ⟨gj, 0, none⟩) MM MM) := fun w' h => by
                          rw [hMM.out]; exact (but_cell h (tabw.out.out i gi hgi.out).1 tabw.out.hi).trans (tabw.out.outer j gj hgj)
                        obtain ⟨m, hm⟩ : ∃ m, m = k + 1 := ⟨_, rfl⟩
                        have hmz := hide (show IntKind.i64.wrap ((k : Int) + 1) = (m : Int) from wrap_id (by omega) (by omega) (by omega))
                        have hmM := hide (show m < MM by have := hMM.out; omega)
                        obtain ⟨X, hX⟩ : ∃ X, X = f j m := ⟨_, rfl⟩
                        have cX : ∀ w', But gi w2 w' → w'.cell? ⟨gj, m, none⟩ = some (.bool X) := fun w' h => by
                          have := ((tabw.out.rows j gj hgj).but h hne).cell (rowB_at (S := s.length) (k := m) (f := f j) (by omega))
                          rw [hX]; exact this
                        have hval := hide (show X = LL p s i k by rw [hone2.out, hX, hm, hj, fil.out.past (by omega) (by omega) (.inl (by omega))]; rfl)
                        clear hX hne
                        replace hj := hide hj
                        replace hm := hide hm
                        replace hgj := hide hgj
                        go_wp2_with fail
                        rename_i K9 hK9
                        refine wp_region_valsS [19] (M18T p s ob gi gj NN cp MM i j k m nn X false) (JB gi 4 w2 0 cur (cur.set k (.bool X))) (by kernel_rfl) (by kernel_rfl) (by kernel_rfl) (by kernel_rfl) (JB.start ri rfl) ?obsR4 ?heR4
                        case obsR4 =>
                          refine ⟨?_, ?_, ?_, ?_, ?_, ?_, ?_, ?_, ?_, ?_, ?_, ?_, ?_, ?_, ?_, ?_, ?_, ?_, ?_, ?_, trivial⟩
                          · refine .inl ⟨.inl rfl, ?_⟩
                            exact .inl ⟨by kernel_rfl, fun L a1 w1 n' h => ⟨_, rfl, run_move (.tmp 5) rfl (h.var n' 5 (by kernel_rfl))⟩⟩
                          · refine .inl ⟨.inl rfl, ?_⟩
                            exact .inl ⟨by kernel_rfl, fun L a1 w1 n' h => ⟨_, rfl, run_move (.tmp 7) rfl (h.var n' 7 (by kernel_rfl))⟩⟩
                          · refine .inl ⟨.inl rfl, ?_⟩
                            exact .inl ⟨by kernel_rfl, fun L a1 w1 n' h => ⟨_, rfl, run_idxSl1 66 (.tmp 98) (.tmp 99) 67 ob NN cp i rfl Tryd.underlying66 Tryd.sizeOf67 (h.dep n' 0 98 (by kernel_rfl) rfl) (h.dep n' 1 99 (by kernel_rfl) rfl) hiN.out⟩⟩
                          · refine .inl ⟨.inl rfl, ?_⟩
                            exact .inl ⟨by kernel_rfl, fun L a1 w1 n' h => ⟨_, rfl, run_load1 67 (.tmp 100) ob i _ rfl Tryd.isAgg67 (h.dep n' 2 100 (by kernel_rfl) rfl) (cI w1 h.inv.2.2)⟩⟩
                          · refine .inl ⟨.inl rfl, ?_⟩
                            exact .inl ⟨by kernel_rfl, fun L a1 w1 n' h => ⟨_, rfl, run_move (.tmp 8) rfl (h.var n' 8 (by kernel_rfl))⟩⟩
                          · refine .inl ⟨.inl rfl, ?_⟩
                            exact .inl ⟨by kernel_rfl, fun L a1 w1 n' h => ⟨_, rfl, run_move (.tmp 9) rfl (h.var n' 9 (by kernel_rfl))⟩⟩
                          · refine .inl ⟨.inl rfl, ?_⟩
                            exact .inl ⟨by kernel_rfl, fun L a1 w1 n' h => ⟨_, rfl, run_move (.tmp 103) rfl (h.dep n' 5 103 (by kernel_rfl) rfl)⟩⟩
                          · refine .inl ⟨.inr ⟨6, true, 104, rfl, by kernel_rfl, rfl, by simp, fun v h => h⟩, ?_⟩
                            exact .inl ⟨by kernel_rfl, fun L a1 w1 n' h => ⟨_, rfl, run_move (.tmp 5) rfl (h.var n' 5 (by kernel_rfl))⟩⟩
                          · refine .inl ⟨.inr ⟨6, true, 104, rfl, by kernel_rfl, rfl, by simp, fun v h => h⟩, ?_⟩
                            exact .inl ⟨by kernel_rfl, fun L a1 w1 n' h => ⟨_, rfl, run_move (.tmp 7) rfl (h.var n' 7 (by kernel_rfl))⟩⟩
                          · refine .inl ⟨.inr ⟨6, true, 104, rfl, by kernel_rfl, rfl, by simp, fun v h => h⟩, ?_⟩
                            exact .inl ⟨by kernel_rfl, fun L a1 w1 n' h => ⟨_, rfl, run_move (.tmp 10) rfl (h.var n' 10 (by kernel_rfl))⟩⟩
                          · refine .inl ⟨.inr ⟨6, true, 104, rfl, by kernel_rfl, rfl, by simp, fun v h => h⟩, ?_⟩
                            exact .inl ⟨by kernel_rfl, fun L a1 w1 n' h => ⟨_, rfl, run_addZ (.tmp 106) (.tmp 107) rfl (h.dep n' 8 106 (by kernel_rfl) rfl) (h.dep n' 9 107 (by kernel_rfl) rfl) hjz.out⟩⟩
                          · refine .inl ⟨.inr ⟨6, true, 104, rfl, by kernel_rfl, rfl, by simp, fun v h => h⟩, ?_⟩
                            exact .inl ⟨by kernel_rfl, fun L a1 w1 n' h => ⟨_, rfl, run_idxSl1 66 (.tmp 105) (.tmp 108) 67 ob NN cp j rfl Tryd.underlying66 Tryd.sizeOf67 (h.dep n' 7 105 (by kernel_rfl) rfl) (h.dep n' 10 108 (by kernel_rfl) rfl) hjN.out⟩⟩
                          · refine .inl ⟨.inr ⟨6, true, 104, rfl, by kernel_rfl, rfl, by simp, fun v h => h⟩, ?_⟩
                            exact .inl ⟨by kernel_rfl, fun L a1 w1 n' h => ⟨_, rfl, run_load1 67 (.tmp 109) ob j _ rfl Tryd.isAgg67 (h.dep n' 11 109 (by kernel_rfl) rfl) (cJ w1 h.inv.2.2)⟩⟩
                          · refine .inl ⟨.inr ⟨6, true, 104, rfl, by kernel_rfl, rfl, by simp, fun v h => h⟩, ?_⟩
                            exact .inl ⟨by kernel_rfl, fun L a1 w1 n' h => ⟨_, rfl, run_move (.tmp 8) rfl (h.var n' 8 (by kernel_rfl))⟩⟩
                          · refine .inl ⟨.inr ⟨6, true, 104, rfl, by kernel_rfl, rfl, by simp, fun v h => h⟩, ?_⟩
                            exact .inl ⟨by kernel_rfl, fun L a1 w1 n' h => ⟨_, rfl, run_addZ (.tmp 111) (.const (.int .i64 1)) rfl (h.dep n' 13 111 (by kernel_rfl) rfl) rfl hmz.out⟩⟩
                          · refine .inl ⟨.inr ⟨6, true, 104, rfl, by kernel_rfl, rfl, by simp, fun v h => h⟩, ?_⟩
                            exact .inl ⟨by kernel_rfl, fun L a1 w1 n' h => ⟨_, rfl, run_idxSl1 67 (.tmp 110) (.tmp 112) 4 gj MM MM m rfl Tryd.underlying67 Tryd.sizeOf4 (h.dep n' 12 110 (by kernel_rfl) rfl) (h.dep n' 14 112 (by kernel_rfl) rfl) hmM.out⟩⟩
                          · refine .inl ⟨.inr ⟨6, true, 104, rfl, by kernel_rfl, rfl, by simp, fun v h => h⟩, ?_⟩
                            exact .inl ⟨by kernel_rfl, fun L a1 w1 n' h => ⟨_, rfl, run_load1 4 (.tmp 113) gj m _ rfl Tryd.isAgg4 (h.dep n' 15 113 (by kernel_rfl) rfl) (cX w1 h.inv.2.2)⟩⟩
                          · refine .inl ⟨.inl rfl, ?_⟩
                            exact .inl ⟨by kernel_rfl, fun L a1 w1 n' h => ⟨_, rfl, run_pickT (.tmp 104) _ _ rfl (h.dep n' 6 104 (by kernel_rfl) rfl) (h.dep n' 16 114 (by kernel_rfl) rfl)⟩⟩
                          · refine .inl ⟨.inl rfl, ?_⟩
                            exact .inl ⟨by kernel_rfl, fun L a1 w1 n' h => ⟨_, rfl, run_idxSl1 67 (.tmp 101) (.tmp 102) 4 gi MM MM k rfl Tryd.underlying67 Tryd.sizeOf4 (h.dep n' 3 101 (by kernel_rfl) rfl) (h.dep n' 4 102 (by kernel_rfl) rfl) hkM.out⟩⟩
                          · refine .inl ⟨.inl rfl, ?_⟩
                            refine .inr fun L a1 w1 n' h K hK => ?_
                            have no : L.getD 19 false = false := n'.not_yet
                            refine st_store 4 (.tmp 116) (.tmp 115) gi k 4 cur (.bool X) rfl (by kernel_rfl) (h.dep n' 18 116 (by kernel_rfl) rfl) (h.dep n' 17 115 (by kernel_rfl) rfl) (h.inv.1 no) hkc.out rfl ?_
                            intro w3 r3 o3
                            exact hK undef w3 trivial (JB.store h.inv o3 r3 rfl)
                        case heR4 =>
                          intro V wz hV hJ
                          have rz := hJ.2.1 rfl
                          have bu := hJ.2.2
                          clear hV hJ
                          simp only [putOps, List.setIfInBounds_toArray, List.set_cons_succ, List.set_cons_zero, Nat.reduceAdd, Act.put]
                          refine hK9 _ _ ?_
                          have tab2 := tabw.out.set hgi.out hkS1.out bu (hcur.out ▸ rz)
                          have fil2 := fil.out.step (v := X) hval.out
                          have bw2 := bww.trans (bu.below hgB.out bww.size)
                          replace tab2 := hide tab2
                          replace fil2 := hide fil2
                          clear ri
                          go_wp2_with (first
                            | (with_reducible refine wl_run (o := ⟨some 35, _, _, _, _, _⟩) rfl (.int .i64 ((k : Int) - 1)) (run_subZ (.tmp 34) (.const (.int .i64 1)) rfl rfl rfl hks.out) ?_))
                          go_roundw
                          case rel => exact ⟨(k : Int) - 1, k, _, rfl, rfl, by have := hkS1.out; omega, tab2.out, fil2.out, bw2⟩
                          case measure => first | (simp [intOf]; done) | (simp [intOf]; omega)
                      | false =>
                        have hval := hide (show false = LL p s i k by rw [hone2.out]; rfl)
                        go_wp2_with fail
                        rename_i K9 hK9
                        refine wp_region_valsS [19] (M18F p s ob gi 0 NN cp MM i 0 k 0 nn false false) (JB gi 4 w2 0 cur (cur.set k (.bool false))) (by kernel_rfl) (by kernel_rfl) (by kernel_rfl) (by kernel_rfl) (JB.start ri rfl) ?obsR5 ?heR5
                        case obsR5 =>
                          refine ⟨?_, ?_, ?_, ?_, ?_, ?_, ?_, ?_, ?_, ?_, ?_, ?_, ?_, ?_, ?_, ?_, ?_, ?_, ?_, ?_, trivial⟩
                          · refine .inl ⟨.inl rfl, ?_⟩
                            exact .inl ⟨by kernel_rfl, fun L a1 w1 n' h => ⟨_, rfl, run_move (.tmp 5) rfl (h.var n' 5 (by kernel_rfl))⟩⟩
                          · refine .inl ⟨.inl rfl, ?_⟩
                            exact .inl ⟨by kernel_rfl, fun L a1 w1 n' h => ⟨_, rfl, run_move (.tmp 7) rfl (h.var n' 7 (by kernel_rfl))⟩⟩
                          · refine .inl ⟨.inl rfl, ?_⟩
                            exact .inl ⟨by kernel_rfl, fun L a1 w1 n' h => ⟨_, rfl, run_idxSl1 66 (.tmp 98) (.tmp 99) 67 ob NN cp i rfl Tryd.underlying66 Tryd.sizeOf67 (h.dep n' 0 98 (by kernel_rfl) rfl) (h.dep n' 1 99 (by kernel_rfl) rfl) hiN.out⟩⟩
                          · refine .inl ⟨.inl rfl, ?_⟩
                            exact .inl ⟨by kernel_rfl, fun L a1 w1 n' h => ⟨_, rfl, run_load1 67 (.tmp 100) ob i _ rfl Tryd.isAgg67 (h.dep n' 2 100 (by kernel_rfl) rfl) (cI w1 h.inv.2.2)⟩⟩
                          · refine .inl ⟨.inl rfl, ?_⟩
                            exact .inl ⟨by kernel_rfl, fun L a1 w1 n' h => ⟨_, rfl, run_move (.tmp 8) rfl (h.var n' 8 (by kernel_rfl))⟩⟩
                          · refine .inl ⟨.inl rfl, ?_⟩
                            exact .inl ⟨by kernel_rfl, fun L a1 w1 n' h => ⟨_, rfl, run_move (.tmp 9) rfl (h.var n' 9 (by kernel_rfl))⟩⟩
                          · refine .inl ⟨.inl rfl, ?_⟩
                            exact .inl ⟨by kernel_rfl, fun L a1 w1 n' h => ⟨_, rfl, run_move (.tmp 103) rfl (h.dep n' 5 103 (by kernel_rfl) rfl)⟩⟩
                          · exact .inr ⟨⟨6, true, 104, rfl, by kernel_rfl, rfl, by simp, fun v h => by rw [show v = .bool false from h]; first | exact ne_tf | exact ne_ft | exact ne_undef _⟩, by kernel_rfl, rfl⟩
                          · exact .inr ⟨⟨6, true, 104, rfl, by kernel_rfl, rfl, by simp, fun v h => by rw [show v = .bool false from h]; first | exact ne_tf | exact ne_ft | exact ne_undef _⟩, by kernel_rfl, rfl⟩
                          · exact .inr ⟨⟨6, true, 104, rfl, by kernel_rfl, rfl, by simp, fun v h => by rw [show v = .bool false from h]; first | exact ne_tf | exact ne_ft | exact ne_undef _⟩, by kernel_rfl, rfl⟩
                          · exact .inr ⟨⟨6, true, 104, rfl, by kernel_rfl, rfl, by simp, fun v h => by rw [show v = .bool false from h]; first | exact ne_tf | exact ne_ft | exact ne_undef _⟩, by kernel_rfl, rfl⟩
                          · exact .inr ⟨⟨6, true, 104, rfl, by kernel_rfl, rfl, by simp, fun v h => by rw [show v = .bool false from h]; first | exact ne_tf | exact ne_ft | exact ne_undef _⟩, by kernel_rfl, rfl⟩
                          · exact .inr ⟨⟨6, true, 104, rfl, by kernel_rfl, rfl, by simp, fun v h => by rw [show v = .bool false from h]; first | exact ne_tf | exact ne_ft | exact ne_undef _⟩, by kernel_rfl, rfl⟩
                          · exact .inr ⟨⟨6, true, 104, rfl, by kernel_rfl, rfl, by simp, fun v h => by rw [show v = .bool false from h]; first | exact ne_tf | exact ne_ft | exact ne_undef _⟩, by kernel_rfl, rfl⟩
                          · exact .inr ⟨⟨6, true, 104, rfl, by kernel_rfl, rfl, by simp, fun v h => by rw [show v = .bool false from h]; first | exact ne_tf | exact ne_ft | exact ne_undef _⟩, by kernel_rfl, rfl⟩
                          · exact .inr ⟨⟨6, true, 104, rfl, by kernel_rfl, rfl, by simp, fun v h => by rw [show v = .bool false from h]; first | exact ne_tf | exact ne_ft | exact ne_undef _⟩, by kernel_rfl, rfl⟩
                          · exact .inr ⟨⟨6, true, 104, rfl, by kernel_rfl, rfl, by simp, fun v h => by rw [show v = .bool false from h]; first | exact ne_tf | exact ne_ft | exact ne_undef _⟩, by kernel_rfl, rfl⟩
                          · refine .inl ⟨.inl rfl, ?_⟩
                            exact .inl ⟨by kernel_rfl, fun L a1 w1 n' h => ⟨_, rfl, run_pickF (.tmp 104) _ _ rfl (h.dep n' 6 104 (by kernel_rfl) rfl) rfl⟩⟩
                          · refine .inl ⟨.inl rfl, ?_⟩
                            exact .inl ⟨by kernel_rfl, fun L a1 w1 n' h => ⟨_, rfl, run_idxSl1 67 (.tmp 101) (.tmp 102) 4 gi MM MM k rfl Tryd.underlying67 Tryd.sizeOf4 (h.dep n' 3 101 (by kernel_rfl) rfl) (h.dep n' 4 102 (by kernel_rfl) rfl) hkM.out⟩⟩
                          · refine .inl ⟨.inl rfl, ?_⟩
                            refine .inr fun L a1 w1 n' h K hK => ?_
                            have no : L.getD 19 false = false := n'.not_yet
                            refine st_store 4 (.tmp 116) (.tmp 115) gi k 4 cur (.bool false) rfl (by kernel_rfl) (h.dep n' 18 116 (by kernel_rfl) rfl) (h.dep n' 17 115 (by kernel_rfl) rfl) (h.inv.1 no) hkc.out rfl ?_
                            intro w3 r3 o3
                            exact hK undef w3 trivial (JB.store h.inv o3 r3 rfl)
                        case heR5 =>
                          intro V wz hV hJ
                          have rz := hJ.2.1 rfl
                          have bu := hJ.2.2
                          clear hV hJ
                          simp only [putOps, List.setIfInBounds_toArray, List.set_cons_succ, List.set_cons_zero, Nat.reduceAdd, Act.put]
                          refine hK9 _ _ ?_
                          have tab2 := tabw.out.set hgi.out hkS1.out bu (hcur.out ▸ rz)
                          have fil2 := fil.out.step (v := false) hval.out
                          have bw2 := bww.trans (bu.below hgB.out bww.size)
                          replace tab2 := hide tab2
                          replace fil2 := hide fil2
                          clear ri
                          go_wp2_with (first
                            | (with_reducible refine wl_run (o := ⟨some 35, _, _, _, _, _⟩) rfl (.int .i64 ((k : Int) - 1)) (run_subZ (.tmp 34) (.const (.int .i64 1)) rfl rfl rfl hks.out) ?_))
                          go_roundw
                          case rel => exact ⟨(k : Int) - 1, k, _, rfl, rfl, by have := hkS1.out; omega, tab2.out, fil2.out, bw2⟩
                          case measure => first | (simp [intOf]; done) | (simp [intOf]; omega)
                  · have hkSI : ¬ (k : Int) < (s.length : Int) := by omega
                    obtain rfl : k = s.length := by have := hkS1.out; omega
                    have fil2 := hide (fil.out.same (LL_out hpa.out h42))
                    clear h42
                    go_wp2_with (first
                      | (with_reducible refine wl_run (o := ⟨some 38, _, _, _, _, _⟩) rfl (.int .i64 (p.length : Int)) (run_lenStr 9 (.tmp 37) p rfl Tryd.underlying9 rfl) ?_)
                      | (with_reducible refine wl_run (o := ⟨some 52, _, _, _, _, _⟩) rfl (.int .u8 (a.toNat : Int)) (run_idxStr 9 (.tmp 50) (.tmp 51) p i a rfl Tryd.underlying9 rfl rfl hpa.out) ?_)
                      | (with_reducible refine wl_run (o := ⟨some 86, _, _, _, _, _⟩) rfl (.int .i64 (s.length : Int)) (run_lenStr 9 (.tmp 85) s rfl Tryd.underlying9 rfl) ?_)
                      | (with_reducible refine wl_run (o := ⟨some 35, _, _, _, _, _⟩) rfl (.int .i64 ((s.length : Int) - 1)) (run_subZ (.tmp 34) (.const (.int .i64 1)) rfl rfl rfl hks.out) ?_))
                    go_roundw
                    case rel => exact ⟨(s.length : Int) - 1, s.length, _, rfl, rfl, by have := hkS1.out; omega, tab.out, fil2.out, bw⟩
                    case measure => first | (simp [intOf]; done) | (simp [intOf]; omega)
end Go.Proofs.YtfpcgaladjndcaaDoor
