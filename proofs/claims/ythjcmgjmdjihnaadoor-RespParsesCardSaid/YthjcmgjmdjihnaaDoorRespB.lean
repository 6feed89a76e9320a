/-
  A decoder: lines, texts. Contracts. Own work.
-/
import Derived.Test.YthjcmgjmdjihnaaDoorRespA
import Derived.Test.YthjcmgjmdjihnaaDoorCutB
import Derived.Test.YthjcmgjmdjihnaaDoorBuildN
namespace Go.Proofs.YthjcmgjmdjihnaaDoor
open Go.RowKit Go.Shelf
set_option linter.unusedVariables false
set_option linter.unusedSimpArgs false
theorem run_min2 {P : Program} {w : World} {a : Act} {o : Oper} {u v z : Int} (x y : Operand) (t1 t2 : TypeId) (ho : o.op = .call { callee := .builtin .min, args := #[x, y], argTypes := #[t1, t2] }) (hx : a.eval x = .int .i64 u) (hy : a.eval y = .int .i64 v) (hz : min u v = z) : (execOp a.eval o).run P w = .ok (.value (.int .i64 z)) w := by
  subst hz
  unfold execOp
  simp only [ho, resolve, invoke, List.map_toArray, List.map_cons, List.map_nil, hx, hy]
  go_simp
theorem run_idxO {P : Program} {w : World} {a : Act} {o : Oper} (t : TypeId) (x y : Operand) (e : TypeId) (z : Nat) (b off len cap i : Nat)
    (ho : o.op = .indexAddr t x y) (hu : P.underlying t = some (.slice e)) (hs : ∀ w, (sizeOf e).run P w = .ok z w) (hx : a.eval x = .slice (some ⟨b, off, none⟩) len cap) (hy : a.eval y = .int .i64 i) (hi : i < len) :
    (execOp a.eval o).run P w = .ok (.value (.pointer (some ⟨b, off + i * z, none⟩))) w := by
  unfold execOp
  simp only [ho, hx, hy]
  go_simp
theorem run_idxO0 {P : Program} {w : World} {a : Act} {o : Oper} (t : TypeId) (x y : Operand) (e : TypeId) (z : Nat) (b off len cap : Nat)
    (ho : o.op = .indexAddr t x y) (hu : P.underlying t = some (.slice e)) (hs : ∀ w, (sizeOf e).run P w = .ok z w) (hx : a.eval x = .slice (some ⟨b, off, none⟩) len cap) (hy : a.eval y = .int .i64 0) (hi : 0 < len) :
    (execOp a.eval o).run P w = .ok (.value (.pointer (some ⟨b, off, none⟩))) w := by
  have := run_idxO (P := P) (w := w) (a := a) (o := o) t x y e z b off len cap 0 ho hu hs hx hy hi
  simpa using this
theorem run_sliceToO {P : Program} {w : World} {a : Act} {o : Oper} (T : Nat) (x y : Operand) (ho : o.op = .slice T x none (some y) none) (e z : Nat) (hu : P.underlying T = some (.slice e)) (hs : ∀ w, (sizeOf e).run P w = .ok z w) (A : Option Addr) (len cap m : Nat) (kd : IntKind)
    (hx : a.eval x = .slice A len cap) (hy : a.eval y = .int kd m) (h1 : m ≤ cap) : (execOp a.eval o).run P w = .ok (.value (.slice A m cap)) w := by
  unfold execOp
  simp only [ho, hx, hy, Option.map_some, Option.map_none, Sem.run_bind, run_sliceTo w T e z hu hs A len cap kd (m : Int) m rfl h1, Result.andThen_ok, Sem.run_pure]
theorem run_sliceFromO {P : Program} {w : World} {a : Act} {o : Oper} (T : Nat) (x y : Operand) (ho : o.op = .slice T x (some y) none none) (e : Nat) (hu : P.underlying T = some (.slice e)) (hs : ∀ w, (sizeOf e).run P w = .ok 1 w) (A : Option Addr) (len cap I : Nat) (kl : IntKind)
    (hx : a.eval x = .slice A len cap) (hy : a.eval y = .int kl I) (h1 : I ≤ len) : (execOp a.eval o).run P w = .ok (.value (.slice (subA A cap I) (len - I) (cap - I))) w := by
  unfold execOp
  simp only [ho, hx, hy, Option.map_some, Option.map_none, Sem.run_bind, run_sliceFrom w T e hu hs A len cap kl I h1, Result.andThen_ok, Sem.run_pure]
/-! ### Lines and texts as lists -/
/-- Does a text end with a line's end? -/
def Crlf (l : Wd) : Prop := 2 ≤ l.length ∧ l[l.length - 2]? = some 13 ∧ l[l.length - 1]? = some 10
instance (l : Wd) : Decidable (Crlf l) := by unfold Crlf; infer_instance
theorem crlf_suf (l : Wd) : Lib.hasSuffix l [13, 10] = decide (Crlf l) := by
  unfold Lib.hasSuffix
  rw [Bool.eq_iff_iff, List.isSuffixOf_iff_suffix, decide_eq_true_iff]
  constructor
  · rintro ⟨t, rfl⟩
    refine ⟨by simp, ?_, ?_⟩
    · rw [List.length_append, List.getElem?_append_right (by simp)]
      simp
    · rw [List.length_append, List.getElem?_append_right (by simp)]
      simp
  · rintro ⟨h1, h2, h3⟩
    refine ⟨l.take (l.length - 2), ?_⟩
    conv => rhs; rw [← List.take_append_drop (l.length - 2) l]
    congr 1
    have e1 : l.drop (l.length - 2) = 13 :: l.drop (l.length - 2 + 1) := by
      rw [List.drop_eq_getElem_cons (by omega)]
      rw [List.getElem?_eq_getElem (by omega)] at h2
      injection h2 with h2
      rw [h2]
    have e2 : l.drop (l.length - 2 + 1) = 10 :: l.drop (l.length - 2 + 1 + 1) := by
      rw [List.drop_eq_getElem_cons (by omega)]
      rw [List.getElem?_eq_getElem (by omega)] at h3
      injection h3 with h3
      congr 1
      rw [← h3]
      congr 1; omega
    rw [e1, e2, List.drop_of_length_le (by omega : l.length ≤ l.length - 2 + 1 + 1)]
theorem index_10 (l : Wd) : Lib.indexByte l 10 = match l.findIdx? (· == 10) with | some i => (i : Int) | none => -1 := by
  induction l with
  | nil => rfl
  | cons b l ih =>
    unfold Lib.indexByte
    rw [List.findIdx?_cons]
    by_cases hb : (b == 10) = true
    · rw [if_pos hb, hb]; rfl
    · rw [if_neg hb, ih]
      have hb' : (b == 10) = false := by simpa using hb
      rw [hb']
      cases hq : l.findIdx? (· == 10) with
      | none => rfl
      | some i =>
        simp only [Option.map_some]
        have h2 : ((i : Int) == -1) = false := by rw [beq_eq_false_iff_ne]; omega
        simp [h2]
/-- The place of the first line's end, as a number. -/
def nlI (s : Wd) : Int := match nlAt s with | some i => (i : Int) | none => -1
theorem nlI_eq (s : Wd) : Lib.indexByte (s.take 16) 10 = nlI s := by
  unfold nlI nlAt
  exact index_10 _
/-- The first line. -/
def lineL (s : Wd) : Except Nat ((UInt8 × Wd) × Wd) :=
  match nlAt s with
  | none => .error (if s.length < 16 then 4 else 3)
  | some i => if 2 ≤ i ∧ s[i - 1]? = some 13 then .ok ((s.getD 0 0, (s.take (i - 1)).drop 1), s.drop (i + 1)) else .error 3
theorem cntL_line2 (sg : UInt8) (most : Nat) (s : Wd) : cntL sg most s = bindE lineL (fun p q => if p.1 = sg ∧ (intL p.2).2 = true ∧ 0 ≤ (intL p.2).1 ∧ (intL p.2).1 ≤ 999999999 then (if most < (intL p.2).1.toNat then .error 5 else .ok ((intL p.2).1.toNat, q)) else .error 3) s := by
  unfold cntL bindE lineL
  cases hq : nlAt s with
  | none => rfl
  | some i =>
    obtain ⟨h1, h2, h3, h4⟩ := nlAt_some hq
    simp only
    by_cases hk : 2 ≤ i ∧ s[i - 1]? = some 13
    · rw [if_pos hk]
      simp only
      have e : LineOk sg s i ↔ (s.getD 0 0 = sg ∧ (intL ((s.take (i - 1)).drop 1)).2 = true ∧ 0 ≤ (intL ((s.take (i - 1)).drop 1)).1 ∧ (intL ((s.take (i - 1)).drop 1)).1 ≤ 999999999) := by
        unfold LineOk numAt
        have e0 : s[0]? = some sg ↔ s.getD 0 0 = sg := by
          rw [List.getD, List.getElem?_eq_getElem (by omega)]
          simp
        rw [e0]
        constructor
        · rintro ⟨_, _, h⟩; exact h
        · intro h; exact ⟨hk.1, hk.2, h⟩
      by_cases h : LineOk sg s i
      · rw [if_pos h, if_pos (e.1 h)]
        rfl
      · rw [if_neg h, if_neg (fun c => h (e.2 c))]
    · rw [if_neg hk, if_neg (fun h => hk ⟨h.1, h.2.1⟩)]
/-! ### What ends a line -/
/-- '[]byte("..")' of a constant, its literal laid ahead: the block gets a mark behind its last cell. -/
theorem wl_convK {P : Program} {ops : Array Oper} {rest : List Oper} {o : Oper} {a : Act} {w : World} {Q : Exit → Act → World → Prop} (hgd : o.guard = none) (t e : TypeId) (x : Operand) (g n c : Nat) (vs : List Value) (ho : o.op = .convert t t x) (hx : a.eval x = .slice (some ⟨g, 0, none⟩) n c) (h : Row w e g vs) (ht : P.underlying t = some (.slice e)) (he : P.underlying e = some (.int .u8))
    (hk : ∀ w', w'.heap[g]? = some (.cells vs.toArray e (vs.length, vs.length + 1)) → Only g w w' → wpList P ops Q rest (a.put o.dst (.slice (some ⟨g, 0, none⟩) n c)) w') : wpList P ops Q (o :: rest) a w :=
  wpList_plain hgd fun K hK => by
    have hsh : w.shape? g = some (e, vs.length) := by unfold World.shape?; rw [show w.heap[g]? = _ from h]; simp
    have hrun : (convert t t (.slice (some ⟨g, 0, none⟩) n c)).run P w = .ok (.slice (some ⟨g, 0, none⟩) n c) (w.freeze ⟨g, vs.length, none⟩ 1) := by
      simp [convert, run_underlying ht, run_underlying he, markStringish, hsh]
    have hfz : w.freeze ⟨g, vs.length, none⟩ 1 = { w with heap := w.heap.modify g fun o => match o with | .cells cs t (lo, hi) => .cells cs t (if lo == hi then (vs.length, vs.length + 1) else (min lo vs.length, max hi (vs.length + 1))) | o => o } := by
      unfold World.freeze
      rw [if_neg (by decide)]
      rfl
    unfold Oper.wp execOp
    simp only [ho, hx, Sem.run_bind, Sem.run_pure, Result.andThen_ok, hrun]
    refine hK _ _ (hk _ ?_ ?_)
    · rw [hfz, Array.getElem?_modify, if_pos rfl, show w.heap[g]? = _ from h]
      rfl
    · rw [hfz]
      refine ⟨rfl, rfl, rfl, by simp, fun k hk => ?_⟩
      rw [Array.getElem?_modify, if_neg (fun e => hk e.symm)]
theorem bs_marked {w : World} {e g : Nat} {xs : List Int} {fr : Nat × Nat} (h : w.heap[g]? = some (.cells (bv xs).toArray e fr)) : Bs w w.heap.size (some ⟨g, 0, none⟩) xs.length xs := by
  refine ⟨rfl, fun _ => ⟨g, 0, rfl, (Array.getElem?_eq_some_iff.1 h).1, fun j hj => ?_⟩⟩
  simp only [World.cell?, h, Nat.zero_add]
  simp [bv, List.getD, hj]
theorem u8_info2 : ∃ i, Tryd.prog.info? 5 = some i ∧ i.zero = some (.int .u8 0) ∧ i.size = 1 ∧ i.bytes = 1 := by
  have h : (Tryd.prog.info? 5).map (fun i => (i.zero, i.size, i.bytes)) = some (some (.int .u8 0), 1, 1) := by kernel_rfl
  cases hq : Tryd.prog.info? 5 with
  | none => rw [hq] at h; cases h
  | some i =>
    rw [hq] at h
    simp only [Option.map_some, Option.some.injEq, Prod.mk.injEq] at h
    exact ⟨i, rfl, h.1, h.2.1, h.2.2⟩
theorem cut_any (w : World) (B : Nat) (A A2 : Option Addr) (c d : Nat) (l : Wd) (h : Bs w B A l.length (nb l)) (hc : l.length ≤ c) (hl : l.length ≤ 150000000000000) (h2 : Bs w w.heap.size A2 2 [13, 10]) :
    Calls Tryd.prog 45 #[.slice A l.length c, .slice A2 2 d] w fun e w' => (∃ k, e = .returned (.tuple #[.slice A k c, .bool (decide (Crlf l))]) ∧ (Crlf l → k = l.length - 2)) ∧ w = w' := by
  have H := Any.bytes_CutSuffix_all cutBL A A2 l.length c 2 d (nb l) [13, 10] w (nb_len l) rfl hc (by omega) (fun h0 => ?_) (fun h0 => ?_)
  · refine H.mono ?_
    rintro e w' ⟨rfl, rfl⟩
    refine ⟨?_, rfl⟩
    have e1 : Lib.hasSuffix (Lib.bytesOf (nb l)) (Lib.bytesOf [13, 10]) = decide (Crlf l) := by
      rw [nb_of, show Lib.bytesOf [13, 10] = [13, 10] from rfl, crlf_suf]
    unfold Lib.trimSuffixV
    cases A with
    | none =>
      simp only [e1]
      refine ⟨l.length, rfl, fun hcr => ?_⟩
      obtain ⟨b, o, hA, _⟩ := h.2 (by have := hcr.1; omega)
      cases hA
    | some a =>
      obtain ⟨b, o, sp⟩ := a
      cases sp with
      | some q =>
        simp only [e1]
        refine ⟨l.length, rfl, fun hcr => ?_⟩
        obtain ⟨b', o', hA, _⟩ := h.2 (by have := hcr.1; omega)
        cases hA
      | none =>
        simp only [e1, Lib.bytesTrimSuffix, Lib.sliceTo]
        by_cases hcr : Crlf l
        · exact ⟨l.length - 2, by simp [hcr], fun _ => rfl⟩
        · exact ⟨l.length, by simp [hcr], fun h => absurd h hcr⟩
  · obtain ⟨b, o, e, _, hx⟩ := h.2 h0
    exact ⟨b, o, e, hx⟩
  · obtain ⟨b, o, e, _, hx⟩ := h2.2 h0
    exact ⟨b, o, e, hx⟩
def EndRes (w : World) (B : Nat) (l : Wd) (e : Ending) (w' : World) : Prop := Below w.heap.size w w' ∧ ((Crlf l ∧ ∃ v, e = .returned v ∧ BsV w' B v (l.take (l.length - 2))) ∨ (¬ Crlf l ∧ e = .panicked (Pn 3)))
theorem BsV.cut {w : World} {B c : Nat} {A : Option Addr} {l : Wd} (h : Bs w B A l.length (nb l)) (hc : l.length ≤ c) (n : Nat) (hn : n ≤ l.length) : BsV w B (.slice A n c) (l.take n) := by
  refine ⟨A, c, by rw [List.length_take, Nat.min_eq_left hn], ?_, by rw [List.length_take]; omega⟩
  have := h.sub (cap := c) (Nat.zero_le n) hn hc
  have e : subA A c 0 = A := by unfold subA; split; rfl; cases A with | none => rfl | some a => simp [addr_add0]
  rw [e] at this
  rw [List.length_take, Nat.min_eq_left hn, ← nb_take]
  simpa using this
set_option maxRecDepth 100000 in
set_option maxHeartbeats 1000000 in
theorem ended_any (w : World) (B : Nat) (v : Value) (l : Wd) (h : BsV w B v l) (hB : B ≤ w.heap.size) (hl : l.length ≤ 150000000000000) : Calls Tryd.prog 40 #[v] w (EndRes w B l) := by
  obtain ⟨A, c, rfl, hb, hc⟩ := h
  obtain ⟨i8, h8i, h8z, h8s, h8b⟩ := u8_info2
  have HC := fun w2 A2 d (hbw : Below w.heap.size w w2) h2 => cut_any w2 B A A2 c d l (hb.below (hbw.mono hB)) hc hl h2
  have HY := need_yes
  have HN := need_no
  have hb2 := hide hb
  have hc2 := hide hc
  have hb0 : hb2.out = hb2.out := rfl
  clear hb0
  by_cases hcr : Crlf l
  · have hcr2 := hide hcr
    have e1 : decide (Crlf l) = true := decide_eq_true hcr
    clear hb hc hcr HN
    go_enter Tryd.func40, Tryd.ntmps40
    go_wp2_with (first
      | (with_reducible refine wl_buildN (o := ⟨some 6, _, _, _, _, _⟩) rfl 26 2 [(0, .const (.int .u8 13)), (1, .const (.int .u8 10))] rfl 5 i8 (.int .u8 0) 1 [.int .u8 13, .int .u8 10] [[.int .u8 13], [.int .u8 10]] Tryd.underlying26 h8i h8z rfl h8s (by decide) (by decide) (by decide) rfl rfl (by simp [cellsOk, Value.cells]) ?_; intro g2 w2 r2 p2 l2 b2)
      | (with_reducible refine wl_convK (o := ⟨some 7, _, _, _, _, _⟩) rfl 26 5 (.tmp 6) g2 2 2 _ rfl rfl r2 Tryd.underlying26 Tryd.underlying5 ?_; intro w3 r3 o3; have b3 := b2.trans ((o3.below p2).mono (Nat.le_refl _))))
    refine (HC w3 _ 2 b3 (bs_marked (xs := [13, 10]) r3)).mono ?_
    rintro e w4 ⟨⟨k, rfl, hk⟩, rfl⟩
    rw [e1]
    obtain rfl := hk hcr2.out
    clear HC hk
    go_wp2_with fail
    refine (HY w3).mono ?_
    rintro e w5 ⟨rfl, rfl⟩
    go_wp2_with fail
    go_ret
    exact ⟨b3, .inl ⟨hcr2.out, .slice A (l.length - 2) c, rfl, (BsV.cut hb2.out hc2.out _ (Nat.sub_le _ _)).below (b3.mono hB)⟩⟩
  · have hcr2 := hide hcr
    have e1 : decide (Crlf l) = false := decide_eq_false hcr
    clear hb hc hcr HY
    go_enter Tryd.func40, Tryd.ntmps40
    go_wp2_with (first
      | (with_reducible refine wl_buildN (o := ⟨some 6, _, _, _, _, _⟩) rfl 26 2 [(0, .const (.int .u8 13)), (1, .const (.int .u8 10))] rfl 5 i8 (.int .u8 0) 1 [.int .u8 13, .int .u8 10] [[.int .u8 13], [.int .u8 10]] Tryd.underlying26 h8i h8z rfl h8s (by decide) (by decide) (by decide) rfl rfl (by simp [cellsOk, Value.cells]) ?_; intro g2 w2 r2 p2 l2 b2)
      | (with_reducible refine wl_convK (o := ⟨some 7, _, _, _, _, _⟩) rfl 26 5 (.tmp 6) g2 2 2 _ rfl rfl r2 Tryd.underlying26 Tryd.underlying5 ?_; intro w3 r3 o3; have b3 := b2.trans ((o3.below p2).mono (Nat.le_refl _))))
    refine (HC w3 _ 2 b3 (bs_marked (xs := [13, 10]) r3)).mono ?_
    rintro e w4 ⟨⟨k, rfl, hk⟩, rfl⟩
    rw [e1]
    clear HC hk
    go_wp2_with fail
    refine (HN w3).mono ?_
    rintro e w5 ⟨rfl, rfl⟩
    go_wp2_with fail
    exact ⟨rfl, b3, .inr ⟨hcr2.out, rfl⟩⟩
end Go.Proofs.YthjcmgjmdjihnaaDoor
