/- Proved: the law DiskLoads (P9.4) answers true and leaves its arguments as they read before. For every two lists of files; no condition. -/
import Derived.Test.YtfijhfolanhifaaRows
import Derived.WalkKit
import Derived.ProofKit
import Derived.OpenShut
import Derived.ShutString
import Derived.ChangeOld
import Derived.Below
import Derived.Test.YtfijhfolanhifaaGC
set_option linter.unusedVariables false
set_option linter.unusedSimpArgs false
/-
  The law DiskLoads: contract. Own work.
-/
namespace Go.Proofs.Ytfijhfolanhifaa
open Go.RowKit Go.Maps Go.ChangeMaps
/-- Files that a statement looks at. -/
def litF (p : Nm × FV) : Prop := p.1.length ≤ 60 ∧ p.2.n ≤ 200
/-- What the regions that load both and look keep. -/
def JLo (w0 : World) (N1 N2 : World → Prop) (gs : Fs) (bs : List Bool) (vs : List Value) (w : World) : Prop :=
  (bs.getD 0 false = false → Below w0.heap.size w0 w) ∧ (bs.getD 0 false = true → bs.getD 1 false = false → N1 w) ∧ (bs.getD 1 false = true → N2 w) ∧
  (bs.getD 2 false = true → ∃ A c li, vs.getD 2 undef = .slice A li.length c ∧ FlAt w w.heap.size A li.length li ∧ li.map vF = gs.map vF) ∧
  (bs.getD 3 false = true → ∃ A c, vs.getD 3 undef = .slice A gs.length c ∧ FlAt w w.heap.size A gs.length gs)
theorem JLo.start (w0 : World) (N1 N2 : World → Prop) (gs : Fs) (vs : List Value) : JLo w0 N1 N2 gs [false, false, false, false, false] vs w0.drew :=
  ⟨fun _ => (Below.refl _ _).drew, fun h => absurd (show false = true from h) (by decide), fun h => absurd (show false = true from h) (by decide), fun h => absurd (show false = true from h) (by decide), fun h => absurd (show false = true from h) (by decide)⟩
theorem FlAt.later {w w' : World} {A : Option Addr} {m : Nat} {fs : Fs} (h : FlAt w w.heap.size A m fs) (hb : Below w.heap.size w w') : FlAt w' w'.heap.size A m fs := (h.below hb).up hb.size
/-- Image's answer: a list that reads as the files. -/
def RetIm (gs : Fs) (w : World) (e : Ending) (w' : World) : Prop := ∃ A c li, e = .returned (.slice A li.length c) ∧ FlAt w' w'.heap.size A li.length li ∧ li.map vF = gs.map vF ∧ Below w.heap.size w w'
theorem imageR_any (w : World) (B gd mb : Nat) (pl : Value) (fs gs : Fs) (hD : DiskAt w B gd pl mb fs) (hv : fs.map vF = gs.map vF) : Calls Try.prog 27 #[ptr gd] w (RetIm gs w) :=
  (image_any w B gd mb pl fs hD).mono fun e w' h => by
    obtain ⟨v, li, rfl, hl, hO, hb⟩ := h
    obtain ⟨A, c, rfl, hF⟩ := hO.fl
    exact ⟨A, c, li, rfl, hF, hl.trans hv, hb⟩
theorem sameR_any (w : World) (A1 A2 : Option Addr) (c1 c2 : Nat) (li gs : Fs) (h1 : FlAt w w.heap.size A1 li.length li) (hv : li.map vF = gs.map vF) (h2 : FlAt w w.heap.size A2 gs.length gs) (hm : gs.length ≤ 100000) :
    Calls Try.prog 26 #[.slice A1 li.length c1, .slice A2 gs.length c2] w fun e w' => e = .returned (.bool true) ∧ Below w.heap.size w w' := by
  have hl : li.length = gs.length := by have := congrArg List.length hv; simpa using this
  rw [hl] at h1 ⊢
  exact same_any w w.heap.size gs.length A1 A2 c1 c2 li gs (Nat.le_refl _) (by omega) h1 h2 hv
def SLo15 (gd gr gy : Nat) (opn : Nat) (v : Value) : Prop :=
  match opn with
  | 0 | 6 | 15 => v = ptr gy
  | 1 => v = ptr gd
  | 3 => v = .int .i64 0
  | 4 | 5 | 12 | 13 | 14 | 17 | 18 | 19 | 20 | 21 | 22 => v = .bool true
  | 8 | 9 => v = ptr gr
  | 10 => v = .pointer (some ⟨gr, 1, none⟩)
  | 16 => v = .int .i64 8
  | _ => True
def SLo10 (A : Option Addr) (m c gd gr : Nat) (er : Int) (opn : Nat) (v : Value) : Prop :=
  match opn with
  | 0 | 8 => v = ptr gd
  | 1 | 4 => v = .slice A m c
  | 2 | 5 => v = .int .i64 er
  | 3 | 10 | 11 => v = ptr gr
  | 6 | 7 | 15 | 16 => v = .bool false
  | 12 => v = .pointer (some ⟨gr, 1, none⟩)
  | 14 => v = .bool true
  | _ => True
def SLo12 (A' : Option Addr) (m' c' gd gr : Nat) (er : Int) (opn : Nat) (v : Value) : Prop :=
  match opn with
  | 0 | 8 => v = ptr gd
  | 1 | 4 => v = .slice A' m' c'
  | 2 | 5 => v = .int .i64 er
  | 3 | 10 | 11 => v = ptr gr
  | 6 | 7 | 15 | 16 => v = .bool false
  | 12 => v = .pointer (some ⟨gr, 1, none⟩)
  | 14 => v = .bool true
  | _ => True

/-- Below the law's start nothing has turned. -/
def HalfB (wS : World) (gd gr : Nat) (pl pv : Value) (gs hs : Fs) (w : World) : Prop := Half2 w wS.heap.size gd gr pl pv gs hs ∧ Below wS.heap.size wS w
def BothB (wS : World) (gd gr : Nat) (pl pv : Value) (gs : Fs) (w : World) : Prop := Both2 w wS.heap.size gd gr pl pv gs ∧ Below wS.heap.size wS w
theorem ldF_len {l gs : Fs} (h : ldF [] l = some gs) : gs.length ≤ l.length := by
  have key : ∀ (l acc gs : Fs), ldF acc l = some gs → gs.length ≤ acc.length + l.length := by
    intro l
    induction l with
    | nil => intro acc gs h; rw [show ldF acc [] = some acc from rfl] at h; obtain rfl := Option.some.inj h; simp
    | cons q r ih =>
      intro acc gs h
      have := ih _ gs (ld_step h).2
      have := put_len acc q.1 q.2
      rw [List.length_cons]
      omega
  have := key l [] gs h
  simpa using this
theorem loads_step {wS w0 : World} {gd gr : Nat} {pl pv : Value} {gs0 : Fs} {l : Fs} (A : Option Addr) (m c : Nat) (hB : Both2 w0 wS.heap.size gd gr pl pv gs0) (b0 : Below wS.heap.size wS w0) (hl : FlAt wS wS.heap.size A m l) (hln : ∀ p ∈ l, p.1.length ≤ maxLen) (hm : m ≤ 100) (hQ : ∃ l0, ldF [] l0 = some gs0 ∧ ∀ p ∈ l0, tidy p) :
    ∃ gs, gs.length ≤ 1000 + gs0.length ∧ (∃ l0, ldF [] l0 = some gs ∧ ∀ p ∈ l0, tidy p) ∧
      (∀ w1, Below w0.heap.size w0 w1 → Calls Try.prog 33 #[ptr gd, .slice A m c] w1 fun e w' => e = .returned (.int .i64 (errF l m)) ∧ HalfB wS gd gr pl pv gs0 gs w') ∧
      (∀ w1, HalfB wS gd gr pl pv gs0 gs w1 → Calls Try.prog 34 #[ptr gr, .slice A m c] w1 fun e w' => e = .returned (.int .i64 (errF l m)) ∧ BothB wS gd gr pl pv gs w') ∧
      (∀ w1, BothB wS gd gr pl pv gs w1 → Calls Try.prog 27 #[ptr gd] w1 (RetIm gs w1)) ∧
      (∀ w1, BothB wS gd gr pl pv gs w1 → ∃ A c, RDk w1 gr pv A gs.length c ∧ FlAt w1 w1.heap.size A gs.length gs) ∧
      (∀ w1 w', BothB wS gd gr pl pv gs w1 → Below w1.heap.size w1 w' → BothB wS gd gr pl pv gs w') := by
  refine ⟨nextF gs0 l m, ?_, ?_, fun w1 b => ?_, fun w1 h => ?_, fun w1 h => ?_, fun w1 h => ?_, fun w1 w' h b => ⟨h.1.later b, h.2.trans (b.mono h.1.lo.2.2)⟩⟩
  · unfold nextF
    split
    · cases hq : ldF [] l with
      | none => simp
      | some g => have := ldF_len hq; have := hl.1; simp; omega
    · omega
  · unfold nextF
    split
    · cases hq : ldF [] l with
      | none => exact hQ
      | some g => exact ⟨l, hq, fun p hp => (hl.2.2 p hp).1⟩
    · exact hQ
  · have hb := b0.trans (b.mono b0.size)
    refine (half_any w1 wS.heap.size gd gr pl pv gs0 l A m c (hB.later b) (hl.below hb) hln hm).mono fun e w' h => ⟨h.1, h.2.1, hb.trans (h.2.2.below (fun k hk => ?_) hb.size)⟩
    obtain rfl := List.mem_singleton.1 hk
    obtain ⟨mb, fs, hD, _⟩ := hB.dk
    exact hD.lo.1
  · refine (both_any2 w1 wS.heap.size gd gr pl pv gs0 l A m c h.1 (hl.below h.2) hm).mono fun e w' h2 => ⟨h2.1, h2.2.1, h.2.trans (h2.2.2.below (fun k hk => ?_) h.2.size)⟩
    obtain rfl := List.mem_singleton.1 hk
    exact h.1.lo.1
  · obtain ⟨mb, fs, hD, hv⟩ := h.1.dk
    exact imageR_any w1 _ gd mb pl fs _ hD hv
  · obtain ⟨A2, c2, hR, hL⟩ := h.1.rd
    obtain ⟨A3, c3, ev, hF, _⟩ := hL.fl h.1.lo.2.2
    injection ev with e1 e2 e3
    subst e1 e3
    exact ⟨A2, c2, hR, hF⟩
/-- What the last region keeps. -/
def JLy (w0 : World) (gy : Nat) (gs : Fs) (bs : List Bool) (vs : List Value) (w : World) : Prop :=
  Below w0.heap.size w0 w ∧ (bs.getD 1 false = false → ∃ mb, DiskAt w w0.heap.size gy (.pointer none) mb []) ∧
  (bs.getD 1 false = true → bs.getD 5 false = false → ∃ mb fs, DiskAt w w0.heap.size gy (.pointer none) mb fs ∧ fs.map vF = gs.map vF) ∧
  (bs.getD 0 false = true → bs.getD 1 false = false → ∃ A c li, vs.getD 0 undef = .slice A li.length c ∧ FlAt w w.heap.size A li.length li ∧ li.map vF = gs.map vF) ∧
  (bs.getD 2 false = true → bs.getD 5 false = false → ∃ A c li, vs.getD 2 undef = .slice A li.length c ∧ FlAt w w.heap.size A li.length li ∧ li.map vF = gs.map vF) ∧
  (bs.getD 3 false = true → bs.getD 5 false = false → ∃ A c, vs.getD 3 undef = .slice A gs.length c ∧ FlAt w w.heap.size A gs.length gs)
theorem JLy.start {w0 w : World} {gy mb : Nat} {gs : Fs} (b : Below w0.heap.size w0 w) (h : DiskAt w w0.heap.size gy (.pointer none) mb []) (vs : List Value) : JLy w0 gy gs [false, false, false, false, false, false, false] vs w.drew :=
  ⟨b.drew, fun _ => ⟨mb, h.later (Below.refl _ _).drew⟩, fun h => absurd (show false = true from h) (by decide), fun h => absurd (show false = true from h) (by decide), fun h => absurd (show false = true from h) (by decide), fun h => absurd (show false = true from h) (by decide)⟩
theorem loadY_any (w : World) (BY gy : Nat) (gs li : Fs) (A : Option Addr) (c : Nat) (hBY : BY ≤ w.heap.size) (hD : ∃ mb, DiskAt w BY gy (.pointer none) mb []) (hF : FlAt w w.heap.size A li.length li) (hv : li.map vF = gs.map vF) (hQ : ∃ l0, ldF [] l0 = some gs ∧ ∀ p ∈ l0, tidy p) (h64 : gs.length ≤ 64) :
    Calls Try.prog 33 #[ptr gy, .slice A li.length c] w fun e w' => e = .returned (.int .i64 0) ∧ (∃ mb fs, DiskAt w' BY gy (.pointer none) mb fs ∧ fs.map vF = gs.map vF) ∧ Below BY w w' := by
  obtain ⟨mb, hD⟩ := hD
  obtain ⟨l0, h0, t0⟩ := hQ
  have hlen : li.length = gs.length := by have := congrArg List.length hv; simpa using this
  have hag := ld_again h0 t0 hv (fun p hp => (hF.2.2 p hp).1)
  have hmay := ld_all (fun p => mayF p = true) li [] li hag (fun p hp => by cases hp) (fun p hp hm => hm)
  refine (load_any w BY gy mb (.pointer none) [] hBY hD A li.length c li hF (fun p hp => ?_) (by omega)).mono fun e w' h => ?_
  · have := hmay p hp
    unfold mayF at this
    rw [Bool.and_eq_true] at this
    exact okN_le this.1
  · rcases h with ⟨_, g2, mb', hs, hld, hv2, rfl, hD2, hb⟩ | ⟨hno, _, _⟩
    · obtain rfl := Option.some.inj (hag.symm.trans hld)
      exact ⟨rfl, ⟨mb', hs, hD2, hv2.trans hv⟩, hb.below (fun k hk => by obtain rfl := List.mem_singleton.1 hk; exact hD.lo.1) hBY⟩
    · exfalso
      rcases hno with h | h
      · omega
      · rw [hag] at h; cases h
theorem createY_any (w : World) (BY gy : Nat) (gs : Fs) (hBY : BY ≤ w.heap.size) (hD : ∃ mb fs, DiskAt w BY gy (.pointer none) mb fs ∧ fs.map vF = gs.map vF) :
    Calls Try.prog 35 #[ptr gy, encStr [97]] w fun e w' => e = .returned (.int .i64 8) ∧ Below BY w w' := by
  obtain ⟨mb, fs, hD, _⟩ := hD
  have h8 : creE fs [97] false = 8 := by unfold creE; rw [show refE [[97]] false = 8 from rfl]; rfl
  refine (create_any w BY gy mb (.pointer none) false 0 fs [97] hD (.inr ⟨rfl, rfl⟩) ⟨by decide, by decide⟩).mono fun e w' h => ?_
  rw [h8] at h
  obtain ⟨h1, h2, h3, h4⟩ := h
  refine ⟨h1, h4.below (fun k hk => ?_) hBY⟩
  rcases List.mem_append.1 hk with hk | hk
  · simp [plB] at hk
  · exact (hD.blo k hk).1
theorem builtRD (g : Nat) : Try.prog.built 34 [(0, ptr g)] = some [ptr g, Value.slice none 0 0].toArray := by kernel_rfl
set_option maxRecDepth 100000 in
set_option maxHeartbeats 8000000 in
theorem diskLoads_any (was l : Fs) (A A' : Option Addr) (m c m' c' : Nat) (w : World) (h1 : FlAt w w.heap.size A m was) (h2 : FlAt w w.heap.size A' m' l) :
    Calls Try.prog 5 #[.slice A m c, .slice A' m' c'] w fun e w' => e = .returned (.bool true) ∧ Below w.heap.size w w' := by
  by_cases h70 : 70 < m
  · have hd : decide ((70 : Int) < (m : Int)) = true := by simp; omega
    go_enter Try.func5, Try.ntmps5
    go_wp2_with fail
    refine (awakeD_any w).mono ?_
    rintro e wz ⟨rfl, bz⟩
    go_wp2_with fail
    go_ret
    exact ⟨rfl, (Below.refl w.heap.size w).trans (bz.mono (Below.refl w.heap.size w).size)⟩
  have hd : decide ((70 : Int) < (m : Int)) = false := by simp; omega
  by_cases h70b : 70 < m'
  · have hd2 : decide ((70 : Int) < (m' : Int)) = true := by simp; omega
    go_enter Try.func5, Try.ntmps5
    go_wp2_with fail
    refine (awakeD_any w).mono ?_
    rintro e wz ⟨rfl, bz⟩
    go_wp2_with fail
    go_ret
    exact ⟨rfl, (Below.refl w.heap.size w).trans (bz.mono (Below.refl w.heap.size w).size)⟩
  have hd2 : decide ((70 : Int) < (m' : Int)) = false := by simp; omega
  obtain ⟨ip, hip, hpz, hps, hpb⟩ := file_info
  have zs3 : (Value.agg #[.string ByteArray.empty, .slice none 0 0, .int .i64 0]).cells.size = 3 := rfl
  have h03 : 0 < 3 := by decide
  have hwl := h1.1
  have hll := h2.1
  have hcl1 : (cellsL was).length = m * 3 := by rw [cellsL_len, hwl]
  have hcl2 : (cellsL l).length = m' * 3 := by rw [cellsL_len, hll]
  have hx1 : 0 + m ≤ maxLen := by simp only [maxLen]; omega
  have hy1 : (0 + m) * 48 ≤ 140737488355328 := by omega
  have hx2 : 0 + m + m' ≤ maxLen := by simp only [maxLen]; omega
  have hy2 : (0 + m + m') * 48 ≤ 140737488355328 := by omega
  have HL1 := fun X (hX : Below w.heap.size w X) => h1.below hX
  have HL2 := fun X (hX : Below w.heap.size w X) => h2.below hX
  have HS := sizeFile
  have hmI : (m : Int) ≤ 70 := by omega
  have hmI2 : (m' : Int) ≤ 70 := by omega
  have HF1 := hide h1
  have HF2 := hide h2
  clear h1 h2
  go_enter Try.func5, Try.ntmps5
  go_wp2_with fail
  go_loopw [5] (fun iv wr => ∃ i : Nat, i ≤ m + m' ∧ iv = .int .i64 i ∧ Hid (∀ j p, j < i → (was ++ l)[j]? = some p → litF p) ∧ Below w.heap.size w wr) (fun iv _ => m + m' - (intOf iv).toNat)
  case atStart => exact ⟨0, Nat.zero_le _, rfl, hide (fun j p hj => by omega), Below.refl _ _⟩
  case round =>
    obtain ⟨i, hi, rfl, hlit, BW⟩ := hrel
    have hiI : (i : Int) ≤ 140 := by omega
    by_cases hlt : i < m + m'
    · obtain ⟨p, hp⟩ : ∃ p, (was ++ l)[i]? = some p := ⟨_, List.getElem?_eq_getElem (by rw [List.length_append]; omega)⟩
      have hd3 : decide ((i : Int) < (m : Int) + (m' : Int)) = true := by simp; omega
      have h0N : 0 < 0 + m + m' := by omega
      have hq : i < 0 + m + m' := by omega
      obtain ⟨n, f⟩ := p
      have HC3 : ∀ (X : World) (g cap : Nat), X.ownsRow wr.heap.size 48 3 (.slice (some ⟨g, 0, none⟩) (0 + m + m') cap) (0 + m + m') ([] ++ cellsL was ++ cellsL l) → ∀ j v, ([encStr n, .slice f.A f.n f.c, .int .i64 f.kept] : List Value)[j]? = some v → X.cell? ⟨g, i * 3 + j, none⟩ = some v := by
        intro X g cap h j v hv
        have := h.cells (g := g) rfl (i * 3 + j) v (by rw [List.nil_append, ← cellsL_app]; exact cellsL_at _ i (n, f) j v hp hv)
        rw [addr_plain, Nat.zero_add] at this
        exact this
      have hnx : litF (n, f) → ∀ j q, j < i + 1 → (was ++ l)[j]? = some q → litF q := fun h j q hj hjq => by
        rcases Nat.lt_or_ge j i with h1 | h1
        · exact hlit.out j q h1 hjq
        · obtain rfl : j = i := by omega
          have := hjq.symm.trans hp
          simp at this
          rw [this]; exact h
      have HNx := hide hnx
      have hsz := enc_size n
      clear hnx hlit hp hwl hll
      by_cases h60 : 60 < n.length
      · have hd4 : decide ((60 : Int) < (n.length : Int)) = true := by simp; omega
        go_wp2_with (first
          | ((with_reducible refine wl_build0N (o := ⟨some 28, _, _, _, _, _⟩) rfl 32 rfl 48 ip 3 Try.underlying32 hip hps ?_); intro v1 wa own1 b1; have Ba := BW.trans (b1.mono BW.size); have s1 := (HL1 wa Ba).src; have ua := b1.size)
          | ((at_builtin; with_reducible refine wl_append_src (o := ⟨some 30, _, _, _, _, _⟩) rfl (.tmp 28) (.tmp 29) 32 rfl wr.heap.size 48 ip (.agg #[.string ByteArray.empty, .slice none 0 0, .int .i64 0]) 3 48 Try.underlying32 hip hpz hps hpb zs3 h03 v1 0 [] rfl own1 A m c (cellsL was) rfl hcl1 s1.1 s1.2 (one_cellsL was) hx1 hy1 ua ?_); intro v2 wb own2 gr2; have Bb : Below wr.heap.size wr wb := b1.grown gr2 ua (fun k hk => (own1.lt k hk).1); have s2 := (HL2 wb (BW.trans (Bb.mono BW.size))).src; have ub := Bb.size)
          | ((at_builtin; with_reducible refine wl_append_src (o := ⟨some 32, _, _, _, _, _⟩) rfl (.tmp 30) (.tmp 31) 32 rfl wr.heap.size 48 ip (.agg #[.string ByteArray.empty, .slice none 0 0, .int .i64 0]) 3 48 Try.underlying32 hip hpz hps hpb zs3 h03 v2 (0 + m) ([] ++ cellsL was) rfl own2 A' m' c' (cellsL l) rfl hcl2 s2.1 s2.2 (one_cellsL l) hx2 hy2 ub ?_); intro v3 wc own3 gr3; have Bc : Below wr.heap.size wr wc := Bb.grown gr3 ub (fun k hk => (own2.lt k hk).1); obtain ⟨g3, cap3, rfl, hg3, hg3l⟩ := own_form own3 h0N; have hc3 := HC3 wc g3 cap3 own3)
          | (with_reducible refine wl_load_cells (o := ⟨some 35, _, _, _, _, _⟩) rfl 48 (.tmp 34) g3 (i * 3) [encStr n, .slice f.A f.n f.c, .int .i64 f.kept] _ rfl rfl hc3 Try.underlying48 rfl (szApi n f) ?_)
          | ((with_reducible refine wl_alloc (o := ⟨some 6, _, _, _, _, _⟩) rfl 48 _ [.string ByteArray.empty, .slice none 0 0, .int .i64 0] rfl zApi rfl ?_); intro g6 w2 r9 p9 l9 b9)
          | ((with_reducible refine wl_store_row rfl 48 (.tmp 6) (.tmp 35) g6 48 _ [encStr n, .slice f.A f.n f.c, .int .i64 f.kept] rfl rfl rfl r9 (szApi n f) rfl (one_api n f) ?_); intro wd r6 o6; have k0 := r6.cell (j := 0) rfl; have k1 := r6.cell (j := 1) rfl; have k2 := r6.cell (j := 2) rfl; have Bd := (Bc.trans (b9.mono Bc.size)).trans (o6.below (Nat.le_trans Bc.size p9))))
        refine (awakeD_any wd).mono ?_
        rintro e wz ⟨rfl, bz⟩
        go_wp2_with fail
        go_ret
        exact ⟨rfl, (BW.trans (Bd.mono BW.size)).trans (bz.mono (BW.trans (Bd.mono BW.size)).size)⟩
      · have hd4 : decide ((60 : Int) < (n.length : Int)) = false := by simp; omega
        by_cases h200 : 200 < f.n
        · have hd5 : decide ((200 : Int) < (f.n : Int)) = true := by simp; omega
          go_wp2_with (first
            | ((with_reducible refine wl_build0N (o := ⟨some 28, _, _, _, _, _⟩) rfl 32 rfl 48 ip 3 Try.underlying32 hip hps ?_); intro v1 wa own1 b1; have Ba := BW.trans (b1.mono BW.size); have s1 := (HL1 wa Ba).src; have ua := b1.size)
            | ((at_builtin; with_reducible refine wl_append_src (o := ⟨some 30, _, _, _, _, _⟩) rfl (.tmp 28) (.tmp 29) 32 rfl wr.heap.size 48 ip (.agg #[.string ByteArray.empty, .slice none 0 0, .int .i64 0]) 3 48 Try.underlying32 hip hpz hps hpb zs3 h03 v1 0 [] rfl own1 A m c (cellsL was) rfl hcl1 s1.1 s1.2 (one_cellsL was) hx1 hy1 ua ?_); intro v2 wb own2 gr2; have Bb : Below wr.heap.size wr wb := b1.grown gr2 ua (fun k hk => (own1.lt k hk).1); have s2 := (HL2 wb (BW.trans (Bb.mono BW.size))).src; have ub := Bb.size)
            | ((at_builtin; with_reducible refine wl_append_src (o := ⟨some 32, _, _, _, _, _⟩) rfl (.tmp 30) (.tmp 31) 32 rfl wr.heap.size 48 ip (.agg #[.string ByteArray.empty, .slice none 0 0, .int .i64 0]) 3 48 Try.underlying32 hip hpz hps hpb zs3 h03 v2 (0 + m) ([] ++ cellsL was) rfl own2 A' m' c' (cellsL l) rfl hcl2 s2.1 s2.2 (one_cellsL l) hx2 hy2 ub ?_); intro v3 wc own3 gr3; have Bc : Below wr.heap.size wr wc := Bb.grown gr3 ub (fun k hk => (own2.lt k hk).1); obtain ⟨g3, cap3, rfl, hg3, hg3l⟩ := own_form own3 h0N; have hc3 := HC3 wc g3 cap3 own3)
            | (with_reducible refine wl_load_cells (o := ⟨some 35, _, _, _, _, _⟩) rfl 48 (.tmp 34) g3 (i * 3) [encStr n, .slice f.A f.n f.c, .int .i64 f.kept] _ rfl rfl hc3 Try.underlying48 rfl (szApi n f) ?_)
            | ((with_reducible refine wl_alloc (o := ⟨some 6, _, _, _, _, _⟩) rfl 48 _ [.string ByteArray.empty, .slice none 0 0, .int .i64 0] rfl zApi rfl ?_); intro g6 w2 r9 p9 l9 b9)
            | ((with_reducible refine wl_store_row rfl 48 (.tmp 6) (.tmp 35) g6 48 _ [encStr n, .slice f.A f.n f.c, .int .i64 f.kept] rfl rfl rfl r9 (szApi n f) rfl (one_api n f) ?_); intro wd r6 o6; have k0 := r6.cell (j := 0) rfl; have k1 := r6.cell (j := 1) rfl; have k2 := r6.cell (j := 2) rfl; have Bd := (Bc.trans (b9.mono Bc.size)).trans (o6.below (Nat.le_trans Bc.size p9))))
          refine (awakeD_any wd).mono ?_
          rintro e wz ⟨rfl, bz⟩
          go_wp2_with fail
          go_ret
          exact ⟨rfl, (BW.trans (Bd.mono BW.size)).trans (bz.mono (BW.trans (Bd.mono BW.size)).size)⟩
        · have hd5 : decide ((200 : Int) < (f.n : Int)) = false := by simp; omega
          have HN2 := hide (HNx.out ⟨by show n.length ≤ 60; omega, by show f.n ≤ 200; omega⟩)
          go_wp2_with (first
            | ((with_reducible refine wl_build0N (o := ⟨some 28, _, _, _, _, _⟩) rfl 32 rfl 48 ip 3 Try.underlying32 hip hps ?_); intro v1 wa own1 b1; have Ba := BW.trans (b1.mono BW.size); have s1 := (HL1 wa Ba).src; have ua := b1.size)
            | ((at_builtin; with_reducible refine wl_append_src (o := ⟨some 30, _, _, _, _, _⟩) rfl (.tmp 28) (.tmp 29) 32 rfl wr.heap.size 48 ip (.agg #[.string ByteArray.empty, .slice none 0 0, .int .i64 0]) 3 48 Try.underlying32 hip hpz hps hpb zs3 h03 v1 0 [] rfl own1 A m c (cellsL was) rfl hcl1 s1.1 s1.2 (one_cellsL was) hx1 hy1 ua ?_); intro v2 wb own2 gr2; have Bb : Below wr.heap.size wr wb := b1.grown gr2 ua (fun k hk => (own1.lt k hk).1); have s2 := (HL2 wb (BW.trans (Bb.mono BW.size))).src; have ub := Bb.size)
            | ((at_builtin; with_reducible refine wl_append_src (o := ⟨some 32, _, _, _, _, _⟩) rfl (.tmp 30) (.tmp 31) 32 rfl wr.heap.size 48 ip (.agg #[.string ByteArray.empty, .slice none 0 0, .int .i64 0]) 3 48 Try.underlying32 hip hpz hps hpb zs3 h03 v2 (0 + m) ([] ++ cellsL was) rfl own2 A' m' c' (cellsL l) rfl hcl2 s2.1 s2.2 (one_cellsL l) hx2 hy2 ub ?_); intro v3 wc own3 gr3; have Bc : Below wr.heap.size wr wc := Bb.grown gr3 ub (fun k hk => (own2.lt k hk).1); obtain ⟨g3, cap3, rfl, hg3, hg3l⟩ := own_form own3 h0N; have hc3 := HC3 wc g3 cap3 own3)
            | (with_reducible refine wl_load_cells (o := ⟨some 35, _, _, _, _, _⟩) rfl 48 (.tmp 34) g3 (i * 3) [encStr n, .slice f.A f.n f.c, .int .i64 f.kept] _ rfl rfl hc3 Try.underlying48 rfl (szApi n f) ?_)
            | ((with_reducible refine wl_alloc (o := ⟨some 6, _, _, _, _, _⟩) rfl 48 _ [.string ByteArray.empty, .slice none 0 0, .int .i64 0] rfl zApi rfl ?_); intro g6 w2 r9 p9 l9 b9)
            | ((with_reducible refine wl_store_row rfl 48 (.tmp 6) (.tmp 35) g6 48 _ [encStr n, .slice f.A f.n f.c, .int .i64 f.kept] rfl rfl rfl r9 (szApi n f) rfl (one_api n f) ?_); intro wd r6 o6; have k0 := r6.cell (j := 0) rfl; have k1 := r6.cell (j := 1) rfl; have k2 := r6.cell (j := 2) rfl; have Bd := (Bc.trans (b9.mono Bc.size)).trans (o6.below (Nat.le_trans Bc.size p9))))
          go_roundw
          case rel => exact ⟨i + 1, by omega, by go_num, HN2, BW.trans (Bd.mono BW.size)⟩
          case measure => simp [intOf]; omega
    · obtain rfl : i = m + m' := by omega
      have hd3 : decide (((m + m' : Nat) : Int) < (m : Int) + (m' : Int)) = false := by simp
      have hall : (∀ p ∈ was, litF p) ∧ ∀ p ∈ l, litF p := by
        have : ∀ p ∈ was ++ l, litF p := fun p hp => by
          obtain ⟨j, hj⟩ := List.getElem?_of_mem hp
          exact hlit.out j p (by have := (List.getElem?_eq_some_iff.1 hj).1; rw [List.length_append] at this; omega) hj
        exact ⟨fun p hp => this p (List.mem_append.2 (.inl hp)), fun p hp => this p (List.mem_append.2 (.inr hp))⟩
      have HAll := hide hall
      clear hall hlit hcl1 hcl2 hx1 hy1 hx2 hy2
      have HQ0 : ∃ l0, ldF [] l0 = some ([] : Fs) ∧ ∀ p ∈ l0, tidy p := ⟨[], rfl, fun p hp => by cases hp⟩
      go_wp2_with fail
      refine (plug_any wr).mono ?_
      rintro e w1 ⟨gP, gp, rfl, hPw, hPl, qP, qp, nP, b1⟩
      go_wp2_with fail
      refine (new_any w1 gP _ hPw).mono ?_
      rintro e w2 ⟨gd, mb, rfl, hD2, b2⟩
      go_wp2_with fail
      refine (rPlug_any w2).mono ?_
      rintro e w3 ⟨gq, rfl, hRP, qq, b3⟩
      have bRD := builtRD gq
      go_wp2_with (first
        | ((with_reducible refine wl_build rfl 34 [(0, .tmp 49)] rfl _ ?hv _ bRD ?hk); case hv => rfl)
        | (with_reducible refine wl_box rfl 34 (.tmp 50) _ [ptr gq, .slice none 0 0] rfl rfl rfl ?_; intro gr w4 r4 p4 l4 b4))
      have B1 := BW.trans (b1.mono BW.size)
      have B2 := B1.trans (b2.mono B1.size)
      have B3 := B2.trans (b3.mono B2.size)
      have B4 := B3.trans (b4.mono B3.size)
      have hBB : Both2 w4 w.heap.size gd gr (ptr gp) (ptr gq) [] := by
        have hD4 := (hD2.later b3).later b4
        refine ⟨⟨mb, [], hD4.mono B1.size, rfl⟩, ⟨none, 0, r4, LstAt.nil _ _ _⟩, Nat.le_trans B3.size p4, ?_, B4.size⟩
        have := hD2.row.lt
        have := b3.size
        omega
      have hln1 : ∀ p ∈ was, p.1.length ≤ maxLen := fun p hp => Nat.le_trans (HAll.out.1 p hp).1 (by decide)
      have hln2 : ∀ p ∈ l, p.1.length ≤ maxLen := fun p hp => Nat.le_trans (HAll.out.2 p hp).1 (by decide)
      have hP := loads_step (wS := w) (w0 := w4) (gd := gd) (gr := gr) (pl := ptr gp) (pv := ptr gq) (gs0 := []) A m c hBB B4 HF1.out hln1 (by omega)
      obtain ⟨gs, hgs', hQ1, HH, HR, HI, HX, HN2⟩ := hP HQ0
      obtain ⟨er, her⟩ : ∃ er, errF was m = er := ⟨_, rfl⟩
      rw [her] at HH HR
      have hgsK : gs.length ≤ 1000 := hgs'
      have hgs : gs.length ≤ 100000 := Nat.le_trans hgsK (by decide)
      clear hBB hPw hPl hD2 hRP r4 b1 b2 b3 b4 HL1 HL2 B1 B2 B3
      rename_i K1 hK1
      refine wp_region_valsG [2, 5, 9, 13, 14] (SLo10 A m c gd gr er) (JLo w4 (HalfB w gd gr (ptr gp) (ptr gq) [] gs) (BothB w gd gr (ptr gp) (ptr gq) gs) gs) (by kernel_rfl) (by kernel_rfl) (by kernel_rfl) (by kernel_rfl) (JLo.start _ _ _ _ _) ?obs10 ?he10
      case obs10 =>
        refine ⟨?_, ?_, ?_, ?_, ?_, ?_, ?_, ?_, ?_, ?_, ?_, ?_, ?_, ?_, ?_, ?_, ?_, trivial⟩
        · refine ⟨.inl rfl, ?_⟩
          exact .inl ⟨by kernel_rfl, fun L a1 w1 n' h => ⟨_, rfl, run_move (.tmp 7) rfl (h.var n' 7 (by kernel_rfl))⟩⟩
        · refine ⟨.inl rfl, ?_⟩
          exact .inl ⟨by kernel_rfl, fun L a1 w1 n' h => ⟨_, rfl, run_move (.tmp 0) rfl (h.var n' 0 (by kernel_rfl))⟩⟩
        · refine ⟨.inl rfl, ?_⟩
          refine .inr fun L a1 w1 n' h K hK => ?_
          have no2 : L.getD 2 false = false := n'.not_yet
          have no5 : L.getD 5 false = false := n'.later (by kernel_rfl)
          have no9 : L.getD 9 false = false := n'.later (by kernel_rfl)
          have no13 : L.getD 13 false = false := n'.later (by kernel_rfl)
          have b9 := h.inv.1 ((bits_at rfl).trans no2)
          have y0 : a1.eval (.tmp 52) = ptr gd := h.dep n' 0 52 (by kernel_rfl) rfl
          have y1 : a1.eval (.tmp 53) = .slice A m c := h.dep n' 1 53 (by kernel_rfl) rfl
          refine st_call 33 _ _ #[ptr gd, .slice A m c] rfl Try.call33 ?_ (HH w1 b9) ?_
          · simp only [List.map_toArray, List.map_cons, List.map_nil, y0, y1]
          · rintro e w3 ⟨rfl, hN⟩
            exact ⟨_, rfl, hK _ w3 rfl ⟨(fun h0 => absurd (show true = false from h0) (by decide)), fun _ _ => hN, (fun h0 => absurd (no5.symm.trans h0) (by decide)), (fun h0 => absurd (no9.symm.trans h0) (by decide)), (fun h0 => absurd (no13.symm.trans h0) (by decide))⟩⟩
        · refine ⟨.inl rfl, ?_⟩
          exact .inl ⟨by kernel_rfl, fun L a1 w1 n' h => ⟨_, rfl, run_move (.tmp 8) rfl (h.var n' 8 (by kernel_rfl))⟩⟩
        · refine ⟨.inl rfl, ?_⟩
          exact .inl ⟨by kernel_rfl, fun L a1 w1 n' h => ⟨_, rfl, run_move (.tmp 0) rfl (h.var n' 0 (by kernel_rfl))⟩⟩
        · refine ⟨.inl rfl, ?_⟩
          refine .inr fun L a1 w1 n' h K hK => ?_
          have yes2 : L.getD 2 false = true := n'.dep (by kernel_rfl)
          have no5 : L.getD 5 false = false := n'.not_yet
          have no9 : L.getD 9 false = false := n'.later (by kernel_rfl)
          have no13 : L.getD 13 false = false := n'.later (by kernel_rfl)
          have hN1 := h.inv.2.1 ((bits_at rfl).trans yes2) ((bits_at rfl).trans no5)
          have y0 : a1.eval (.tmp 55) = ptr gr := h.dep n' 3 55 (by kernel_rfl) rfl
          have y1 : a1.eval (.tmp 56) = .slice A m c := h.dep n' 4 56 (by kernel_rfl) rfl
          refine st_call 34 _ _ #[ptr gr, .slice A m c] rfl Try.call34 ?_ (HR w1 hN1) ?_
          · simp only [List.map_toArray, List.map_cons, List.map_nil, y0, y1]
          · rintro e w3 ⟨rfl, hN⟩
            exact ⟨_, rfl, hK _ w3 rfl ⟨fun h0 => absurd (yes2.symm.trans h0) (by decide), fun _ h0 => absurd (show true = false from h0) (by decide), fun _ => hN, (fun h0 => absurd (no9.symm.trans h0) (by decide)), (fun h0 => absurd (no13.symm.trans h0) (by decide))⟩⟩
        · refine ⟨.inl rfl, ?_⟩
          exact .inl ⟨by kernel_rfl, fun L a1 w1 n' h => ⟨_, rfl, run_neqI (.tmp 54) (.tmp 57) rfl (h.dep n' 2 54 (by kernel_rfl) rfl) (h.dep n' 5 57 (by kernel_rfl) rfl) (by simp)⟩⟩
        · refine ⟨.inl rfl, ?_⟩
          exact .inl ⟨by kernel_rfl, fun L a1 w1 n' h => ⟨_, rfl, run_move (.tmp 58) rfl (h.dep n' 6 58 (by kernel_rfl) rfl)⟩⟩
        · refine ⟨.inr ⟨7, false, 59, rfl, by kernel_rfl, rfl, by simp, fun v h => h⟩, ?_⟩
          exact .inl ⟨by kernel_rfl, fun L a1 w1 n' h => ⟨_, rfl, run_move (.tmp 7) rfl (h.var n' 7 (by kernel_rfl))⟩⟩
        · refine ⟨.inr ⟨7, false, 59, rfl, by kernel_rfl, rfl, by simp, fun v h => h⟩, ?_⟩
          refine .inr fun L a1 w1 n' h K hK => ?_
          have yes5 : L.getD 5 false = true := n'.dep (by kernel_rfl)
          have yes2 : L.getD 2 false = true := n'.dep (by kernel_rfl)
          have hN2 := h.inv.2.2.1 ((bits_at rfl).trans yes5)
          have y0 : a1.eval (.tmp 60) = ptr gd := h.dep n' 8 60 (by kernel_rfl) rfl
          refine st_call 27 _ _ #[ptr gd] rfl Try.call27 ?_ (HI w1 hN2) ?_
          · simp only [List.map_toArray, List.map_cons, List.map_nil, y0]
          · rintro e w3 ⟨A9, c9, li, rfl, hF, hv, b9⟩
            exact ⟨_, rfl, hK _ w3 trivial ⟨fun h0 => absurd (yes2.symm.trans h0) (by decide), fun _ h0 => absurd (yes5.symm.trans h0) (by decide), fun _ => HN2 w1 w3 hN2 b9, fun _ => ⟨A9, c9, li, rfl, hF, hv⟩, fun h0 => (h.inv.2.2.2.2 h0).imp fun A h1 => h1.imp fun c h2 => ⟨h2.1, h2.2.later b9⟩⟩⟩
        · refine ⟨.inr ⟨7, false, 59, rfl, by kernel_rfl, rfl, by simp, fun v h => h⟩, ?_⟩
          exact .inl ⟨by kernel_rfl, fun L a1 w1 n' h => ⟨_, rfl, run_move (.tmp 8) rfl (h.var n' 8 (by kernel_rfl))⟩⟩
        · refine ⟨.inr ⟨7, false, 59, rfl, by kernel_rfl, rfl, by simp, fun v h => h⟩, ?_⟩
          refine .inl ⟨by kernel_rfl, fun L a1 w1 n' h => ⟨ptr gr, rfl, ?_⟩⟩
          have e0 : a1.eval (.tmp 62) = _ := h.dep n' 10 62 (by kernel_rfl) rfl
          unfold execOp
          simp only [e0]
          go_simp
        · refine ⟨.inr ⟨7, false, 59, rfl, by kernel_rfl, rfl, by simp, fun v h => h⟩, ?_⟩
          refine .inl ⟨by kernel_rfl, fun L a1 w1 n' h => ⟨.pointer (some ⟨gr, 1, none⟩), rfl, ?_⟩⟩
          have e0 : a1.eval (.tmp 63) = _ := h.dep n' 11 63 (by kernel_rfl) rfl
          unfold execOp
          simp only [e0]
          go_simp
        · refine ⟨.inr ⟨7, false, 59, rfl, by kernel_rfl, rfl, by simp, fun v h => h⟩, ?_⟩
          refine .inr fun L a1 w1 n' h K hK => ?_
          have yes5 : L.getD 5 false = true := n'.dep (by kernel_rfl)
          have yes2 : L.getD 2 false = true := n'.dep (by kernel_rfl)
          have hN2 := h.inv.2.2.1 ((bits_at rfl).trans yes5)
          obtain ⟨A8, c8, hR8, hF8⟩ := HX w1 hN2
          have y0 : a1.eval (.tmp 64) = .pointer (some ⟨gr, 1, none⟩) := h.dep n' 12 64 (by kernel_rfl) rfl
          have hrun := fun (o : Oper) (ho : o.op = .load 32 (.tmp 64)) => run_loadA (P := Try.prog) (o := o) (a := a1) (w := w1) 32 (.tmp 64) ⟨gr, 1, none⟩ ho Try.isAgg32 y0 (Row.cell hR8 (j := 1) rfl)
          unfold Oper.wp
          rw [hrun _ rfl]
          exact hK _ w1 trivial ⟨fun h0 => absurd (yes2.symm.trans h0) (by decide), fun _ h0 => absurd (yes5.symm.trans h0) (by decide), fun _ => hN2, h.inv.2.2.2.1, fun _ => ⟨A8, c8, rfl, hF8⟩⟩
        · refine ⟨.inr ⟨7, false, 59, rfl, by kernel_rfl, rfl, by simp, fun v h => h⟩, ?_⟩
          refine .inr fun L a1 w1 n' h K hK => ?_
          have yes5 : L.getD 5 false = true := n'.dep (by kernel_rfl)
          have yes2 : L.getD 2 false = true := n'.dep (by kernel_rfl)
          have yes9 : L.getD 9 false = true := n'.dep (by kernel_rfl)
          have yes13 : L.getD 13 false = true := n'.dep (by kernel_rfl)
          have hN2 := h.inv.2.2.1 ((bits_at rfl).trans yes5)
          obtain ⟨A9, c9, li, v9, hF9, hv9⟩ := h.inv.2.2.2.1 ((bits_at rfl).trans yes9)
          obtain ⟨A8, c8, v8, hF8⟩ := h.inv.2.2.2.2 ((bits_at rfl).trans yes13)
          have y0 : a1.eval (.tmp 61) = .slice A9 li.length c9 := v9
          have y1 : a1.eval (.tmp 65) = .slice A8 gs.length c8 := v8
          refine st_call 26 _ _ #[.slice A9 li.length c9, .slice A8 gs.length c8] rfl Try.call26 ?_ (sameR_any w1 A9 A8 c9 c8 li gs hF9 hv9 hF8 hgs) ?_
          · simp only [List.map_toArray, List.map_cons, List.map_nil, y0, y1]
          · rintro e w3 ⟨rfl, b9⟩
            exact ⟨_, rfl, hK _ w3 rfl ⟨fun h0 => absurd (yes2.symm.trans h0) (by decide), fun _ h0 => absurd (yes5.symm.trans h0) (by decide), fun _ => HN2 w1 w3 hN2 b9, fun _ => ⟨A9, c9, li, v9, hF9.later b9, hv9⟩, fun _ => ⟨A8, c8, v8, hF8.later b9⟩⟩⟩
        · refine ⟨.inr ⟨7, false, 59, rfl, by kernel_rfl, rfl, by simp, fun v h => h⟩, ?_⟩
          exact .inl ⟨by kernel_rfl, fun L a1 w1 n' h => ⟨_, rfl, run_notB (.tmp 66) true rfl (h.dep n' 14 66 (by kernel_rfl) rfl) rfl⟩⟩
        · refine ⟨.inl rfl, ?_⟩
          exact .inl ⟨by kernel_rfl, fun L a1 w1 n' h => ⟨_, rfl, run_pickF (.tmp 59) _ _ rfl (h.dep n' 7 59 (by kernel_rfl) rfl) (h.dep n' 15 67 (by kernel_rfl) rfl)⟩⟩
      case he10 =>
        intro V w9 hV hJ
        have hv : V 16 = .bool false := hV 16 68 rfl
        have hB9 : BothB w gd gr (ptr gp) (ptr gq) gs w9 := hJ.2.2.1 rfl
        clear hV hJ HH HR HI HX HN2
        simp only [putOps, List.setIfInBounds_toArray, List.set_cons_succ, List.set_cons_zero, Nat.reduceAdd]
        rw [hv]
        refine hK1 _ _ ?_
        have hP := loads_step (wS := w) (w0 := w9) (gd := gd) (gr := gr) (pl := ptr gp) (pv := ptr gq) (gs0 := gs) A' m' c' hB9.1 hB9.2 HF2.out hln2 (by omega)
        obtain ⟨gsB, hgsB', hQB, HHb, HRb, HIb, HXb, HNb⟩ := hP hQ1
        obtain ⟨erB, herB⟩ : ∃ er, errF l m' = er := ⟨_, rfl⟩
        rw [herB] at HHb HRb
        have hgsB : gsB.length ≤ 100000 := by omega
        clear hgsB' hP herB hQ1
        go_wp2_with fail
        rename_i K2 hK2
        refine wp_region_valsG [2, 5, 9, 13, 14] (SLo12 A' m' c' gd gr erB) (JLo w9 (HalfB w gd gr (ptr gp) (ptr gq) gs gsB) (BothB w gd gr (ptr gp) (ptr gq) gsB) gsB) (by kernel_rfl) (by kernel_rfl) (by kernel_rfl) (by kernel_rfl) (JLo.start _ _ _ _ _) ?obs12 ?he12
        case obs12 =>
          refine ⟨?_, ?_, ?_, ?_, ?_, ?_, ?_, ?_, ?_, ?_, ?_, ?_, ?_, ?_, ?_, ?_, ?_, trivial⟩
          · refine ⟨.inl rfl, ?_⟩
            exact .inl ⟨by kernel_rfl, fun L a1 w1 n' h => ⟨_, rfl, run_move (.tmp 7) rfl (h.var n' 7 (by kernel_rfl))⟩⟩
          · refine ⟨.inl rfl, ?_⟩
            exact .inl ⟨by kernel_rfl, fun L a1 w1 n' h => ⟨_, rfl, run_move (.tmp 1) rfl (h.var n' 1 (by kernel_rfl))⟩⟩
          · refine ⟨.inl rfl, ?_⟩
            refine .inr fun L a1 w1 n' h K hK => ?_
            have no2 : L.getD 2 false = false := n'.not_yet
            have no5 : L.getD 5 false = false := n'.later (by kernel_rfl)
            have no9 : L.getD 9 false = false := n'.later (by kernel_rfl)
            have no13 : L.getD 13 false = false := n'.later (by kernel_rfl)
            have b9 := h.inv.1 ((bits_at rfl).trans no2)
            have y0 : a1.eval (.tmp 69) = ptr gd := h.dep n' 0 69 (by kernel_rfl) rfl
            have y1 : a1.eval (.tmp 70) = .slice A' m' c' := h.dep n' 1 70 (by kernel_rfl) rfl
            refine st_call 33 _ _ #[ptr gd, .slice A' m' c'] rfl Try.call33 ?_ (HHb w1 b9) ?_
            · simp only [List.map_toArray, List.map_cons, List.map_nil, y0, y1]
            · rintro e w3 ⟨rfl, hN⟩
              exact ⟨_, rfl, hK _ w3 rfl ⟨(fun h0 => absurd (show true = false from h0) (by decide)), fun _ _ => hN, (fun h0 => absurd (no5.symm.trans h0) (by decide)), (fun h0 => absurd (no9.symm.trans h0) (by decide)), (fun h0 => absurd (no13.symm.trans h0) (by decide))⟩⟩
          · refine ⟨.inl rfl, ?_⟩
            exact .inl ⟨by kernel_rfl, fun L a1 w1 n' h => ⟨_, rfl, run_move (.tmp 8) rfl (h.var n' 8 (by kernel_rfl))⟩⟩
          · refine ⟨.inl rfl, ?_⟩
            exact .inl ⟨by kernel_rfl, fun L a1 w1 n' h => ⟨_, rfl, run_move (.tmp 1) rfl (h.var n' 1 (by kernel_rfl))⟩⟩
          · refine ⟨.inl rfl, ?_⟩
            refine .inr fun L a1 w1 n' h K hK => ?_
            have yes2 : L.getD 2 false = true := n'.dep (by kernel_rfl)
            have no5 : L.getD 5 false = false := n'.not_yet
            have no9 : L.getD 9 false = false := n'.later (by kernel_rfl)
            have no13 : L.getD 13 false = false := n'.later (by kernel_rfl)
            have hN1 := h.inv.2.1 ((bits_at rfl).trans yes2) ((bits_at rfl).trans no5)
            have y0 : a1.eval (.tmp 72) = ptr gr := h.dep n' 3 72 (by kernel_rfl) rfl
            have y1 : a1.eval (.tmp 73) = .slice A' m' c' := h.dep n' 4 73 (by kernel_rfl) rfl
            refine st_call 34 _ _ #[ptr gr, .slice A' m' c'] rfl Try.call34 ?_ (HRb w1 hN1) ?_
            · simp only [List.map_toArray, List.map_cons, List.map_nil, y0, y1]
            · rintro e w3 ⟨rfl, hN⟩
              exact ⟨_, rfl, hK _ w3 rfl ⟨fun h0 => absurd (yes2.symm.trans h0) (by decide), fun _ h0 => absurd (show true = false from h0) (by decide), fun _ => hN, (fun h0 => absurd (no9.symm.trans h0) (by decide)), (fun h0 => absurd (no13.symm.trans h0) (by decide))⟩⟩
          · refine ⟨.inl rfl, ?_⟩
            exact .inl ⟨by kernel_rfl, fun L a1 w1 n' h => ⟨_, rfl, run_neqI (.tmp 71) (.tmp 74) rfl (h.dep n' 2 71 (by kernel_rfl) rfl) (h.dep n' 5 74 (by kernel_rfl) rfl) (by simp)⟩⟩
          · refine ⟨.inl rfl, ?_⟩
            exact .inl ⟨by kernel_rfl, fun L a1 w1 n' h => ⟨_, rfl, run_move (.tmp 75) rfl (h.dep n' 6 75 (by kernel_rfl) rfl)⟩⟩
          · refine ⟨.inr ⟨7, false, 76, rfl, by kernel_rfl, rfl, by simp, fun v h => h⟩, ?_⟩
            exact .inl ⟨by kernel_rfl, fun L a1 w1 n' h => ⟨_, rfl, run_move (.tmp 7) rfl (h.var n' 7 (by kernel_rfl))⟩⟩
          · refine ⟨.inr ⟨7, false, 76, rfl, by kernel_rfl, rfl, by simp, fun v h => h⟩, ?_⟩
            refine .inr fun L a1 w1 n' h K hK => ?_
            have yes5 : L.getD 5 false = true := n'.dep (by kernel_rfl)
            have yes2 : L.getD 2 false = true := n'.dep (by kernel_rfl)
            have hN2 := h.inv.2.2.1 ((bits_at rfl).trans yes5)
            have y0 : a1.eval (.tmp 77) = ptr gd := h.dep n' 8 77 (by kernel_rfl) rfl
            refine st_call 27 _ _ #[ptr gd] rfl Try.call27 ?_ (HIb w1 hN2) ?_
            · simp only [List.map_toArray, List.map_cons, List.map_nil, y0]
            · rintro e w3 ⟨A9, c9, li, rfl, hF, hv, b9⟩
              exact ⟨_, rfl, hK _ w3 trivial ⟨fun h0 => absurd (yes2.symm.trans h0) (by decide), fun _ h0 => absurd (yes5.symm.trans h0) (by decide), fun _ => HNb w1 w3 hN2 b9, fun _ => ⟨A9, c9, li, rfl, hF, hv⟩, fun h0 => (h.inv.2.2.2.2 h0).imp fun A h1 => h1.imp fun c h2 => ⟨h2.1, h2.2.later b9⟩⟩⟩
          · refine ⟨.inr ⟨7, false, 76, rfl, by kernel_rfl, rfl, by simp, fun v h => h⟩, ?_⟩
            exact .inl ⟨by kernel_rfl, fun L a1 w1 n' h => ⟨_, rfl, run_move (.tmp 8) rfl (h.var n' 8 (by kernel_rfl))⟩⟩
          · refine ⟨.inr ⟨7, false, 76, rfl, by kernel_rfl, rfl, by simp, fun v h => h⟩, ?_⟩
            refine .inl ⟨by kernel_rfl, fun L a1 w1 n' h => ⟨ptr gr, rfl, ?_⟩⟩
            have e0 : a1.eval (.tmp 79) = _ := h.dep n' 10 79 (by kernel_rfl) rfl
            unfold execOp
            simp only [e0]
            go_simp
          · refine ⟨.inr ⟨7, false, 76, rfl, by kernel_rfl, rfl, by simp, fun v h => h⟩, ?_⟩
            refine .inl ⟨by kernel_rfl, fun L a1 w1 n' h => ⟨.pointer (some ⟨gr, 1, none⟩), rfl, ?_⟩⟩
            have e0 : a1.eval (.tmp 80) = _ := h.dep n' 11 80 (by kernel_rfl) rfl
            unfold execOp
            simp only [e0]
            go_simp
          · refine ⟨.inr ⟨7, false, 76, rfl, by kernel_rfl, rfl, by simp, fun v h => h⟩, ?_⟩
            refine .inr fun L a1 w1 n' h K hK => ?_
            have yes5 : L.getD 5 false = true := n'.dep (by kernel_rfl)
            have yes2 : L.getD 2 false = true := n'.dep (by kernel_rfl)
            have hN2 := h.inv.2.2.1 ((bits_at rfl).trans yes5)
            obtain ⟨A8, c8, hR8, hF8⟩ := HXb w1 hN2
            have y0 : a1.eval (.tmp 81) = .pointer (some ⟨gr, 1, none⟩) := h.dep n' 12 81 (by kernel_rfl) rfl
            have hrun := fun (o : Oper) (ho : o.op = .load 32 (.tmp 81)) => run_loadA (P := Try.prog) (o := o) (a := a1) (w := w1) 32 (.tmp 81) ⟨gr, 1, none⟩ ho Try.isAgg32 y0 (Row.cell hR8 (j := 1) rfl)
            unfold Oper.wp
            rw [hrun _ rfl]
            exact hK _ w1 trivial ⟨fun h0 => absurd (yes2.symm.trans h0) (by decide), fun _ h0 => absurd (yes5.symm.trans h0) (by decide), fun _ => hN2, h.inv.2.2.2.1, fun _ => ⟨A8, c8, rfl, hF8⟩⟩
          · refine ⟨.inr ⟨7, false, 76, rfl, by kernel_rfl, rfl, by simp, fun v h => h⟩, ?_⟩
            refine .inr fun L a1 w1 n' h K hK => ?_
            have yes5 : L.getD 5 false = true := n'.dep (by kernel_rfl)
            have yes2 : L.getD 2 false = true := n'.dep (by kernel_rfl)
            have yes9 : L.getD 9 false = true := n'.dep (by kernel_rfl)
            have yes13 : L.getD 13 false = true := n'.dep (by kernel_rfl)
            have hN2 := h.inv.2.2.1 ((bits_at rfl).trans yes5)
            obtain ⟨A9, c9, li, v9, hF9, hv9⟩ := h.inv.2.2.2.1 ((bits_at rfl).trans yes9)
            obtain ⟨A8, c8, v8, hF8⟩ := h.inv.2.2.2.2 ((bits_at rfl).trans yes13)
            have y0 : a1.eval (.tmp 78) = .slice A9 li.length c9 := v9
            have y1 : a1.eval (.tmp 82) = .slice A8 gsB.length c8 := v8
            refine st_call 26 _ _ #[.slice A9 li.length c9, .slice A8 gsB.length c8] rfl Try.call26 ?_ (sameR_any w1 A9 A8 c9 c8 li gsB hF9 hv9 hF8 hgsB) ?_
            · simp only [List.map_toArray, List.map_cons, List.map_nil, y0, y1]
            · rintro e w3 ⟨rfl, b9⟩
              exact ⟨_, rfl, hK _ w3 rfl ⟨fun h0 => absurd (yes2.symm.trans h0) (by decide), fun _ h0 => absurd (yes5.symm.trans h0) (by decide), fun _ => HNb w1 w3 hN2 b9, fun _ => ⟨A9, c9, li, v9, hF9.later b9, hv9⟩, fun _ => ⟨A8, c8, v8, hF8.later b9⟩⟩⟩
          · refine ⟨.inr ⟨7, false, 76, rfl, by kernel_rfl, rfl, by simp, fun v h => h⟩, ?_⟩
            exact .inl ⟨by kernel_rfl, fun L a1 w1 n' h => ⟨_, rfl, run_notB (.tmp 83) true rfl (h.dep n' 14 83 (by kernel_rfl) rfl) rfl⟩⟩
          · refine ⟨.inl rfl, ?_⟩
            exact .inl ⟨by kernel_rfl, fun L a1 w1 n' h => ⟨_, rfl, run_pickF (.tmp 76) _ _ rfl (h.dep n' 7 76 (by kernel_rfl) rfl) (h.dep n' 15 84 (by kernel_rfl) rfl)⟩⟩
        case he12 =>
          intro V2 wt hV hJ
          have hv2 : V2 16 = .bool false := hV 16 85 rfl
          have hBt : BothB w gd gr (ptr gp) (ptr gq) gsB wt := hJ.2.2.1 rfl
          clear hV hJ HHb HRb
          simp only [putOps, List.setIfInBounds_toArray, List.set_cons_succ, List.set_cons_zero, Nat.reduceAdd]
          rw [hv2]
          refine hK2 _ _ ?_
          have h64 : gsB.length ≤ 64 := by
            obtain ⟨mb, fs, hD, hv⟩ := hBt.1.dk
            have := congrArg List.length hv
            simp at this
            have := hD.few
            omega
          have HI := fun w1 (hb : Below wt.heap.size wt w1) => HIb w1 (HNb wt w1 hBt hb)
          have HX := fun w1 (hb : Below wt.heap.size wt w1) => HXb w1 (HNb wt w1 hBt hb)
          clear HIb HXb HNb
          go_wp2_with fail
          refine (new_nil wt).mono ?_
          rintro e wy ⟨gy, mby, rfl, hDy, by_⟩
          have HIy : ∀ w1, (∃ mb fs, DiskAt w1 wt.heap.size gy (.pointer none) mb fs ∧ fs.map vF = gsB.map vF) → Calls Try.prog 27 #[ptr gy] w1 (RetIm gsB w1) := fun w1 hd => by
            obtain ⟨mb, fs, h1, h2⟩ := hd
            exact imageR_any w1 _ gy mb _ fs gsB h1 h2
          have HLy := fun w1 (A9 : Option Addr) (c9 : Nat) (li : Fs) (hBY : wt.heap.size ≤ w1.heap.size) hD hF hv => loadY_any w1 wt.heap.size gy gsB li A9 c9 hBY hD hF hv hQB h64
          have HCr := fun w1 (hBY : wt.heap.size ≤ w1.heap.size) hD => createY_any w1 wt.heap.size gy gsB hBY hD
          have hgs : gsB.length ≤ 100000 := by omega
          clear hQB h64 hgsB
          go_wp2_with fail
          rename_i K3 hK3
          refine wp_region_valsG [2, 3, 7, 11, 12, 16, 20] (SLo15 gd gr gy) (JLy wt gy gsB) (by kernel_rfl) (by kernel_rfl) (by kernel_rfl) (by kernel_rfl) (JLy.start by_ hDy _) ?obs15 ?he15
          case obs15 =>
            refine ⟨?_, ?_, ?_, ?_, ?_, ?_, ?_, ?_, ?_, ?_, ?_, ?_, ?_, ?_, ?_, ?_, ?_, ?_, ?_, ?_, ?_, ?_, ?_, trivial⟩
            · refine ⟨.inl rfl, ?_⟩
              exact .inl ⟨by kernel_rfl, fun L a1 w1 n' h => ⟨_, rfl, run_move (.tmp 9) rfl (h.var n' 9 (by kernel_rfl))⟩⟩
            · refine ⟨.inl rfl, ?_⟩
              exact .inl ⟨by kernel_rfl, fun L a1 w1 n' h => ⟨_, rfl, run_move (.tmp 7) rfl (h.var n' 7 (by kernel_rfl))⟩⟩
            · refine ⟨.inl rfl, ?_⟩
              refine .inr fun L a1 w1 n' h K hK => ?_
              have no3 : L.getD 3 false = false := n'.later (by kernel_rfl)
              have no7 : L.getD 7 false = false := n'.later (by kernel_rfl)
              have no11 : L.getD 11 false = false := n'.later (by kernel_rfl)
              have hb0 := h.inv.1
              have y0 : a1.eval (.tmp 88) = ptr gd := h.dep n' 1 88 (by kernel_rfl) rfl
              refine st_call 27 _ _ #[ptr gd] rfl Try.call27 ?_ (HI w1 hb0) ?_
              · simp only [List.map_toArray, List.map_cons, List.map_nil, y0]
              · rintro e w3 ⟨A9, c9, li, rfl, hF, hv, b9⟩
                exact ⟨_, rfl, hK _ w3 trivial ⟨hb0.trans (b9.mono hb0.size), fun _ => (h.inv.2.1 ((bits_at rfl).trans no3)).imp fun mb hd => hd.later b9, (fun h0 _ => absurd (no3.symm.trans h0) (by decide)), fun _ _ => ⟨A9, c9, li, rfl, hF, hv⟩, (fun h0 _ => absurd (no7.symm.trans h0) (by decide)), (fun h0 _ => absurd (no11.symm.trans h0) (by decide))⟩⟩
            · refine ⟨.inl rfl, ?_⟩
              refine .inr fun L a1 w1 n' h K hK => ?_
              have yes2 : L.getD 2 false = true := n'.dep (by kernel_rfl)
              have no3 : L.getD 3 false = false := n'.not_yet
              have no7 : L.getD 7 false = false := n'.later (by kernel_rfl)
              have no11 : L.getD 11 false = false := n'.later (by kernel_rfl)
              have hb0 := h.inv.1
              have hD0 := h.inv.2.1 ((bits_at rfl).trans no3)
              obtain ⟨A9, c9, li, v9, hF9, hv9⟩ := h.inv.2.2.2.1 ((bits_at rfl).trans yes2) ((bits_at rfl).trans no3)
              have y0 : a1.eval (.tmp 87) = ptr gy := h.dep n' 0 87 (by kernel_rfl) rfl
              have y1 : a1.eval (.tmp 89) = .slice A9 li.length c9 := v9
              refine st_call 33 _ _ #[ptr gy, .slice A9 li.length c9] rfl Try.call33 ?_ (HLy w1 A9 c9 li hb0.size hD0 hF9 hv9) ?_
              · simp only [List.map_toArray, List.map_cons, List.map_nil, y0, y1]
              · rintro e w3 ⟨rfl, hD3, b9⟩
                exact ⟨_, rfl, hK _ w3 rfl ⟨hb0.trans b9, (fun h0 => absurd (show true = false from h0) (by decide)), fun _ _ => hD3, (fun _ h0 => absurd (show true = false from h0) (by decide)), (fun h0 _ => absurd (no7.symm.trans h0) (by decide)), (fun h0 _ => absurd (no11.symm.trans h0) (by decide))⟩⟩
            · refine ⟨.inl rfl, ?_⟩
              exact .inl ⟨by kernel_rfl, fun L a1 w1 n' h => ⟨_, rfl, run_eqlI (.tmp 90) (.const (.int .i64 0)) rfl (h.dep n' 3 90 (by kernel_rfl) rfl) rfl (by simp)⟩⟩
            · refine ⟨.inl rfl, ?_⟩
              exact .inl ⟨by kernel_rfl, fun L a1 w1 n' h => ⟨_, rfl, run_move (.tmp 91) rfl (h.dep n' 4 91 (by kernel_rfl) rfl)⟩⟩
            · refine ⟨.inr ⟨5, true, 92, rfl, by kernel_rfl, rfl, by simp, fun v h => h⟩, ?_⟩
              exact .inl ⟨by kernel_rfl, fun L a1 w1 n' h => ⟨_, rfl, run_move (.tmp 9) rfl (h.var n' 9 (by kernel_rfl))⟩⟩
            · refine ⟨.inr ⟨5, true, 92, rfl, by kernel_rfl, rfl, by simp, fun v h => h⟩, ?_⟩
              refine .inr fun L a1 w1 n' h K hK => ?_
              have yes3 : L.getD 3 false = true := n'.dep (by kernel_rfl)
              have no16 : L.getD 16 false = false := n'.later (by kernel_rfl)
              have hb0 := h.inv.1
              have hD0 := h.inv.2.2.1 ((bits_at rfl).trans yes3) ((bits_at rfl).trans no16)
              have y0 : a1.eval (.tmp 93) = ptr gy := h.dep n' 6 93 (by kernel_rfl) rfl
              refine st_call 27 _ _ #[ptr gy] rfl Try.call27 ?_ (HIy w1 hD0) ?_
              · simp only [List.map_toArray, List.map_cons, List.map_nil, y0]
              · rintro e w3 ⟨A9, c9, li, rfl, hF, hv, b9⟩
                exact ⟨_, rfl, hK _ w3 trivial ⟨hb0.trans (b9.mono hb0.size), (fun h0 => absurd (yes3.symm.trans h0) (by decide)), fun _ _ => hD0.imp fun mb h1 => h1.imp fun fs h2 => ⟨h2.1.later b9, h2.2⟩, (fun _ h0 => absurd (yes3.symm.trans h0) (by decide)), fun _ _ => ⟨A9, c9, li, rfl, hF, hv⟩, fun h0 h1 => (h.inv.2.2.2.2.2 h0 h1).imp fun A h1 => h1.imp fun c h2 => ⟨h2.1, h2.2.later b9⟩⟩⟩
            · refine ⟨.inr ⟨5, true, 92, rfl, by kernel_rfl, rfl, by simp, fun v h => h⟩, ?_⟩
              exact .inl ⟨by kernel_rfl, fun L a1 w1 n' h => ⟨_, rfl, run_move (.tmp 8) rfl (h.var n' 8 (by kernel_rfl))⟩⟩
            · refine ⟨.inr ⟨5, true, 92, rfl, by kernel_rfl, rfl, by simp, fun v h => h⟩, ?_⟩
              refine .inl ⟨by kernel_rfl, fun L a1 w1 n' h => ⟨ptr gr, rfl, ?_⟩⟩
              have e0 : a1.eval (.tmp 95) = _ := h.dep n' 8 95 (by kernel_rfl) rfl
              unfold execOp
              simp only [e0]
              go_simp
            · refine ⟨.inr ⟨5, true, 92, rfl, by kernel_rfl, rfl, by simp, fun v h => h⟩, ?_⟩
              refine .inl ⟨by kernel_rfl, fun L a1 w1 n' h => ⟨.pointer (some ⟨gr, 1, none⟩), rfl, ?_⟩⟩
              have e0 : a1.eval (.tmp 96) = _ := h.dep n' 9 96 (by kernel_rfl) rfl
              unfold execOp
              simp only [e0]
              go_simp
            · refine ⟨.inr ⟨5, true, 92, rfl, by kernel_rfl, rfl, by simp, fun v h => h⟩, ?_⟩
              refine .inr fun L a1 w1 n' h K hK => ?_
              have yes3 : L.getD 3 false = true := n'.dep (by kernel_rfl)
              have no16 : L.getD 16 false = false := n'.later (by kernel_rfl)
              have hb0 := h.inv.1
              have hD0 := h.inv.2.2.1 ((bits_at rfl).trans yes3) ((bits_at rfl).trans no16)
              obtain ⟨A8, c8, hR8, hF8⟩ := HX w1 hb0
              have y0 : a1.eval (.tmp 97) = .pointer (some ⟨gr, 1, none⟩) := h.dep n' 10 97 (by kernel_rfl) rfl
              have hrun := fun (o : Oper) (ho : o.op = .load 32 (.tmp 97)) => run_loadA (P := Try.prog) (o := o) (a := a1) (w := w1) 32 (.tmp 97) ⟨gr, 1, none⟩ ho Try.isAgg32 y0 (Row.cell hR8 (j := 1) rfl)
              unfold Oper.wp
              rw [hrun _ rfl]
              exact hK _ w1 trivial ⟨hb0, (fun h0 => absurd (yes3.symm.trans h0) (by decide)), fun _ _ => hD0, (fun _ h0 => absurd (yes3.symm.trans h0) (by decide)), h.inv.2.2.2.2.1, fun _ _ => ⟨A8, c8, rfl, hF8⟩⟩
            · refine ⟨.inr ⟨5, true, 92, rfl, by kernel_rfl, rfl, by simp, fun v h => h⟩, ?_⟩
              refine .inr fun L a1 w1 n' h K hK => ?_
              have yes3 : L.getD 3 false = true := n'.dep (by kernel_rfl)
              have yes7 : L.getD 7 false = true := n'.dep (by kernel_rfl)
              have yes11 : L.getD 11 false = true := n'.dep (by kernel_rfl)
              have no16 : L.getD 16 false = false := n'.later (by kernel_rfl)
              have hb0 := h.inv.1
              have hD0 := h.inv.2.2.1 ((bits_at rfl).trans yes3) ((bits_at rfl).trans no16)
              obtain ⟨A9, c9, li, v9, hF9, hv9⟩ := h.inv.2.2.2.2.1 ((bits_at rfl).trans yes7) ((bits_at rfl).trans no16)
              obtain ⟨A8, c8, v8, hF8⟩ := h.inv.2.2.2.2.2 ((bits_at rfl).trans yes11) ((bits_at rfl).trans no16)
              have y0 : a1.eval (.tmp 94) = .slice A9 li.length c9 := v9
              have y1 : a1.eval (.tmp 98) = .slice A8 gsB.length c8 := v8
              refine st_call 26 _ _ #[.slice A9 li.length c9, .slice A8 gsB.length c8] rfl Try.call26 ?_ (sameR_any w1 A9 A8 c9 c8 li gsB hF9 hv9 hF8 hgs) ?_
              · simp only [List.map_toArray, List.map_cons, List.map_nil, y0, y1]
              · rintro e w3 ⟨rfl, b9⟩
                exact ⟨_, rfl, hK _ w3 rfl ⟨hb0.trans (b9.mono hb0.size), (fun h0 => absurd (yes3.symm.trans h0) (by decide)), fun _ _ => hD0.imp fun mb h1 => h1.imp fun fs h2 => ⟨h2.1.later b9, h2.2⟩, (fun _ h0 => absurd (yes3.symm.trans h0) (by decide)), fun _ _ => ⟨A9, c9, li, v9, hF9.later b9, hv9⟩, fun _ _ => ⟨A8, c8, v8, hF8.later b9⟩⟩⟩
            · refine ⟨.inl rfl, ?_⟩
              exact .inl ⟨by kernel_rfl, fun L a1 w1 n' h => ⟨_, rfl, run_pickT (.tmp 92) _ _ rfl (h.dep n' 5 92 (by kernel_rfl) rfl) (h.dep n' 12 99 (by kernel_rfl) rfl)⟩⟩
            · refine ⟨.inl rfl, ?_⟩
              exact .inl ⟨by kernel_rfl, fun L a1 w1 n' h => ⟨_, rfl, run_move (.tmp 100) rfl (h.dep n' 13 100 (by kernel_rfl) rfl)⟩⟩
            · refine ⟨.inr ⟨14, true, 101, rfl, by kernel_rfl, rfl, by simp, fun v h => h⟩, ?_⟩
              exact .inl ⟨by kernel_rfl, fun L a1 w1 n' h => ⟨_, rfl, run_move (.tmp 9) rfl (h.var n' 9 (by kernel_rfl))⟩⟩
            · refine ⟨.inr ⟨14, true, 101, rfl, by kernel_rfl, rfl, by simp, fun v h => h⟩, ?_⟩
              refine .inr fun L a1 w1 n' h K hK => ?_
              have yes3 : L.getD 3 false = true := n'.dep (by kernel_rfl)
              have no16 : L.getD 16 false = false := n'.not_yet
              have hb0 := h.inv.1
              have hD0 := h.inv.2.2.1 ((bits_at rfl).trans yes3) ((bits_at rfl).trans no16)
              have y0 : a1.eval (.tmp 102) = ptr gy := h.dep n' 15 102 (by kernel_rfl) rfl
              refine st_call 35 _ _ #[ptr gy, encStr [97]] rfl Try.call35 ?_ (HCr w1 hb0.size hD0) ?_
              · simp only [List.map_toArray, List.map_cons, List.map_nil, y0]; rfl
              · rintro e w3 ⟨rfl, b9⟩
                exact ⟨_, rfl, hK _ w3 rfl ⟨hb0.trans b9, (fun h0 => absurd (yes3.symm.trans h0) (by decide)), (fun _ h0 => absurd (show true = false from h0) (by decide)), (fun _ h0 => absurd (yes3.symm.trans h0) (by decide)), (fun _ h0 => absurd (show true = false from h0) (by decide)), (fun _ h0 => absurd (show true = false from h0) (by decide))⟩⟩
            · refine ⟨.inr ⟨14, true, 101, rfl, by kernel_rfl, rfl, by simp, fun v h => h⟩, ?_⟩
              exact .inl ⟨by kernel_rfl, fun L a1 w1 n' h => ⟨_, rfl, run_eqlI (.tmp 103) (.const (.int .i64 8)) rfl (h.dep n' 16 103 (by kernel_rfl) rfl) rfl (by simp)⟩⟩
            · refine ⟨.inl rfl, ?_⟩
              exact .inl ⟨by kernel_rfl, fun L a1 w1 n' h => ⟨_, rfl, run_pickT (.tmp 101) _ _ rfl (h.dep n' 14 101 (by kernel_rfl) rfl) (h.dep n' 17 104 (by kernel_rfl) rfl)⟩⟩
            · refine ⟨.inl rfl, ?_⟩
              exact .inl ⟨by kernel_rfl, fun L a1 w1 n' h => ⟨_, rfl, run_move (.tmp 105) rfl (h.dep n' 18 105 (by kernel_rfl) rfl)⟩⟩
            · refine ⟨.inr ⟨19, true, 106, rfl, by kernel_rfl, rfl, by simp, fun v h => h⟩, ?_⟩
              refine .inr fun L a1 w1 n' h K hK => ?_
              have yes3 : L.getD 3 false = true := n'.dep (by kernel_rfl)
              have yes16 : L.getD 16 false = true := n'.dep (by kernel_rfl)
              have hb0 := h.inv.1
              refine st_call 18 _ _ #[] rfl Try.call18 ?_ (awakeD_any w1) ?_
              · simp
              · rintro e w3 ⟨rfl, b9⟩
                exact ⟨_, rfl, hK _ w3 rfl ⟨hb0.trans (b9.mono hb0.size), (fun h0 => absurd (yes3.symm.trans h0) (by decide)), (fun _ h0 => absurd (yes16.symm.trans h0) (by decide)), (fun _ h0 => absurd (yes3.symm.trans h0) (by decide)), (fun _ h0 => absurd (yes16.symm.trans h0) (by decide)), (fun _ h0 => absurd (yes16.symm.trans h0) (by decide))⟩⟩
            · refine ⟨.inl rfl, ?_⟩
              exact .inl ⟨by kernel_rfl, fun L a1 w1 n' h => ⟨_, rfl, run_pickT (.tmp 106) _ _ rfl (h.dep n' 19 106 (by kernel_rfl) rfl) (h.dep n' 20 107 (by kernel_rfl) rfl)⟩⟩
            · refine ⟨.inl rfl, ?_⟩
              exact .inl ⟨by kernel_rfl, fun L a1 w1 n' h => ⟨_, rfl, run_assign (.tmp 108) rfl (h.dep n' 21 108 (by kernel_rfl) rfl)⟩⟩
          case he15 =>
            intro V3 wu hV hJ
            have bu : Below wt.heap.size wt wu := hJ.1
            have hv3 : V3 22 = .bool true := hV 22 4 rfl
            clear hV hJ
            simp only [putOps, List.setIfInBounds_toArray, List.set_cons_succ, List.set_cons_zero, Nat.reduceAdd]
            rw [hv3]
            refine hK3 _ _ ?_
            go_wp2_with fail
            go_ret
            exact ⟨rfl, hBt.2.trans (bu.mono hBt.2.size)⟩
end Go.Proofs.Ytfijhfolanhifaa

/-
  From the readings of lists of files to the walks' words. Own work.
-/
namespace Go.Proofs.Ytfijhfolanhifaa
open Go.RowKit Go.Maps Go.ChangeMaps Go.ChangeShapes Go.WideShapes
section
variable {H : Type} {enc : TypeId × Value → H} {w : World} {spare : Nat → Bool} {held : Bool}
instance : Inhabited FV := ⟨⟨none, 0, 0, [], 0⟩⟩
set_option maxRecDepth 100000 in
theorem open_file {fuel : Nat} {cs : List Value} {x : DataW H × List MemPlace} (h : DataW.trod enc Try.prog w 0 spare held fuel 48 cs = some x) : ∃ p : Nm × FV, cs = fcs p ∧ Bs w w.heap.size p.2.A p.2.n p.2.xs := by
  obtain ⟨xs, n, _, rfl, hl, hlen, hf⟩ := DataW.trod_struct (fs := Try.prog.fieldsOf 48) Try.underlying48 h
  rw [show Try.prog.cellsOf 48 = 3 by kernel_rfl] at hl
  obtain ⟨v0, x0, g0, h0⟩ := field_one hlen hf 0 (show (Try.prog.fieldsOf 48)[0]?.map (fun f => (f.offset, f.type)) = some (0, 9) by kernel_rfl) (by kernel_rfl) (by omega)
  obtain ⟨v1, x1, g1, h1⟩ := field_one hlen hf 1 (show (Try.prog.fieldsOf 48)[1]?.map (fun f => (f.offset, f.type)) = some (1, 35) by kernel_rfl) (by kernel_rfl) (by omega)
  obtain ⟨v2, x2, g2, h2⟩ := field_one hlen hf 2 (show (Try.prog.fieldsOf 48)[2]?.map (fun f => (f.offset, f.type)) = some (2, 3) by kernel_rfl) (by kernel_rfl) (by omega)
  obtain ⟨s1, e0, _, _⟩ := DataW.trod_string Try.underlying9 h0
  obtain ⟨A, m, c, ys, e1, hb, _⟩ := trod_bs Try.underlying35 Try.underlying5 (by kernel_rfl) h1
  obtain ⟨z, e2, _, hz⟩ := DataW.trod_int Try.underlying3 h2
  refine ⟨(s1.data.toList, ⟨A, m, c, ys, z⟩), ?_, hb⟩
  simp only [List.cons.injEq, and_true] at e0 e1 e2
  subst e0 e1 e2
  match cs, hl with
  | [u0, u1, u2], _ =>
    simp at g0 g1 g2
    rw [g0, g1, g2]
    rfl
set_option maxRecDepth 100000 in
/-- Files that came in. -/
theorem trod_files {A : Option Addr} {n c : Nat} {d : DataW H} {p : List MemPlace} (h : DataW.Trod enc Try.prog w 0 spare held 32 (.slice A n c) d p) :
    ∃ fs : Fs, FlAt w w.heap.size A n fs := by
  obtain ⟨fuel, hf⟩ := h
  rcases Go.Deep.open_slice Try.underlying32 hf with ⟨hcs, _⟩ | ⟨a, len, cap, m, k, D, Pl, hcs, _, hl, hm, hmm, _, hx⟩
  · simp [Value.cells] at hcs
    obtain ⟨rfl, rfl, rfl⟩ := hcs
    exact ⟨[], rfl, fun h => absurd h (by omega), fun p hp => by cases hp⟩
  · simp [Value.cells] at hcs
    obtain ⟨rfl, rfl, rfl⟩ := hcs
    have hnm : n ≤ m := by rw [hmm]; split <;> omega
    have key : ∀ i, i < n → ∃ q : Nm × FV, (∀ j v, (fcs q)[j]? = some v → w.cell? ((a.add (i * 3)).add j) = some v) ∧ Bs w w.heap.size q.2.A q.2.n q.2.xs := by
      intro i hi
      obtain ⟨cs', h1, h2⟩ := hx i (by omega)
      rw [show Try.prog.cellsOf 48 = 3 by kernel_rfl] at h1
      obtain ⟨_, hlen, hat⟩ := World.cells?_some h1
      obtain ⟨q, rfl, hb⟩ := open_file h2
      refine ⟨q, fun j v hj => ?_, hb⟩
      have hj6 := (List.getElem?_eq_some_iff.1 hj).1
      have := hat j hj6
      rw [this]
      exact hj
    obtain ⟨q, hq⟩ := Go.Deep.choose_lt (α := Nm × FV) key
    refine ⟨(List.range n).map q, by simp, fun h0 => ?_, fun p hp => ?_⟩
    · obtain ⟨b, off, spot⟩ := a
      have hc0 := (hq 0 h0).1 0 _ rfl
      have hspot : spot = none := by simpa [Addr.add] using World.cell?_spot hc0
      subst hspot
      refine ⟨b, off, rfl, ?_, fun i p hp j v hv => ?_⟩
      · have := block_lt_of_cell hc0
        simpa [Addr.add] using this
      · have hi : i < n := by have := (List.getElem?_eq_some_iff.1 hp).1; simpa using this
        have hp2 : p = q i := by simp [hi] at hp; exact hp.symm
        subst hp2
        have := (hq i hi).1 j v hv
        rw [addr_plain, addr_plain] at this
        exact this
    · obtain ⟨i, hi, rfl⟩ := List.mem_map.1 hp
      exact (hq i (by simpa using hi)).2
end
end Go.Proofs.Ytfijhfolanhifaa

/- Proved: the law DiskLoads (P9.4) answers true and leaves its arguments as they read before. For every two lists of files; no condition. -/
namespace Go.Proofs.Ytfijhfolanhifaa.diskLoads
open Go.ChangeShapes Go.WideShapes Go.ChangeAt Go.RowKit

theorem own : ownKnob Try.prog.godebug = none := by kernel_rfl
theorem laidOut : laidOutB Try.prog = true := by kernel_rfl

set_option maxRecDepth 100000 in
theorem lifted (os : Os) (started : os.Started) (H : Type) (enc : TypeId × Value → H) :
    ReturnsInHanded {} Try.checked os 5 .any (Rows.diskLoadsSpec.pre6 enc Try.prog Try.f5 Rows.diskLoadsRow.domain false) (Rows.diskLoadsSpec.post enc Try.prog Try.f5 false true false false) := by
  refine returnsInHanded_of_change (C := Try.checked) own started (by kernel_rfl) Try.func5
    (ChangeSpec.witness6 (enc := enc) (C := Try.checked) false ⟨#[], #[.slice none 0 0, .slice none 0 0], []⟩ 8 (by kernel_rfl) (by kernel_rfl) (by kernel_rfl) (by kernel_rfl)) ?_
  intro W base args ds gs before hval0 hW hcnd _
  have hval : ∀ (j : Nat) t v, Try.f5.params[j]? = some t → args[j]? = some v → Value.okWide Try.prog W .any base t v := hval0
  have hW' := hW
  obtain ⟨p, q, hA0, hV, rfl, hfz, hnd⟩ := hW
  have hA : DataW.TrodAll enc Try.prog W 0 (fun _ => true) true Try.f5.params.toList args.toList ds p := hA0
  rw [Try.params5] at hA hval
  obtain ⟨v0, vs0, d0, ds0, p0, q0, hargs, rfl, rfl, h0, r0⟩ := trodAll_cons hA
  obtain ⟨v1, vs1, d1, ds1, p1, q1, rfl, rfl, rfl, h1, r1⟩ := trodAll_cons r0
  obtain ⟨rfl, rfl, rfl⟩ := trodAll_nil r1
  obtain rfl : args = #[v0, v1] := by cases args; simp_all
  obtain ⟨rfl, rfl⟩ := trodVars_none hV
  obtain ⟨a0, len0, cap0, rfl⟩ := okWide_slice Try.underlying32 (hval 0 32 v0 rfl rfl)
  have k0 := h0
  have lt0 : ∀ x ∈ p0, x.block < W.heap.size := by obtain ⟨m, hm⟩ := k0; exact DataW.trod_lt m _ _ _ hm
  obtain ⟨a1, len1, cap1, rfl⟩ := okWide_slice Try.underlying32 (hval 1 32 v1 rfl rfl)
  have k1 := h1
  have lt1 : ∀ x ∈ p1, x.block < W.heap.size := by obtain ⟨m, hm⟩ := k1; exact DataW.trod_lt m _ _ _ hm
  clear hA0 hval0
  obtain ⟨fs0, hf0⟩ := trod_files k0
  obtain ⟨fs1, hf1⟩ := trod_files k1
  refine (diskLoads_any fs0 fs1 a0 a1 len0 cap0 len1 cap1 W hf0 hf1).mono fun e W' ⟨he, bel⟩ => ?_
  subst he
  exact ⟨_, rfl, _, _, _, [], _, [], hW', trodAll_mk1 (shut_bool Try.underlying4 _), (trodAll_cons_mk (Below.trod laidOut (by kernel_rfl) (of_decide_eq_true (by kernel_rfl)) k0 bel lt0) (trodAll_cons_mk (Below.trod laidOut (by kernel_rfl) (of_decide_eq_true (by kernel_rfl)) k1 bel lt1) trodAll_mk0)), rfl, bel.frame _, fun h => by cases h⟩

theorem over : Rows.diskLoadsRow.holds Try.pinned (OpenSpec.ofChange Rows.diskLoadsSpec) :=
  OpenClaim.holds_of_wide 5 Try.f5 rfl rfl rfl rfl rfl rfl rfl ⟨rfl, rfl, rfl, rfl, rfl⟩ rfl rfl rfl rfl rfl (by kernel_rfl) Try.func5 (by kernel_rfl)
    (of_decide_eq_true (by kernel_rfl)) (by unfold Func.isWrapper; first | (rw [if_pos (by decide +kernel)]; kernel_rfl) | (rw [if_neg (by decide +kernel)]; exact ⟨rfl, rfl⟩))
    (fun os started H enc _ => lifted os started H enc)

/-- The given statement. -/
theorem proved : Rows.DiskLoadsSaid := over
#print axioms proved
end Go.Proofs.Ytfijhfolanhifaa.diskLoads
