/-
  A set's calls, next part: At, Rank, Clone. Own work.
-/
import Derived.Test.YtfklfgaomcbchaaZsetP
namespace Go.Proofs.Ytfklfgaomcbchaa
open Go.RowKit Go.Shelf
set_option linter.unusedVariables false
set_option linter.unusedSimpArgs false
set_option maxRecDepth 100000 in
set_option maxHeartbeats 1000000 in
/-- At of a place that there is. -/
theorem at_yes (w : World) (B gz mb : Nat) (hd : Nd) (Ls : List Nd) (i : Nat) (a : Sc) (h : ZSet w B gz mb hd Ls) (hl : Ls.length ≤ 1000000) (ha : (scs Ls)[i]? = some a) : Calls Try.prog 17 #[ptr gz, .int .i64 (i : Int)] w fun e w' => e = .returned (.tuple #[a.val, .bool true]) ∧ Below w.heap.size w w' := by
  have hi : i < Ls.length := by have := (List.getElem?_eq_some_iff.1 ha).1; simpa using this
  have HL := fun w1 (hb : Below w.heap.size w w1) => len_any w1 B gz mb hd Ls (h.later hb)
  have HR := fun w1 (hb : Below w.heap.size w w1) => range_any w1 B gz mb hd Ls (i : Int) ((i : Int) + 1) (h.later hb) hl
  have e1 : ((scs Ls).drop (min (i : Int).toNat Ls.length)).take (min ((i : Int) + 1).toNat Ls.length - min (i : Int).toNat Ls.length) = [a] := by
    rw [show min (i : Int).toNat Ls.length = i by omega, show min ((i : Int) + 1).toNat Ls.length = i + 1 by omega, show i + 1 - i = 1 by omega]
    have hi2 := (List.getElem?_eq_some_iff.1 ha).1
    rw [List.drop_eq_getElem_cons hi2, (List.getElem?_eq_some_iff.1 ha).2]
    rfl
  rw [e1] at HR
  have hi0 : ¬ (i : Int) < 0 := by omega
  have hi1 : ¬ (Ls.length : Int) ≤ (i : Int) := by omega
  have hiZ : (i : Int) ≤ 1000000 := by omega
  clear h ha e1 hi
  obtain ⟨am, as'⟩ := a
  go_enter Try.func17, Try.ntmps17
  go_wp2_with (first
    | (with_reducible refine wl_alloc (o := ⟨some 4, _, _, _, _, _⟩) rfl 35 _ [encStr [], .int .i64 0] rfl rfl rfl ?_; intro g4 w4 r4 p4 l4 b4))
  refine (HL _ b4).mono ?_
  rintro e w5 ⟨rfl, rfl⟩
  go_wp2_with fail
  refine (HR _ b4).mono ?_
  rintro e w6 ⟨v, rfl, own, b6⟩
  obtain ⟨g, cap, rfl, hT, hgl, hcells⟩ := own_cells own (i := 0) rfl
  have hc : ∀ j u, [encStr am, Value.int .i64 as'][j]? = some u → w6.cell? ⟨g, 0 + j, none⟩ = some u := fun j u hj => by have := hcells 0 _ j u rfl hj; simpa using this
  have r4 := r4.later b6
  have B6 := b4.trans (b6.mono b4.size)
  go_wp2_with (first
    | (with_reducible refine wl_load_cells (o := ⟨some 21, _, _, _, _, _⟩) rfl 35 (.tmp 20) g 0 [encStr am, .int .i64 as'] _ rfl rfl hc Try.underlying35 rfl (szSc ⟨am, as'⟩) ?_)
    | (with_reducible refine wl_store_row rfl 35 (.tmp 4) (.tmp 21) g4 35 _ [encStr am, .int .i64 as'] rfl rfl rfl r4 (szSc ⟨am, as'⟩) rfl (by simp [Value.oneCell', encStr]) ?_; intro w7 r7 o7))
  refine bodyPost_ret (v := .tuple #[.agg [encStr am, .int .i64 as'].toArray, .bool true]) ?_ rfl ⟨rfl, B6.trans (o7.below p4)⟩
  exact results_rt2 Try.results17 _ _ g4 35 _ _ _ rfl r7 Try.underlying35 rfl (szSc ⟨am, as'⟩) rfl
/-- What Rank's region keeps. -/
def JRk (w0 : World) (k : Nat) (x : Sc) (bs : List Bool) (vs : List Value) (w : World) : Prop :=
  Below w0.heap.size w0 w ∧
  (bs.getD 0 false = true → ∃ g, vs.getD 0 undef = .func (.func 40) #[] #[ptr g] ∧ (bs.getD 3 false = false → Row w 35 g x.cells)) ∧
  (bs.getD 1 false = true → ∃ ps gk, vs.getD 1 undef = .agg (lksC ps).toArray ∧ ps.length = 16 ∧ ps[0]? = some ⟨some gk, (k : Int)⟩) ∧
  (bs.getD 2 false = true → ∃ g8 cs, vs.getD 2 undef = ptr g8 ∧ w0.heap.size ≤ g8 ∧ Row w 61 g8 cs ∧ cs.length = 32 ∧ (bs.getD 3 false = true → cs[1]? = some (.int .i64 (k : Int))))
theorem JRk.start (w0 : World) (k : Nat) (x : Sc) (vs : List Value) : JRk w0 k x [false, false, false, false] vs w0.drew :=
  ⟨(Below.refl _ _).drew, fun h => absurd (show false = true from h) (by decide), fun h => absurd (show false = true from h) (by decide), fun h => absurd (show false = true from h) (by decide)⟩
def SRk (gz : Nat) (hd : Nd) (m : Nm) (s : Int) (opn : Nat) (v : Value) : Prop :=
  match opn with
  | 0 | 1 => v = .pointer (some ⟨gz, 0, none⟩)
  | 2 => v = .pointer (some ⟨gz, 1, none⟩)
  | 3 => v = ptr hd.g
  | 4 => v = encStr m
  | 5 => v = .int .i64 s
  | 6 => v = .agg [encStr m, .int .i64 s].toArray
  | _ => True

set_option maxRecDepth 100000 in
set_option maxHeartbeats 1000000 in
/-- Rank of what is there. -/
theorem rank_yes (w : World) (B gz mb : Nat) (hd : Nd) (Ls : List Nd) (m : Nm) (s : Int) (h : ZSet w B gz mb hd Ls) (hm : m.length ≤ maxLen) (hl : Ls.length ≤ 1000000) (hn : scoreOf (scs Ls) m = some s) : Calls Try.prog 15 #[ptr gz, encStr m] w fun e w' => e = .returned (.tuple #[.int .i64 ((nAhead ⟨m, s⟩ (scs Ls) : Nat) : Int), .bool true]) ∧ Below w.heap.size w w' := by
  have HS := score_any w B gz mb hd Ls m h hm
  rw [hn] at HS
  have HAh := fun w => ahead_any w ⟨m, s⟩
  obtain ⟨k, hk⟩ : ∃ k, k = nAhead ⟨m, s⟩ (scs Ls) := ⟨_, rfl⟩
  have hkl : k ≤ Ls.length := by rw [hk]; simpa using nAhead_le ⟨m, s⟩ (scs Ls)
  have HWk : ∀ w1, Below w.heap.size w w1 → ∀ g, Row w1 35 g (Sc.cells ⟨m, s⟩) → Calls Try.prog 33 #[ptr hd.g, .func (.func 40) #[] #[ptr g]] w1 fun e w' => ∃ ps gk, e = .returned (.agg (lksC ps).toArray) ∧ ps.length = 16 ∧ ps[0]? = some ⟨some gk, (k : Int)⟩ ∧ Below w1.heap.size w1 w' := by
    intro w1 hb g hx
    refine (walkTo_any w1 B hd Ls ⟨m, s⟩ g (h.z.later hb) h.h16 hl h.rise hx).mono ?_
    rintro e w2 ⟨ps, rfl, hps, hst, b2⟩
    rw [← hk] at hst
    obtain ⟨c0, n0, hp0, hN0, hs0⟩ := hst 0 (by omega)
    have e0 : c0 = k := hs0.low (by rw [List.length_cons]; omega) fun j m hj => (h.z.lo j m hj).2.2.1
    rw [e0] at hp0
    exact ⟨ps, n0.g, rfl, hps, hp0, b2⟩
  have rz := h.row
  rw [← hk]
  clear hk hn h hl
  go_enter Try.func15, Try.ntmps15
  go_wp2_with fail
  refine HS.mono ?_
  rintro e w1 ⟨rfl, rfl⟩
  go_wp2_with fail
  rename_i K4 hK4
  refine wp_region_vals [7, 8, 9, 10] (SRk gz hd m s) (JRk w k ⟨m, s⟩) (by kernel_rfl) (by kernel_rfl) (by kernel_rfl) (by kernel_rfl) (by kernel_rfl) (JRk.start _ _ _ _) ?obs4 ?he4
  case obs4 =>
    refine ⟨?_, ?_, ?_, ?_, ?_, ?_, ?_, ?_, ?_, ?_, ?_, trivial⟩
    · exact .inl ⟨by kernel_rfl, fun L a1 w1 n' h => ⟨_, rfl, run_move (.tmp 0) rfl (h.var n' 0 (by kernel_rfl))⟩⟩
    · refine .inl ⟨by kernel_rfl, fun L a1 w1 n' h => ⟨.pointer (some ⟨gz, 0, none⟩), rfl, ?_⟩⟩
      have e0 : a1.eval (.tmp 17) = _ := h.dep n' 0 17 (by kernel_rfl) rfl
      unfold execOp
      simp only [e0]
      go_simp
    · refine .inl ⟨by kernel_rfl, fun L a1 w1 n' h => ⟨.pointer (some ⟨gz, 1, none⟩), rfl, ?_⟩⟩
      have e0 : a1.eval (.tmp 18) = _ := h.dep n' 1 18 (by kernel_rfl) rfl
      unfold execOp
      simp only [e0]
      go_simp
    · exact .inl ⟨by kernel_rfl, fun L a1 w1 n' h => ⟨_, rfl, run_loadA 50 (.tmp 19) ⟨gz, 1, none⟩ rfl Try.isAgg50 (h.dep n' 2 19 (by kernel_rfl) rfl) ((Row.later rz h.inv.1).cell (j := 1) (v := ptr hd.g) rfl)⟩⟩
    · exact .inl ⟨by kernel_rfl, fun L a1 w1 n' h => ⟨_, rfl, run_move (.tmp 1) rfl (h.var n' 1 (by kernel_rfl))⟩⟩
    · exact .inl ⟨by kernel_rfl, fun L a1 w1 n' h => ⟨_, rfl, run_move (.tmp 6) rfl (h.var n' 6 (by kernel_rfl))⟩⟩
    · exact .inl ⟨by kernel_rfl, fun L a1 w1 n' h => ⟨_, rfl, run_buildX 35 [(0, (.tmp 21)), (1, (.tmp 22))] rfl [(0, encStr m), (1, .int .i64 s)] (by have y0 : a1.eval (.tmp 21) = encStr m := h.dep n' 4 21 (by kernel_rfl) rfl; have y1 : a1.eval (.tmp 22) = .int .i64 s := h.dep n' 5 22 (by kernel_rfl) rfl; simp only [List.map_cons, List.map_nil, y0, y1]) _ (builtSc m s)⟩⟩
    · refine .inr fun L a1 w1 n' h K hK => ?_
      have no8 : L.getD 8 false = false := n'.later (by kernel_rfl)
      have no10 : L.getD 10 false = false := n'.later (by kernel_rfl)
      have y0 : a1.eval (.tmp 23) = .agg [encStr m, .int .i64 s].toArray := h.dep n' 6 23 (by kernel_rfl) rfl
      refine st_call 34 _ _ #[.agg [encStr m, .int .i64 s].toArray] rfl Try.call34 ?_ (HAh w1) ?_
      · simp only [List.map_toArray, List.map_cons, List.map_nil, y0]
      · rintro e w3 ⟨g3, rfl, r3, p3, b3⟩
        refine ⟨_, rfl, hK _ w3 trivial ⟨h.inv.1.trans (b3.mono h.inv.1.size), fun _ => ⟨g3, rfl, fun _ => r3⟩, fun h0 => absurd (no8.symm.trans h0) (by decide), fun h0 => ?_⟩⟩
        obtain ⟨g8, cs, e1, e2, e3, e4, e5⟩ := h.inv.2.2.2 h0
        exact ⟨g8, cs, e1, e2, e3.later b3, e4, fun h0 => absurd (no10.symm.trans h0) (by decide)⟩
    · refine .inr fun L a1 w1 n' h K hK => ?_
      have yes7 : L.getD 7 false = true := n'.dep (by kernel_rfl)
      have no10 : L.getD 10 false = false := n'.later (by kernel_rfl)
      obtain ⟨g3, e3, r3⟩ := h.inv.2.1 ((bits_at rfl).trans yes7)
      have r3 := r3 ((bits_at rfl).trans no10)
      have y0 : a1.eval (.tmp 20) = ptr hd.g := h.dep n' 3 20 (by kernel_rfl) rfl
      have y1 : a1.eval (.tmp 24) = .func (.func 40) #[] #[ptr g3] := e3
      refine st_call 33 _ _ #[ptr hd.g, .func (.func 40) #[] #[ptr g3]] rfl Try.call33 ?_ (HWk w1 h.inv.1 g3 r3) ?_
      · simp only [List.map_toArray, List.map_cons, List.map_nil, y0, y1]
      · rintro e w3 ⟨ps, gk, rfl, hps, hp0, b3⟩
        refine ⟨_, rfl, hK _ w3 trivial ⟨h.inv.1.trans (b3.mono h.inv.1.size), fun h0 => ?_, fun _ => ⟨ps, gk, rfl, hps, hp0⟩, fun h0 => ?_⟩⟩
        · obtain ⟨g4, e4, r4⟩ := h.inv.2.1 h0
          exact ⟨g4, e4, fun h1 => (r4 h1).later b3⟩
        · obtain ⟨g8, cs, e1, e2, e3, e4, e5⟩ := h.inv.2.2.2 h0
          exact ⟨g8, cs, e1, e2, e3.later b3, e4, fun h0 => absurd (no10.symm.trans h0) (by decide)⟩
    · refine .inr fun L a1 w1 n' h K hK => ?_
      have no10 : L.getD 10 false = false := n'.later (by kernel_rfl)
      refine st_alloc 61 _ (lksC (List.replicate 16 noLk)) rfl rfl rfl ?_
      intro g8 w3 r3 p3 l3 b3
      refine hK _ w3 trivial ⟨h.inv.1.trans (b3.mono h.inv.1.size), fun h0 => ?_, fun h0 => h.inv.2.2.1 h0, fun _ => ⟨g8, _, rfl, Nat.le_trans h.inv.1.size p3, r3, by rw [lksC_length, List.length_replicate], fun h0 => absurd (no10.symm.trans h0) (by decide)⟩⟩
      obtain ⟨g4, e4, r4⟩ := h.inv.2.1 h0
      exact ⟨g4, e4, fun h1 => (r4 h1).later b3⟩
    · refine .inr fun L a1 w1 n' h K hK => ?_
      have yes8 : L.getD 8 false = true := n'.dep (by kernel_rfl)
      have yes9 : L.getD 9 false = true := n'.dep (by kernel_rfl)
      obtain ⟨ps, gk, e8, hps, hp0⟩ := h.inv.2.2.1 ((bits_at rfl).trans yes8)
      obtain ⟨g8, cs, e9, l9, r9, hcs, _⟩ := h.inv.2.2.2 ((bits_at rfl).trans yes9)
      have hl : (lksC ps).length = 32 := by rw [lksC_length, hps]
      refine st_store_row 61 (.tmp 8) (.tmp 25) g8 61 cs (lksC ps) rfl e9 e8 r9 (szStops hps) (by rw [hcs, hl]) (lks_one ps) ?_
      intro w3 r3 o3
      refine hK undef w3 trivial ⟨h.inv.1.trans (o3.below l9), fun h0 => ?_, fun h0 => h.inv.2.2.1 h0, fun h0 => ⟨g8, _, e9, l9, r3, hl, fun _ => by rw [lksL_part ps 0 _ hp0]; rfl⟩⟩
      obtain ⟨g4, e4, r4⟩ := h.inv.2.1 h0
      exact ⟨g4, e4, fun h1 => absurd (show true = false from h1) (by decide)⟩
  case he4 =>
    intro V w11 hV hJ
    obtain ⟨b11, _, _, hJ2⟩ := hJ
    obtain ⟨g8, cs, e8, _, r8, _, hc⟩ := hJ2 rfl
    have hc1 := r8.cell (hc rfl)
    have e8 : V 9 = ptr g8 := e8
    clear hV hJ2 hc
    simp only [putOps, List.setIfInBounds_toArray, List.set_cons_succ, List.set_cons_zero, Nat.reduceAdd]
    rw [e8]
    refine hK4 _ _ ?_
    go_wp2_with fail
    go_ret2
    exact ⟨rfl, b11⟩
set_option maxRecDepth 100000 in
/-- Rank of what is not there. -/
theorem rank_no (w : World) (B gz mb : Nat) (hd : Nd) (Ls : List Nd) (m : Nm) (h : ZSet w B gz mb hd Ls) (hm : m.length ≤ maxLen) (hn : scoreOf (scs Ls) m = none) : Calls Try.prog 15 #[ptr gz, encStr m] w fun e w' => e = .returned (.tuple #[.int .i64 0, .bool false]) ∧ w = w' := by
  have HS := score_any w B gz mb hd Ls m h hm
  rw [hn] at HS
  clear hn h
  go_enter Try.func15, Try.ntmps15
  go_wp2_with fail
  refine HS.mono ?_
  rintro e w1 ⟨rfl, rfl⟩
  go_wp2_with fail
  go_ret2
  exact ⟨rfl, rfl⟩
end Go.Proofs.Ytfklfgaomcbchaa
