/-
  Several own texts in one: TreeJ, TreeK, TreeL, TreeN, TreeO, TreeP, TreeQ, TreeW, TreeR. Own work.
-/
import Derived.Test.YtbolfkigiachlaaDoorRows
import Derived.LaidMore
import Derived.Deep.Strs
import Derived.Test.YtbolfkigiachlaaDoorGD
import Derived.Test.YtbolfkigiachlaaDoorGA
set_option linter.unusedVariables false
set_option linter.unusedSimpArgs false
/-
  Trees: the way from a chunk up to the whole, told by a closure: contract. Own work.
-/
namespace Go.Proofs.YtbolfkigiachlaaDoor
open Go.RowKit Tr
/-- From w to w' nothing that was there has turned but the blocks S. -/
structure ButL (S : List Nat) (w w' : World) : Prop where
  os : w'.os = w.os
  tape : w'.tape = w.tape
  output : w'.output = w.output
  size : w.heap.size ≤ w'.heap.size
  block : ∀ k, k < w.heap.size → k ∉ S → w'.heap[k]? = w.heap[k]?
theorem ButL.refl (S : List Nat) (w : World) : ButL S w w := ⟨rfl, rfl, rfl, Nat.le_refl _, fun _ _ _ => rfl⟩
theorem ButL.trans {S : List Nat} {a b c : World} (h : ButL S a b) (k : ButL S b c) : ButL S a c :=
  ⟨k.os.trans h.os, k.tape.trans h.tape, k.output.trans h.output, Nat.le_trans h.size k.size, fun i hi hg => (k.block i (Nat.lt_of_lt_of_le hi h.size) hg).trans (h.block i hi hg)⟩
theorem ButL.of {w w' : World} (h : Below w.heap.size w w') (S : List Nat) : ButL S w w' := ⟨h.os, h.tape, h.output, h.size, fun k hk _ => h.block k hk⟩
theorem ButL.but {g : Nat} {S : List Nat} {w w' : World} (h : But g w w') (hg : g ∈ S) : ButL S w w' := ⟨h.os, h.tape, h.output, h.size, fun k hk hn => h.block k hk (fun e => hn (e ▸ hg))⟩
theorem ButL.only {g : Nat} {S : List Nat} {w w' : World} (h : Only g w w') (hg : g ∈ S) : ButL S w w' := ButL.but (But.only h) hg
theorem Row.butL {w w' : World} {t g : Nat} {vs : List Value} {S : List Nat} (h : Row w t g vs) (hb : ButL S w w') (hg : g ∉ S) : Row w' t g vs := (hb.block g h.lt hg).trans h
theorem ButL.below {w w' : World} {B : Nat} {S : List Nat} (h : ButL S w w') (hS : ∀ s ∈ S, B ≤ s) (hB : B ≤ w.heap.size) : Below B w w' := ⟨h.os, h.tape, h.output, h.size, fun k hk => h.block k (by omega) (fun hm => by have := hS k hm; omega)⟩
/-- The blocks S may turn, and S' are those that may turn then: of S, or new. -/
def Moved (S S' : List Nat) (w w' : World) : Prop := ButL S w w' ∧ ∀ s ∈ S', s ∈ S ∨ w.heap.size ≤ s
theorem Moved.trans {S S' S'' : List Nat} {a b c : World} (h : Moved S S' a b) (k : Moved S' S'' b c) : Moved S S'' a c := by
  refine ⟨⟨k.1.os.trans h.1.os, k.1.tape.trans h.1.tape, k.1.output.trans h.1.output, Nat.le_trans h.1.size k.1.size, fun i hi hn => ?_⟩, fun s hs => ?_⟩
  · refine (k.1.block i (Nat.lt_of_lt_of_le hi h.1.size) fun hm => ?_).trans (h.1.block i hi hn)
    rcases h.2 i hm with h1 | h1
    · exact hn h1
    · omega
  · rcases k.2 s hs with h1 | h1
    · exact h.2 s h1
    · exact .inr (Nat.le_trans h.1.size h1)
theorem Moved.of {w w' : World} (h : Below w.heap.size w w') (S : List Nat) : Moved S S w w' := ⟨ButL.of h S, fun _ h => .inl h⟩
theorem szSpan (a b : Int) : (Tryd.prog.info? 57).map (·.size) = some ([Value.int .i64 a, Value.int .i64 b] : List Value).length := by kernel_rfl
theorem zSpan : (Tryd.prog.info? 57).map (fun i => i.zero) = some (some (.agg [Value.int .i64 0, Value.int .i64 0].toArray)) := by kernel_rfl
theorem one_span (a b : Int) : ∀ u ∈ ([Value.int .i64 a, Value.int .i64 b] : List Value), u.oneCell' = true := by intro u hu; simp at hu; rcases hu with rfl | rfl <;> rfl
theorem builtSpan (a b : Int) : Tryd.prog.built 57 [(0, .int .i64 a), (1, .int .i64 b)] = some [Value.int .i64 a, Value.int .i64 b].toArray := by kernel_rfl
/-- Two structs that a region makes and fills. -/
def JCl (w0 : World) (Z M8 M9 : List Value) (bs : List Bool) (vs : List Value) (w : World) : Prop :=
  Below w0.heap.size w0 w ∧
  (bs.getD 0 false = true → ∃ g, vs.getD 0 undef = .pointer (some ⟨g, 0, none⟩) ∧ w0.heap.size ≤ g ∧ Row w 57 g (bif bs.getD 2 false then M8 else Z)) ∧
  (bs.getD 1 false = true → ∃ g, vs.getD 1 undef = .pointer (some ⟨g, 0, none⟩) ∧ w0.heap.size ≤ g ∧ Row w 57 g (bif bs.getD 3 false then M9 else Z)) ∧
  (bs.getD 0 false = true → bs.getD 1 false = true → ∀ g, vs.getD 0 undef = .pointer (some ⟨g, 0, none⟩) → vs.getD 1 undef ≠ .pointer (some ⟨g, 0, none⟩))
theorem JCl.start (w0 : World) (Z M8 M9 : List Value) (vs : List Value) : JCl w0 Z M8 M9 [false, false, false, false] vs w0.drew :=
  ⟨(Below.refl _ _).drew, fun h => absurd (show false = true from h) (by decide), fun h => absurd (show false = true from h) (by decide), fun h => absurd (show false = true from h) (by decide)⟩
def SCl3 (g3 a b k : Nat) (opn : Nat) (v : Value) : Prop :=
  match opn with
  | 0 => v = .pointer (some ⟨g3, 0, none⟩)
  | 1 => v = .int .i64 (a : Int)
  | 2 => v = .int .i64 (((b - a : Nat) : Int) : Int)
  | 3 => v = .int .i64 (k : Int)
  | 4 | 5 => v = .int .i64 (((a + k : Nat) : Int) : Int)
  | _ => True

def SCl4 (g3 a b m : Nat) (opn : Nat) (v : Value) : Prop :=
  match opn with
  | 0 => v = .pointer (some ⟨g3, 0, none⟩)
  | 1 => v = .int .i64 (a : Int)
  | 2 | 4 => v = .int .i64 (m : Int)
  | 3 => v = .agg [Value.int .i64 (a : Int), Value.int .i64 (m : Int)].toArray
  | 5 => v = .pointer (some ⟨g3, 1, none⟩)
  | 6 => v = .int .i64 (b : Int)
  | 7 => v = .agg [Value.int .i64 (m : Int), Value.int .i64 (b : Int)].toArray
  | _ => True

set_option maxRecDepth 100000 in
set_option maxHeartbeats 4000000 in
theorem climb_any (F : FuncId) (caps : Array Value) (hF : ∀ (xs : Array Value) (w : World), (callFunc F xs).run Tryd.prog w = .ok (.enter F xs) w) (Inv : List (Nat × Nat) → List Nat → World → Prop) (i n L : Nat) (hn : n < 9223372036854775808)
    (hS : ∀ l S w, Inv l S w → ∀ s ∈ S, s < w.heap.size) (hI : ∀ l S w w', Inv l S w → Below w.heap.size w w' → Inv l S w')
    (hstep : ∀ l S a b w, l.length + 1 ≤ L → Inv l S w → a < b → b ≤ n → Calls Tryd.prog F (#[.agg #[.int .i64 (a : Int), .int .i64 (b : Int)]] ++ caps) w fun e w' => e = .returned (.tuple #[]) ∧ ∃ S', Inv (l ++ [(a, b)]) S' w' ∧ Moved S S' w w') :
    ∀ (N a b : Nat) (l : List (Nat × Nat)) (S : List Nat) (w : World), b - a ≤ N → a ≤ b → b ≤ n → l.length + (others a b i).length ≤ L → Inv l S w →
      Calls Tryd.prog 33 #[.agg #[.int .i64 (a : Int), .int .i64 (b : Int)], .int .i64 (i : Int), .func (.func F) #[] caps] w fun e w' => e = .returned (.tuple #[]) ∧ ∃ S', Inv (l ++ others a b i) S' w' ∧ Moved S S' w w' := by
  have small : ∀ (a b : Nat) (l : List (Nat × Nat)) (S : List Nat) (w : World), ¬ 2 ≤ b - a → a ≤ b → b ≤ n → Inv l S w →
      Calls Tryd.prog 33 #[.agg #[.int .i64 (a : Int), .int .i64 (b : Int)], .int .i64 (i : Int), .func (.func F) #[] caps] w fun e w' => e = .returned (.tuple #[]) ∧ ∃ S', Inv (l ++ others a b i) S' w' ∧ Moved S S' w w' := by
    intro a b l S w h2 hab hbn hInv
    rw [others_one h2, List.append_nil]
    have hI1 := fun w1 b => hI l S w w1 hInv b
    have hd : decide ((b : Int) - (a : Int) < 2) = true := by simp; omega
    have hbI : (b : Int) < 9223372036854775808 := by omega
    have habI : (a : Int) ≤ (b : Int) := by omega
    clear hstep hS hI
    go_enter Tryd.func33, Tryd.ntmps33
    go_wp2_with (first
      | (with_reducible refine wl_box rfl 57 _ (.agg #[.int .i64 (a : Int), .int .i64 (b : Int)]) [.int .i64 (a : Int), .int .i64 (b : Int)] rfl rfl rfl ?_; intro g3 w3 r3 p3 l3 b3; have c0 := r3.cell (j := 0) rfl; have c1 := r3.cell (j := 1) rfl))
    exact bodyPost_ret (results_none rfl _ _ _) rfl ⟨rfl, S, hI1 _ b3, Moved.of b3 _⟩
  intro N
  induction N with
  | zero => intro a b l S w hN hab hbn hL hInv; exact small a b l S w (by omega) hab hbn hInv
  | succ N ih =>
    intro a b l S w hN hab hbn hL hInv
    by_cases h2 : 2 ≤ b - a
    · have hk1 := half_lt h2
      have hk0 := half_pos (b - a)
      have hlo := fun h => others_lo (a := a) (b := b) (i := i) h2 h
      have hhi := fun h => others_hi (a := a) (b := b) (i := i) h2 h
      have hP := fun w => firstPart_any (b - a) w h2 (by omega)
      have hE0 : (b : Int) - (a : Int) = ((b - a : Nat) : Int) := by omega
      have E0 := hide hE0
      have hd : decide ((b : Int) - (a : Int) < 2) = false := by simp; omega
      have hbI : (b : Int) < 9223372036854775808 := by omega
      have habI : (a : Int) ≤ (b : Int) := by omega
      have hSs := hS l S w hInv
      clear small hE0
      generalize halfN (b - a) = k at *
      have HLo := hide hlo
      have HHi := hide hhi
      have HStep := hide hstep
      have HIh := hide ih
      clear hlo hhi hstep ih
      go_enter Tryd.func33, Tryd.ntmps33
      go_wp2_with (first
        | (with_reducible refine wl_box rfl 57 _ (.agg #[.int .i64 (a : Int), .int .i64 (b : Int)]) [.int .i64 (a : Int), .int .i64 (b : Int)] rfl rfl rfl ?_; intro g3 w3 r3 p3 l3 b3; have c0 := r3.cell (j := 0) rfl; have c1 := r3.cell (j := 1) rfl))
      rw [E0.out]
      clear c0 c1 hd habI
      rename_i K1 hK1
      refine wp_region_vals [3] (SCl3 g3 a b k) (fun _ _ w => Below w3.heap.size w3 w) (by kernel_rfl) (by kernel_rfl) (by kernel_rfl) (by kernel_rfl) (by kernel_rfl) (Below.refl _ _).drew ?obsA ?heA
      case obsA =>
        refine ⟨?_, ?_, ?_, ?_, ?_, ?_, trivial⟩
        · refine .inl ⟨by kernel_rfl, fun L a1 w1 n' h => ⟨.pointer (some ⟨g3, 0, none⟩), rfl, ?_⟩⟩
          have e0 : a1.eval (.tmp 3) = _ := h.var n' 3 (by kernel_rfl)
          unfold execOp
          simp only [e0]
          go_simp
        · exact .inl ⟨by kernel_rfl, fun L a1 w1 n' h => ⟨_, rfl, run_loadA 3 (.tmp 17) ⟨g3, 0, none⟩ rfl Tryd.isAgg3 (h.dep n' 0 17 (by kernel_rfl) rfl) ((Row.later r3 h.inv).cell (j := 0) rfl)⟩⟩
        · exact .inl ⟨by kernel_rfl, fun L a1 w1 n' h => ⟨_, rfl, run_move (.tmp 6) rfl (h.var n' 6 (by kernel_rfl))⟩⟩
        · refine .inr fun L a1 w1 n' h K hK => ?_
          have e0 : a1.eval (.tmp 19) = .int .i64 (((b - a : Nat) : Int) : Int) := h.dep n' 2 19 (by kernel_rfl) rfl
          refine st_call 46 _ _ #[.int .i64 (((b - a : Nat) : Int) : Int)] rfl Tryd.call46 ?_ (hP w1) ?_
          · simp only [List.map_toArray, List.map_cons, List.map_nil, e0]
          · rintro e w3 ⟨rfl, rfl⟩
            exact ⟨_, rfl, hK _ _ rfl h.inv⟩
        · refine .inl ⟨by kernel_rfl, fun L a1 w1 n' h => ⟨.int .i64 (((a + k : Nat) : Int) : Int), rfl, ?_⟩⟩
          have e0 : a1.eval (.tmp 18) = _ := h.dep n' 1 18 (by kernel_rfl) rfl
          have e1 : a1.eval (.tmp 20) = _ := h.dep n' 3 20 (by kernel_rfl) rfl
          unfold execOp
          simp only [e0, e1]
          go_simp
          rw [IntWalk.i64_in _ (by omega)]
        · exact .inl ⟨by kernel_rfl, fun L a1 w1 n' h => ⟨_, rfl, run_assign (.tmp 21) rfl (h.dep n' 4 21 (by kernel_rfl) rfl)⟩⟩
      case heA =>
        intro V w4 hV hJ
        have b4 : Below w3.heap.size w3 w4 := hJ
        have hp5 : V 5 = .int .i64 ((a + k : Nat) : Int) := hV 5 7 rfl
        clear hV hJ
        simp only [putOps, List.setIfInBounds_toArray, List.set_cons_succ, List.set_cons_zero, Nat.reduceAdd]
        rw [hp5]
        have r3 := r3.later b4
        have B4 := b3.trans (b4.mono b3.size)
        clear b3 b4 hp5 hP hbI hn E0
        refine hK1 _ _ ?_
        clear hK1 K1
        obtain ⟨m, hm⟩ : ∃ m, m = a + k := ⟨_, rfl⟩
        rw [← hm]
        have hma : a < m := by omega
        have hmb : m < b := by omega
        have HM := hide hm
        clear hm hk1 hk0
        have hInv4 := hI l S w w4 hInv B4
        have hS4 := hS l S w4 hInv4
        have b54 : w.heap.size ≤ w4.heap.size := B4.size
        go_wp2_with fail
        rename_i K2 hK2
        refine wp_region_vals [8, 9, 10, 11] (SCl4 g3 a b m) (JCl w4 [Value.int .i64 0, Value.int .i64 0] [Value.int .i64 (a : Int), Value.int .i64 (m : Int)] [Value.int .i64 (m : Int), Value.int .i64 (b : Int)]) (by kernel_rfl) (by kernel_rfl) (by kernel_rfl) (by kernel_rfl) (by kernel_rfl) (JCl.start _ _ _ _ _) ?obsB ?heB
        case obsB =>
          refine ⟨?_, ?_, ?_, ?_, ?_, ?_, ?_, ?_, ?_, ?_, ?_, ?_, trivial⟩
          · refine .inl ⟨by kernel_rfl, fun L a1 w1 n' h => ⟨.pointer (some ⟨g3, 0, none⟩), rfl, ?_⟩⟩
            have e0 : a1.eval (.tmp 3) = _ := h.var n' 3 (by kernel_rfl)
            unfold execOp
            simp only [e0]
            go_simp
          · exact .inl ⟨by kernel_rfl, fun L a1 w1 n' h => ⟨_, rfl, run_loadA 3 (.tmp 22) ⟨g3, 0, none⟩ rfl Tryd.isAgg3 (h.dep n' 0 22 (by kernel_rfl) rfl) ((Row.later r3 h.inv.1).cell (j := 0) rfl)⟩⟩
          · exact .inl ⟨by kernel_rfl, fun L a1 w1 n' h => ⟨_, rfl, run_move (.tmp 7) rfl (h.var n' 7 (by kernel_rfl))⟩⟩
          · refine .inl ⟨by kernel_rfl, fun L a1 w1 n' h => ⟨.agg [Value.int .i64 (a : Int), Value.int .i64 (m : Int)].toArray, rfl, ?_⟩⟩
            have e0 : a1.eval (.tmp 23) = .int .i64 (a : Int) := h.dep n' 1 23 (by kernel_rfl) rfl
            have e1 : a1.eval (.tmp 24) = .int .i64 (m : Int) := h.dep n' 2 24 (by kernel_rfl) rfl
            exact run_buildX 57 [(0, .tmp 23), (1, .tmp 24)] rfl [(0, .int .i64 (a : Int)), (1, .int .i64 (m : Int))] (by simp only [List.map_cons, List.map_nil]; rw [e0, e1]) _ (builtSpan a m)
          · exact .inl ⟨by kernel_rfl, fun L a1 w1 n' h => ⟨_, rfl, run_move (.tmp 7) rfl (h.var n' 7 (by kernel_rfl))⟩⟩
          · refine .inl ⟨by kernel_rfl, fun L a1 w1 n' h => ⟨.pointer (some ⟨g3, 1, none⟩), rfl, ?_⟩⟩
            have e0 : a1.eval (.tmp 3) = _ := h.var n' 3 (by kernel_rfl)
            unfold execOp
            simp only [e0]
            go_simp
          · exact .inl ⟨by kernel_rfl, fun L a1 w1 n' h => ⟨_, rfl, run_loadA 3 (.tmp 27) ⟨g3, 1, none⟩ rfl Tryd.isAgg3 (h.dep n' 5 27 (by kernel_rfl) rfl) ((Row.later r3 h.inv.1).cell (j := 1) rfl)⟩⟩
          · refine .inl ⟨by kernel_rfl, fun L a1 w1 n' h => ⟨.agg [Value.int .i64 (m : Int), Value.int .i64 (b : Int)].toArray, rfl, ?_⟩⟩
            have e0 : a1.eval (.tmp 26) = .int .i64 (m : Int) := h.dep n' 4 26 (by kernel_rfl) rfl
            have e1 : a1.eval (.tmp 28) = .int .i64 (b : Int) := h.dep n' 6 28 (by kernel_rfl) rfl
            exact run_buildX 57 [(0, .tmp 26), (1, .tmp 28)] rfl [(0, .int .i64 (m : Int)), (1, .int .i64 (b : Int))] (by simp only [List.map_cons, List.map_nil]; rw [e0, e1]) _ (builtSpan m b)
          · refine .inr fun L a1 w1 n' h K hK => ?_
            have no : L.getD 10 false = false := n'.later (by kernel_rfl)
            refine st_alloc 57 _ _ rfl zSpan rfl ?_
            intro g7 w3 r7 a7 l7 b7
            refine hK _ _ trivial ⟨h.inv.1.trans (b7.mono h.inv.1.size), ?_, ?_, ?_⟩
            · intro _
              refine ⟨g7, rfl, Nat.le_trans h.inv.1.size a7, ?_⟩
              show Row w3 _ g7 (bif L.getD 10 false then _ else _)
              rw [no]; exact r7
            · intro h1
              obtain ⟨g, p, q, r⟩ := h.inv.2.2.1 h1
              exact ⟨g, p, q, r.later b7⟩
            · intro _ h1 g hg
              obtain ⟨g', p, q, r⟩ := h.inv.2.2.1 h1
              obtain rfl : g7 = g := by injection hg with hg; injection hg with hg; injection hg
              intro hg2
              have hp : Value.pointer (some ⟨g', 0, none⟩) = .pointer (some ⟨g7, 0, none⟩) := p.symm.trans hg2
              injection hp with hp; injection hp with hp; injection hp with hp
              have := r.lt
              omega
          · refine .inr fun L a1 w1 n' h K hK => ?_
            have no : L.getD 11 false = false := n'.later (by kernel_rfl)
            refine st_alloc 57 _ _ rfl zSpan rfl ?_
            intro g7 w3 r7 a7 l7 b7
            refine hK _ _ trivial ⟨h.inv.1.trans (b7.mono h.inv.1.size), ?_, ?_, ?_⟩
            · intro h1
              obtain ⟨g, p, q, r⟩ := h.inv.2.1 h1
              exact ⟨g, p, q, r.later b7⟩
            · intro _
              refine ⟨g7, rfl, Nat.le_trans h.inv.1.size a7, ?_⟩
              show Row w3 _ g7 (bif L.getD 11 false then _ else _)
              rw [no]; exact r7
            · intro h1 _ g hg hg2
              obtain ⟨g', p, q, r⟩ := h.inv.2.1 h1
              obtain rfl : g7 = g := by injection hg2 with hg2; injection hg2 with hg2; injection hg2
              have hp : Value.pointer (some ⟨g', 0, none⟩) = .pointer (some ⟨g7, 0, none⟩) := p.symm.trans hg
              injection hp with hp; injection hp with hp; injection hp with hp
              have := r.lt
              omega
          · refine .inr fun L a1 w1 n' h K hK => ?_
            have yes : (bitsOf [8, 9, 10, 11] L).getD 0 false = true := (bits_at rfl).trans (n'.dep (by kernel_rfl) : L.getD 8 false = true)
            have e1 : a1.eval (.tmp 25) = .agg [Value.int .i64 (a : Int), Value.int .i64 (m : Int)].toArray := h.dep n' 3 25 (by kernel_rfl) rfl
            obtain ⟨g, p, q, r⟩ := h.inv.2.1 yes
            have hlen : (bif (bitsOf [8, 9, 10, 11] L).getD 2 false then [Value.int .i64 (a : Int), Value.int .i64 (m : Int)] else [Value.int .i64 0, Value.int .i64 0]).length = 2 := by cases (bitsOf [8, 9, 10, 11] L).getD 2 false <;> rfl
            refine st_store_row 57 (.tmp 8) (.tmp 25) g 57 _ [Value.int .i64 (a : Int), Value.int .i64 (m : Int)] rfl p e1 r (szSpan a m) hlen (one_span a m) ?_
            intro w3 r3 o3
            refine hK undef w3 trivial ⟨h.inv.1.trans (o3.below q), ?_, ?_, h.inv.2.2.2⟩
            · intro _
              refine ⟨g, p, q, ?_⟩
              show Row w3 _ g (bif (if 10 = 10 then true else L.getD 10 false) then _ else _)
              exact r3
            · intro h1
              obtain ⟨g', p', q', r'⟩ := h.inv.2.2.1 h1
              refine ⟨g', p', q', ?_⟩
              refine r'.only o3 ?_
              rintro rfl
              exact h.inv.2.2.2 yes h1 _ p p'
          · refine .inr fun L a1 w1 n' h K hK => ?_
            have yes : (bitsOf [8, 9, 10, 11] L).getD 1 false = true := (bits_at rfl).trans (n'.dep (by kernel_rfl) : L.getD 9 false = true)
            have e1 : a1.eval (.tmp 29) = .agg [Value.int .i64 (m : Int), Value.int .i64 (b : Int)].toArray := h.dep n' 7 29 (by kernel_rfl) rfl
            obtain ⟨g, p, q, r⟩ := h.inv.2.2.1 yes
            have hlen : (bif (bitsOf [8, 9, 10, 11] L).getD 3 false then [Value.int .i64 (m : Int), Value.int .i64 (b : Int)] else [Value.int .i64 0, Value.int .i64 0]).length = 2 := by cases (bitsOf [8, 9, 10, 11] L).getD 3 false <;> rfl
            refine st_store_row 57 (.tmp 9) (.tmp 29) g 57 _ [Value.int .i64 (m : Int), Value.int .i64 (b : Int)] rfl p e1 r (szSpan m b) hlen (one_span m b) ?_
            intro w3 r3 o3
            refine hK undef w3 trivial ⟨h.inv.1.trans (o3.below q), ?_, ?_, h.inv.2.2.2⟩
            · intro h1
              obtain ⟨g', p', q', r'⟩ := h.inv.2.1 h1
              refine ⟨g', p', q', ?_⟩
              refine r'.only o3 ?_
              rintro rfl
              exact h.inv.2.2.2 h1 yes _ p' p
            · intro _
              refine ⟨g, p, q, ?_⟩
              show Row w3 _ g (bif (if 11 = 11 then true else L.getD 11 false) then _ else _)
              exact r3
        case heB =>
          intro V w5 hV hJ
          obtain ⟨b5, h8, h9, hne⟩ := hJ
          obtain ⟨g8, p8, q8, r8⟩ := h8 rfl
          obtain ⟨g9, p9, q9, r9⟩ := h9 rfl
          have hg89 : g8 ≠ g9 := fun e => hne rfl rfl g8 p8 (by rw [e]; exact p9)
          have p8 : V 8 = .pointer (some ⟨g8, 0, none⟩) := p8
          have p9 : V 9 = .pointer (some ⟨g9, 0, none⟩) := p9
          have r8 : Row w5 57 g8 [Value.int .i64 (a : Int), Value.int .i64 (m : Int)] := r8
          have r9 : Row w5 57 g9 [Value.int .i64 (m : Int), Value.int .i64 (b : Int)] := r9
          clear hV h8 h9 hne
          simp only [putOps, List.setIfInBounds_toArray, List.set_cons_succ, List.set_cons_zero, Nat.reduceAdd]
          rw [p8, p9]
          refine hK2 _ _ ?_
          clear hK2 K2 p8 p9
          have hInv5 := hI l S w4 w5 hInv4 b5
          have B5 := B4.trans (b5.mono B4.size)
          have hn8 : g8 ∉ S := fun h => by have := hS4 _ h; omega
          have hn9 : g9 ∉ S := fun h => by have := hS4 _ h; omega
          have q8w : w.heap.size ≤ g8 := by omega
          have q9w : w.heap.size ≤ g9 := by omega
          by_cases him : m ≤ i
          · have hd1 : decide ((m : Int) ≤ (i : Int)) = true := by simp; omega
            have hoth := HHi.out (by have := HM.out; omega)
            rw [← HM.out] at hoth
            rw [hoth, List.length_append] at hL
            have hL1 : l.length + (others m b i).length + 1 ≤ L := hL
            have HO := hide hoth
            clear hoth HLo HHi hL
            go_wp2_with (first
              | (with_reducible refine wl_load_row (o := ⟨some 33, _, _, _, _, _⟩) rfl 57 (.tmp 9) g9 57 [Value.int .i64 (m : Int), Value.int .i64 (b : Int)] _ rfl rfl r9 Tryd.underlying57 rfl (szSpan m b) ?_)
              | (with_reducible refine wl_load_row (o := ⟨some 34, _, _, _, _, _⟩) rfl 57 (.tmp 8) g8 57 [Value.int .i64 (a : Int), Value.int .i64 (m : Int)] _ rfl rfl r8 Tryd.underlying57 rfl (szSpan a m) ?_)
              | (with_reducible refine wl_store_row rfl 57 (.tmp 8) (.tmp 33) g8 57 _ [Value.int .i64 (m : Int), Value.int .i64 (b : Int)] rfl rfl rfl r8 (szSpan m b) rfl (one_span m b) ?_; intro w6 r8' o6; have r9a := r9.only o6 hg89.symm)
              | (with_reducible refine wl_store_row rfl 57 (.tmp 9) (.tmp 34) g9 57 _ [Value.int .i64 (a : Int), Value.int .i64 (m : Int)] rfl rfl rfl r9a (szSpan a m) rfl (one_span a m) ?_; intro w7 r9' o7; have r8b := r8'.only o7 hg89)
              | (with_reducible refine wl_load_row (o := ⟨some 35, _, _, _, _, _⟩) rfl 57 (.tmp 8) g8 57 [Value.int .i64 (m : Int), Value.int .i64 (b : Int)] _ rfl rfl r8b Tryd.underlying57 rfl (szSpan m b) ?_))
            have B7 := B5.trans ((o6.below q8w).trans (o7.below q9w))
            have hInv7 := hI l S w w7 hInv B7
            have hC := HIh.out m b l S w7 (by omega) (by omega) hbn (by omega) hInv7
            have HC := hide hC
            clear hC HIh r8 r9 r9a r8' o6 o7 b5 r8b
            refine HC.out.mono ?_
            rintro e w8 ⟨rfl, S8, hInv8, bl8⟩
            have r9c := r9'.butL bl8.1 hn9
            have hSt := HStep.out _ S8 a m w8 (by rw [List.length_append]; exact hL1) hInv8 (by omega) (by omega)
            have HSt := hide hSt
            clear hSt HStep HC r9'
            go_wp2_with (first
              | (with_reducible refine wl_load_row (o := ⟨some 40, _, _, _, _, _⟩) rfl 57 (.tmp 9) g9 57 [Value.int .i64 (a : Int), Value.int .i64 (m : Int)] _ rfl rfl r9c Tryd.underlying57 rfl (szSpan a m) ?_))
            refine HSt.out.mono ?_
            rintro e w9 ⟨rfl, S9, hInv9, bl9⟩
            go_wp2_with fail
            go_end0
            refine ⟨rfl, S9, ?_, ((Moved.of B7 S).trans bl8).trans bl9⟩
            rw [HO.out, ← List.append_assoc]
            exact hInv9
          · have hd1 : decide ((m : Int) ≤ (i : Int)) = false := by simp; omega
            have hoth := HLo.out (by have := HM.out; omega)
            rw [← HM.out] at hoth
            rw [hoth, List.length_append] at hL
            have hL1 : l.length + (others a m i).length + 1 ≤ L := hL
            have HO := hide hoth
            clear hoth HLo HHi hL
            go_wp2_with (first
              | (with_reducible refine wl_load_row (o := ⟨some 35, _, _, _, _, _⟩) rfl 57 (.tmp 8) g8 57 [Value.int .i64 (a : Int), Value.int .i64 (m : Int)] _ rfl rfl r8 Tryd.underlying57 rfl (szSpan a m) ?_))
            have hC := HIh.out a m l S w5 (by omega) (by omega) (by omega) (by omega) hInv5
            have HC := hide hC
            clear hC HIh r8 b5
            refine HC.out.mono ?_
            rintro e w8 ⟨rfl, S8, hInv8, bl8⟩
            have r9c := r9.butL bl8.1 hn9
            have hSt := HStep.out _ S8 m b w8 (by rw [List.length_append]; exact hL1) hInv8 (by omega) hbn
            have HSt := hide hSt
            clear hSt HStep HC r9
            go_wp2_with (first
              | (with_reducible refine wl_load_row (o := ⟨some 40, _, _, _, _, _⟩) rfl 57 (.tmp 9) g9 57 [Value.int .i64 (m : Int), Value.int .i64 (b : Int)] _ rfl rfl r9c Tryd.underlying57 rfl (szSpan m b) ?_))
            refine HSt.out.mono ?_
            rintro e w9 ⟨rfl, S9, hInv9, bl9⟩
            go_wp2_with fail
            go_end0
            refine ⟨rfl, S9, ?_, ((Moved.of B5 S).trans bl8).trans bl9⟩
            rw [HO.out, ← List.append_assoc]
            exact hInv9
    · exact small a b l S w h2 hab hbn hInv
end Go.Proofs.YtbolfkigiachlaaDoor

/-
  Trees: a chunk's path: contract. Own work.
-/
namespace Go.Proofs.YtbolfkigiachlaaDoor
open Go.RowKit Tr
/-- A row stays where its block stays. -/
theorem ownsRow_at {w w' : World} {base e size n : Nat} {v : Value} {xs : List Value} (h : w.ownsRow base e size v n xs) (hb : ∀ k, v.ownBlock = some k → w'.heap[k]? = w.heap[k]?) : w'.ownsRow base e size v n xs := by
  refine ⟨h.1, ?_⟩
  rcases h.2 with ⟨rfl, rfl⟩ | ⟨g, cap, cur, rfl, h1, hg, hrest⟩
  · exact .inl ⟨rfl, rfl⟩
  · exact .inr ⟨g, cap, cur, rfl, h1, (hb g rfl).trans hg, hrest⟩
theorem ownsRow_lat {w w' : World} {base e size n : Nat} {v : Value} {xs : List Value} (h : w.ownsRow base e size v n xs) (hb : Below w.heap.size w w') : w'.ownsRow base e size v n xs :=
  ownsRow_at h fun k hk => hb.block k (h.lt k hk).2
def psS (css : List (List Int)) (l : List (Nat × Nat)) : List Int := (l.map fun p => rtS (seg css p)).flatten
theorem psS_app (css : List (List Int)) (l : List (Nat × Nat)) (p : Nat × Nat) : psS css (l ++ [p]) = psS css l ++ rtS (seg css p) := by simp [psS]
/-- What holds while a path is told. -/
structure InvP (css : List (List Int)) (A : Option Addr) (n c B B0 gp gc : Nat) (l : List (Nat × Nat)) (S : List Nat) (w : World) : Prop where
  it : ∃ pv, S = gp :: pv.ownBlock.toList ∧ Row w 31 gp [pv] ∧ w.ownsRow B 23 32 pv l.length (bv (psS css l))
  ch : Row w 28 gc [.slice A n c]
  bss : Bss w B0 A n css
  tb : Tb4 w
  lo : B0 ≤ gp ∧ B0 ≤ gc ∧ gc < gp ∧ gp < B ∧ B ≤ w.heap.size ∧ 3 + 1 ≤ B0
theorem InvP.later {css : List (List Int)} {A : Option Addr} {n c B B0 gp gc : Nat} {l : List (Nat × Nat)} {S : List Nat} {w w' : World} (h : InvP css A n c B B0 gp gc l S w) (hb : Below w.heap.size w w') : InvP css A n c B B0 gp gc l S w' := by
  obtain ⟨⟨pv, h1, h2, h3⟩, h4, h5, h6, h7, h8, h9, h10, h11, h12⟩ := h
  exact ⟨⟨pv, h1, h2.later hb, ownsRow_lat h3 hb⟩, h4.later hb, h5.below (hb.mono (by omega)), h6.later hb, h7, h8, h9, h10, Nat.le_trans h11 hb.size, h12⟩
theorem InvP.small {css : List (List Int)} {A : Option Addr} {n c B B0 gp gc : Nat} {l : List (Nat × Nat)} {S : List Nat} {w : World} (h : InvP css A n c B B0 gp gc l S w) : ∀ s ∈ S, s < w.heap.size := by
  obtain ⟨⟨pv, rfl, h2, h3⟩, _⟩ := h
  intro s hs
  rcases List.mem_cons.1 hs with rfl | hs
  · exact h2.lt
  · exact (h3.lt s (by simpa [Option.mem_toList] using hs)).2
/-- What the region that lays one sum more on a path keeps. -/
def JPa (w0 : World) (B len : Nat) (pv : Value) (fl p : List Int) (Q : World → Prop) (bs : List Bool) (vs : List Value) (w : World) : Prop :=
  (bs.getD 2 false = false → bs.getD 3 false = false → Below w0.heap.size w0 w) ∧
  (bs.getD 1 false = true → bs.getD 2 false = false → bs.getD 3 false = false → ∃ g, vs.getD 1 undef = .slice (some ⟨g, 0, none⟩) 1 1 ∧ Row w 23 g (bv p)) ∧
  (bs.getD 2 false = true → bs.getD 3 false = false → w.ownsRow B 23 32 (vs.getD 2 undef) (len + 1) (bv (fl ++ p)) ∧ ButL pv.ownBlock.toList w0 w ∧ (∀ k, (vs.getD 2 undef).ownBlock = some k → pv.ownBlock = some k ∨ w0.heap.size ≤ k)) ∧
  (bs.getD 3 false = true → Q w)
theorem JPa.start (w0 : World) (B len : Nat) (pv : Value) (fl p : List Int) (Q : World → Prop) (vs : List Value) : JPa w0 B len pv fl p Q [false, false, false, false] vs w0.drew :=
  ⟨fun _ _ => (Below.refl _ _).drew, fun h => absurd (show false = true from h) (by decide), fun h => absurd (show false = true from h) (by decide), fun h => absurd (show false = true from h) (by decide)⟩
theorem Bss.seg {w : World} {B n c : Nat} {A : Option Addr} {css : List (List Int)} (h : Bss w B A n css) (a b : Nat) (hab : a ≤ b) (hb : b ≤ n) (hc : n ≤ c) : Bss w B (subA A c a) (b - a) (seg css (a, b)) := by
  have h1 := (h.take b hb).drop (c := c) a hab (Nat.le_trans hb hc)
  exact h1
theorem owns_one {w : World} {base e size n : Nat} {v : Value} {xs : List Value} (h : w.ownsRow base e size v n xs) : v.oneCell' = true := by
  rcases h.2 with ⟨rfl, _⟩ | ⟨_, _, _, rfl, _⟩ <;> rfl
def SPa (p : List Int) (pv : Value) (A : Option Addr) (gp gc g3 n c a b : Nat) (opn : Nat) (v : Value) : Prop :=
  match opn with
  | 0 => v = pv
  | 1 => v = .slice A n c
  | 2 => v = .pointer (some ⟨g3, 0, none⟩)
  | 3 => v = .int .i64 (a : Int)
  | 4 => v = .pointer (some ⟨g3, 1, none⟩)
  | 5 => v = .int .i64 (b : Int)
  | 6 => v = .slice (subA A c a) (b - a) (c - a)
  | 7 => v = .agg (bv p).toArray
  | _ => True

set_option maxRecDepth 100000 in
set_option maxHeartbeats 4000000 in
theorem pathC_any (css : List (List Int)) (A : Option Addr) (n c B B0 gp gc L : Nat) (hby : ∀ xs ∈ css, IsBy xs) (hm : ∀ xs ∈ css, xs.length ≤ 100000000) (hn : n ≤ 1000000) (hc : n ≤ c) (hL : L ≤ 1000) (l : List (Nat × Nat)) (S : List Nat) (a b : Nat) (w : World) (hl : l.length + 1 ≤ L) (h : InvP css A n c B B0 gp gc l S w) (hab : a < b) (hbn : b ≤ n) :
    Calls Tryd.prog 34 #[.agg #[.int .i64 (a : Int), .int .i64 (b : Int)], .pointer (some ⟨gp, 0, none⟩), .pointer (some ⟨gc, 0, none⟩)] w fun e w' => e = .returned (.tuple #[]) ∧ ∃ S', InvP css A n c B B0 gp gc (l ++ [(a, b)]) S' w' ∧ Moved S S' w w' := by
  obtain ⟨i32, hi32, hz32, hs32, hb32⟩ := s32_info
  have zs32c : (Value.agg (bv (List.replicate 32 0)).toArray).cells.size = 32 := by simp [Value.cells, bv]
  obtain ⟨⟨pv, rfl, rp, own⟩, rc, hbs, hT, h7, h8, h9, h10, h11, h12⟩ := h
  have hseg := hbs.seg (c := c) a b (by omega) hbn hc
  have hsm : ∀ xs ∈ seg css (a, b), xs ∈ css := fun xs h => List.mem_of_mem_take (List.mem_of_mem_drop h)
  have HR : ∀ (w0 : World), Below w.heap.size w w0 → ∀ w1, Below w0.heap.size w0 w1 → Calls Tryd.prog 16 #[.slice (subA A c a) (b - a) (c - a)] w1 fun e w' => e = .returned (.agg (bv (rtS (seg css (a, b)))).toArray) ∧ Below w1.heap.size w1 w' := by
    intro w0 b0 w1 b1
    have hb := b0.trans (b1.mono b0.size)
    exact troot_any _ _ _ _ w1 (hT.later hb) ((hseg.below (hb.mono (by omega))).up (Nat.le_trans (by omega) hb.size)) (fun xs h => hby xs (hsm xs h)) (fun xs h => hm xs (hsm xs h)) (by omega)
  have hpl := rtS_len (seg css (a, b))
  have lp := hide (show (bv (rtS (seg css (a, b)))).length = 32 by rw [bv_len, hpl])
  have happ := psS_app css l (a, b)
  have HA := hide happ
  have hll : (l ++ [(a, b)]).length = l.length + 1 := by simp
  have HLL := hide hll
  have hBw := h11
  have hgpn : gp ∉ pv.ownBlock.toList := fun hm => by
    have := (own.lt gp (by simpa [Option.mem_toList] using hm)).1
    omega
  have hl1 : l.length + 1 ≤ maxLen := by simp only [maxLen]; omega
  have hl2 : (l.length + 1) * 32 ≤ 140737488355328 := by omega
  clear happ hpl hseg hsm hll
  have HQ : ∀ (w0 : World), Below w.heap.size w w0 → ∀ (w1 w3 : World) (v' : Value), w1.ownsRow B 23 32 v' (l.length + 1) (bv (psS css l ++ rtS (seg css (a, b)))) → ButL pv.ownBlock.toList w0 w1 → (∀ k, v'.ownBlock = some k → pv.ownBlock = some k ∨ w0.heap.size ≤ k) → Row w3 31 gp ([pv].set 0 v') → Only gp w1 w3 →
      ∃ S', InvP css A n c B B0 gp gc (l ++ [(a, b)]) S' w3 ∧ Moved (gp :: pv.ownBlock.toList) S' w w3 := by
    intro w0 b0 w1 w3 v' own9 bl9 hk9 r3 o3
    have s0 := b0.size
    have s1 := bl9.size
    have hoB : ∀ s ∈ pv.ownBlock.toList, B ≤ s := fun s hs => (own.lt s (by simpa [Option.mem_toList] using hs)).1
    have hbl : Below B w0 w1 := bl9.below hoB (by omega)
    have hBlt : Below B w w1 := (b0.mono (by omega)).trans hbl
    have ho3 : Below B0 w1 w3 := o3.below h7
    have hb3 : Below B0 w w3 := (hBlt.mono (by omega)).trans ho3
    refine ⟨gp :: v'.ownBlock.toList, ⟨⟨v', rfl, r3, ?_⟩, ?_, hbs.below hb3, ?_, h7, h8, h9, h10, ?_, h12⟩, ⟨((ButL.of b0 _).trans ⟨bl9.os, bl9.tape, bl9.output, bl9.size, fun k hk hn => bl9.block k hk (fun h => hn (List.mem_cons_of_mem _ h))⟩).trans (ButL.only o3 (by simp)), fun s hs => ?_⟩⟩
    · rw [HA.out, HLL.out]
      refine ownsRow_at own9 fun k hk => o3.block k ?_
      have := (own9.lt k hk).1
      omega
    · exact (Row.below rc hBlt (by omega)).only o3 (by omega)
    · have hT1 := hT.later b0
      have hb1 : Below B0 w0 w3 := (hbl.mono (by omega)).trans ho3
      exact ⟨hT1.1.below hb1 h12, Nat.lt_of_lt_of_le hT1.2.1 hb1.size, fun j hj => (hb1.cell (p := ⟨1, j, none⟩) (by show 1 < B0; omega)).trans (hT1.2.2 j hj)⟩
    · rw [o3.size]; omega
    · rcases List.mem_cons.1 hs with rfl | hs
      · exact .inl (by simp)
      · rcases hk9 s (by simpa [Option.mem_toList] using hs) with h | h
        · exact .inl (List.mem_cons_of_mem _ (by simpa [Option.mem_toList] using h))
        · exact .inr (by omega)
  clear hby hm hn HA HLL
  generalize rtS (seg css (a, b)) = p at *
  generalize psS css l = fl at *
  have hS1 := fun w => run_sliceMid (P := Tryd.prog) w 28 22 Tryd.underlying28 Tryd.sizeOf22 A n c .i64 .i64 a b (by omega) (by omega)
  go_enter Tryd.func34, Tryd.ntmps34
  go_wp2_with (first
    | (with_reducible refine wl_box rfl 57 _ (.agg #[.int .i64 (a : Int), .int .i64 (b : Int)]) [.int .i64 (a : Int), .int .i64 (b : Int)] rfl rfl rfl ?_; intro g3 w3 r3 p3 l3 b3))
  replace HR := HR w3 b3
  replace HQ := HQ w3 b3
  replace rp := rp.later b3
  replace rc := rc.later b3
  replace own := ownsRow_lat own b3
  replace hBw : B ≤ w3.heap.size := Nat.le_trans hBw b3.size
  have hlen : ∃ len, l.length = len := ⟨_, rfl⟩
  obtain ⟨len, hlen⟩ := hlen
  rw [hlen] at own hl1 hl2 HQ
  clear hlen hl hbs hT b3
  refine wp_region_vals [7, 8, 9, 10] (SPa p pv A gp gc g3 n c a b) (JPa w3 B len pv fl p (fun w' => ∃ S', InvP css A n c B B0 gp gc (l ++ [(a, b)]) S' w' ∧ Moved (gp :: pv.ownBlock.toList) S' w w')) (by kernel_rfl) (by kernel_rfl) (by kernel_rfl) (by kernel_rfl) (by kernel_rfl) (JPa.start _ _ _ _ _ _ _ _) ?obs ?he
  case obs =>
    refine ⟨?_, ?_, ?_, ?_, ?_, ?_, ?_, ?_, ?_, ?_, ?_, trivial⟩
    · exact .inl ⟨by kernel_rfl, fun L a1 w1 n' h => ⟨_, rfl, run_loadA 31 (.tmp 1) ⟨gp, 0, none⟩ rfl Tryd.isAgg31 (h.var n' 1 (by kernel_rfl)) ((Row.later rp (h.inv.1 ((bits_at rfl).trans (n'.later (by kernel_rfl) : L.getD 9 false = false)) ((bits_at rfl).trans (n'.later (by kernel_rfl) : L.getD 10 false = false)))).cell (j := 0) rfl)⟩⟩
    · exact .inl ⟨by kernel_rfl, fun L a1 w1 n' h => ⟨_, rfl, run_loadA 28 (.tmp 2) ⟨gc, 0, none⟩ rfl Tryd.isAgg28 (h.var n' 2 (by kernel_rfl)) ((Row.later rc (h.inv.1 ((bits_at rfl).trans (n'.later (by kernel_rfl) : L.getD 9 false = false)) ((bits_at rfl).trans (n'.later (by kernel_rfl) : L.getD 10 false = false)))).cell (j := 0) rfl)⟩⟩
    · refine .inl ⟨by kernel_rfl, fun L a1 w1 n' h => ⟨.pointer (some ⟨g3, 0, none⟩), rfl, ?_⟩⟩
      have e0 : a1.eval (.tmp 3) = _ := h.var n' 3 (by kernel_rfl)
      unfold execOp
      simp only [e0]
      go_simp
    · exact .inl ⟨by kernel_rfl, fun L a1 w1 n' h => ⟨_, rfl, run_loadA 3 (.tmp 6) ⟨g3, 0, none⟩ rfl Tryd.isAgg3 (h.dep n' 2 6 (by kernel_rfl) rfl) ((Row.later r3 (h.inv.1 ((bits_at rfl).trans (n'.later (by kernel_rfl) : L.getD 9 false = false)) ((bits_at rfl).trans (n'.later (by kernel_rfl) : L.getD 10 false = false)))).cell (j := 0) rfl)⟩⟩
    · refine .inl ⟨by kernel_rfl, fun L a1 w1 n' h => ⟨.pointer (some ⟨g3, 1, none⟩), rfl, ?_⟩⟩
      have e0 : a1.eval (.tmp 3) = _ := h.var n' 3 (by kernel_rfl)
      unfold execOp
      simp only [e0]
      go_simp
    · exact .inl ⟨by kernel_rfl, fun L a1 w1 n' h => ⟨_, rfl, run_loadA 3 (.tmp 8) ⟨g3, 1, none⟩ rfl Tryd.isAgg3 (h.dep n' 4 8 (by kernel_rfl) rfl) ((Row.later r3 (h.inv.1 ((bits_at rfl).trans (n'.later (by kernel_rfl) : L.getD 9 false = false)) ((bits_at rfl).trans (n'.later (by kernel_rfl) : L.getD 10 false = false)))).cell (j := 1) rfl)⟩⟩
    · refine .inl ⟨by kernel_rfl, fun L a1 w1 n' h => ⟨.slice (subA A c a) (b - a) (c - a), rfl, ?_⟩⟩
      have e0 : a1.eval (.tmp 5) = _ := h.dep n' 1 5 (by kernel_rfl) rfl
      have e1 : a1.eval (.tmp 7) = _ := h.dep n' 3 7 (by kernel_rfl) rfl
      have e2 : a1.eval (.tmp 9) = _ := h.dep n' 5 9 (by kernel_rfl) rfl
      unfold execOp
      simp only [e0, e1, e2, Option.map_some, Option.map_none, Sem.run_bind, hS1 w1, Result.andThen_ok, Sem.run_pure]
    · refine .inr fun L a1 w1 n' h K hK => ?_
      have no9 : L.getD 9 false = false := n'.later (by kernel_rfl)
      have no10 : L.getD 10 false = false := n'.later (by kernel_rfl)
      have no8 : L.getD 8 false = false := n'.later (by kernel_rfl)
      have b9 := h.inv.1 ((bits_at rfl).trans no9) ((bits_at rfl).trans no10)
      have e0 : a1.eval (.tmp 10) = .slice (subA A c a) (b - a) (c - a) := h.dep n' 6 10 (by kernel_rfl) rfl
      refine st_call 16 _ _ #[.slice (subA A c a) (b - a) (c - a)] rfl Tryd.call16 ?_ (HR w1 b9) ?_
      · simp only [List.map_toArray, List.map_cons, List.map_nil, e0]
      · rintro e w3 ⟨rfl, b3⟩
        exact ⟨_, rfl, hK _ w3 rfl ⟨fun _ _ => b9.trans (b3.mono b9.size), fun h0 => absurd (no8.symm.trans h0) (by decide), fun h0 => absurd (no9.symm.trans h0) (by decide), fun h0 => absurd (no10.symm.trans h0) (by decide)⟩⟩
    · refine .inr fun L a1 w1 n' h K hK => ?_
      have no9 : L.getD 9 false = false := n'.later (by kernel_rfl)
      have no10 : L.getD 10 false = false := n'.later (by kernel_rfl)
      have b9 := h.inv.1 ((bits_at rfl).trans no9) ((bits_at rfl).trans no10)
      have e0 : a1.eval (.tmp 11) = .agg (bv p).toArray := h.dep n' 7 11 (by kernel_rfl) rfl
      refine st_build1A 31 (.tmp 11) rfl 23 i32 _ (bv p) 32 Tryd.underlying31 hi32 hz32 zs32c hs32 lp.out (by decide) (by decide) e0 ?_
      intro g7 w3 r7 a7 l7 b7
      exact hK _ w3 trivial ⟨fun _ _ => b9.trans (b7.mono b9.size), fun _ _ _ => ⟨g7, rfl, r7⟩, fun h0 => absurd (no9.symm.trans h0) (by decide), fun h0 => absurd (no10.symm.trans h0) (by decide)⟩
    · refine .inr fun L a1 w1 n' h K hK => ?_
      have no9 : L.getD 9 false = false := n'.not_yet
      have no10 : L.getD 10 false = false := n'.later (by kernel_rfl)
      have yes8 : L.getD 8 false = true := n'.dep (by kernel_rfl)
      have b9 := h.inv.1 ((bits_at rfl).trans no9) ((bits_at rfl).trans no10)
      obtain ⟨g7, ev, r7⟩ := h.inv.2.1 ((bits_at rfl).trans yes8) ((bits_at rfl).trans no9) ((bits_at rfl).trans no10)
      have e0 : a1.eval (.tmp 4) = pv := h.dep n' 0 4 (by kernel_rfl) rfl
      refine st_append_at (.tmp 4) (.tmp 12) 31 rfl B 23 i32 _ 32 32 Tryd.underlying31 hi32 hz32 hs32 hb32 zs32c (by decide) pv len (bv fl) e0 (ownsRow_lat own b9) ⟨g7, 0, none⟩ 1 1 (bv p) ev (by rw [lp.out]) (row_src r7) (bv_one _) hl1 hl2 (Nat.le_trans hBw b9.size) ?_
      intro v' w3 own3 hg3 hloc
      have hgb : ButL pv.ownBlock.toList w1 w3 := ⟨hg3.os, hg3.tape, hg3.output, hg3.size, fun k hk hn => hg3.block k hk (fun e => hn (by rw [← e]; simp))⟩
      refine hK _ w3 trivial ⟨fun h0 => absurd (show true = false from h0) (by decide), fun _ h0 => absurd (show true = false from h0) (by decide), fun _ _ => ⟨?_, (ButL.of b9 _).trans hgb, fun k hk => ?_⟩, fun h0 => absurd (no10.symm.trans h0) (by decide)⟩
      · rw [show bv (fl ++ p) = bv fl ++ bv p by simp [bv]]
        exact own3
      · have hk : v'.ownBlock = some k := hk
        rcases hloc with h1 | h1
        · exact .inl (h1.symm.trans hk)
        · have := h1.symm.trans hk
          injection this with this
          exact .inr (by rw [← this]; exact b9.size)
    · refine .inr fun L a1 w1 n' h K hK => ?_
      have no10 : L.getD 10 false = false := n'.not_yet
      have yes9 : L.getD 9 false = true := n'.dep (by kernel_rfl)
      obtain ⟨own9, bl9, hk9⟩ := h.inv.2.2.1 ((bits_at rfl).trans yes9) ((bits_at rfl).trans no10)
      have e0 : a1.eval (.tmp 1) = .pointer (some ⟨gp, 0, none⟩) := h.var n' 1 (by kernel_rfl)
      refine st_store 31 (.tmp 1) (.tmp 13) gp 0 31 _ _ rfl szSs e0 rfl (rp.butL bl9 hgpn) (by simp) (owns_one own9) ?_
      intro w3 r3 o3
      exact hK undef w3 trivial ⟨fun _ h0 => absurd (show true = false from h0) (by decide), fun _ _ h0 => absurd (show true = false from h0) (by decide), fun _ h0 => absurd (show true = false from h0) (by decide), fun _ => HQ w1 w3 _ own9 bl9 hk9 r3 o3⟩
  case he =>
    intro V w9 hV hJ
    have h3 := hJ.2.2.2 rfl
    go_end0
    exact ⟨rfl, h3⟩
end Go.Proofs.YtbolfkigiachlaaDoor

/-
  Trees: Path: contract. Own work.
-/
namespace Go.Proofs.YtbolfkigiachlaaDoor
open Go.RowKit Tr
/-- No path. -/
def NoPath (w : World) (e : Ending) (w' : World) : Prop := e = .returned (.tuple #[.slice none 0 0, .bool false]) ∧ Below w.heap.size w w'
/-- A path that a call made. -/
def IsPath (ss : List (List Int)) (w : World) (e : Ending) (w' : World) : Prop := ∃ pv, e = .returned (.tuple #[pv, .bool true]) ∧ w'.ownsRow w.heap.size 23 32 pv ss.length (bv ss.flatten) ∧ Below w.heap.size w w'
set_option maxRecDepth 100000 in
theorem path_no (A : Option Addr) (n c : Nat) (i : Int) (w : World) (hi : i < 0 ∨ (n : Int) ≤ i) : Calls Tryd.prog 18 #[.slice A n c, .int .i64 i] w (NoPath w) := by
  by_cases h0 : i < 0
  · go_enter Tryd.func18, Tryd.ntmps18
    go_wp2_with (first
      | (with_reducible refine wl_box rfl 28 _ (.slice A n c) [.slice A n c] rfl rfl rfl ?_; intro gc w2 rc p2 l2 b2))
    go_ret2
    exact ⟨rfl, b2⟩
  · have h1 : (n : Int) ≤ i := by omega
    have h2 : ¬ (i < (n : Int)) := by omega
    clear hi
    go_enter Tryd.func18, Tryd.ntmps18
    go_wp2_with (first
      | (with_reducible refine wl_box rfl 28 _ (.slice A n c) [.slice A n c] rfl rfl rfl ?_; intro gc w2 rc p2 l2 b2; have c0 := rc.cell (j := 0) rfl))
    go_ret2
    exact ⟨rfl, b2⟩
theorem zSs : (Tryd.prog.info? 31).map (fun i => i.zero) = some (some (.slice none 0 0)) := by kernel_rfl
set_option maxRecDepth 100000 in
set_option maxHeartbeats 2000000 in
theorem path_any (css : List (List Int)) (A : Option Addr) (n c j : Nat) (w : World) (hT : Tb4 w) (hx : Bss w w.heap.size A n css) (hby : ∀ xs ∈ css, IsBy xs) (hm : ∀ xs ∈ css, xs.length ≤ 100000000) (hn : n ≤ 1000000) (hc : n ≤ c) (hj : j < n) :
    Calls Tryd.prog 18 #[.slice A n c, .int .i64 (j : Int)] w (IsPath (pathT leafS nodeS noneS css j) w) := by
  have hlen := hx.1
  have hmany := others_many n 0 n j (by omega) 20 (by omega)
  have hCl : ∀ (B gp gc : Nat) (w1 : World), InvP css A n c B w.heap.size gp gc [] [gp] w1 → Calls Tryd.prog 33 #[.agg #[.int .i64 0, .int .i64 (n : Int)], .int .i64 (j : Int), .func (.func 34) #[] #[.pointer (some ⟨gp, 0, none⟩), .pointer (some ⟨gc, 0, none⟩)]] w1 fun e w' => e = .returned (.tuple #[]) ∧ ∃ S', InvP css A n c B w.heap.size gp gc (others 0 n j) S' w' ∧ Moved [gp] S' w1 w' := by
    intro B gp gc w1 hI
    have := climb_any 34 #[.pointer (some ⟨gp, 0, none⟩), .pointer (some ⟨gc, 0, none⟩)] Tryd.call34 (InvP css A n c B w.heap.size gp gc) j n 1000 (by omega) (fun l S w h => h.small) (fun l S w w' h b => h.later b)
      (fun l S a b w hl h hab hbn => pathC_any css A n c B _ gp gc 1000 hby hm hn hc (by omega) l S a b w hl h hab hbn) n 0 n [] [gp] w1 (by omega) (by omega) (Nat.le_refl _) (by simp; omega) hI
    rwa [List.nil_append] at this
  have hps : psS css (others 0 n j) = (pathT leafS nodeS noneS css j).flatten ∧ (others 0 n j).length = (pathT leafS nodeS noneS css j).length := by unfold psS pathT rtS; rw [hlen]; exact ⟨rfl, by rw [List.length_map]⟩
  have HPS := hide hps
  have HCl := hide hCl
  have hd1 : ¬ ((j : Int) < 0) := by omega
  have hd2 : ¬ ((n : Int) ≤ (j : Int)) := by omega
  have hd3 : decide ((n : Int) ≤ (j : Int)) = false := by simp; omega
  clear hps hCl hmany hlen
  go_enter Tryd.func18, Tryd.ntmps18
  go_wp2_with (first
    | (with_reducible refine wl_box rfl 28 _ (.slice A n c) [.slice A n c] rfl rfl rfl ?_; intro gc w2 rc p2 l2 b2; have c0 := rc.cell (j := 0) rfl)
    | (with_reducible refine wl_alloc rfl 31 _ [.slice none 0 0] rfl zSs rfl ?_; intro gp w3 rp p3 l3 b3; have rc' := rc.later b3; have c0' := rc'.cell (j := 0) rfl))
  have B3 := b2.trans (b3.mono b2.size)
  have hI0 : InvP css A n c w3.heap.size w.heap.size gp gc [] [gp] w3 := ⟨⟨.slice none 0 0, rfl, rp, World.ownsRow_nil _ _ _ _⟩, rc', hx.below B3, hT.later B3, Nat.le_trans b2.size p3, p2, Nat.lt_of_lt_of_le rc.lt p3, rp.lt, Nat.le_refl _, hT.1.1⟩
  refine (HCl.out _ gp gc w3 hI0).mono ?_
  rintro e w4 ⟨rfl, S4, hI4, mv⟩
  have hbl : Below w.heap.size w3 w4 := mv.1.below (fun s hs => by obtain rfl := List.mem_singleton.1 hs; exact Nat.le_trans b2.size p3) B3.size
  obtain ⟨⟨pv, _, rp4, own4⟩, _⟩ := hI4
  have B4 := B3.trans hbl
  rw [HPS.out.1, HPS.out.2] at own4
  have cp := rp4.cell (j := 0) rfl
  clear rp rp4 mv hbl hI0 HCl HPS c0 c0' rc rc'
  go_wp2_with fail
  go_ret2
  exact ⟨pv, rfl, ⟨own4.1, own4.2.imp id fun ⟨g, cap, cur, e1, h1, h2⟩ => ⟨g, cap, cur, e1, Nat.le_trans B3.size h1, h2⟩⟩, B4⟩
end Go.Proofs.YtbolfkigiachlaaDoor

/-
  Trees: the closure of Check: contract. Own work.
-/
namespace Go.Proofs.YtbolfkigiachlaaDoor
open Go.RowKit Tr
abbrev upS : List Int → List Bool → List (List Int) → List Int := upT nodeS
abbrev stS : Bool → List Int → List Int → List Int := Tr.stepT nodeS
theorem up_more : ∀ (s : List Bool) (p : List (List Int)) (x : List Int) (b : Bool) (q : List Int), p[s.length]? = some q → upS x (s ++ [b]) p = stS b (upS x s p) q := by
  intro s
  induction s with
  | nil => intro p x b q h; cases p with
    | nil => simp at h
    | cons r p => obtain rfl : r = q := by simpa using h
                  cases p <;> rfl
  | cons a s ih => intro p x b q h; cases p with
    | nil => simp at h
    | cons r p => exact ih p _ b q (by simpa using h)
theorem up_full : ∀ (s : List Bool) (p : List (List Int)) (x : List Int) (b : Bool), p.length ≤ s.length → upS x (s ++ [b]) p = upS x s p := by
  intro s
  induction s with
  | nil => intro p x b h; cases p with
    | nil => rfl
    | cons r p => simp at h
  | cons a s ih => intro p x b h; cases p with
    | nil => rfl
    | cons r p => exact ih p _ b (by simpa using h)
theorem up_all (P : List Int → Prop) (hn : ∀ a b, P (nodeS a b)) : ∀ (s : List Bool) (p : List (List Int)) (x : List Int), P x → P (upS x s p) := by
  intro s
  induction s with
  | nil => intro p x h; cases p <;> exact h
  | cons a s ih => intro p x h; cases p with
    | nil => exact h
    | cons r p => exact ih p _ (by unfold Tr.stepT; cases a <;> exact hn _ _)
theorem stS_len (b : Bool) (x q : List Int) : (stS b x q).length = 32 := by cases b <;> exact nodeS_len _ _
theorem stS_by (b : Bool) (x q : List Int) : IsBy (stS b x q) := by cases b <;> exact nodeS_by _ _
set_option maxRecDepth 100000 in
set_option maxHeartbeats 2000000 in
theorem joined_any (xa xb : List Int) (b : Bool) (w : World) (hT : Tabs w) (ha : xa.length = 32) (hb : xb.length = 32) (hab : IsBy xa) (hbb : IsBy xb) :
    Calls Tryd.prog 36 #[.agg (bv xa).toArray, .agg (bv xb).toArray, .bool b] w fun e w' => e = .returned (.agg (bv (stS b xa xb)).toArray) ∧ Below w.heap.size w w' := by
  have hsl := stS_len b xa xb
  have zf := hide (size32b hsl)
  have lf := hide (show (bv (List.replicate 32 0)).length = (bv (stS b xa xb)).length by rw [bv_len, bv_len, hsl, List.length_replicate])
  have za := hide (size32b ha)
  have zb := hide (size32b hb)
  have HN1 := fun w hT => node_any xb xa w hT hb ha hbb hab
  have HN2 := fun w hT => node_any xa xb w hT ha hb hab hbb
  clear hsl
  cases b
  · have zf : Hid ((Tryd.prog.info? 23).map (·.size) = some (bv (nodeS xa xb)).length) := zf
    have lf : Hid ((bv (List.replicate 32 0)).length = (bv (nodeS xa xb)).length) := lf
    show Calls _ _ _ _ (fun e w' => e = .returned (.agg (bv (nodeS xa xb)).toArray) ∧ Below w.heap.size w w')
    generalize (nodeS xa xb) = FS at *
    go_enter Tryd.func36, Tryd.ntmps36
    go_wp2_with (first
      | (with_reducible refine wl_box (o := ⟨some 3, _, _, _, _, _⟩) rfl 23 _ (.agg (bv xa).toArray) (bv xa) rfl rfl rfl ?_; intro g3 w2 r3 p2 l2 b2)
      | (with_reducible refine wl_box (o := ⟨some 4, _, _, _, _, _⟩) rfl 23 _ (.agg (bv xb).toArray) (bv xb) rfl rfl rfl ?_; intro g4 w3 r4 p3 l3 b3; have r3a := r3.later b3)
      | (with_reducible refine wl_alloc rfl 23 _ (bv (List.replicate 32 0)) rfl zero32b rfl ?_; intro g6 w4 r6 p4 l4 b4; have r3b := r3a.later b4; have r4b := r4.later b4)
      | (with_reducible refine wl_load_row (o := ⟨some 11, _, _, _, _, _⟩) rfl 23 (.tmp 3) g3 23 (bv xa) _ rfl rfl r3b Tryd.underlying23 rfl za.out ?_)
      | (with_reducible refine wl_load_row (o := ⟨some 12, _, _, _, _, _⟩) rfl 23 (.tmp 4) g4 23 (bv xb) _ rfl rfl r4b Tryd.underlying23 rfl zb.out ?_))
    have B3 := b2.trans (b3.mono b2.size)
    have B4 := B3.trans (b4.mono B3.size)
    have q6 : w.heap.size ≤ g6 := Nat.le_trans B3.size p4
    refine (HN2 w4 (hT.later B4)).mono ?_
    rintro e w7 ⟨rfl, b7⟩
    have B7 := B4.trans (b7.mono B4.size)
    have r6e := r6.later b7
    clear HN1 HN2 r3 r3a r3b r4 r4b
    go_wp2_with (first
      | (with_reducible refine wl_store_row rfl 23 (.tmp 6) (.tmp 13) g6 23 _ (bv FS) rfl rfl rfl r6e zf.out lf.out (bv_one _) ?_; intro w8 r8 o8))
    refine bodyPost_ret (v := .agg (bv FS).toArray) ?_ rfl ⟨rfl, ?_⟩
    · exact results_cell_row Tryd.results36 _ _ g6 23 _ (0, 0) _ rfl r8 Tryd.underlying23 rfl zf.out
    · exact B7.trans (o8.below q6)
  · have zf : Hid ((Tryd.prog.info? 23).map (·.size) = some (bv (nodeS xb xa)).length) := zf
    have lf : Hid ((bv (List.replicate 32 0)).length = (bv (nodeS xb xa)).length) := lf
    show Calls _ _ _ _ (fun e w' => e = .returned (.agg (bv (nodeS xb xa)).toArray) ∧ Below w.heap.size w w')
    generalize (nodeS xb xa) = FS at *
    go_enter Tryd.func36, Tryd.ntmps36
    go_wp2_with (first
      | (with_reducible refine wl_box (o := ⟨some 3, _, _, _, _, _⟩) rfl 23 _ (.agg (bv xa).toArray) (bv xa) rfl rfl rfl ?_; intro g3 w2 r3 p2 l2 b2)
      | (with_reducible refine wl_box (o := ⟨some 4, _, _, _, _, _⟩) rfl 23 _ (.agg (bv xb).toArray) (bv xb) rfl rfl rfl ?_; intro g4 w3 r4 p3 l3 b3; have r3a := r3.later b3)
      | (with_reducible refine wl_alloc rfl 23 _ (bv (List.replicate 32 0)) rfl zero32b rfl ?_; intro g6 w4 r6 p4 l4 b4; have r3b := r3a.later b4; have r4b := r4.later b4)
      | (with_reducible refine wl_load_row (o := ⟨some 8, _, _, _, _, _⟩) rfl 23 (.tmp 4) g4 23 (bv xb) _ rfl rfl r4b Tryd.underlying23 rfl zb.out ?_)
      | (with_reducible refine wl_load_row (o := ⟨some 9, _, _, _, _, _⟩) rfl 23 (.tmp 3) g3 23 (bv xa) _ rfl rfl r3b Tryd.underlying23 rfl za.out ?_))
    have B3 := b2.trans (b3.mono b2.size)
    have B4 := B3.trans (b4.mono B3.size)
    have q6 : w.heap.size ≤ g6 := Nat.le_trans B3.size p4
    refine (HN1 w4 (hT.later B4)).mono ?_
    rintro e w7 ⟨rfl, b7⟩
    have B7 := B4.trans (b7.mono B4.size)
    have r6e := r6.later b7
    clear HN1 HN2 r3 r3a r3b r4 r4b
    go_wp2_with (first
      | (with_reducible refine wl_store_row rfl 23 (.tmp 6) (.tmp 10) g6 23 _ (bv FS) rfl rfl rfl r6e zf.out lf.out (bv_one _) ?_; intro w8 r8 o8))
    refine bodyPost_ret (v := .agg (bv FS).toArray) ?_ rfl ⟨rfl, ?_⟩
    · exact results_cell_row Tryd.results36 _ _ g6 23 _ (0, 0) _ rfl r8 Tryd.underlying23 rfl zf.out
    · exact B7.trans (o8.below q6)
end Go.Proofs.YtbolfkigiachlaaDoor

/-
  Trees: the closure of Check, and Check: contracts. Own work.
-/
namespace Go.Proofs.YtbolfkigiachlaaDoor
open Go.RowKit Tr
/-- What holds while a place is checked. -/
structure InvC (x0 : List Int) (ps : List (List Int)) (PA : Option Addr) (pc i B0 gm gp gt gi : Nat) (l : List (Nat × Nat)) (S : List Nat) (w : World) : Prop where
  it : S = [gm, gt]
  met : Row w 3 gm [.int .i64 (l.length : Int)]
  pth : Row w 31 gp [.slice PA ps.length pc]
  top : Row w 23 gt (bv (upS x0 (l.map (aheadB i)) ps))
  ii : Row w 3 gi [.int .i64 (i : Int)]
  sm : Sms w B0 PA ps
  tb : Tabs w
  lo : B0 ≤ gm ∧ B0 ≤ gp ∧ B0 ≤ gt ∧ B0 ≤ gi ∧ gm ≠ gp ∧ gm ≠ gt ∧ gm ≠ gi ∧ gt ≠ gp ∧ gt ≠ gi ∧ 3 + 1 ≤ B0 ∧ B0 ≤ w.heap.size
theorem InvC.later {x0 : List Int} {ps : List (List Int)} {PA : Option Addr} {pc i B0 gm gp gt gi : Nat} {l : List (Nat × Nat)} {S : List Nat} {w w' : World} (h : InvC x0 ps PA pc i B0 gm gp gt gi l S w) (hb : Below w.heap.size w w') : InvC x0 ps PA pc i B0 gm gp gt gi l S w' := by
  obtain ⟨h1, h2, h3, h4, h5, h6, h7, a1, a2, a3, a4, a5, a6, a7, a8, a9, a10, a11⟩ := h
  exact ⟨h1, h2.later hb, h3.later hb, h4.later hb, h5.later hb, h6.below (hb.mono a11), h7.later hb, a1, a2, a3, a4, a5, a6, a7, a8, a9, a10, Nat.le_trans a11 hb.size⟩
theorem InvC.small {x0 : List Int} {ps : List (List Int)} {PA : Option Addr} {pc i B0 gm gp gt gi : Nat} {l : List (Nat × Nat)} {S : List Nat} {w : World} (h : InvC x0 ps PA pc i B0 gm gp gt gi l S w) : ∀ s ∈ S, s < w.heap.size := by
  rw [h.it]
  intro s hs
  simp at hs
  rcases hs with rfl | rfl
  · exact h.met.lt
  · exact h.top.lt
def SCk (cur q nxt : List Int) (gm gp gt gi g5 pb po np pc k i b : Nat) (opn : Nat) (v : Value) : Prop :=
  match opn with
  | 0 => v = .agg (bv cur).toArray
  | 1 => v = .slice (some ⟨pb, po, none⟩) np pc
  | 2 => v = .int .i64 (k : Int)
  | 3 => v = .pointer (some ⟨pb, po + k * 32, none⟩)
  | 4 => v = .agg (bv q).toArray
  | 5 => v = .pointer (some ⟨g5, 1, none⟩)
  | 6 => v = .int .i64 (b : Int)
  | 7 => v = .int .i64 (i : Int)
  | 8 => v = .bool (decide ((b : Int) ≤ (i : Int)))
  | 9 => v = .agg (bv nxt).toArray
  | _ => True

set_option maxRecDepth 100000 in
set_option maxHeartbeats 4000000 in
theorem checkC_any (x0 : List Int) (ps : List (List Int)) (PA : Option Addr) (pc i B0 gm gp gt gi L n : Nat) (hx : x0.length = 32) (hxb : IsBy x0) (hL : L ≤ 1000) (l : List (Nat × Nat)) (S : List Nat) (a b : Nat) (w : World) (hl : l.length + 1 ≤ L) (h : InvC x0 ps PA pc i B0 gm gp gt gi l S w) (hab : a < b) (hbn : b ≤ n) :
    Calls Tryd.prog 35 #[.agg #[.int .i64 (a : Int), .int .i64 (b : Int)], .pointer (some ⟨gm, 0, none⟩), .pointer (some ⟨gp, 0, none⟩), .pointer (some ⟨gt, 0, none⟩), .pointer (some ⟨gi, 0, none⟩)] w fun e w' => e = .returned (.tuple #[]) ∧ ∃ S', InvC x0 ps PA pc i B0 gm gp gt gi (l ++ [(a, b)]) S' w' ∧ Moved S S' w w' := by
  obtain ⟨rfl, rm, rp, rt, ri, hSm, hT, a1, a2, a3, a4, a5, a6, a7, a8, a9, a10, a11⟩ := h
  have hll : (l ++ [(a, b)]).length = l.length + 1 := by simp
  have hmap : (l ++ [(a, b)]).map (aheadB i) = l.map (aheadB i) ++ [decide (b ≤ i)] := by simp [aheadB]
  have hml : (l.map (aheadB i)).length = l.length := by simp
  have hfin : ∀ (w2 w3 : World) (v : List Int), Row w2 23 gt (bv v) → v = upS x0 (l.map (aheadB i) ++ [decide (b ≤ i)]) ps → Row w2 31 gp [.slice PA ps.length pc] → Row w2 3 gi [.int .i64 (i : Int)] → Sms w2 B0 PA ps → Tabs w2 → B0 ≤ w2.heap.size → ButL [gm, gt] w w2 → Row w3 3 gm [.int .i64 ((l.length : Int) + 1)] → Only gm w2 w3 →
      ∃ S', InvC x0 ps PA pc i B0 gm gp gt gi (l ++ [(a, b)]) S' w3 ∧ Moved [gm, gt] S' w w3 := by
    intro w2 w3 v ht hv hp hi hS2 hT2 hB2 hbl r3 o3
    refine ⟨[gm, gt], ⟨rfl, ?_, hp.only o3 (Ne.symm a5), ?_, hi.only o3 (Ne.symm a7), hS2.below (o3.below a1), ?_, a1, a2, a3, a4, a5, a6, a7, a8, a9, a10, by rw [o3.size]; exact hB2⟩, hbl.trans (ButL.only o3 (by simp)), fun s hs => .inl hs⟩
    · rw [hll, show ((l.length + 1 : Nat) : Int) = (l.length : Int) + 1 by omega]; exact r3
    · rw [hmap, ← hv]; exact ht.only o3 (Ne.symm a6)
    · exact hT2.below (o3.below (Nat.le_trans a10 a1)) (Nat.le_refl _)
  have hFin := hide hfin
  have hcur : (upS x0 (l.map (aheadB i)) ps).length = 32 := up_all (fun s => s.length = 32) nodeS_len _ _ _ hx
  have hcby : IsBy (upS x0 (l.map (aheadB i)) ps) := up_all IsBy nodeS_by _ _ _ hxb
  have zc := hide (size32b hcur)
  have cm := rm.cell (j := 0) rfl
  have cp := rp.cell (j := 0) rfl
  have hkI : (l.length : Int) ≤ 1000 := by omega
  clear hfin hll hmap hx hxb
  by_cases hlt : l.length < ps.length
  · obtain ⟨q, hq⟩ : ∃ q, ps[l.length]? = some q := ⟨_, List.getElem?_eq_getElem hlt⟩
    have hup := up_more (l.map (aheadB i)) ps x0 (decide (b ≤ i)) q (by rw [hml]; exact hq)
    have hdec : decide (b ≤ i) = decide ((b : Int) ≤ (i : Int)) := by apply decide_eq_decide.2; omega
    rw [hdec] at hup hFin
    have hql := hSm.len q (List.mem_of_getElem? hq)
    have hqb := hSm.byt q (List.mem_of_getElem? hq)
    have HUp := hide hup
    have hnl := stS_len (decide ((b : Int) ≤ (i : Int))) (upS x0 (l.map (aheadB i)) ps) q
    have zq := hide (size32b hql)
    have zn := hide (size32b hnl)
    have ln := hide (show (bv (upS x0 (l.map (aheadB i)) ps)).length = (bv (stS (decide ((b : Int) ≤ (i : Int))) (upS x0 (l.map (aheadB i)) ps) q)).length by rw [bv_len, bv_len, hnl, hcur])
    have HN := fun w hT => joined_any (upS x0 (l.map (aheadB i)) ps) q (decide ((b : Int) ≤ (i : Int))) w hT hcur hql hcby hqb
    obtain ⟨pb, po, rfl, hpB, hcM⟩ := hSm.cells hq
    have hd1 : decide ((l.length : Int) < (ps.length : Int)) = true := by simp; omega
    clear hup hdec hql hqb hnl hcur hcby hml hq
    generalize stS (decide ((b : Int) ≤ (i : Int))) (upS x0 (l.map (aheadB i)) ps) q = nxt at *
    generalize upS x0 (l.map (aheadB i)) ps = cur at *
    obtain ⟨np, hnp⟩ : ∃ np, ps.length = np := ⟨_, rfl⟩
    have HNp := hide hnp
    rw [hnp] at rp cp hlt hd1
    obtain ⟨k, hk⟩ : ∃ k, l.length = k := ⟨_, rfl⟩
    have HK := hide hk
    rw [hk] at rm cm hlt hd1 hkI hl hcM
    clear hnp hk
    have h01 : 0 < ([Value.int .i64 (k : Int)] : List Value).length := by simp
    go_enter Tryd.func35, Tryd.ntmps35
    go_wp2_with (first
      | (with_reducible refine wl_box rfl 57 _ (.agg #[.int .i64 (a : Int), .int .i64 (b : Int)]) [.int .i64 (a : Int), .int .i64 (b : Int)] rfl rfl rfl ?_; intro g5 w3 r5 p3 l3 b3; have cm' := (rm.later b3).cell (j := 0) rfl; have cp' := (rp.later b3).cell (j := 0) rfl))
    have hcl : ∀ w1, But gt w3 w1 → ∀ j v, (bv q)[j]? = some v → w1.cell? ⟨pb, po + k * 32 + j, none⟩ = some v := fun w1 hb j v hv => ((hb.cellB a3 (Nat.le_trans a11 b3.size) (show (⟨pb, po + k * 32 + j, none⟩ : Addr).block < B0 from hpB)).trans (b3.cell (p := ⟨pb, po + k * 32 + j, none⟩) (show pb < _ by omega))).trans (hcM j v hv)
    have hgt : 3 + 1 ≤ gt := by omega
    have hne_gp : gp ≠ gt := Ne.symm a8
    have hne_gm : gm ≠ gt := a6
    have hne_gi : gi ≠ gt := Ne.symm a9
    have hne_g5 : g5 ≠ gt := by have := rt.lt; omega
    have bl3 : ButL [gm, gt] w w3 := ButL.of b3 _
    replace rm := rm.later b3
    replace rp := rp.later b3
    replace ri := ri.later b3
    replace rt := rt.later b3
    replace hSm := hSm.below (b3.mono a11)
    replace hT := hT.later b3
    replace a11 := Nat.le_trans a11 b3.size
    have hq : k < np := hlt
    clear cm cp cm' cp' b3 hcM
    rename_i K1 hK1
    refine wp_region_vals [9, 10] (SCk cur q nxt gm gp gt gi g5 pb po np pc k i b) (JB gt 23 w3 1 (bv cur) (bv nxt)) (by kernel_rfl) (by kernel_rfl) (by kernel_rfl) (by kernel_rfl) (by kernel_rfl) (JB.start rt rfl) ?obs ?he
    case obs =>
      refine ⟨?_, ?_, ?_, ?_, ?_, ?_, ?_, ?_, ?_, ?_, ?_, trivial⟩
      · exact .inl ⟨by kernel_rfl, fun L a1 w1 n' h => ⟨_, rfl, run_loadRow 23 (.tmp 3) gt 23 _ _ rfl (h.var n' 3 (by kernel_rfl)) (h.inv.1 (n'.later (by kernel_rfl))) Tryd.underlying23 rfl (zc.out)⟩⟩
      · exact .inl ⟨by kernel_rfl, fun L a1 w1 n' h => ⟨_, rfl, run_loadA 31 (.tmp 2) ⟨gp, 0, none⟩ rfl Tryd.isAgg31 (h.var n' 2 (by kernel_rfl)) (((rp).but h.inv.2.2 hne_gp).cell (j := 0) rfl)⟩⟩
      · exact .inl ⟨by kernel_rfl, fun L a1 w1 n' h => ⟨_, rfl, run_loadA 3 (.tmp 1) ⟨gm, 0, none⟩ rfl Tryd.isAgg3 (h.var n' 1 (by kernel_rfl)) (((rm).but h.inv.2.2 hne_gm).cell (j := 0) rfl)⟩⟩
      · exact .inl ⟨by kernel_rfl, fun L a1 w1 n' h => ⟨_, rfl, run_indexSlN 31 (.tmp 11) (.tmp 12) 23 32 pb po np pc k rfl Tryd.underlying31 Tryd.sizeOf23 (h.dep n' 1 11 (by kernel_rfl) rfl) (h.dep n' 2 12 (by kernel_rfl) rfl) hq⟩⟩
      · exact .inl ⟨by kernel_rfl, fun L a1 w1 n' h => ⟨_, rfl, run_loadM 23 (.tmp 13) pb (po + k * 32) (bv q) _ rfl (h.dep n' 3 13 (by kernel_rfl) rfl) (hcl w1 h.inv.2.2) Tryd.underlying23 rfl zq.out⟩⟩
      · refine .inl ⟨by kernel_rfl, fun L a1 w1 n' h => ⟨.pointer (some ⟨g5, 1, none⟩), rfl, ?_⟩⟩
        have e0 : a1.eval (.tmp 5) = _ := h.var n' 5 (by kernel_rfl)
        unfold execOp
        simp only [e0]
        go_simp
      · exact .inl ⟨by kernel_rfl, fun L a1 w1 n' h => ⟨_, rfl, run_loadA 3 (.tmp 15) ⟨g5, 1, none⟩ rfl Tryd.isAgg3 (h.dep n' 5 15 (by kernel_rfl) rfl) (((r5).but h.inv.2.2 hne_g5).cell (j := 1) rfl)⟩⟩
      · exact .inl ⟨by kernel_rfl, fun L a1 w1 n' h => ⟨_, rfl, run_loadA 3 (.tmp 4) ⟨gi, 0, none⟩ rfl Tryd.isAgg3 (h.var n' 4 (by kernel_rfl)) (((ri).but h.inv.2.2 hne_gi).cell (j := 0) rfl)⟩⟩
      · exact .inl ⟨by kernel_rfl, fun L a1 w1 n' h => ⟨_, rfl, run_leqI (.tmp 16) (.tmp 17) rfl (h.dep n' 6 16 (by kernel_rfl) rfl) (h.dep n' 7 17 (by kernel_rfl) rfl) rfl⟩⟩
      · refine .inr fun L a1 w1 n' h K hK => ?_
        have e0 : a1.eval (.tmp 10) = .agg (bv cur).toArray := h.dep n' 0 10 (by kernel_rfl) rfl
        have e1 : a1.eval (.tmp 14) = .agg (bv q).toArray := h.dep n' 4 14 (by kernel_rfl) rfl
        have e2 : a1.eval (.tmp 18) = .bool (decide ((b : Int) ≤ (i : Int))) := h.dep n' 8 18 (by kernel_rfl) rfl
        refine st_call 36 _ _ #[.agg (bv cur).toArray, .agg (bv q).toArray, .bool (decide ((b : Int) ≤ (i : Int)))] rfl Tryd.call36 ?_ (HN w1 (hT.below (h.inv.2.2.below hgt hT.1) (Nat.le_refl _))) ?_
        · simp only [List.map_toArray, List.map_cons, List.map_nil, e0, e1, e2]
        · rintro e w3 ⟨rfl, b9⟩
          exact ⟨_, rfl, hK _ w3 rfl (JB.callX h.inv b9 rfl)⟩
      · refine .inr fun L a1 w1 n' h K hK => ?_
        have no : L.getD 10 false = false := n'.not_yet
        refine st_store_row 23 (.tmp 3) (.tmp 19) gt 23 (bv cur) (bv nxt) rfl (h.var n' 3 (by kernel_rfl)) (h.dep n' 9 19 (by kernel_rfl) rfl) (h.inv.1 no) (zn.out) ln.out (bv_one _) ?_
        intro w3 r3 o3
        exact hK undef w3 trivial (JB.store h.inv o3 r3 rfl)
    case he =>
      intro V w7 hV hJ
      have r7 := hJ.2.1 rfl
      have bu := hJ.2.2
      clear hV hJ
      simp only [putOps, List.setIfInBounds_toArray, List.set_cons_succ, List.set_cons_zero, Nat.reduceAdd]
      refine hK1 _ _ ?_
      have rm7 := rm.but bu hne_gm
      have cm7 := rm7.cell (j := 0) rfl
      go_wp2_with (first
        | (with_reducible refine wl_store rfl 3 (.tmp 1) (.tmp 21) gm 0 3 _ (.int .i64 ((k : Int) + 1)) rfl szInt rfl rfl rm7 h01 rfl ?_; intro w8 r8 o8))
      go_end0
      have rp7 := rp.but bu hne_gp
      rw [← HNp.out] at rp7
      refine ⟨rfl, hFin.out w7 w8 nxt r7 HUp.out.symm rp7 (ri.but bu hne_gi) (hSm.but bu a3 a11) (hT.below (bu.below hgt hT.1) (Nat.le_refl _)) (Nat.le_trans a11 bu.size) (bl3.trans (ButL.but bu (by simp))) ?_ o8⟩
      rw [HK.out]
      exact r8
  · have hup := up_full (l.map (aheadB i)) ps x0 (decide (b ≤ i)) (by rw [hml]; omega)
    have HUp := hide hup
    have hd1 : decide ((l.length : Int) < (ps.length : Int)) = false := by simp; omega
    clear hup hcur hcby hml
    generalize upS x0 (l.map (aheadB i)) ps = cur at *
    obtain ⟨np, hnp⟩ : ∃ np, ps.length = np := ⟨_, rfl⟩
    have HNp := hide hnp
    rw [hnp] at rp cp hlt hd1
    obtain ⟨k, hk⟩ : ∃ k, l.length = k := ⟨_, rfl⟩
    have HK := hide hk
    rw [hk] at rm cm hlt hd1 hkI hl
    clear hnp hk
    have h01 : 0 < ([Value.int .i64 (k : Int)] : List Value).length := by simp
    go_enter Tryd.func35, Tryd.ntmps35
    go_wp2_with (first
      | (with_reducible refine wl_box rfl 57 _ (.agg #[.int .i64 (a : Int), .int .i64 (b : Int)]) [.int .i64 (a : Int), .int .i64 (b : Int)] rfl rfl rfl ?_; intro g5 w3 r5 p3 l3 b3; have rm3 := rm.later b3; have cm' := rm3.cell (j := 0) rfl; have cp' := (rp.later b3).cell (j := 0) rfl)
      | (with_reducible refine wl_store rfl 3 (.tmp 1) (.tmp 21) gm 0 3 _ (.int .i64 ((k : Int) + 1)) rfl szInt rfl rfl rm3 h01 rfl ?_; intro w8 r8 o8))
    go_end0
    have rp7 := rp.later b3
    rw [← HNp.out] at rp7
    refine ⟨rfl, hFin.out w3 w8 cur (rt.later b3) HUp.out.symm rp7 (ri.later b3) (hSm.below (b3.mono a11)) (hT.later b3) (Nat.le_trans a11 b3.size) (ButL.of b3 _) ?_ o8⟩
    rw [HK.out]
    exact r8
end Go.Proofs.YtbolfkigiachlaaDoor

/-
  Trees: Check: contract. Own work.
-/
namespace Go.Proofs.YtbolfkigiachlaaDoor
open Go.RowKit Tr
/-- Does a path of sums lead from a chunk to a root? -/
def chkB (r : List Int) (n j : Nat) (xs : List Int) (ps : List (List Int)) : Bool := decide ((sidesT n j).length = ps.length) && decide (upS (leafS xs) (sidesT n j) ps = r)
set_option maxRecDepth 100000 in
theorem check_no (r : List Int) (n i : Int) (A PA : Option Addr) (m c pn pc : Nat) (w : World) (hi : i < 0 ∨ n ≤ i) : Calls Tryd.prog 21 #[.agg (bv r).toArray, .int .i64 n, .int .i64 i, .slice A m c, .slice PA pn pc] w fun e w' => e = .returned (.bool false) ∧ Below w.heap.size w w' := by
  by_cases h0 : i < 0
  · go_enter Tryd.func21, Tryd.ntmps21
    go_wp2_with (first
      | (with_reducible refine wl_box rfl 23 _ (.agg (bv r).toArray) (bv r) rfl rfl rfl ?_; intro g5 w2 r2 p2 l2 b2)
      | (with_reducible refine wl_box rfl 3 _ (.int .i64 i) [.int .i64 i] rfl rfl rfl ?_; intro g7 w3 r3 p3 l3 b3; have c3 := r3.cell (j := 0) rfl)
      | (with_reducible refine wl_box rfl 31 _ (.slice PA pn pc) [.slice PA pn pc] rfl rfl rfl ?_; intro g9 w4 r4 p4 l4 b4; have r3b := r3.later b4; have c3b := r3b.cell (j := 0) rfl))
    go_ret
    exact ⟨rfl, (b2.trans (b3.mono b2.size)).trans (b4.mono (Nat.le_trans b2.size b3.size))⟩
  · have h1 : n ≤ i := by omega
    have h2 : ¬ (i < n) := by omega
    clear hi
    go_enter Tryd.func21, Tryd.ntmps21
    go_wp2_with (first
      | (with_reducible refine wl_box rfl 23 _ (.agg (bv r).toArray) (bv r) rfl rfl rfl ?_; intro g5 w2 r2 p2 l2 b2)
      | (with_reducible refine wl_box rfl 3 _ (.int .i64 i) [.int .i64 i] rfl rfl rfl ?_; intro g7 w3 r3 p3 l3 b3; have c3 := r3.cell (j := 0) rfl)
      | (with_reducible refine wl_box rfl 31 _ (.slice PA pn pc) [.slice PA pn pc] rfl rfl rfl ?_; intro g9 w4 r4 p4 l4 b4; have r3b := r3.later b4; have c3b := r3b.cell (j := 0) rfl))
    go_ret
    exact ⟨rfl, (b2.trans (b3.mono b2.size)).trans (b4.mono (Nat.le_trans b2.size b3.size))⟩
theorem zInt : (Tryd.prog.info? 3).map (fun i => i.zero) = some (some (.int .i64 0)) := by kernel_rfl
set_option maxRecDepth 100000 in
set_option maxHeartbeats 4000000 in
theorem check_any (r : List Int) (n j : Nat) (xs : List Int) (ps : List (List Int)) (A PA : Option Addr) (m c pc : Nat) (w : World) (hT : Tabs w) (hr : r.length = 32) (hn : n < 9223372036854775808) (hj : j < n) (hx : Bs w w.heap.size A m xs) (hby : IsBy xs) (hm : m ≤ 100000000) (hS : Sms w w.heap.size PA ps) (hpl : ps.length ≤ 1000000) :
    Calls Tryd.prog 21 #[.agg (bv r).toArray, .int .i64 (n : Int), .int .i64 (j : Int), .slice A m c, .slice PA ps.length pc] w fun e w' => e = .returned (.bool (chkB r n j xs ps)) ∧ Below w.heap.size w w' := by
  have hmany := others_many n 0 n j (by omega) 63 (by omega)
  have hsl : (sidesT n j).length = (others 0 n j).length := by unfold sidesT; rw [List.length_map]
  have hx0 := leafS_len xs
  have hx0b := leafS_by xs
  have hup : (upS (leafS xs) (sidesT n j) ps).length = 32 := up_all (fun s => s.length = 32) nodeS_len _ _ _ hx0
  have hcb : chkB r n j xs ps = (decide ((others 0 n j).length = ps.length) && decide (upS (leafS xs) (sidesT n j) ps = r)) := by unfold chkB; rw [hsl]
  have HL := fun w hT hx => leaf_any xs A m c w hT hx hby hm
  have hCl : ∀ (gm gp gt gi : Nat) (w1 : World), InvC (leafS xs) ps PA pc j w.heap.size gm gp gt gi [] [gm, gt] w1 → Calls Tryd.prog 33 #[.agg #[.int .i64 0, .int .i64 (n : Int)], .int .i64 (j : Int), .func (.func 35) #[] #[.pointer (some ⟨gm, 0, none⟩), .pointer (some ⟨gp, 0, none⟩), .pointer (some ⟨gt, 0, none⟩), .pointer (some ⟨gi, 0, none⟩)]] w1 fun e w' => e = .returned (.tuple #[]) ∧ ∃ S', InvC (leafS xs) ps PA pc j w.heap.size gm gp gt gi (others 0 n j) S' w' ∧ Moved [gm, gt] S' w1 w' := by
    intro gm gp gt gi w1 hI
    have := climb_any 35 #[.pointer (some ⟨gm, 0, none⟩), .pointer (some ⟨gp, 0, none⟩), .pointer (some ⟨gt, 0, none⟩), .pointer (some ⟨gi, 0, none⟩)] Tryd.call35 (InvC (leafS xs) ps PA pc j w.heap.size gm gp gt gi) j n 1000 hn (fun l S w h => h.small) (fun l S w w' h b => h.later b)
      (fun l S a b w hl h hab hbn => checkC_any (leafS xs) ps PA pc j _ gm gp gt gi 1000 n hx0 hx0b (by omega) l S a b w hl h hab hbn) n 0 n [] [gm, gt] w1 (by omega) (by omega) (Nat.le_refl _) (by simp; omega) hI
    rwa [List.nil_append] at this
  have hE := eq32 (upS (leafS xs) (sidesT n j) ps) r hup hr
  have zr := hide (size32b hr)
  have zu := hide (size32b hup)
  have zx := hide (size32b hx0)
  have lx := hide (show (bv (List.replicate 32 0)).length = (bv (leafS xs)).length by rw [bv_len, bv_len, hx0, List.length_replicate])
  have HCl := hide hCl
  obtain ⟨cb, hcb2⟩ : ∃ cb, cb = chkB r n j xs ps := ⟨_, rfl⟩
  rw [← hcb2]
  rw [← hcb2] at hcb
  have HCB := hide hcb
  clear hcb2
  have hup2 : ∀ w g, Row w 23 g (bv (upS (leafS xs) ((others 0 n j).map (aheadB j)) ps)) → Row w 23 g (bv (upS (leafS xs) (sidesT n j) ps)) := fun _ _ h => h
  have HU2 := hide hup2
  have hlo : 3 + 1 ≤ w.heap.size := hT.1
  have hd1 : ¬ ((j : Int) < 0) := by omega
  have hd2 : ¬ ((n : Int) ≤ (j : Int)) := by omega
  have hd3 : decide ((n : Int) ≤ (j : Int)) = false := by simp; omega
  have hoI : ((others 0 n j).length : Int) ≤ 1000 := by omega
  have hu0 : ∀ w g, Row w 23 g (bv (leafS xs)) → Row w 23 g (bv (upS (leafS xs) (([] : List (Nat × Nat)).map (aheadB j)) ps)) := fun _ _ h => by cases ps <;> exact h
  have HU0 := hide hu0
  clear hCl hcb hmany hsl hx0 hx0b hup hup2 hu0 hn hby hm
  have h012 : 0 < ([Value.int .i64 0] : List Value).length := by simp
  generalize leafS xs = x0 at *
  generalize upS x0 (sidesT n j) ps = up at *
  go_enter Tryd.func21, Tryd.ntmps21
  go_wp2_with (first
    | (with_reducible refine wl_box rfl 23 _ (.agg (bv r).toArray) (bv r) rfl rfl rfl ?_; intro g5 w2 r5 p2 l2 b2)
    | (with_reducible refine wl_box rfl 3 _ (.int .i64 (j : Int)) [.int .i64 (j : Int)] rfl rfl rfl ?_; intro g7 w3 r7 p3 l3 b3; have c3 := r7.cell (j := 0) rfl)
    | (with_reducible refine wl_box rfl 31 _ (.slice PA ps.length pc) [.slice PA ps.length pc] rfl rfl rfl ?_; intro g9 w4 r9 p4 l4 b4; have r7b := r7.later b4; have c3b := r7b.cell (j := 0) rfl))
  have B3 := b2.trans (b3.mono b2.size)
  have B4 := B3.trans (b4.mono B3.size)
  have r5b := (r5.later b3).later b4
  clear r5 r7 c3
  refine (HL w4 (hT.later B4) (hx.later B4)).mono ?_
  rintro e w5 ⟨rfl, b5⟩
  have B5 := B4.trans (b5.mono B4.size)
  have r5c := r5b.later b5
  have r7c := r7b.later b5
  have r9c := r9.later b5
  clear r5b r7b r9 c3b HL
  go_wp2_with (first
    | ((with_reducible refine wl_alloc (o := ⟨some 11, _, _, _, _, _⟩) rfl 23 _ (bv (List.replicate 32 0)) rfl zero32b rfl ?_); intro g11 w6 r11 p11 l11 b6; have r7d := r7c.later b6)
    | ((with_reducible refine wl_alloc (o := ⟨some 12, _, _, _, _, _⟩) rfl 3 _ [.int .i64 0] rfl zInt rfl ?_); intro g12 w7 r12 p12 l12 b7; have r7e := r7d.later b7; have r11b := r11.later b7)
    | ((with_reducible refine wl_store_row rfl 23 (.tmp 11) (.tmp 21) g11 23 _ (bv x0) rfl rfl rfl r11b zx.out lx.out (bv_one _) ?_); intro w8 r11c o8; have n12 : g12 ≠ g11 := (by have := r11.lt; omega); have n7 : g7 ≠ g11 := (by have := r7c.lt; omega); have r12b := r12.only o8 n12; have r7f := r7e.only o8 n7)
    | ((with_reducible refine wl_store rfl 3 (.tmp 12) (.const (.int .i64 0)) g12 0 3 _ (.int .i64 0) rfl szInt rfl rfl r12b h012 rfl ?_); intro w9 r12c o9; have m7 : g7 ≠ g12 := (by have := r7d.lt; omega); have r7g := r7f.only o9 m7; have c7 := r7g.cell (j := 0) rfl))
  have hn9 : g9 ≠ g11 := by have := r9c.lt; omega
  have hm9 : g9 ≠ g12 := by have := r9c.lt; omega
  have hn5 : g5 ≠ g11 := by have := r5c.lt; omega
  have hm5 : g5 ≠ g12 := by have := r5c.lt; omega
  have q12 : w.heap.size ≤ g12 := by have := b6.size; have := B5.size; omega
  have q11 : w.heap.size ≤ g11 := by have := B5.size; omega
  have q9 : w.heap.size ≤ g9 := by have := B3.size; omega
  have q7 : w.heap.size ≤ g7 := by have := b2.size; omega
  have q5 : w.heap.size ≤ g5 := p2
  have B9 := (((B5.trans (b6.mono B5.size)).trans (b7.mono (by have := b6.size; have := B5.size; omega))).trans (o8.below q11)).trans (o9.below q12)
  have r9d := ((((r9c.later b6).later b7).only o8 hn9).only o9 hm9)
  have r5d := ((((r5c.later b6).later b7).only o8 hn5).only o9 hm5)
  have r11d := r11c.only o9 (Ne.symm n12)
  have hI0 : InvC x0 ps PA pc j w.heap.size g12 g9 g11 g7 [] [g12, g11] w9 := ⟨rfl, r12c, r9d, HU0.out _ _ r11d, r7g, hS.below B9, hT.later B9, q12, q9, q11, q7, Ne.symm hm9, n12, Ne.symm m7, Ne.symm hn9, Ne.symm n7, hlo, B9.size⟩
  refine (HCl.out _ _ _ _ w9 hI0).mono ?_
  rintro e w10 ⟨rfl, S10, hI10, mv⟩
  have hbl : Below w.heap.size w9 w10 := mv.1.below (fun s hs => by simp at hs; rcases hs with rfl | rfl <;> assumption) B9.size
  have r5e := r5d.butL mv.1 (fun hs => by simp at hs; rcases hs with h | h <;> contradiction)
  obtain ⟨_, rm, rp, rt, _⟩ := hI10
  have rt := HU2.out _ _ rt
  have B10 := B9.trans hbl
  have cm := rm.cell (j := 0) rfl
  have cp := rp.cell (j := 0) rfl
  clear rm rp HCl hI0 mv hbl r5c r5d r7c r7d r7e r7f r7g r9c r9d r11 r11b r11c r11d r12 r12b r12c c7 HU0 HU2 b6 b7 o8 o9 h012
  have hcb := HCB.out
  clear HCB
  generalize (others 0 n j).length = q at *
  by_cases hq : q = ps.length
  · subst hq
    have hq1 : decide (ps.length = ps.length) = true := by simp
    rw [hq1, Bool.true_and] at hcb
    have HV := hide hcb
    clear hcb
    have hqq : ((ps.length : Int) == (ps.length : Int)) = true := by simp
    go_wp2_with (first
      | (with_reducible refine wg_load_row 4 true 31 rfl rfl rfl 23 (.tmp 11) g11 23 (bv up) _ rfl rfl rt Tryd.underlying23 rfl zu.out ?_)
      | (with_reducible refine wg_load_row 4 true 31 rfl rfl rfl 23 (.tmp 5) g5 23 (bv r) _ rfl rfl r5e Tryd.underlying23 rfl zr.out ?_)
      | rw [hE])
    go_ret
    exact ⟨by rw [HV.out]; rfl, B10⟩
  · have hq1 : decide (q = ps.length) = false := by simp; omega
    rw [hq1, Bool.false_and] at hcb
    have HV := hide hcb
    clear hcb
    have hqq : ((q : Int) == (ps.length : Int)) = false := beq_eq_false_iff_ne.2 (by omega)
    go_wp2_with fail
    go_ret
    exact ⟨by rw [HV.out]; rfl, B10⟩
end Go.Proofs.YtbolfkigiachlaaDoor

/-
  Trees: the laws' own 'awake': contract. Own work.
-/
namespace Go.Proofs.YtbolfkigiachlaaDoor
open Go.RowKit Tr
def awL : List (List Int) := [[1], [2], [3]]
def awN : List Int := nodeS (leafS [1]) (leafS [2])
set_option maxRecDepth 100000 in
theorem aw_ne : nodeS awN (leafS [2]) ≠ nodeS awN (leafS [3]) := by decide +kernel
theorem half3 : halfN 3 = 2 := by decide +kernel
theorem half2 : halfN 2 = 1 := by decide +kernel
theorem aw_others : others 0 3 2 = [(0, 2)] := by
  rw [others_hi (by decide) (by rw [show 3 - 0 = 3 from rfl, half3]; decide), show 3 - 0 = 3 from rfl, half3, show 0 + 2 = 2 from rfl, others_one (by decide)]
  rfl
theorem rt2 (a b : List Int) : rtS [a, b] = nodeS (leafS a) (leafS b) := by
  unfold rtS
  rw [root_two _ _ _ _ (by simp), show halfN [a, b].length = 1 from half2]
  rw [show [a, b].take 1 = [a] from rfl, show [a, b].drop 1 = [b] from rfl, root_one, root_one]
theorem aw_path : pathT leafS nodeS noneS awL 2 = [awN] := by
  unfold pathT
  rw [show awL.length = 3 from rfl, aw_others]
  show [rtS [[1], [2]]] = _
  rw [rt2]
  rfl
theorem aw_root : rtS awL = nodeS awN (leafS [3]) := by
  unfold rtS
  rw [root_two _ _ _ _ (by decide), show halfN awL.length = 2 from half3]
  rw [show awL.take 2 = [[1], [2]] from rfl, show awL.drop 2 = [[3]] from rfl, root_one]
  rw [show rootT leafS nodeS noneS [[1], [2]] = rtS [[1], [2]] from rfl, rt2]
  rfl
theorem aw_sides : sidesT 3 2 = [true] := by unfold sidesT; rw [aw_others]; rfl
theorem aw_c1 : chkB (rtS awL) 3 2 [3] [awN] = true := by
  unfold chkB
  rw [aw_sides, aw_root]
  simp [upS, upT, Tr.stepT]
theorem aw_c2 : chkB (rtS awL) 3 2 [2] [awN] = false := by
  unfold chkB
  rw [aw_sides, aw_root]
  simp [upS, upT, Tr.stepT, aw_ne]
def SAw (AN L1 L2 RT : List Int) (gl gp ga gb gc cp : Nat) (opn : Nat) (v : Value) : Prop :=
  match opn with
  | 0 | 1 | 4 | 5 | 6 | 19 | 20 | 21 | 28 | 29 | 30 | 38 | 39 | 40 => v = .bool true
  | 2 | 7 | 27 | 36 => v = .slice (some ⟨gp, 0, none⟩) 1 cp
  | 3 => v = .int .i64 ((1 : Nat) : Int)
  | 8 => v = .pointer (some ⟨gp, 0 + 0 * 32, none⟩)
  | 9 | 18 => v = .agg (bv AN).toArray
  | 10 | 14 | 22 | 24 | 31 | 33 => v = .slice (some ⟨gl, 0, none⟩) 3 3
  | 11 => v = .pointer (some ⟨gl, 0, none⟩)
  | 12 => v = .slice (some ⟨ga, 0, none⟩) 1 1
  | 13 => v = .agg (bv L1).toArray
  | 15 | 34 => v = .pointer (some ⟨gl, 1, none⟩)
  | 16 | 35 => v = .slice (some ⟨gb, 0, none⟩) 1 1
  | 17 => v = .agg (bv L2).toArray
  | 23 | 32 => v = .agg (bv RT).toArray
  | 25 => v = .pointer (some ⟨gl, 2, none⟩)
  | 26 => v = .slice (some ⟨gc, 0, none⟩) 1 1
  | 37 => v = .bool false
  | _ => True

set_option maxRecDepth 100000 in
set_option maxHeartbeats 4000000 in
theorem tawake_any (w : World) (hT : Tb4 w) : Calls Tryd.prog 10 #[] w fun e w' => e = .returned (.bool true) ∧ Below w.heap.size w w' := by
  obtain ⟨isl, hsi, hsz0, hss⟩ := sl_info
  obtain ⟨i8, h8i, h8z, h8s, h8b⟩ := u8_info
  go_enter Tryd.func10, Tryd.ntmps10
  go_wp2_with (first
    | ((with_reducible refine wl_build1 (o := ⟨some 4, _, _, _, _, _⟩) rfl 22 (.const (.int .u8 1)) rfl 5 i8 (.int .u8 0) (.int .u8 1) Tryd.underlying22 h8i h8z h8s rfl rfl rfl ?_); intro ga w2 ra pa la ba)
    | ((with_reducible refine wl_build1 (o := ⟨some 5, _, _, _, _, _⟩) rfl 22 (.const (.int .u8 2)) rfl 5 i8 (.int .u8 0) (.int .u8 2) Tryd.underlying22 h8i h8z h8s rfl rfl rfl ?_); intro gb w3 rb pb lb bb; have ra2 := ra.later bb)
    | ((with_reducible refine wl_build1 (o := ⟨some 6, _, _, _, _, _⟩) rfl 22 (.const (.int .u8 3)) rfl 5 i8 (.int .u8 0) (.int .u8 3) Tryd.underlying22 h8i h8z h8s rfl rfl rfl ?_); intro gc w4 rc pc lc bc; have ra3 := ra2.later bc; have rb3 := rb.later bc)
    | ((with_reducible refine wl_build3 rfl 28 (.tmp 4) (.tmp 5) (.tmp 6) rfl 22 isl (.slice none 0 0) (.slice (some ⟨ga, 0, none⟩) 1 1) (.slice (some ⟨gb, 0, none⟩) 1 1) (.slice (some ⟨gc, 0, none⟩) 1 1) Tryd.underlying28 hsi hsz0 hss rfl rfl rfl rfl rfl rfl rfl ?_); intro gl w5 rl pl ll bl))
  have B3 := ba.trans (bb.mono ba.size)
  have B4 := B3.trans (bc.mono B3.size)
  have B5 := B4.trans (bl.mono B4.size)
  have hba : Bs w5 w5.heap.size (some ⟨ga, 0, none⟩) 1 [1] := Bs.row (t := 5) (ra3.later bl) rfl
  have hbb : Bs w5 w5.heap.size (some ⟨gb, 0, none⟩) 1 [2] := Bs.row (t := 5) (rb3.later bl) rfl
  have hbc : Bs w5 w5.heap.size (some ⟨gc, 0, none⟩) 1 [3] := Bs.row (t := 5) (rc.later bl) rfl
  have hbs : Bss w5 w5.heap.size (some ⟨gl, 0, none⟩) 3 awL := rl.bss3 hba hbb hbc
  have hT5 := hT.later B5
  have hbyL : ∀ xs ∈ awL, IsBy xs := by intro xs hx; simp [awL] at hx; rcases hx with rfl | rfl | rfl <;> exact by_of_all (by decide)
  have hlnL : ∀ xs ∈ awL, xs.length ≤ 100000000 := by intro xs hx; simp [awL] at hx; rcases hx with rfl | rfl | rfl <;> decide
  clear ra ra2 ra3 rb rb3 rc ba bb bc bl B3 B4 hT pa pb pc pl la lb lc ll
  have hP := path_any awL (some ⟨gl, 0, none⟩) 3 3 2 w5 hT5 hbs hbyL hlnL (by decide) (by decide) (by decide)
  rw [aw_path] at hP
  have HP := hide hP
  clear hP
  go_wp2_with fail
  refine HP.out.mono ?_
  rintro e w6 ⟨pv, rfl, own, b6⟩
  obtain ⟨Ap, cp, rfl, hbp, hcp, hcm, _⟩ := owns_bs (N := 32) own rfl
  have hA32 : awN.length = 32 := nodeS_len _ _
  have hSm : Sms w6 w6.heap.size Ap [awN] := ⟨hbp, by simpa using hA32, by intro s hs; obtain rfl := List.mem_singleton.1 hs; exact nodeS_by _ _⟩
  obtain ⟨gp, po, rfl, hgp, hpcell⟩ := hSm.cells (i := 0) (s := awN) rfl
  have hpo : po = 0 := by
    rcases own.2 with ⟨h1, _⟩ | ⟨g, cap, cur, h1, _⟩
    · cases h1
    · injection h1 with h1 _ _; injection h1 with h1; injection h1 with _ h1 _
  subst hpo
  have hpc : ∀ w1, Below w6.heap.size w6 w1 → ∀ j v, (bv awN)[j]? = some v → w1.cell? ⟨gp, 0 + 0 * 32 + j, none⟩ = some v := fun w1 b j v hv => (b.cell (p := ⟨gp, 0 + 0 * 32 + j, none⟩) hgp).trans (hpcell j v hv)
  have hT6 := hT5.later b6
  have hba := hba.later b6
  have hbb := hbb.later b6
  have hbc := hbc.later b6
  have hbs6 := hbs.below b6 |>.up b6.size
  have HL1 := fun w1 (b : Below w6.heap.size w6 w1) => leaf_any [1] (some ⟨ga, 0, none⟩) 1 1 w1 (hT6.later b).1 (hba.later b) (by_of_all (by decide)) (by decide)
  have HL2 := fun w1 (b : Below w6.heap.size w6 w1) => leaf_any [2] (some ⟨gb, 0, none⟩) 1 1 w1 (hT6.later b).1 (hbb.later b) (by_of_all (by decide)) (by decide)
  have HN := fun w1 (b : Below w6.heap.size w6 w1) => node_any (leafS [1]) (leafS [2]) w1 (hT6.later b).1 (leafS_len _) (leafS_len _) (leafS_by _) (leafS_by _)
  rw [show nodeS (leafS [1]) (leafS [2]) = awN from rfl] at HN
  have HR := fun w1 (b : Below w6.heap.size w6 w1) => troot_any awL (some ⟨gl, 0, none⟩) 3 3 w1 (hT6.later b) ((hbs6.below b).up b.size) hbyL hlnL (by decide)
  have HC1 := fun w1 (b : Below w6.heap.size w6 w1) => check_any (rtS awL) 3 2 [3] [awN] (some ⟨gc, 0, none⟩) (some ⟨gp, 0, none⟩) 1 1 cp w1 (hT6.later b).1 (rtS_len _) (by decide) (by decide) (hbc.later b) (by_of_all (by decide)) (by decide) (hSm.later b) (by decide)
  have HC2 := fun w1 (b : Below w6.heap.size w6 w1) => check_any (rtS awL) 3 2 [2] [awN] (some ⟨gb, 0, none⟩) (some ⟨gp, 0, none⟩) 1 1 cp w1 (hT6.later b).1 (rtS_len _) (by decide) (by decide) (hbb.later b) (by_of_all (by decide)) (by decide) (hSm.later b) (by decide)
  rw [aw_c1] at HC1
  rw [aw_c2] at HC2
  have rl := rl.later b6
  have B6 := B5.trans (b6.mono B5.size)
  have zA := hide (size32b hA32)
  clear HP own hbp hcp hcm hbs hSm hpcell hba hbb hbc hbs6 hT5 hT6 b6 hbyL hlnL
  generalize awN = AN at *
  generalize leafS [1] = L1 at *
  generalize leafS [2] = L2 at *
  generalize rtS awL = RT at *
  go_wp2_with fail
  rename_i K1 hK1
  refine wp_region_valsG [13, 17, 18, 23, 28, 32, 37] (SAw AN L1 L2 RT gl gp ga gb gc cp) (JR w6) (by kernel_rfl) (by kernel_rfl) (by kernel_rfl) (by kernel_rfl) (Below.refl _ _).drew ?obs ?he
  case obs =>
    refine ⟨?_, ?_, ?_, ?_, ?_, ?_, ?_, ?_, ?_, ?_, ?_, ?_, ?_, ?_, ?_, ?_, ?_, ?_, ?_, ?_, ?_, ?_, ?_, ?_, ?_, ?_, ?_, ?_, ?_, ?_, ?_, ?_, ?_, ?_, ?_, ?_, ?_, ?_, ?_, ?_, ?_, trivial⟩
    · refine ⟨.inl rfl, ?_⟩
      exact .inl ⟨by kernel_rfl, fun L a1 w1 n h => ⟨_, rfl, run_move (.tmp 3) rfl (h.var n 3 (by kernel_rfl))⟩⟩
    · refine ⟨.inl rfl, ?_⟩
      exact .inl ⟨by kernel_rfl, fun L a1 w1 n h => ⟨_, rfl, run_move (.tmp 13) rfl (h.dep n 0 13 (by kernel_rfl) rfl)⟩⟩
    · refine ⟨.inr ⟨1, true, 14, rfl, by kernel_rfl, rfl, by simp, fun v h => h⟩, ?_⟩
      exact .inl ⟨by kernel_rfl, fun L a1 w1 n h => ⟨_, rfl, run_move (.tmp 2) rfl (h.var n 2 (by kernel_rfl))⟩⟩
    · refine ⟨.inr ⟨1, true, 14, rfl, by kernel_rfl, rfl, by simp, fun v h => h⟩, ?_⟩
      exact .inl ⟨by kernel_rfl, fun L a1 w1 n h => ⟨_, rfl, run_lenSl 31 23 Tryd.underlying31 (.tmp 15) rfl (h.dep n 2 15 (by kernel_rfl) rfl)⟩⟩
    · refine ⟨.inr ⟨1, true, 14, rfl, by kernel_rfl, rfl, by simp, fun v h => h⟩, ?_⟩
      exact .inl ⟨by kernel_rfl, fun L a1 w1 n h => ⟨_, rfl, run_eqlI (.tmp 16) (.const (.int .i64 1)) rfl (h.dep n 3 16 (by kernel_rfl) rfl) rfl rfl⟩⟩
    · refine ⟨.inl rfl, ?_⟩
      exact .inl ⟨by kernel_rfl, fun L a1 w1 n h => ⟨_, rfl, run_pickT (.tmp 14) _ _ rfl (h.dep n 1 14 (by kernel_rfl) rfl) (h.dep n 4 17 (by kernel_rfl) rfl)⟩⟩
    · refine ⟨.inl rfl, ?_⟩
      exact .inl ⟨by kernel_rfl, fun L a1 w1 n h => ⟨_, rfl, run_move (.tmp 18) rfl (h.dep n 5 18 (by kernel_rfl) rfl)⟩⟩
    · refine ⟨.inr ⟨6, true, 19, rfl, by kernel_rfl, rfl, by simp, fun v h => h⟩, ?_⟩
      exact .inl ⟨by kernel_rfl, fun L a1 w1 n h => ⟨_, rfl, run_move (.tmp 2) rfl (h.var n 2 (by kernel_rfl))⟩⟩
    · refine ⟨.inr ⟨6, true, 19, rfl, by kernel_rfl, rfl, by simp, fun v h => h⟩, ?_⟩
      exact .inl ⟨by kernel_rfl, fun L a1 w1 n h => ⟨_, rfl, run_indexSlN 31 (.tmp 20) (.const (.int .i64 0)) 23 32 gp 0 1 cp 0 rfl Tryd.underlying31 Tryd.sizeOf23 (h.dep n 7 20 (by kernel_rfl) rfl) rfl (by decide)⟩⟩
    · refine ⟨.inr ⟨6, true, 19, rfl, by kernel_rfl, rfl, by simp, fun v h => h⟩, ?_⟩
      exact .inl ⟨by kernel_rfl, fun L a1 w1 n h => ⟨_, rfl, run_loadM 23 (.tmp 21) gp (0 + 0 * 32) (bv AN) _ rfl (h.dep n 8 21 (by kernel_rfl) rfl) (hpc w1 h.inv) Tryd.underlying23 rfl zA.out⟩⟩
    · refine ⟨.inr ⟨6, true, 19, rfl, by kernel_rfl, rfl, by simp, fun v h => h⟩, ?_⟩
      exact .inl ⟨by kernel_rfl, fun L a1 w1 n h => ⟨_, rfl, run_move (.tmp 1) rfl (h.var n 1 (by kernel_rfl))⟩⟩
    · refine ⟨.inr ⟨6, true, 19, rfl, by kernel_rfl, rfl, by simp, fun v h => h⟩, ?_⟩
      exact .inl ⟨by kernel_rfl, fun L a1 w1 n h => ⟨_, rfl, run_indexSl0 28 (.tmp 23) (.const (.int .i64 0)) 22 gl 3 3 0 rfl Tryd.underlying28 Tryd.sizeOf22 (h.dep n 10 23 (by kernel_rfl) rfl) rfl (by decide)⟩⟩
    · refine ⟨.inr ⟨6, true, 19, rfl, by kernel_rfl, rfl, by simp, fun v h => h⟩, ?_⟩
      exact .inl ⟨by kernel_rfl, fun L a1 w1 n h => ⟨_, rfl, run_loadA 22 (.tmp 24) ⟨gl, 0, none⟩ rfl Tryd.isAgg22 (h.dep n 11 24 (by kernel_rfl) rfl) ((Row.later rl h.inv).cell (j := 0) rfl)⟩⟩
    · refine ⟨.inr ⟨6, true, 19, rfl, by kernel_rfl, rfl, by simp, fun v h => h⟩, ?_⟩
      refine .inr fun L a1 w1 n h K hK => ?_
      have e0 : a1.eval (.tmp 25) = .slice (some ⟨ga, 0, none⟩) 1 1 := h.dep n 12 25 (by kernel_rfl) rfl
      refine st_call 11 _ _ #[.slice (some ⟨ga, 0, none⟩) 1 1] rfl Tryd.call11 ?_ (HL1 w1 h.inv) ?_
      · simp only [List.map_toArray, List.map_cons, List.map_nil, e0]
      · rintro e w3 ⟨rfl, b9⟩
        exact ⟨_, rfl, hK _ w3 rfl (h.inv.trans (b9.mono h.inv.size))⟩
    · refine ⟨.inr ⟨6, true, 19, rfl, by kernel_rfl, rfl, by simp, fun v h => h⟩, ?_⟩
      exact .inl ⟨by kernel_rfl, fun L a1 w1 n h => ⟨_, rfl, run_move (.tmp 1) rfl (h.var n 1 (by kernel_rfl))⟩⟩
    · refine ⟨.inr ⟨6, true, 19, rfl, by kernel_rfl, rfl, by simp, fun v h => h⟩, ?_⟩
      exact .inl ⟨by kernel_rfl, fun L a1 w1 n h => ⟨_, rfl, run_indexSl0 28 (.tmp 27) (.const (.int .i64 1)) 22 gl 3 3 1 rfl Tryd.underlying28 Tryd.sizeOf22 (h.dep n 14 27 (by kernel_rfl) rfl) rfl (by decide)⟩⟩
    · refine ⟨.inr ⟨6, true, 19, rfl, by kernel_rfl, rfl, by simp, fun v h => h⟩, ?_⟩
      exact .inl ⟨by kernel_rfl, fun L a1 w1 n h => ⟨_, rfl, run_loadA 22 (.tmp 28) ⟨gl, 1, none⟩ rfl Tryd.isAgg22 (h.dep n 15 28 (by kernel_rfl) rfl) ((Row.later rl h.inv).cell (j := 1) rfl)⟩⟩
    · refine ⟨.inr ⟨6, true, 19, rfl, by kernel_rfl, rfl, by simp, fun v h => h⟩, ?_⟩
      refine .inr fun L a1 w1 n h K hK => ?_
      have e0 : a1.eval (.tmp 29) = .slice (some ⟨gb, 0, none⟩) 1 1 := h.dep n 16 29 (by kernel_rfl) rfl
      refine st_call 11 _ _ #[.slice (some ⟨gb, 0, none⟩) 1 1] rfl Tryd.call11 ?_ (HL2 w1 h.inv) ?_
      · simp only [List.map_toArray, List.map_cons, List.map_nil, e0]
      · rintro e w3 ⟨rfl, b9⟩
        exact ⟨_, rfl, hK _ w3 rfl (h.inv.trans (b9.mono h.inv.size))⟩
    · refine ⟨.inr ⟨6, true, 19, rfl, by kernel_rfl, rfl, by simp, fun v h => h⟩, ?_⟩
      refine .inr fun L a1 w1 n h K hK => ?_
      have e0 : a1.eval (.tmp 26) = .agg (bv L1).toArray := h.dep n 13 26 (by kernel_rfl) rfl
      have e1 : a1.eval (.tmp 30) = .agg (bv L2).toArray := h.dep n 17 30 (by kernel_rfl) rfl
      refine st_call 13 _ _ #[.agg (bv L1).toArray, .agg (bv L2).toArray] rfl Tryd.call13 ?_ (HN w1 h.inv) ?_
      · simp only [List.map_toArray, List.map_cons, List.map_nil, e0, e1]
      · rintro e w3 ⟨rfl, b9⟩
        exact ⟨_, rfl, hK _ w3 rfl (h.inv.trans (b9.mono h.inv.size))⟩
    · refine ⟨.inr ⟨6, true, 19, rfl, by kernel_rfl, rfl, by simp, fun v h => h⟩, ?_⟩
      exact .inl ⟨by kernel_rfl, fun L a1 w1 n h => ⟨_, rfl, run_eqlT (.tmp 22) (.tmp 31) rfl Tryd.underlying23 (Classical.choose_spec u8_info).1 (by kernel_rfl) Tryd.underlying5 Tryd.isAgg5 AN (h.dep n 9 22 (by kernel_rfl) rfl) (h.dep n 18 31 (by kernel_rfl) rfl) (hA32) (by kernel_rfl)⟩⟩
    · refine ⟨.inl rfl, ?_⟩
      exact .inl ⟨by kernel_rfl, fun L a1 w1 n h => ⟨_, rfl, run_pickT (.tmp 19) _ _ rfl (h.dep n 6 19 (by kernel_rfl) rfl) (h.dep n 19 32 (by kernel_rfl) rfl)⟩⟩
    · refine ⟨.inl rfl, ?_⟩
      exact .inl ⟨by kernel_rfl, fun L a1 w1 n h => ⟨_, rfl, run_move (.tmp 33) rfl (h.dep n 20 33 (by kernel_rfl) rfl)⟩⟩
    · refine ⟨.inr ⟨21, true, 34, rfl, by kernel_rfl, rfl, by simp, fun v h => h⟩, ?_⟩
      exact .inl ⟨by kernel_rfl, fun L a1 w1 n h => ⟨_, rfl, run_move (.tmp 1) rfl (h.var n 1 (by kernel_rfl))⟩⟩
    · refine ⟨.inr ⟨21, true, 34, rfl, by kernel_rfl, rfl, by simp, fun v h => h⟩, ?_⟩
      refine .inr fun L a1 w1 n h K hK => ?_
      have e0 : a1.eval (.tmp 35) = .slice (some ⟨gl, 0, none⟩) 3 3 := h.dep n 22 35 (by kernel_rfl) rfl
      refine st_call 16 _ _ #[.slice (some ⟨gl, 0, none⟩) 3 3] rfl Tryd.call16 ?_ (HR w1 h.inv) ?_
      · simp only [List.map_toArray, List.map_cons, List.map_nil, e0]
      · rintro e w3 ⟨rfl, b9⟩
        exact ⟨_, rfl, hK _ w3 rfl (h.inv.trans (b9.mono h.inv.size))⟩
    · refine ⟨.inr ⟨21, true, 34, rfl, by kernel_rfl, rfl, by simp, fun v h => h⟩, ?_⟩
      exact .inl ⟨by kernel_rfl, fun L a1 w1 n h => ⟨_, rfl, run_move (.tmp 1) rfl (h.var n 1 (by kernel_rfl))⟩⟩
    · refine ⟨.inr ⟨21, true, 34, rfl, by kernel_rfl, rfl, by simp, fun v h => h⟩, ?_⟩
      exact .inl ⟨by kernel_rfl, fun L a1 w1 n h => ⟨_, rfl, run_indexSl0 28 (.tmp 37) (.const (.int .i64 2)) 22 gl 3 3 2 rfl Tryd.underlying28 Tryd.sizeOf22 (h.dep n 24 37 (by kernel_rfl) rfl) rfl (by decide)⟩⟩
    · refine ⟨.inr ⟨21, true, 34, rfl, by kernel_rfl, rfl, by simp, fun v h => h⟩, ?_⟩
      exact .inl ⟨by kernel_rfl, fun L a1 w1 n h => ⟨_, rfl, run_loadA 22 (.tmp 38) ⟨gl, 2, none⟩ rfl Tryd.isAgg22 (h.dep n 25 38 (by kernel_rfl) rfl) ((Row.later rl h.inv).cell (j := 2) rfl)⟩⟩
    · refine ⟨.inr ⟨21, true, 34, rfl, by kernel_rfl, rfl, by simp, fun v h => h⟩, ?_⟩
      exact .inl ⟨by kernel_rfl, fun L a1 w1 n h => ⟨_, rfl, run_move (.tmp 2) rfl (h.var n 2 (by kernel_rfl))⟩⟩
    · refine ⟨.inr ⟨21, true, 34, rfl, by kernel_rfl, rfl, by simp, fun v h => h⟩, ?_⟩
      refine .inr fun L a1 w1 n h K hK => ?_
      have e0 : a1.eval (.tmp 36) = .agg (bv RT).toArray := h.dep n 23 36 (by kernel_rfl) rfl
      have e3 : a1.eval (.tmp 39) = .slice (some ⟨gc, 0, none⟩) 1 1 := h.dep n 26 39 (by kernel_rfl) rfl
      have e4 : a1.eval (.tmp 40) = .slice (some ⟨gp, 0, none⟩) 1 cp := h.dep n 27 40 (by kernel_rfl) rfl
      refine st_call 21 _ _ #[.agg (bv RT).toArray, .int .i64 3, .int .i64 2, .slice (some ⟨gc, 0, none⟩) 1 1, .slice (some ⟨gp, 0, none⟩) 1 cp] rfl Tryd.call21 ?_ (HC1 w1 h.inv) ?_
      · simp only [List.map_toArray, List.map_cons, List.map_nil, e0, e3, e4]; rfl
      · rintro e w3 ⟨rfl, b9⟩
        exact ⟨_, rfl, hK _ w3 rfl (h.inv.trans (b9.mono h.inv.size))⟩
    · refine ⟨.inl rfl, ?_⟩
      exact .inl ⟨by kernel_rfl, fun L a1 w1 n h => ⟨_, rfl, run_pickT (.tmp 34) _ _ rfl (h.dep n 21 34 (by kernel_rfl) rfl) (h.dep n 28 41 (by kernel_rfl) rfl)⟩⟩
    · refine ⟨.inl rfl, ?_⟩
      exact .inl ⟨by kernel_rfl, fun L a1 w1 n h => ⟨_, rfl, run_move (.tmp 42) rfl (h.dep n 29 42 (by kernel_rfl) rfl)⟩⟩
    · refine ⟨.inr ⟨30, true, 43, rfl, by kernel_rfl, rfl, by simp, fun v h => h⟩, ?_⟩
      exact .inl ⟨by kernel_rfl, fun L a1 w1 n h => ⟨_, rfl, run_move (.tmp 1) rfl (h.var n 1 (by kernel_rfl))⟩⟩
    · refine ⟨.inr ⟨30, true, 43, rfl, by kernel_rfl, rfl, by simp, fun v h => h⟩, ?_⟩
      refine .inr fun L a1 w1 n h K hK => ?_
      have e0 : a1.eval (.tmp 44) = .slice (some ⟨gl, 0, none⟩) 3 3 := h.dep n 31 44 (by kernel_rfl) rfl
      refine st_call 16 _ _ #[.slice (some ⟨gl, 0, none⟩) 3 3] rfl Tryd.call16 ?_ (HR w1 h.inv) ?_
      · simp only [List.map_toArray, List.map_cons, List.map_nil, e0]
      · rintro e w3 ⟨rfl, b9⟩
        exact ⟨_, rfl, hK _ w3 rfl (h.inv.trans (b9.mono h.inv.size))⟩
    · refine ⟨.inr ⟨30, true, 43, rfl, by kernel_rfl, rfl, by simp, fun v h => h⟩, ?_⟩
      exact .inl ⟨by kernel_rfl, fun L a1 w1 n h => ⟨_, rfl, run_move (.tmp 1) rfl (h.var n 1 (by kernel_rfl))⟩⟩
    · refine ⟨.inr ⟨30, true, 43, rfl, by kernel_rfl, rfl, by simp, fun v h => h⟩, ?_⟩
      exact .inl ⟨by kernel_rfl, fun L a1 w1 n h => ⟨_, rfl, run_indexSl0 28 (.tmp 46) (.const (.int .i64 1)) 22 gl 3 3 1 rfl Tryd.underlying28 Tryd.sizeOf22 (h.dep n 33 46 (by kernel_rfl) rfl) rfl (by decide)⟩⟩
    · refine ⟨.inr ⟨30, true, 43, rfl, by kernel_rfl, rfl, by simp, fun v h => h⟩, ?_⟩
      exact .inl ⟨by kernel_rfl, fun L a1 w1 n h => ⟨_, rfl, run_loadA 22 (.tmp 47) ⟨gl, 1, none⟩ rfl Tryd.isAgg22 (h.dep n 34 47 (by kernel_rfl) rfl) ((Row.later rl h.inv).cell (j := 1) rfl)⟩⟩
    · refine ⟨.inr ⟨30, true, 43, rfl, by kernel_rfl, rfl, by simp, fun v h => h⟩, ?_⟩
      exact .inl ⟨by kernel_rfl, fun L a1 w1 n h => ⟨_, rfl, run_move (.tmp 2) rfl (h.var n 2 (by kernel_rfl))⟩⟩
    · refine ⟨.inr ⟨30, true, 43, rfl, by kernel_rfl, rfl, by simp, fun v h => h⟩, ?_⟩
      refine .inr fun L a1 w1 n h K hK => ?_
      have e0 : a1.eval (.tmp 45) = .agg (bv RT).toArray := h.dep n 32 45 (by kernel_rfl) rfl
      have e3 : a1.eval (.tmp 48) = .slice (some ⟨gb, 0, none⟩) 1 1 := h.dep n 35 48 (by kernel_rfl) rfl
      have e4 : a1.eval (.tmp 49) = .slice (some ⟨gp, 0, none⟩) 1 cp := h.dep n 36 49 (by kernel_rfl) rfl
      refine st_call 21 _ _ #[.agg (bv RT).toArray, .int .i64 3, .int .i64 2, .slice (some ⟨gb, 0, none⟩) 1 1, .slice (some ⟨gp, 0, none⟩) 1 cp] rfl Tryd.call21 ?_ (HC2 w1 h.inv) ?_
      · simp only [List.map_toArray, List.map_cons, List.map_nil, e0, e3, e4]; rfl
      · rintro e w3 ⟨rfl, b9⟩
        exact ⟨_, rfl, hK _ w3 rfl (h.inv.trans (b9.mono h.inv.size))⟩
    · refine ⟨.inr ⟨30, true, 43, rfl, by kernel_rfl, rfl, by simp, fun v h => h⟩, ?_⟩
      exact .inl ⟨by kernel_rfl, fun L a1 w1 n h => ⟨_, rfl, run_notB (.tmp 50) false rfl (h.dep n 37 50 (by kernel_rfl) rfl) rfl⟩⟩
    · refine ⟨.inl rfl, ?_⟩
      exact .inl ⟨by kernel_rfl, fun L a1 w1 n h => ⟨_, rfl, run_pickT (.tmp 43) _ _ rfl (h.dep n 30 43 (by kernel_rfl) rfl) (h.dep n 38 51 (by kernel_rfl) rfl)⟩⟩
    · refine ⟨.inl rfl, ?_⟩
      exact .inl ⟨by kernel_rfl, fun L a1 w1 n h => ⟨_, rfl, run_assign (.tmp 52) rfl (h.dep n 39 52 (by kernel_rfl) rfl)⟩⟩
  case he =>
    intro V w9 hV hJ
    have b9 : Below w6.heap.size w6 w9 := hJ
    have hv : V 40 = .bool true := hV 40 0 rfl
    clear hV hJ
    simp only [putOps, List.setIfInBounds_toArray, List.set_cons_succ, List.set_cons_zero, Nat.reduceAdd]
    rw [hv]
    refine hK1 _ _ ?_
    go_wp2_with fail
    go_ret
    exact ⟨rfl, B6.trans (b9.mono B6.size)⟩
end Go.Proofs.YtbolfkigiachlaaDoor

/-
  From the cards' premise to the program's tables of sha and of math/bits. Own work.
-/
namespace Go.Proofs.YtbolfkigiachlaaDoor
open Go.RowKit Go.ChangeShapes Go.WideShapes
theorem gStart : Tryd.prog.globalNamed "intaglio/sha.start" = some 2 := by kernel_rfl
theorem gRoots : Tryd.prog.globalNamed "intaglio/sha.roots" = some 3 := by kernel_rfl
theorem gDb64 : Tryd.prog.globalNamed "math/bits.deBruijn64tab" = some 1 := by kernel_rfl
theorem tStart : (Tryd.prog.globals[2]?).map (·.type) = some 86 := by kernel_rfl
theorem tRoots : (Tryd.prog.globals[3]?).map (·.type) = some 65 := by kernel_rfl
theorem tDb64 : (Tryd.prog.globals[1]?).map (·.type) = some 85 := by kernel_rfl
def laid4 : List (String × DataW Unit) := [("math/bits.deBruijn32tab", Rows.laid_math_bits_deBruijn32tab), ("math/bits.deBruijn64tab", Rows.laid_math_bits_deBruijn64tab), ("intaglio/sha.start", Rows.laid_intaglio_sha_start), ("intaglio/sha.roots", Rows.laid_intaglio_sha_roots)]
set_option maxRecDepth 100000 in
theorem tb4_of_laid {W : World} (h : laidMetH Tryd.prog laid4 W) : Tb4 W := by
  rw [MakeChecks.laidMetH_plain _ _ _ (by kernel_rfl)] at h
  obtain ⟨ps, ⟨g2, t2, cs2, f2, p2, q2, hg2, ht2, hv2, hd2, ⟨g3, t3, cs3, f3, p3, q3, hg3, ht3, hv3, hd3, ⟨g0, t0, cs0, f0, p0, q0, hg0, ht0, hv0, hd0, ⟨g1, t1, cs1, f1, p1, q1, hg1, ht1, hv1, hd1, _, _⟩, _⟩, _⟩, _⟩, _, _⟩ := h
  obtain rfl := Option.some.inj (gStart.symm.trans hg0)
  obtain rfl := Option.some.inj (gRoots.symm.trans hg1)
  obtain rfl := Option.some.inj (gDb64.symm.trans hg3)
  obtain rfl := Option.some.inj (tStart.symm.trans ht0)
  obtain rfl := Option.some.inj (tRoots.symm.trans ht1)
  obtain rfl := Option.some.inj (tDb64.symm.trans ht3)
  have e0 : cs0.toList = startL.map fun z => Value.int .u32 z := Lib.cells_of_tab (zs := startL) (k := .u32) Tryd.underlying86 Tryd.underlying64 (by kernel_rfl) (by kernel_rfl) hd0
  have e1 : cs1.toList = rootsL.map fun z => Value.int .u32 z := Lib.cells_of_tab (zs := rootsL) (k := .u32) Tryd.underlying65 Tryd.underlying64 (by kernel_rfl) (by kernel_rfl) hd1
  have e3 : cs3.toList = (Lib.deBruijn64tab.map fun (z : Nat) => (z : Int)).map fun z => Value.int .u8 z := Lib.cells_of_tab (zs := Lib.deBruijn64tab.map fun (z : Nat) => (z : Int)) (k := .u8) Tryd.underlying85 Tryd.underlying5 (by kernel_rfl) (by kernel_rfl) hd3
  have b0 : 2 < W.heap.size := block_lt_of_cell (v := .int .u32 (startL.getD 0 0)) (by rw [World.var?_cell hg0 hv0 0, ← Array.getElem?_toList, e0]; rfl)
  have b1 : 3 < W.heap.size := block_lt_of_cell (v := .int .u32 (rootsL.getD 0 0)) (by rw [World.var?_cell hg1 hv1 0, ← Array.getElem?_toList, e1]; rfl)
  have b3 : 1 < W.heap.size := block_lt_of_cell (v := .int .u8 0) (by rw [World.var?_cell hg3 hv3 0, ← Array.getElem?_toList, e3]; rfl)
  refine ⟨⟨by omega, fun j hj => ?_, fun j hj => ?_⟩, b3, fun j hj => ?_⟩
  · rw [World.var?_cell hg0 hv0 j, ← Array.getElem?_toList, e0]
    simp [List.getD, show j < startL.length from hj]
  · rw [World.var?_cell hg1 hv1 j, ← Array.getElem?_toList, e1]
    simp [List.getD, show j < rootsL.length from hj]
  · rw [World.var?_cell hg3 hv3 j, ← Array.getElem?_toList, e3]
    simp [List.getD, show j < Lib.deBruijn64tab.length from hj]
end Go.Proofs.YtbolfkigiachlaaDoor

/-
  The law TreeSums, and what the laws ask of chunks: contracts. Own work.
-/
namespace Go.Proofs.YtbolfkigiachlaaDoor
open Go.RowKit Tr
def STs (xa xb LF ND : List Int) (A : Option Addr) (m c ga gb : Nat) (opn : Nat) (v : Value) : Prop :=
  match opn with
  | 0 | 2 => v = .slice A m c
  | 1 | 3 => v = .agg (bv LF).toArray
  | 4 | 5 | 12 | 13 | 14 | 15 | 16 | 17 => v = .bool true
  | 6 | 9 => v = .agg (bv xa).toArray
  | 7 | 10 => v = .agg (bv xb).toArray
  | 8 | 11 => v = .agg (bv ND).toArray
  | _ => True

set_option maxRecDepth 100000 in
set_option maxHeartbeats 2000000 in
theorem treeSums_any (xs xa xb : List Int) (A : Option Addr) (m c : Nat) (w : World) (hT : Tb4 w) (hx : Bs w w.heap.size A m xs) (hby : IsBy xs) (ha : xa.length = 32) (hb : xb.length = 32) (hab : IsBy xa) (hbb : IsBy xb) :
    Calls Tryd.prog 3 #[.slice A m c, .agg (bv xa).toArray, .agg (bv xb).toArray] w fun e w' => e = .returned (.bool true) ∧ Below w.heap.size w w' := by
  by_cases h2 : (2000 : Int) < (m : Int)
  · have hd : decide ((2000 : Int) < (m : Int)) = true := by simp; omega
    go_enter Tryd.func3, Tryd.ntmps3
    go_wp2_with (first
      | (with_reducible refine wl_box (o := ⟨some 4, _, _, _, _, _⟩) rfl 23 _ (.agg (bv xa).toArray) (bv xa) rfl rfl rfl ?_; intro g2 w2 r2 p2 l2 b2)
      | (with_reducible refine wl_box (o := ⟨some 5, _, _, _, _, _⟩) rfl 23 _ (.agg (bv xb).toArray) (bv xb) rfl rfl rfl ?_; intro g3 w3 r3 p3 l3 b3))
    have B3 := b2.trans (b3.mono b2.size)
    refine (tawake_any w3 (hT.later B3)).mono ?_
    rintro e w4 ⟨rfl, b4⟩
    go_wp2_with fail
    go_ret
    exact ⟨rfl, B3.trans (b4.mono B3.size)⟩
  · have hd : decide ((2000 : Int) < (m : Int)) = false := by simp; omega
    have hm : m ≤ 2000 := by omega
    have H1 : ∀ w0, Below w.heap.size w w0 → ∀ w1, Below w0.heap.size w0 w1 → Calls Tryd.prog 11 #[.slice A m c] w1 fun e w' => e = .returned (.agg (bv (leafS xs)).toArray) ∧ Below w1.heap.size w1 w' := fun w0 b0 w1 b1 => leaf_any xs A m c w1 ((hT.later b0).later b1).1 ((hx.later b0).later b1) hby (by omega)
    have H2 : ∀ w0, Below w.heap.size w w0 → ∀ w1, Below w0.heap.size w0 w1 → Calls Tryd.prog 12 #[.slice A m c] w1 fun e w' => e = .returned (.agg (bv (leafS xs)).toArray) ∧ Below w1.heap.size w1 w' := fun w0 b0 w1 b1 => rleaf_any xs A m c w1 ((hx.later b0).later b1) hby (by omega)
    have H3 : ∀ w0, Below w.heap.size w w0 → ∀ w1, Below w0.heap.size w0 w1 → Calls Tryd.prog 13 #[.agg (bv xa).toArray, .agg (bv xb).toArray] w1 fun e w' => e = .returned (.agg (bv (nodeS xa xb)).toArray) ∧ Below w1.heap.size w1 w' := fun w0 b0 w1 b1 => node_any xa xb w1 ((hT.later b0).later b1).1 ha hb hab hbb
    have H4 : ∀ w0, Below w.heap.size w w0 → ∀ w1, Below w0.heap.size w0 w1 → Calls Tryd.prog 14 #[.agg (bv xa).toArray, .agg (bv xb).toArray] w1 fun e w' => e = .returned (.agg (bv (nodeS xa xb)).toArray) ∧ Below w1.heap.size w1 w' := fun w0 b0 w1 b1 => rnode_any xa xb w1 ha hb hab hbb
    have H5 : ∀ w0, Below w.heap.size w w0 → ∀ w1, Below w0.heap.size w0 w1 → Calls Tryd.prog 10 #[] w1 fun e w' => e = .returned (.bool true) ∧ Below w1.heap.size w1 w' := fun w0 b0 w1 b1 => tawake_any w1 ((hT.later b0).later b1)
    have hl32 := leafS_len xs
    have hn32 := nodeS_len xa xb
    have za := hide (size32b ha)
    have zb := hide (size32b hb)
    clear hby hab hbb
    generalize leafS xs = LF at *
    generalize nodeS xa xb = ND at *
    go_enter Tryd.func3, Tryd.ntmps3
    go_wp2_with (first
      | (with_reducible refine wl_box (o := ⟨some 4, _, _, _, _, _⟩) rfl 23 _ (.agg (bv xa).toArray) (bv xa) rfl rfl rfl ?_; intro ga w2 ra p2 l2 b2)
      | (with_reducible refine wl_box (o := ⟨some 5, _, _, _, _, _⟩) rfl 23 _ (.agg (bv xb).toArray) (bv xb) rfl rfl rfl ?_; intro gb w3 rb p3 l3 b3; have ra2 := ra.later b3))
    have B3 := b2.trans (b3.mono b2.size)
    replace H1 := H1 w3 B3
    replace H2 := H2 w3 B3
    replace H3 := H3 w3 B3
    replace H4 := H4 w3 B3
    replace H5 := H5 w3 B3
    clear ra b2 b3 hx hT
    have ra := ra2
    rename_i K1 hK1
    refine wp_region_valsG [1, 3, 8, 11, 15] (STs xa xb LF ND A m c ga gb) (JR w3) (by kernel_rfl) (by kernel_rfl) (by kernel_rfl) (by kernel_rfl) (Below.refl _ _).drew ?obs ?he
    case obs =>
      refine ⟨?_, ?_, ?_, ?_, ?_, ?_, ?_, ?_, ?_, ?_, ?_, ?_, ?_, ?_, ?_, ?_, ?_, ?_, trivial⟩
      · refine ⟨.inl rfl, ?_⟩
        exact .inl ⟨by kernel_rfl, fun L a1 w1 n h => ⟨_, rfl, run_move (.tmp 0) rfl (h.var n 0 (by kernel_rfl))⟩⟩
      · refine ⟨.inl rfl, ?_⟩
        refine .inr fun L a1 w1 n h K hK => ?_
        have e0 : a1.eval (.tmp 11) = .slice A m c := h.dep n 0 11 (by kernel_rfl) rfl
        refine st_call 11 _ _ #[.slice A m c] rfl Tryd.call11 ?_ (H1 w1 h.inv) ?_
        · simp only [List.map_toArray, List.map_cons, List.map_nil, e0]
        · rintro e w3 ⟨rfl, b9⟩
          exact ⟨_, rfl, hK _ w3 rfl (h.inv.trans (b9.mono h.inv.size))⟩
      · refine ⟨.inl rfl, ?_⟩
        exact .inl ⟨by kernel_rfl, fun L a1 w1 n h => ⟨_, rfl, run_move (.tmp 0) rfl (h.var n 0 (by kernel_rfl))⟩⟩
      · refine ⟨.inl rfl, ?_⟩
        refine .inr fun L a1 w1 n h K hK => ?_
        have e0 : a1.eval (.tmp 13) = .slice A m c := h.dep n 2 13 (by kernel_rfl) rfl
        refine st_call 12 _ _ #[.slice A m c] rfl Tryd.call12 ?_ (H2 w1 h.inv) ?_
        · simp only [List.map_toArray, List.map_cons, List.map_nil, e0]
        · rintro e w3 ⟨rfl, b9⟩
          exact ⟨_, rfl, hK _ w3 rfl (h.inv.trans (b9.mono h.inv.size))⟩
      · refine ⟨.inl rfl, ?_⟩
        exact .inl ⟨by kernel_rfl, fun L a1 w1 n h => ⟨_, rfl, run_eqlT (.tmp 12) (.tmp 14) rfl Tryd.underlying23 (Classical.choose_spec u8_info).1 (by kernel_rfl) Tryd.underlying5 Tryd.isAgg5 LF (h.dep n 1 12 (by kernel_rfl) rfl) (h.dep n 3 14 (by kernel_rfl) rfl) (hl32) (by kernel_rfl)⟩⟩
      · refine ⟨.inl rfl, ?_⟩
        exact .inl ⟨by kernel_rfl, fun L a1 w1 n h => ⟨_, rfl, run_move (.tmp 15) rfl (h.dep n 4 15 (by kernel_rfl) rfl)⟩⟩
      · refine ⟨.inr ⟨5, true, 16, rfl, by kernel_rfl, rfl, by simp, fun v h => h⟩, ?_⟩
        exact .inl ⟨by kernel_rfl, fun L a1 w1 n h => ⟨_, rfl, run_loadRow 23 (.tmp 4) ga 23 _ _ rfl (h.var n 4 (by kernel_rfl)) ((ra.later h.inv)) Tryd.underlying23 rfl (za.out)⟩⟩
      · refine ⟨.inr ⟨5, true, 16, rfl, by kernel_rfl, rfl, by simp, fun v h => h⟩, ?_⟩
        exact .inl ⟨by kernel_rfl, fun L a1 w1 n h => ⟨_, rfl, run_loadRow 23 (.tmp 5) gb 23 _ _ rfl (h.var n 5 (by kernel_rfl)) ((rb.later h.inv)) Tryd.underlying23 rfl (zb.out)⟩⟩
      · refine ⟨.inr ⟨5, true, 16, rfl, by kernel_rfl, rfl, by simp, fun v h => h⟩, ?_⟩
        refine .inr fun L a1 w1 n h K hK => ?_
        have e0 : a1.eval (.tmp 17) = .agg (bv xa).toArray := h.dep n 6 17 (by kernel_rfl) rfl
        have e1 : a1.eval (.tmp 18) = .agg (bv xb).toArray := h.dep n 7 18 (by kernel_rfl) rfl
        refine st_call 13 _ _ #[.agg (bv xa).toArray, .agg (bv xb).toArray] rfl Tryd.call13 ?_ (H3 w1 h.inv) ?_
        · simp only [List.map_toArray, List.map_cons, List.map_nil, e0, e1]
        · rintro e w3 ⟨rfl, b9⟩
          exact ⟨_, rfl, hK _ w3 rfl (h.inv.trans (b9.mono h.inv.size))⟩
      · refine ⟨.inr ⟨5, true, 16, rfl, by kernel_rfl, rfl, by simp, fun v h => h⟩, ?_⟩
        exact .inl ⟨by kernel_rfl, fun L a1 w1 n h => ⟨_, rfl, run_loadRow 23 (.tmp 4) ga 23 _ _ rfl (h.var n 4 (by kernel_rfl)) ((ra.later h.inv)) Tryd.underlying23 rfl (za.out)⟩⟩
      · refine ⟨.inr ⟨5, true, 16, rfl, by kernel_rfl, rfl, by simp, fun v h => h⟩, ?_⟩
        exact .inl ⟨by kernel_rfl, fun L a1 w1 n h => ⟨_, rfl, run_loadRow 23 (.tmp 5) gb 23 _ _ rfl (h.var n 5 (by kernel_rfl)) ((rb.later h.inv)) Tryd.underlying23 rfl (zb.out)⟩⟩
      · refine ⟨.inr ⟨5, true, 16, rfl, by kernel_rfl, rfl, by simp, fun v h => h⟩, ?_⟩
        refine .inr fun L a1 w1 n h K hK => ?_
        have e0 : a1.eval (.tmp 20) = .agg (bv xa).toArray := h.dep n 9 20 (by kernel_rfl) rfl
        have e1 : a1.eval (.tmp 21) = .agg (bv xb).toArray := h.dep n 10 21 (by kernel_rfl) rfl
        refine st_call 14 _ _ #[.agg (bv xa).toArray, .agg (bv xb).toArray] rfl Tryd.call14 ?_ (H4 w1 h.inv) ?_
        · simp only [List.map_toArray, List.map_cons, List.map_nil, e0, e1]
        · rintro e w3 ⟨rfl, b9⟩
          exact ⟨_, rfl, hK _ w3 rfl (h.inv.trans (b9.mono h.inv.size))⟩
      · refine ⟨.inr ⟨5, true, 16, rfl, by kernel_rfl, rfl, by simp, fun v h => h⟩, ?_⟩
        exact .inl ⟨by kernel_rfl, fun L a1 w1 n h => ⟨_, rfl, run_eqlT (.tmp 19) (.tmp 22) rfl Tryd.underlying23 (Classical.choose_spec u8_info).1 (by kernel_rfl) Tryd.underlying5 Tryd.isAgg5 ND (h.dep n 8 19 (by kernel_rfl) rfl) (h.dep n 11 22 (by kernel_rfl) rfl) (hn32) (by kernel_rfl)⟩⟩
      · refine ⟨.inl rfl, ?_⟩
        exact .inl ⟨by kernel_rfl, fun L a1 w1 n h => ⟨_, rfl, run_pickT (.tmp 16) _ _ rfl (h.dep n 5 16 (by kernel_rfl) rfl) (h.dep n 12 23 (by kernel_rfl) rfl)⟩⟩
      · refine ⟨.inl rfl, ?_⟩
        exact .inl ⟨by kernel_rfl, fun L a1 w1 n h => ⟨_, rfl, run_move (.tmp 24) rfl (h.dep n 13 24 (by kernel_rfl) rfl)⟩⟩
      · refine ⟨.inr ⟨14, true, 25, rfl, by kernel_rfl, rfl, by simp, fun v h => h⟩, ?_⟩
        refine .inr fun L a1 w1 n h K hK => ?_
        refine st_call 10 _ _ #[] rfl Tryd.call10 ?_ (H5 w1 h.inv) ?_
        · simp
        · rintro e w3 ⟨rfl, b9⟩
          exact ⟨_, rfl, hK _ w3 rfl (h.inv.trans (b9.mono h.inv.size))⟩
      · refine ⟨.inl rfl, ?_⟩
        exact .inl ⟨by kernel_rfl, fun L a1 w1 n h => ⟨_, rfl, run_pickT (.tmp 25) _ _ rfl (h.dep n 14 25 (by kernel_rfl) rfl) (h.dep n 15 26 (by kernel_rfl) rfl)⟩⟩
      · refine ⟨.inl rfl, ?_⟩
        exact .inl ⟨by kernel_rfl, fun L a1 w1 n h => ⟨_, rfl, run_assign (.tmp 27) rfl (h.dep n 16 27 (by kernel_rfl) rfl)⟩⟩
    case he =>
      intro V w9 hV hJ
      have b9 : Below w3.heap.size w3 w9 := hJ
      have hv : V 17 = .bool true := hV 17 6 rfl
      clear hV hJ
      simp only [putOps, List.setIfInBounds_toArray, List.set_cons_succ, List.set_cons_zero, Nat.reduceAdd]
      rw [hv]
      refine hK1 _ _ ?_
      go_wp2_with fail
      go_ret
      exact ⟨rfl, B3.trans (b9.mono B3.size)⟩
/-- Are chunks few and short? -/
def lightB (css : List (List Int)) : Bool := decide (css.length ≤ 24) && css.all fun xs => decide (xs.length ≤ 200)
theorem light_len {css : List (List Int)} (h : lightB css = true) : css.length ≤ 24 ∧ ∀ xs ∈ css, xs.length ≤ 200 := by
  unfold lightB at h
  simp at h
  exact h
set_option maxRecDepth 100000 in
set_option maxHeartbeats 1000000 in
theorem light_any (css : List (List Int)) (A : Option Addr) (n c : Nat) (w : World) (hx : Bss w w.heap.size A n css) : Calls Tryd.prog 15 #[.slice A n c] w fun e w' => e = .returned (.bool (lightB css)) ∧ w = w' := by
  have hlen := hx.1
  obtain ⟨lb, hlb⟩ : ∃ lb, lb = lightB css := ⟨_, rfl⟩
  rw [← hlb]
  by_cases h24 : (24 : Int) < (n : Int)
  · have hd : decide ((24 : Int) < (n : Int)) = true := by simp; omega
    have hv : lb = false := by rw [hlb]; unfold lightB; rw [show decide (css.length ≤ 24) = false by simp; omega]; rfl
    have HV := hide hv
    clear hlb hv hx
    go_enter Tryd.func15, Tryd.ntmps15
    go_wp2_with fail
    go_ret
    exact ⟨by rw [HV.out]; rfl, rfl⟩
  · have hd : decide ((24 : Int) < (n : Int)) = false := by simp; omega
    have hlb' : lb = css.all fun xs => decide (xs.length ≤ 200) := by rw [hlb]; unfold lightB; rw [show decide (css.length ≤ 24) = true by simp; omega, Bool.true_and]
    have HB := hide hlb'
    clear hlb hlb'
    go_enter Tryd.func15, Tryd.ntmps15
    go_wp2_with fail
    go_loopw [3] (fun iv wr => ∃ i : Nat, i ≤ n ∧ iv = .int .i64 i ∧ (∀ j, j < i → (css.getD j []).length ≤ 200) ∧ w = wr) (fun iv _ => n - (intOf iv).toNat)
    case atStart => exact ⟨0, Nat.zero_le _, rfl, fun j hj => absurd hj (by omega), rfl⟩
    case round =>
      obtain ⟨i, hi, rfl, hall, rfl⟩ := hrel
      by_cases hlt : i < n
      · obtain ⟨b, o, rfl, hbB, hcx⟩ := hx.2 (by omega)
        obtain ⟨A', n', c', hcell, hbi⟩ := hcx i hlt
        have hd1 : decide ((i : Int) < (n : Int)) = true := by simp; omega
        have hl' := hbi.1
        by_cases h200 : (200 : Int) < (n' : Int)
        · have hd2 : decide ((200 : Int) < (n' : Int)) = true := by simp; omega
          have hv : lb = false := by
            rw [HB.out, List.all_eq_false]
            refine ⟨css.getD i [], ?_, fun h => absurd (of_decide_eq_true h) (by omega)⟩
            rw [List.getD, List.getElem?_eq_getElem (show i < css.length by omega)]
            exact List.getElem_mem _
          have HV := hide hv
          clear hv hcx hall hbi HB hl'
          go_wp2_with fail
          go_ret
          exact ⟨by rw [HV.out]; rfl, rfl⟩
        · have hd2 : decide ((200 : Int) < (n' : Int)) = false := by simp; omega
          have hall' : ∀ j, j < i + 1 → (css.getD j []).length ≤ 200 := fun j hj => by
            by_cases h : j < i
            · exact hall j h
            · obtain rfl : j = i := by omega
              omega
          clear hcx hbi hl' hall
          go_wp2_with fail
          go_roundw
          case rel => exact ⟨i + 1, by omega, by go_num, hall', trivial⟩
          case measure => simp [intOf]; omega
      · have hd1 : decide ((i : Int) < (n : Int)) = false := by simp; omega
        have hv : lb = true := by
          rw [HB.out, List.all_eq_true]
          intro xs hxs
          obtain ⟨j, hj⟩ := List.getElem?_of_mem hxs
          have hjn := (List.getElem?_eq_some_iff.1 hj).1
          have := hall j (by omega)
          rw [List.getD, hj] at this
          simpa using this
        have HV := hide hv
        clear hv hall HB
        go_wp2_with fail
        go_ret
        exact ⟨by rw [HV.out]; rfl, rfl⟩
end Go.Proofs.YtbolfkigiachlaaDoor
