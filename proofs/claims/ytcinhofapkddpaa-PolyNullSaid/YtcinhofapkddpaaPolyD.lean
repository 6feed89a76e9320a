/-
  Poly: a sum of numbers of three words: contract. Own work.
-/
import Derived.Test.YtcinhofapkddpaaPolyC
import Derived.Test.YtcinhofapkddpaaBut
import Derived.Test.YtcinhofapkddpaaPolyM
namespace Go.Proofs.Ytcinhofapkddpaa
open Go.RowKit
set_option linter.unusedVariables false
set_option linter.unusedSimpArgs false
theorem run_callX {P : Program} {o : Oper} {a : Act} {w : World} {v : Value} (f : FuncId) (args : Array Operand) (ats : Array TypeId) (vals : Array Value) (ho : o.op = .call { callee := .value (.func f), args := args, argTypes := ats }) (hv : args.map a.eval = vals)
    (hr : (callFunc f vals).run P w = .ok (.value v) w) : (execOp a.eval o).run P w = .ok (.value v) w := by
  unfold execOp
  simp only [ho, resolve, hv]
  go_simp
/-- What is carried to place p. -/
def cr (p X Y : Nat) : Nat := (X % p + Y % p) / p
theorem wd_lt {M p X : Nat} (hM : 0 < M) : wd M p X < M := Nat.mod_lt _ hM
theorem cr_le {p X Y : Nat} (hp : 0 < p) : cr p X Y ≤ 1 := by
  have h1 := Nat.mod_lt X hp
  have h2 := Nat.mod_lt Y hp
  unfold cr
  have : X % p + Y % p < p * 2 := by omega
  have := Nat.div_lt_of_lt_mul this
  omega
theorem add_split {p X Y : Nat} (hp : 0 < p) : (X + Y) / p = X / p + Y / p + cr p X Y := by
  have hx := Nat.div_add_mod X p
  have hy := Nat.div_add_mod Y p
  have e : X + Y = p * (X / p + Y / p) + (X % p + Y % p) := by rw [Nat.mul_add]; omega
  unfold cr
  conv => lhs; rw [e]
  rw [Nat.mul_add_div hp]
theorem wd_add {M p X Y : Nat} (hp : 0 < p) : (wd M p X + wd M p Y + cr p X Y) % M = wd M p (X + Y) := by
  unfold wd
  rw [add_split hp]
  simp [Nat.add_mod]
theorem cr_next {M p X Y : Nat} (hp : 0 < p) (hM : 0 < M) : (wd M p X + wd M p Y + cr p X Y) / M = cr (p * M) X Y := by
  have e1 : X % (p * M) = X % p + p * wd M p X := Nat.mod_mul
  have e2 : Y % (p * M) = Y % p + p * wd M p Y := Nat.mod_mul
  unfold cr
  rw [← Nat.div_div_eq_div_mul, e1, e2]
  congr 1
  rw [show X % p + p * wd M p X + (Y % p + p * wd M p Y) = p * (wd M p X + wd M p Y) + (X % p + Y % p) from by rw [Nat.mul_add]; omega, Nat.mul_add_div hp]
def nb (X : Nat) : List Value := [.int .u64 (nW X 0 : Int), .int .u64 (nW X 1 : Int), .int .u64 (nW X 2 : Int)]
/-- A sum's first i words, and the first number's others. -/
def nbP (X Y i : Nat) : List Value := (List.range 3).map fun j => .int .u64 ((if j < i then nW (X + Y) j else nW X j : Nat) : Int)
theorem nbP_0 (X Y : Nat) : nbP X Y 0 = nb X := rfl
theorem nbP_3 (X Y : Nat) : nbP X Y 3 = nb (X + Y) := rfl
theorem nbP_get {X Y i : Nat} (hi : i < 3) : (nbP X Y i)[i]? = some (.int .u64 (nW X i : Int)) := by
  have : i = 0 ∨ i = 1 ∨ i = 2 := by omega
  rcases this with rfl | rfl | rfl <;> rfl
theorem nb_get {X i : Nat} (hi : i < 3) : (nb X)[i]? = some (.int .u64 (nW X i : Int)) := by
  have : i = 0 ∨ i = 1 ∨ i = 2 := by omega
  rcases this with rfl | rfl | rfl <;> rfl
theorem nbP_set {X Y i : Nat} (hi : i < 3) : (nbP X Y i).set i (.int .u64 (nW (X + Y) i : Int)) = nbP X Y (i + 1) := by
  have : i = 0 ∨ i = 1 ∨ i = 2 := by omega
  rcases this with rfl | rfl | rfl <;> rfl
def cN (X Y i : Nat) : Nat := cr (18446744073709551616 ^ i) X Y
theorem cN_0 (X Y : Nat) : cN X Y 0 = 0 := by simp [cN, cr, Nat.mod_one]
theorem cN_le (X Y i : Nat) : cN X Y i ≤ 1 := cr_le (Nat.pow_pos (by decide))
theorem nW_add (X Y i : Nat) : (nW X i + nW Y i + cN X Y i) % 18446744073709551616 = nW (X + Y) i := wd_add (Nat.pow_pos (by decide))
theorem cN_next (X Y i : Nat) : (nW X i + nW Y i + cN X Y i) / 18446744073709551616 = cN X Y (i + 1) := by
  unfold cN
  rw [Nat.pow_succ]
  exact cr_next (Nat.pow_pos (by decide)) (by decide)
theorem sizeNb (X : Nat) : (Try.prog.info? 46).map (·.size) = some (nb X).length := by kernel_rfl
theorem oneNb (X : Nat) : ∀ u ∈ nb X, u.oneCell' = true := by
  intro u hu
  simp only [nb, List.mem_cons, List.not_mem_nil, or_false] at hu
  rcases hu with rfl | rfl | rfl <;> rfl
def JPl (w0 : World) (g : Nat) (cur new : List Value) (bs : List Bool) (vs : List Value) (w : World) : Prop :=
  (bs.getD 0 false = false → Row w 46 g cur) ∧ (bs.getD 0 false = true → Row w 46 g new) ∧ But g w0 w
def SPl (g2 g3 i x y c s k : Nat) (opn : Nat) (v : Value) : Prop :=
  match opn with
  | 0 | 1 | 4 => v = .int .i64 (i : Int)
  | 2 | 12 => v = .pointer (some ⟨g2, i, none⟩)
  | 3 => v = .int .u64 (x : Int)
  | 5 => v = .pointer (some ⟨g3, i, none⟩)
  | 6 => v = .int .u64 (y : Int)
  | 7 => v = .int .u64 (c : Int)
  | 8 | 9 => v = .tuple #[.int .u64 (s : Int), .int .u64 (k : Int)]
  | 10 => v = .int .u64 (s : Int)
  | 11 | 14 => v = .int .u64 (k : Int)
  | _ => True
set_option maxRecDepth 100000 in
set_option maxHeartbeats 2000000 in
theorem plus_any (X Y : Nat) (w : World) :
    Calls Try.prog 30 #[.agg (nb X).toArray, .agg (nb Y).toArray] w fun e w' => e = .returned (.agg (nb (X + Y)).toArray) ∧ Below w.heap.size w w' := by
  go_enter Try.func30, Try.ntmps30
  go_wp2_with (first
    | (with_reducible refine wl_box rfl 46 (.tmp 0) _ (nb X) rfl rfl rfl ?_; intro g2 w1 r1 a1 l1 b1)
    | (with_reducible refine wl_box rfl 46 (.tmp 1) _ (nb Y) rfl rfl rfl ?_; intro g3 w2 r2 a2 l2 b2)
    | (with_reducible refine wl_alloc rfl 46 _ (n3 0 0 0) rfl zeroN3 rfl ?_; intro g4 w3 r3 a3 l3 b3))
  have R1 := (r1.later b2).later b3
  have R2 := r2.later b3
  have hne : g3 ≠ g2 := by omega
  have hne4 : g4 ≠ g2 := by have := b2.size; omega
  have B3 := (b1.trans (b2.mono b1.size)).trans (b3.mono (Nat.le_trans b1.size b2.size))
  have hgw : w.heap.size ≤ g2 := a1
  have hgw4 : w.heap.size ≤ g4 := by have := b2.size; have := b1.size; omega
  clear r1 r2 b1 b2 b3 a1 a2 a3 l1 l2 l3
  go_loopw [5, 7] (fun cv iv wr => ∃ i : Nat, i ≤ 3 ∧ iv = .int .i64 i ∧ cv = .int .u64 (cN X Y i : Int) ∧ Row wr 46 g2 (nbP X Y i) ∧ But g2 w3 wr) (fun _ iv _ => 3 - (intOf iv).toNat)
  case atStart => exact ⟨0, by omega, rfl, by rw [cN_0]; rfl, R1, But.refl _ _⟩
  case round =>
    clear R1
    obtain ⟨i, hi3, rfl, rfl, rr, bx⟩ := hrel
    by_cases hi : i < 3
    · go_wp2_with fail
      have rY := R2.but bx hne
      have cX := nbP_get (X := X) (Y := Y) hi
      have cY := nb_get (X := Y) hi
      have hset := nbP_set (X := X) (Y := Y) hi
      have RA := add64_run (nW X i) (nW Y i) (cN X Y i) (cN_le X Y i)
      rw [nW_add, cN_next] at RA
      have hcl : i < (nbP X Y i).length := hi
      generalize hx : nW X i = x at *
      generalize hy : nW Y i = y at *
      generalize hs : nW (X + Y) i = s at *
      generalize hc : cN X Y i = c at *
      generalize hk : cN X Y (i + 1) = k at *
      generalize nbP X Y i = cur at *
      rename_i Q1 K1 hK1
      refine wp_region_vals [13] (SPl g2 g3 i x y c s k) (JPl wr g2 cur (nbP X Y (i + 1))) (by kernel_rfl) (by kernel_rfl) (by kernel_rfl) (by kernel_rfl) (by kernel_rfl) ⟨fun _ => rr, fun h => absurd h (by decide), (But.refl _ _).drew⟩ ?obs ?he
      case obs =>
        refine ⟨?_, ?_, ?_, ?_, ?_, ?_, ?_, ?_, ?_, ?_, ?_, ?_, ?_, ?_, ?_, trivial⟩
        · exact .inl ⟨by kernel_rfl, fun L a1 w1 n h => ⟨_, rfl, run_move (.tmp 6) rfl (h.var n 6 (by kernel_rfl))⟩⟩
        · exact .inl ⟨by kernel_rfl, fun L a1 w1 n h => ⟨_, rfl, run_move (.tmp 6) rfl (h.var n 6 (by kernel_rfl))⟩⟩
        · exact .inl ⟨by kernel_rfl, fun L a1 w1 n h => ⟨_, rfl, run_index0 46 (.tmp 2) (.tmp 12) 3 42 g2 i rfl Try.underlying46 Try.sizeOf42 (h.var n 2 (by kernel_rfl)) (h.dep n 1 12 (by kernel_rfl) rfl) hi⟩⟩
        · exact .inl ⟨by kernel_rfl, fun L a1 w1 n h => ⟨_, rfl, run_loadA 42 (.tmp 13) ⟨g2, i, none⟩ rfl Try.isAgg42 (h.dep n 2 13 (by kernel_rfl) rfl) ((h.inv.1 (n.later (by kernel_rfl))).cell cX)⟩⟩
        · exact .inl ⟨by kernel_rfl, fun L a1 w1 n h => ⟨_, rfl, run_move (.tmp 6) rfl (h.var n 6 (by kernel_rfl))⟩⟩
        · exact .inl ⟨by kernel_rfl, fun L a1 w1 n h => ⟨_, rfl, run_index0 46 (.tmp 3) (.tmp 15) 3 42 g3 i rfl Try.underlying46 Try.sizeOf42 (h.var n 3 (by kernel_rfl)) (h.dep n 4 15 (by kernel_rfl) rfl) hi⟩⟩
        · exact .inl ⟨by kernel_rfl, fun L a1 w1 n h => ⟨_, rfl, run_loadA 42 (.tmp 16) ⟨g3, i, none⟩ rfl Try.isAgg42 (h.dep n 5 16 (by kernel_rfl) rfl) ((rY.but h.inv.2.2 hne).cell cY)⟩⟩
        · exact .inl ⟨by kernel_rfl, fun L a1 w1 n h => ⟨_, rfl, run_move (.tmp 5) rfl (h.var n 5 (by kernel_rfl))⟩⟩
        · refine .inl ⟨by kernel_rfl, fun L a1 w1 n h => ⟨_, rfl, ?_⟩⟩
          refine run_callX 40 _ _ #[.int .u64 (x : Int), .int .u64 (y : Int), .int .u64 (c : Int)] rfl ?_ (RA w1)
          have e0 : a1.eval (.tmp 14) = _ := h.dep n 3 14 (by kernel_rfl) rfl
          have e1 : a1.eval (.tmp 17) = _ := h.dep n 6 17 (by kernel_rfl) rfl
          have e2 : a1.eval (.tmp 18) = _ := h.dep n 7 18 (by kernel_rfl) rfl
          simp only [List.map_toArray, List.map_cons, List.map_nil, e0, e1, e2]
        · exact .inl ⟨by kernel_rfl, fun L a1 w1 n h => ⟨_, rfl, run_move (.tmp 19) rfl (h.dep n 8 19 (by kernel_rfl) rfl)⟩⟩
        · exact .inl ⟨by kernel_rfl, fun L a1 w1 n h => ⟨_, rfl, run_extractA (.tmp 10) 0 _ rfl (h.dep n 9 10 (by kernel_rfl) rfl) rfl⟩⟩
        · exact .inl ⟨by kernel_rfl, fun L a1 w1 n h => ⟨_, rfl, run_extractA (.tmp 10) 1 _ rfl (h.dep n 9 10 (by kernel_rfl) rfl) rfl⟩⟩
        · exact .inl ⟨by kernel_rfl, fun L a1 w1 n h => ⟨_, rfl, run_index0 46 (.tmp 2) (.tmp 11) 3 42 g2 i rfl Try.underlying46 Try.sizeOf42 (h.var n 2 (by kernel_rfl)) (h.dep n 0 11 (by kernel_rfl) rfl) hi⟩⟩
        · refine .inr fun L a1 w1 n h K hK => ?_
          have no : L.getD 13 false = false := n.not_yet
          refine st_store 42 (.tmp 22) (.tmp 20) g2 i 46 cur (.int .u64 (s : Int)) rfl (by kernel_rfl) (h.dep n 12 22 (by kernel_rfl) rfl) (h.dep n 10 20 (by kernel_rfl) rfl) (h.inv.1 no) hcl rfl ?_
          intro w3 r3 o3
          rw [hset] at r3
          exact hK undef w3 trivial ⟨fun h1 => absurd (show true = false from h1) (by decide), fun _ => r3, h.inv.2.2.trans (But.only o3)⟩
        · exact .inl ⟨by kernel_rfl, fun L a1 w1 n h => ⟨_, rfl, run_assign (.tmp 21) rfl (h.dep n 11 21 (by kernel_rfl) rfl)⟩⟩
      case he =>
        intro V w5 hV hJ
        have r5 := hJ.2.1 rfl
        have bx5 := bx.trans hJ.2.2
        have h14 : V 14 = .int .u64 (k : Int) := hV 14 5 rfl
        clear hV hJ
        simp only [putOps, List.setIfInBounds_toArray, List.set_cons_succ, List.set_cons_zero]
        rw [h14]
        refine hK1 _ _ ?_
        go_wp2
        go_roundw
        case rel => exact ⟨i + 1, by omega, by go_num, by rw [hk], r5, bx5⟩
        case measure => simp [intOf]; omega
    · have rE : Row wr 46 g2 (nb (X + Y)) := by rw [show i = 3 from by omega] at rr; exact rr
      have r4 := r3.but bx hne4
      go_wp2_with (first
        | (with_reducible refine wl_load_row rfl 46 (.tmp 2) g2 46 _ _ rfl rfl rE Try.underlying46 rfl (sizeNb _) ?_)
        | (with_reducible refine wl_store_row rfl 46 (.tmp 4) (.tmp 24) g4 46 _ (nb (X + Y)) rfl rfl rfl r4 (sizeNb _) rfl (oneNb _) ?_; intro w5 r5 o5))
      refine bodyPost_ret (v := .agg (nb (X + Y)).toArray) ?_ rfl ⟨rfl, ?_⟩
      · exact results_cell_row Try.results30 _ _ g4 46 _ (0, 0) _ rfl r5 Try.underlying46 rfl (by simpa using sizeNb (X + Y))
      · exact (B3.trans (bx.below hgw B3.size)).trans (o5.below hgw4)
end Go.Proofs.Ytcinhofapkddpaa
