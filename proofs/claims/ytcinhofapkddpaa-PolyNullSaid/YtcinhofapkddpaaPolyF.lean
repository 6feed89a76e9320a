/-
  Poly: a product, whole: contract. Own work.
-/
import Derived.Test.YtcinhofapkddpaaPolyE
namespace Go.Proofs.Ytcinhofapkddpaa
open Go.RowKit
set_option linter.unusedVariables false
set_option linter.unusedSimpArgs false
theorem mulAdd_det (x y a b : Nat) (hx : x < 18446744073709551616) (hy : y < 18446744073709551616) (ha : a < 18446744073709551616) (hb : b < 18446744073709551616) :
    ∃ H L : Nat, H * 18446744073709551616 + L = x * y + a + b ∧ H < 18446744073709551616 ∧ L < 18446744073709551616 ∧ ∀ w, Calls Try.prog 45 #[.int .u64 x, .int .u64 y, .int .u64 a, .int .u64 b] w fun e w' => e = .returned (.tuple #[.int .u64 (H : Int), .int .u64 (L : Int)]) ∧ w' = w := by
  generalize hS : x * y + a + b = S
  have hP : x * y ≤ 18446744073709551615 * 18446744073709551615 := Nat.mul_le_mul (by omega) (by omega)
  refine ⟨S / 18446744073709551616, S % 18446744073709551616, by omega, by omega, by omega, fun w => (mulAdd_any x y a b hx hy ha hb w).mono ?_⟩
  rintro e w' ⟨⟨H, L, rfl, h1, h2, h3⟩, rfl⟩
  rw [hS] at h1
  have e1 : H = S / 18446744073709551616 := by omega
  have e2 : L = S % 18446744073709551616 := by omega
  exact ⟨by rw [← e1, ← e2], rfl⟩
/-- The number of a list of words. -/
def vl (M : Nat) : List Nat → Nat
  | [] => 0
  | x :: xs => x + M * vl M xs
theorem vl_set (M : Nat) : ∀ (ws : List Nat) (k l : Nat), k < ws.length → vl M (ws.set k l) + ws.getD k 0 * M ^ k = vl M ws + l * M ^ k
  | [], k, l, h => absurd h (by simp)
  | x :: xs, 0, l, h => by simp [vl]; omega
  | x :: xs, k + 1, l, h => by
    have := vl_set M xs k l (by simpa using h)
    have e : ∀ z : Nat, z * M ^ (k + 1) = M * (z * M ^ k) := fun z => by rw [Nat.pow_succ, Nat.mul_comm (M ^ k) M, Nat.mul_left_comm]
    simp only [List.set_cons_succ, vl, List.getD_cons_succ, e, Nat.add_assoc, ← Nat.mul_add, this]
theorem vl_digit (M : Nat) (hM : 0 < M) : ∀ (ws : List Nat) (k : Nat), (∀ x ∈ ws, x < M) → k < ws.length → vl M ws / M ^ k % M = ws.getD k 0
  | [], k, _, h => absurd h (by simp)
  | x :: xs, 0, hb, h => by
    have := hb x (by simp)
    simp [vl, Nat.mod_eq_of_lt this]
  | x :: xs, k + 1, hb, h => by
    have hx := hb x (by simp)
    have := vl_digit M hM xs k (fun y hy => hb y (by simp [hy])) (by simpa using h)
    rw [Nat.pow_succ, Nat.mul_comm, ← Nat.div_div_eq_div_mul]
    simp only [vl, List.getD_cons_succ]
    rw [Nat.add_mul_div_left _ _ hM, Nat.div_eq_of_lt hx, Nat.zero_add, this]
def uL (ws : List Nat) : List Value := ws.map fun (x : Nat) => .int .u64 (x : Int)
theorem uL_len (ws : List Nat) : (uL ws).length = ws.length := by simp [uL]
theorem uL_get {ws : List Nat} {k : Nat} (h : k < ws.length) : (uL ws)[k]? = some (.int .u64 ((ws.getD k 0 : Nat) : Int)) := by
  simp [uL, List.getD, List.getElem?_eq_getElem h]
theorem uL_set (ws : List Nat) (k l : Nat) : (uL ws).set k (.int .u64 (l : Int)) = uL (ws.set k l) := by simp [uL, List.map_set]
/-- One step of the school method: A, what stood; x, the word of the one number; y, of the other; p = b q, the place. -/
theorem step_sum {M p q b x y o c H l V V' A B : Nat} (h1 : H * M + l = x * y + o + c) (h2 : V' + o * p = V + l * p) (h3 : V + c * p = A + x * B * q) (hp : p = b * q) : V' + H * (p * M) = A + x * (B + b * y) * q := by
  have e1 : (H * M + l) * p = (x * y + o + c) * p := by rw [h1]
  rw [Nat.add_mul, Nat.add_mul, Nat.add_mul] at e1
  have e2 : H * (p * M) = H * M * p := by rw [Nat.mul_comm p M, Nat.mul_assoc]
  have e3 : x * (B + b * y) * q = x * B * q + x * y * p := by
    rw [hp, Nat.mul_add, Nat.add_mul, Nat.mul_comm b y, ← Nat.mul_assoc x y b, Nat.mul_assoc (x * y) b q]
  rw [e2, e3]
  omega
def Out (M X R i : Nat) (ws : List Nat) : Prop := ws.length = 5 ∧ (∀ x ∈ ws, x < M) ∧ vl M ws = (X % M ^ i) * R ∧ ∀ k, i + 2 ≤ k → ws.getD k 0 = 0
def In (M X R i j c : Nat) (ws : List Nat) : Prop := ws.length = 5 ∧ (∀ x ∈ ws, x < M) ∧ vl M ws + c * M ^ (i + j) = (X % M ^ i) * R + wd M (M ^ i) X * (R % M ^ j) * M ^ i ∧ c < M ∧ ∀ k, i + 2 ≤ k → ws.getD k 0 = 0
theorem In.start {M X R i : Nat} {ws : List Nat} (hM : 0 < M) (h : Out M X R i ws) : In M X R i 0 0 ws := ⟨h.1, h.2.1, by rw [h.2.2.1]; simp [Nat.mod_one], hM, h.2.2.2⟩
theorem set_ok {M k l : Nat} {ws : List Nat} (h : ∀ x ∈ ws, x < M) (hl : l < M) : ∀ x ∈ ws.set k l, x < M := by
  intro x hx
  rcases List.mem_or_eq_of_mem_set hx with h1 | rfl
  · exact h x h1
  · exact hl
theorem getD_set_other {ws : List Nat} {k m l : Nat} (h : m ≠ k) : (ws.set m l).getD k 0 = ws.getD k 0 := by
  simp [List.getD, List.getElem?_set_ne h]
theorem In.step {M X R i j c H l : Nat} {ws : List Nat} (h : In M X R i j c ws) (hi : i < 3) (hj : j < 2) (h1 : H * M + l = wd M (M ^ i) X * wd M (M ^ j) R + ws.getD (i + j) 0 + c) (hH : H < M) (hl : l < M) : In M X R i (j + 1) H (ws.set (i + j) l) := by
  obtain ⟨h5, hb, hs, hc, hz⟩ := h
  refine ⟨by rw [List.length_set, h5], set_ok hb hl, ?_, hH, fun k hk => by rw [getD_set_other (by omega), hz k hk]⟩
  have := step_sum h1 (vl_set M ws (i + j) l (by omega)) hs (show M ^ (i + j) = M ^ j * M ^ i by rw [Nat.pow_add, Nat.mul_comm])
  rw [show M ^ (i + (j + 1)) = M ^ (i + j) * M from by rw [← Nat.add_assoc, Nat.pow_succ], this, show R % M ^ (j + 1) = R % M ^ j + M ^ j * wd M (M ^ j) R from by rw [Nat.pow_succ]; exact Nat.mod_mul]
theorem In.done {M X R i c : Nat} {ws : List Nat} (h : In M X R i 2 c ws) (hi : i < 3) (hR : R < M ^ 2) : Out M X R (i + 1) (ws.set (i + 2) c) := by
  obtain ⟨h5, hb, hs, hc, hz⟩ := h
  refine ⟨by rw [List.length_set, h5], set_ok hb hc, ?_, fun k hk => by rw [getD_set_other (by omega), hz k (by omega)]⟩
  have e := vl_set M ws (i + 2) c (by omega)
  rw [hz (i + 2) (Nat.le_refl _), Nat.zero_mul, Nat.add_zero, hs, Nat.mod_eq_of_lt hR] at e
  rw [e, show X % M ^ (i + 1) = X % M ^ i + M ^ i * wd M (M ^ i) X from by rw [Nat.pow_succ]; exact Nat.mod_mul, Nat.add_mul, Nat.mul_comm (M ^ i) (wd M (M ^ i) X), Nat.mul_right_comm]
def fb (R : Nat) : List Value := [.int .u64 (nW R 0 : Int), .int .u64 (nW R 1 : Int)]
theorem fb_get {R j : Nat} (hj : j < 2) : (fb R)[j]? = some (.int .u64 (nW R j : Int)) := by
  have : j = 0 ∨ j = 1 := by omega
  rcases this with rfl | rfl <;> rfl
theorem nW_lt (X i : Nat) : nW X i < 18446744073709551616 := Nat.mod_lt _ (by decide)
theorem zero5 : (Try.prog.info? 71).map (fun i => i.zero) = some (some (.agg (uL [0, 0, 0, 0, 0]).toArray)) := by kernel_rfl
theorem size5 {ws : List Nat} (h : ws.length = 5) : (Try.prog.info? 71).map (·.size) = some (uL ws).length := by rw [uL_len, h]; kernel_rfl
theorem oneU (ws : List Nat) : ∀ u ∈ uL ws, u.oneCell' = true := by
  intro u hu
  simp only [uL, List.mem_map] at hu
  obtain ⟨x, _, rfl⟩ := hu
  rfl
def JPr (w0 : World) (g : Nat) (cur new : List Value) (bs : List Bool) (vs : List Value) (w : World) : Prop :=
  (bs.getD 1 false = false → Row w 71 g cur) ∧ (bs.getD 1 false = true → Row w 71 g new) ∧ But g w0 w
def SPr (g2 g3 g5 i j x y o c H l : Nat) (opn : Nat) (v : Value) : Prop :=
  match opn with
  | 0 | 3 | 9 => v = .int .i64 (i : Int)
  | 1 | 6 | 10 => v = .int .i64 (j : Int)
  | 2 | 11 => v = .int .i64 ((i + j : Nat) : Int)
  | 4 => v = .pointer (some ⟨g2, i, none⟩)
  | 5 => v = .int .u64 (x : Int)
  | 7 => v = .pointer (some ⟨g3, j, none⟩)
  | 8 => v = .int .u64 (y : Int)
  | 12 | 20 => v = .pointer (some ⟨g5, (i + j), none⟩)
  | 13 => v = .int .u64 (o : Int)
  | 14 => v = .int .u64 (c : Int)
  | 15 | 16 => v = .tuple #[.int .u64 (H : Int), .int .u64 (l : Int)]
  | 17 | 19 => v = .int .u64 (H : Int)
  | 18 => v = .int .u64 (l : Int)
  | _ => True
set_option maxRecDepth 100000 in
set_option maxHeartbeats 3000000 in
theorem product_any (X R : Nat) (w : World) (hX : X < 18446744073709551616 ^ 3) (hR : R < 18446744073709551616 ^ 2) :
    Calls Try.prog 43 #[.agg (nb X).toArray, .agg (fb R).toArray] w fun e w' => (∃ ws, e = .returned (.agg (uL ws).toArray) ∧ ws.length = 5 ∧ (∀ x ∈ ws, x < 18446744073709551616) ∧ vl 18446744073709551616 ws = X * R) ∧ Below w.heap.size w w' := by
  have HX := hide hX
  have HR := hide hR
  have hO0 : Out 18446744073709551616 X R 0 [0, 0, 0, 0, 0] := ⟨rfl, by simp, by simp [vl, Nat.mod_one], fun k _ => by
    rcases Nat.lt_or_ge k 5 with h | h
    · have : k = 0 ∨ k = 1 ∨ k = 2 ∨ k = 3 ∨ k = 4 := by omega
      rcases this with rfl | rfl | rfl | rfl | rfl <;> rfl
    · simp [List.getD, List.getElem?_eq_none (show [0, 0, 0, 0, 0].length ≤ k from h)]⟩
  have HO0 := hide hO0
  clear hX hR hO0
  go_enter Try.func43, Try.ntmps43
  go_wp2_with (first
    | (with_reducible refine wl_box rfl 46 (.tmp 0) _ (nb X) rfl rfl rfl ?_; intro g2 w1 r1 a1 l1 b1)
    | (with_reducible refine wl_box rfl 44 (.tmp 1) _ (fb R) rfl rfl rfl ?_; intro g3 w2 r2 a2 l2 b2)
    | (with_reducible refine wl_alloc (o := ⟨some 4, _, _, _, _, _⟩) rfl 71 _ (uL [0, 0, 0, 0, 0]) rfl zero5 rfl ?_; intro g4 w3 r3 a3 l3 b3)
    | (with_reducible refine wl_alloc (o := ⟨some 5, _, _, _, _, _⟩) rfl 71 _ (uL [0, 0, 0, 0, 0]) rfl zero5 rfl ?_; intro g5 w4 r4 a4 l4 b4))
  have R1 := ((r1.later b2).later b3).later b4
  have R2 := (r2.later b3).later b4
  have R3 := r3.later b4
  have s1 := b1.size
  have s2 := b2.size
  have s3 := b3.size
  have hne2 : g2 ≠ g5 := by omega
  have hne3 : g3 ≠ g5 := by omega
  have hne4 : g4 ≠ g5 := by omega
  have B4 := ((b1.trans (b2.mono s1)).trans (b3.mono (Nat.le_trans s1 s2))).trans (b4.mono (by omega))
  have hg5 : w.heap.size ≤ g5 := by omega
  have hg4 : w.heap.size ≤ g4 := by omega
  clear r1 r2 r3 b1 b2 b3 b4 s1 s2 s3 a1 a2 a3 a4 l1 l2 l3 l4
  go_loopw [9] (fun iv wr => ∃ (i : Nat) (ws : List Nat), i ≤ 3 ∧ iv = .int .i64 i ∧ Out 18446744073709551616 X R i ws ∧ Row wr 71 g5 (uL ws) ∧ But g5 w4 wr) (fun iv _ => 3 - (intOf iv).toNat)
  case atStart => exact ⟨0, _, by omega, rfl, HO0.out, r4, But.refl _ _⟩
  case round =>
    clear r4
    obtain ⟨i, ws, hi3, rfl, ho, rr, bx⟩ := hrel
    by_cases hi : i < 3
    · have hdi : decide ((i : Int) < 3) = true := by simp; omega
      go_wp2_with fail
      go_loopw [7, 12] (fun cv jv wr' => ∃ (j c : Nat) (ws : List Nat), j ≤ 2 ∧ jv = .int .i64 j ∧ cv = .int .u64 c ∧ In 18446744073709551616 X R i j c ws ∧ Row wr' 71 g5 (uL ws) ∧ But g5 w4 wr') (fun _ jv _ => 2 - (intOf jv).toNat)
      case atStart => exact ⟨0, 0, ws, by omega, rfl, rfl, In.start (by decide) ho, rr, bx⟩
      case round =>
        clear rr bx ho
        obtain ⟨j, c, ws, hj2, rfl, rfl, hin, rr, bx⟩ := hrel
        by_cases hj : j < 2
        · go_wp2_with fail
          have hij : i + j < 5 := by omega
          have rX := R1.but bx hne2
          have rY := R2.but bx hne3
          have cX := nb_get (X := X) hi
          have cY := fb_get (R := R) hj
          have h5 : ws.length = 5 := hin.1
          have cO := uL_get (ws := ws) (k := i + j) (by omega)
          have ol : ws.getD (i + j) 0 < 18446744073709551616 := by
            have hk : i + j < ws.length := by omega
            rw [show ws.getD (i + j) 0 = ws[i + j] by simp [List.getD, hk]]
            exact hin.2.1 _ (List.getElem_mem _)
          obtain ⟨H, l, hHl, hH, hl, RM⟩ := mulAdd_det (nW X i) (nW R j) (ws.getD (i + j) 0) c (nW_lt _ _) (nW_lt _ _) ol hin.2.2.2.1
          have hin' := In.step hin hi hj hHl hH hl
          have hcl : i + j < (uL ws).length := by rw [uL_len]; omega
          have hset := uL_set ws (i + j) l
          clear hHl ol hin hH hl
          generalize nW X i = x at cX RM
          generalize nW R j = y at cY RM
          generalize ws.getD (i + j) 0 = o at cO RM
          rename_i Q1 K1 hK1
          refine wp_region_vals [15, 21] (SPr g2 g3 g5 i j x y o c H l) (JPr wr g5 (uL ws) (uL (ws.set (i + j) l))) (by kernel_rfl) (by kernel_rfl) (by kernel_rfl) (by kernel_rfl) (by kernel_rfl) ⟨fun _ => rr, fun h => absurd h (by decide), (But.refl _ _).drew⟩ ?obs ?he
          case obs =>
            refine ⟨?_, ?_, ?_, ?_, ?_, ?_, ?_, ?_, ?_, ?_, ?_, ?_, ?_, ?_, ?_, ?_, ?_, ?_, ?_, ?_, ?_, ?_, trivial⟩
            · exact .inl ⟨by kernel_rfl, fun L a1 w1 n h => ⟨_, rfl, run_move (.tmp 6) rfl (h.var n 6 (by kernel_rfl))⟩⟩
            · exact .inl ⟨by kernel_rfl, fun L a1 w1 n h => ⟨_, rfl, run_move (.tmp 8) rfl (h.var n 8 (by kernel_rfl))⟩⟩
            · refine .inl ⟨by kernel_rfl, fun L a1 w1 n h => ⟨.int .i64 ((i + j : Nat) : Int), rfl, ?_⟩⟩
              have e0 : a1.eval (.tmp 16) = _ := h.dep n 0 16 (by kernel_rfl) rfl
              have e1 : a1.eval (.tmp 17) = _ := h.dep n 1 17 (by kernel_rfl) rfl
              unfold execOp
              simp only [e0, e1]
              go_simp
              rw [IntWalk.i64_in _ (by omega)]
            · exact .inl ⟨by kernel_rfl, fun L a1 w1 n h => ⟨_, rfl, run_move (.tmp 6) rfl (h.var n 6 (by kernel_rfl))⟩⟩
            · exact .inl ⟨by kernel_rfl, fun L a1 w1 n h => ⟨_, rfl, run_index0 46 (.tmp 2) (.tmp 19) 3 42 g2 i rfl Try.underlying46 Try.sizeOf42 (h.var n 2 (by kernel_rfl)) (h.dep n 3 19 (by kernel_rfl) rfl) hi⟩⟩
            · exact .inl ⟨by kernel_rfl, fun L a1 w1 n h => ⟨_, rfl, run_loadA 42 (.tmp 20) ⟨g2, i, none⟩ rfl Try.isAgg42 (h.dep n 4 20 (by kernel_rfl) rfl) ((rX.but h.inv.2.2 hne2).cell cX)⟩⟩
            · exact .inl ⟨by kernel_rfl, fun L a1 w1 n h => ⟨_, rfl, run_move (.tmp 8) rfl (h.var n 8 (by kernel_rfl))⟩⟩
            · exact .inl ⟨by kernel_rfl, fun L a1 w1 n h => ⟨_, rfl, run_index0 44 (.tmp 3) (.tmp 22) 2 42 g3 j rfl Try.underlying44 Try.sizeOf42 (h.var n 3 (by kernel_rfl)) (h.dep n 6 22 (by kernel_rfl) rfl) hj⟩⟩
            · exact .inl ⟨by kernel_rfl, fun L a1 w1 n h => ⟨_, rfl, run_loadA 42 (.tmp 23) ⟨g3, j, none⟩ rfl Try.isAgg42 (h.dep n 7 23 (by kernel_rfl) rfl) ((rY.but h.inv.2.2 hne3).cell cY)⟩⟩
            · exact .inl ⟨by kernel_rfl, fun L a1 w1 n h => ⟨_, rfl, run_move (.tmp 6) rfl (h.var n 6 (by kernel_rfl))⟩⟩
            · exact .inl ⟨by kernel_rfl, fun L a1 w1 n h => ⟨_, rfl, run_move (.tmp 8) rfl (h.var n 8 (by kernel_rfl))⟩⟩
            · refine .inl ⟨by kernel_rfl, fun L a1 w1 n h => ⟨.int .i64 ((i + j : Nat) : Int), rfl, ?_⟩⟩
              have e0 : a1.eval (.tmp 25) = _ := h.dep n 9 25 (by kernel_rfl) rfl
              have e1 : a1.eval (.tmp 26) = _ := h.dep n 10 26 (by kernel_rfl) rfl
              unfold execOp
              simp only [e0, e1]
              go_simp
              rw [IntWalk.i64_in _ (by omega)]
            · exact .inl ⟨by kernel_rfl, fun L a1 w1 n h => ⟨_, rfl, run_index0 71 (.tmp 5) (.tmp 27) 5 42 g5 (i + j) rfl Try.underlying71 Try.sizeOf42 (h.var n 5 (by kernel_rfl)) (h.dep n 11 27 (by kernel_rfl) rfl) hij⟩⟩
            · exact .inl ⟨by kernel_rfl, fun L a1 w1 n h => ⟨_, rfl, run_loadA 42 (.tmp 28) ⟨g5, (i + j), none⟩ rfl Try.isAgg42 (h.dep n 12 28 (by kernel_rfl) rfl) ((h.inv.1 (n.later (by kernel_rfl))).cell cO)⟩⟩
            · exact .inl ⟨by kernel_rfl, fun L a1 w1 n h => ⟨_, rfl, run_move (.tmp 7) rfl (h.var n 7 (by kernel_rfl))⟩⟩
            · refine .inr fun L a1 w1 n h K hK => ?_
              have e0 : a1.eval (.tmp 21) = _ := h.dep n 5 21 (by kernel_rfl) rfl
              have e1 : a1.eval (.tmp 24) = _ := h.dep n 8 24 (by kernel_rfl) rfl
              have e2 : a1.eval (.tmp 29) = _ := h.dep n 13 29 (by kernel_rfl) rfl
              have e3 : a1.eval (.tmp 30) = _ := h.dep n 14 30 (by kernel_rfl) rfl
              refine st_call 45 _ _ #[.int .u64 (x : Int), .int .u64 (y : Int), .int .u64 (o : Int), .int .u64 (c : Int)] rfl Try.call45 ?_ (RM w1) ?_
              · simp only [List.map_toArray, List.map_cons, List.map_nil, e0, e1, e2, e3]
              · rintro e w3 ⟨rfl, rfl⟩
                exact ⟨_, rfl, hK _ _ rfl h.inv⟩
            · exact .inl ⟨by kernel_rfl, fun L a1 w1 n h => ⟨_, rfl, run_move (.tmp 31) rfl (h.dep n 15 31 (by kernel_rfl) rfl)⟩⟩
            · exact .inl ⟨by kernel_rfl, fun L a1 w1 n h => ⟨_, rfl, run_extractA (.tmp 15) 0 _ rfl (h.dep n 16 15 (by kernel_rfl) rfl) rfl⟩⟩
            · exact .inl ⟨by kernel_rfl, fun L a1 w1 n h => ⟨_, rfl, run_extractA (.tmp 15) 1 _ rfl (h.dep n 16 15 (by kernel_rfl) rfl) rfl⟩⟩
            · exact .inl ⟨by kernel_rfl, fun L a1 w1 n h => ⟨_, rfl, run_assign (.tmp 32) rfl (h.dep n 17 32 (by kernel_rfl) rfl)⟩⟩
            · exact .inl ⟨by kernel_rfl, fun L a1 w1 n h => ⟨_, rfl, run_index0 71 (.tmp 5) (.tmp 18) 5 42 g5 (i + j) rfl Try.underlying71 Try.sizeOf42 (h.var n 5 (by kernel_rfl)) (h.dep n 2 18 (by kernel_rfl) rfl) hij⟩⟩
            · refine .inr fun L a1 w1 n h K hK => ?_
              have no : L.getD 21 false = false := n.not_yet
              refine st_store 42 (.tmp 34) (.tmp 33) g5 (i + j) 71 (uL ws) (.int .u64 (l : Int)) rfl (by kernel_rfl) (h.dep n 20 34 (by kernel_rfl) rfl) (h.dep n 18 33 (by kernel_rfl) rfl) (h.inv.1 no) hcl rfl ?_
              intro w3 r3 o3
              rw [hset] at r3
              exact hK undef w3 trivial ⟨fun h1 => absurd (show true = false from h1) (by decide), fun _ => r3, h.inv.2.2.trans (But.only o3)⟩
          case he =>
            intro V w5 hV hJ
            have r5 := hJ.2.1 rfl
            have bx5 := bx.trans hJ.2.2
            have h19 : V 19 = .int .u64 (H : Int) := hV 19 7 rfl
            clear hV hJ
            simp only [putOps, List.setIfInBounds_toArray, List.set_cons_succ, List.set_cons_zero]
            rw [h19]
            refine hK1 _ _ ?_
            go_wp2
            go_roundw
            case rel => exact ⟨j + 1, H, _, by omega, by go_num, rfl, hin', r5, bx5⟩
            case measure => simp [intOf]; omega
        · have hj' : j = 2 := by omega
          rw [hj'] at hin
          have h5 : ws.length = 5 := hin.1
          have hout := In.done hin hi HR.out
          have hcl : i + 2 < (uL ws).length := by rw [uL_len]; omega
          go_wp2_with (first
            | (with_reducible refine wl_store rfl 42 (.tmp 39) (.tmp 38) g5 (i + 2) 71 _ (.int .u64 (c : Int)) rfl (by kernel_rfl) rfl rfl rr hcl rfl ?_; intro w6 r6 o6; rw [uL_set] at r6))
          go_roundw
          case rel => exact ⟨i + 1, _, by omega, by go_num, hout, r6, bx.trans (But.only o6)⟩
          case measure => simp [intOf]; omega
    · have hi' : i = 3 := by omega
      rw [hi'] at ho
      obtain ⟨h5, hb, hv, _⟩ := ho
      rw [Nat.mod_eq_of_lt HX.out] at hv
      have z5 := hide (size5 h5)
      have l5 := hide (show (uL [0, 0, 0, 0, 0]).length = (uL ws).length by rw [uL_len ws, h5]; rfl)
      have R4 := R3.but bx hne4
      go_wp2_with (first
        | (with_reducible refine wl_load_row rfl 71 (.tmp 5) g5 71 _ _ rfl rfl rr Try.underlying71 rfl z5.out ?_)
        | (with_reducible refine wl_store_row rfl 71 (.tmp 4) (.tmp 41) g4 71 _ (uL ws) rfl rfl rfl R4 z5.out l5.out (oneU _) ?_; intro w6 r6 o6))
      refine bodyPost_ret (v := .agg (uL ws).toArray) ?_ rfl ⟨⟨ws, rfl, h5, hb, hv⟩, ?_⟩
      · exact results_cell_row Try.results43 _ _ g4 71 _ (0, 0) _ rfl r6 Try.underlying71 rfl (by simpa using z5.out)
      · exact (B4.trans (bx.below hg5 B4.size)).trans (o6.below hg4)
end Go.Proofs.Ytcinhofapkddpaa
