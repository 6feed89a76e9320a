/-
  Several own texts in one: ShaR, ShaS, ShaT. Own work.
-/
import Derived.Test.YtlhgfobhdhddlaaDoorGC
import Derived.Test.YtlhgfobhdhddlaaDoorGA
set_option linter.unusedVariables false
set_option linter.unusedSimpArgs false
/-
  SHA-256: the laws' own 'awake': contract; equal sums. Own work.
-/
namespace Go.Proofs.YtlhgfobhdhddlaaDoor
open Go.RowKit
theorem by_of_all {xs : List Int} (h : (xs.all fun x => decide (0 ≤ x) && decide (x < 256)) = true) : IsBy xs := fun x hx => by
  have := List.all_eq_true.1 h x hx
  simp at this
  exact this
theorem equal_same (A B : Option Addr) (n m c d : Nat) (xs : List Int) (w : World) (h1 : Bs w w.heap.size A n xs) (h2 : Bs w w.heap.size B m xs) :
    Calls Tryd.prog 17 #[.slice A n c, .slice B m d] w fun e w' => e = .returned (.bool true) ∧ Below w.heap.size w w' := by
  refine (equal_any A B n m c d xs xs w h1 h2).mono ?_
  rintro e w' ⟨rfl, rfl⟩
  exact ⟨by rw [equal_self], Below.refl _ _⟩
theorem sum_abc : (sumS [97, 98, 99]).getD 0 0 = 186 ∧ (sumS [97, 98, 99]).getD 1 0 = 120 ∧ (sumS [97, 98, 99]).getD 2 0 = 22 ∧ (sumS [97, 98, 99]).getD 3 0 = 191 ∧ (sumS [97, 98, 99]).getD 31 0 = 173 := by decide +kernel
theorem padF {m : Nat} {w w' : World} {e : Ending} (h : RetFr (padS m) w e w') : ∃ A c, e = .returned (.slice A (padS m).length c) ∧ Bs w' w'.heap.size A (padS m).length (padS m) ∧ Below w.heap.size w w' := by
  obtain ⟨A, n, c, rfl, hb, h1, h2, h3, _⟩ := h
  obtain rfl : n = (padS m).length := hb.1.symm
  exact ⟨A, c, rfl, hb, h3⟩
set_option maxRecDepth 100000 in
set_option maxHeartbeats 2000000 in
theorem awake_any (w : World) (hT : Tabs w) : Calls Tryd.prog 13 #[] w fun e w' => e = .returned (.bool true) ∧ Below w.heap.size w w' := by
  have P1 := fun A m c w hT hb hc => sum_any [97, 98, 99] A m c w hT hb (by_of_all (by decide)) hc
  have hsl := sumS_len [97, 98, 99]
  have hS := sum_abc
  generalize sumS [97, 98, 99] = FS at *
  have zf := hide (size32b hsl)
  have lf := hide (show (bv (List.replicate 32 0)).length = (bv FS).length by rw [bv_len, bv_len, hsl, List.length_replicate])
  have k0 : (bv FS)[0]? = some (.int .u8 186) := by rw [← hS.1]; exact vk_get (kd := .u8) (by omega)
  have k1 : (bv FS)[1]? = some (.int .u8 120) := by rw [← hS.2.1]; exact vk_get (kd := .u8) (by omega)
  have k2 : (bv FS)[2]? = some (.int .u8 22) := by rw [← hS.2.2.1]; exact vk_get (kd := .u8) (by omega)
  have k3 : (bv FS)[3]? = some (.int .u8 191) := by rw [← hS.2.2.2.1]; exact vk_get (kd := .u8) (by omega)
  have k31 : (bv FS)[31]? = some (.int .u8 173) := by rw [← hS.2.2.2.2]; exact vk_get (kd := .u8) (by omega)
  have K := hide (And.intro k0 (And.intro k1 (And.intro k2 (And.intro k3 k31))))
  clear hsl hS k0 k1 k2 k3 k31
  have hP := fun w => (pad_nat 56 w (by omega)).mono fun e w' h => padF h
  have hpl : (padS 56).length = 72 := by decide +kernel
  rw [hpl] at hP
  generalize padS 56 = PD at *
  clear hpl
  have kc := fun (w : World) (C : Array Value) (n c : Nat) => Lib.run_convert_bytes_const (P := Tryd.prog) w 22 5 C n c Tryd.underlying22 Tryd.underlying5
  go_enter Tryd.func13, Tryd.ntmps13
  go_wp2_with fail
  have hb := Bs.lit' w 5 (3, 4) [97, 98, 99] #[.int .u8 97, .int .u8 98, .int .u8 99] 3 _ rfl rfl rfl
  have B1 : Below w.heap.size w (w.alloc (.cells #[.int .u8 97, .int .u8 98, .int .u8 99] 5 (3, 4))) := (Below.refl _ _).alloc (Nat.le_refl _) _
  refine (P1 _ _ 3 _ (hT.later B1) hb (Nat.le_refl _) (by decide)).mono ?_
  rintro e w5 ⟨rfl, b5⟩
  have B5 := B1.trans (b5.mono B1.size)
  clear hb B1 b5 P1 kc
  go_wp2_with (first
    | (with_reducible refine wl_alloc rfl 25 _ (bv (List.replicate 32 0)) rfl zero32b rfl ?_; intro g2 w6 r2 p2 l2 b2)
    | (with_reducible refine wl_store_row rfl 25 (.tmp 1) (.tmp 4) g2 25 _ (bv FS) rfl rfl rfl r2 zf.out lf.out (bv_one _) ?_; intro w7 r7 o7; have c0 := r7.cell K.out.1; have c1 := r7.cell K.out.2.1; have c2 := r7.cell K.out.2.2.1; have c3 := r7.cell K.out.2.2.2.1; have c31 := r7.cell K.out.2.2.2.2))
  have B7 := B5.trans ((b2.trans (o7.below p2)).mono B5.size)
  refine (hP w7).mono ?_
  rintro e w8 ⟨A8, c8, rfl, _, b8⟩
  have B8 := B7.trans (b8.mono B7.size)
  clear hP
  go_wp2_with fail
  go_ret
  exact ⟨rfl, B8⟩
end Go.Proofs.YtlhgfobhdhddlaaDoor

/-
  SHA-256: the laws ShaSum and ShaPads: contracts. Own work.
-/
namespace Go.Proofs.YtlhgfobhdhddlaaDoor
open Go.RowKit
theorem eq32 (xs ys : List Int) (hx : xs.length = 32) (hy : ys.length = 32) (w : World) : (Op.equalIn 10000 25 (.agg (bv xs).toArray) (.agg (bv ys).toArray)).run Tryd.prog w = .ok (decide (xs = ys)) w := by
  obtain ⟨i0, hi, _⟩ := u8_info
  exact run_eqArr w Tryd.underlying25 hi (by kernel_rfl) Tryd.underlying5 Tryd.isAgg5 xs ys hx hy
theorem eq32S (xs : List Int) (hx : xs.length = 32) (w : World) : (Op.equalIn 10000 25 (.agg (bv xs).toArray) (.agg (bv xs).toArray)).run Tryd.prog w = .ok true w := (eq32 xs xs hx hx w).trans (by simp)
set_option maxRecDepth 100000 in
set_option maxHeartbeats 1000000 in
theorem shaSum_any (xs : List Int) (A : Option Addr) (m c : Nat) (w : World) (hT : Tabs w) (hx : Bs w w.heap.size A m xs) (hxb : IsBy xs) (hc : m ≤ c) :
    Calls Tryd.prog 3 #[.slice A m c] w fun e w' => e = .returned (.bool true) ∧ Below w.heap.size w w' := by
  by_cases hlong : (3000 : Int) < (m : Int)
  · have hd : decide ((3000 : Int) < (m : Int)) = true := by simp; omega
    go_enter Tryd.func3, Tryd.ntmps3
    go_wp2_with fail
    refine (awake_any _ hT).mono ?_
    rintro e w2 ⟨rfl, b2⟩
    go_wp2
    go_ret
    exact ⟨rfl, b2⟩
  · have hd : decide ((3000 : Int) < (m : Int)) = false := by simp; omega
    have E1 := eq32S (sumS xs) (sumS_len _)
    have P1 := fun w hT hb => sum_any xs A m c w hT hb hxb hc (by omega)
    have P2 := fun A5 c5 w hb hc5 => rsum_any xs A5 m c5 w hb hxb hc5 (by omega)
    generalize sumS xs = FS at *
    go_enter Tryd.func3, Tryd.ntmps3
    go_wp2_with fail
    refine (clone_any A m c xs w hx (by omega)).mono ?_
    rintro e w2 ⟨A5, n5, c5, rfl, hx5, hc5, _, b2⟩
    obtain rfl : n5 = m := by rw [← hx5.1, hx.1]
    have hx2 := hx.later b2
    go_wp2_with fail
    refine (P1 w2 (hT.later b2) hx2).mono ?_
    rintro e w3 ⟨rfl, b3⟩
    have B3 := b2.trans (b3.mono b2.size)
    have hx53 := hx5.later b3
    have hx3 := hx2.later b3
    go_wp2_with fail
    refine (P2 A5 c5 w3 hx53 hc5).mono ?_
    rintro e w4 ⟨rfl, b4⟩
    have B4 := B3.trans (b4.mono B3.size)
    clear b2 b3 B3 P1 P2 hx hx5 hx2
    go_wp2_with (first | rw [E1])
    refine (equal_same A A5 n5 n5 c c5 xs w4 (hx3.later b4) (hx53.later b4)).mono ?_
    rintro e w5 ⟨rfl, b5⟩
    have B5 := B4.trans (b5.mono B4.size)
    go_wp2_with fail
    refine (awake_any _ (hT.later B5)).mono ?_
    rintro e w6 ⟨rfl, b6⟩
    go_wp2_with fail
    go_ret
    exact ⟨rfl, B5.trans (b6.mono B5.size)⟩
theorem padB {xs : List Int} {w w' : World} {e : Ending} (h : RetBs xs w e w') : ∃ A c, e = .returned (.slice A xs.length c) ∧ Bs w' w'.heap.size A xs.length xs ∧ Below w.heap.size w w' := by
  obtain ⟨A, n, c, rfl, hb, h1, h2, h3⟩ := h
  obtain rfl : n = xs.length := hb.1.symm
  exact ⟨A, c, rfl, hb, h3⟩
set_option maxRecDepth 100000 in
set_option maxHeartbeats 1000000 in
theorem shaPads_nat (x : Int) (k : Nat) (ps : List Int) (w : World) (hT : Tabs w) (h0 : -9223372036854775808 ≤ x) (h1 : x ≤ 9223372036854775807) (hs : 0 ≤ x) (e1 : (x % 64 + (k : Int)) % 64 = 0) (hk2 : 9 ≤ k) (hk3 : k ≤ 72)
    (P1 : ∀ w, Calls Tryd.prog 18 #[.int .i64 x] w fun e w' => ∃ A c, e = .returned (.slice A k c) ∧ Bs w' w'.heap.size A k ps ∧ Below w.heap.size w w')
    (P2 : ∀ w, Calls Tryd.prog 19 #[.int .i64 x] w fun e w' => ∃ A c, e = .returned (.slice A k c) ∧ Bs w' w'.heap.size A k ps ∧ Below w.heap.size w w') :
    Calls Tryd.prog 4 #[.int .i64 x] w fun e w' => e = .returned (.bool true) ∧ Below w.heap.size w w' := by
  have hmm : 0 ≤ x % 64 ∧ x % 64 < 64 := by omega
  go_enter Tryd.func4, Tryd.ntmps4
  go_wp2_with fail
  refine (P1 w).mono ?_
  rintro e w2 ⟨A2, c2, rfl, hx2, b2⟩
  go_wp2_with fail
  refine (P2 w2).mono ?_
  rintro e w3 ⟨A3, c3, rfl, hx3, b3⟩
  have B3 := b2.trans (b3.mono b2.size)
  go_wp2_with fail
  refine (equal_same A2 A3 k k c2 c3 ps w3 (hx2.later b3) hx3).mono ?_
  rintro e w5 ⟨rfl, b5⟩
  have B5 := B3.trans (b5.mono B3.size)
  have d1 : decide ((9 : Int) ≤ (k : Int)) = true := by simp; omega
  have d2 : decide ((k : Int) ≤ 72) = true := by simp; omega
  go_wp2_with fail
  refine (awake_any _ (hT.later B5)).mono ?_
  rintro e w6 ⟨rfl, b6⟩
  go_wp2_with fail
  go_ret
  exact ⟨rfl, B5.trans (b6.mono B5.size)⟩
set_option maxRecDepth 100000 in
set_option maxHeartbeats 1000000 in
theorem shaPads_neg (x : Int) (k : Nat) (ps : List Int) (w : World) (hT : Tabs w) (h0 : -9223372036854775808 ≤ x) (h1 : x ≤ 9223372036854775807) (hs : x < 0) (e1 : (k : Int) % 64 = 0) (hk2 : 9 ≤ k) (hk3 : k ≤ 72)
    (P1 : ∀ w, Calls Tryd.prog 18 #[.int .i64 x] w fun e w' => ∃ A c, e = .returned (.slice A k c) ∧ Bs w' w'.heap.size A k ps ∧ Below w.heap.size w w')
    (P2 : ∀ w, Calls Tryd.prog 19 #[.int .i64 x] w fun e w' => ∃ A c, e = .returned (.slice A k c) ∧ Bs w' w'.heap.size A k ps ∧ Below w.heap.size w w') :
    Calls Tryd.prog 4 #[.int .i64 x] w fun e w' => e = .returned (.bool true) ∧ Below w.heap.size w w' := by
  have hmm : 0 ≤ x % 64 ∧ x % 64 < 64 := by omega
  go_enter Tryd.func4, Tryd.ntmps4
  go_wp2_with fail
  refine (P1 w).mono ?_
  rintro e w2 ⟨A2, c2, rfl, hx2, b2⟩
  go_wp2_with fail
  refine (P2 w2).mono ?_
  rintro e w3 ⟨A3, c3, rfl, hx3, b3⟩
  have B3 := b2.trans (b3.mono b2.size)
  go_wp2_with fail
  refine (equal_same A2 A3 k k c2 c3 ps w3 (hx2.later b3) hx3).mono ?_
  rintro e w5 ⟨rfl, b5⟩
  have B5 := B3.trans (b5.mono B3.size)
  have d1 : decide ((9 : Int) ≤ (k : Int)) = true := by simp; omega
  have d2 : decide ((k : Int) ≤ 72) = true := by simp; omega
  go_wp2_with fail
  refine (awake_any _ (hT.later B5)).mono ?_
  rintro e w6 ⟨rfl, b6⟩
  go_wp2_with fail
  go_ret
  exact ⟨rfl, B5.trans (b6.mono B5.size)⟩

theorem shaPads (x : Int) (w : World) (hT : Tabs w) (h0 : -9223372036854775808 ≤ x) (h1 : x ≤ 9223372036854775807) :
    Calls Tryd.prog 4 #[.int .i64 x] w fun e w' => e = .returned (.bool true) ∧ Below w.heap.size w w' := by
  rcases Int.lt_or_le x 0 with h | h
  · have hl := padS_len 0
    have hw := padS_whole 0
    have hz : zN 0 ≤ 63 := by unfold zN; omega
    exact shaPads_neg x _ (padS 0) w hT h0 h1 h (by omega) (by omega) (by omega) (fun w => (pad_neg x w h).mono fun e w' h => padB h.bs) (fun w => (refPad_neg x w h).mono fun e w' h => padB h)
  · obtain ⟨m, rfl⟩ := Int.eq_ofNat_of_zero_le h
    have hl := padS_len m
    have hw := padS_whole m
    have hz : zN m ≤ 63 := by unfold zN; omega
    exact shaPads_nat m _ (padS m) w hT h0 h1 h (by omega) (by omega) (by omega) (fun w => (pad_nat m w (by omega)).mono fun e w' h => padB h.bs) (fun w => (refPad_nat m w (by omega)).mono fun e w' h => padB h)
end Go.Proofs.YtlhgfobhdhddlaaDoor

/-
  SHA-256: a Hash that no call made; the law ShaNobody: contracts. Own work.
-/
namespace Go.Proofs.YtlhgfobhdhddlaaDoor
open Go.RowKit
theorem st_build2 {P : Program} {o : Oper} {a : Act} {w : World} {K : Act → World → Prop} {Q : Exit → Act → World → Prop} (t : TypeId) (x y : Operand) (ho : o.op = .buildSlice t 2 #[(0, x), (1, y)]) (e : TypeId) (i : TypeInfo) (z u v : Value) (ht : P.underlying t = some (.slice e)) (hi : P.info? e = some i) (hz : i.zero = some z) (hsz : i.size = 1) (hzc : z.cells = #[z]) (hx : a.eval x = u) (hy : a.eval y = v) (hu : u.cells = #[u]) (hv : v.cells = #[v])
    (hk : K (a.put o.dst (.slice (some ⟨w.heap.size, 0, none⟩) 2 2)) (w.alloc (.cells #[u, v] e))) : o.wp P a w K Q := by
  have hr : (Array.range 2) = #[0, 1] := rfl
  have hzz : ∀ w, (zeroValue e).run P w = .ok z w := fun w => by simp [zeroValue, typeInfo, hi, hz]
  have hss : ∀ w, (sizeOf e).run P w = .ok 1 w := fun w => by simp [sizeOf, typeInfo, hi, hsz]
  have hrun : (Instr.buildSlice t 2 #[(0, u), (1, v)]).run P w = .ok (.slice (some ⟨w.heap.size, 0, none⟩) 2 2) (w.alloc (.cells #[u, v] e)) := by
    simp [Instr.buildSlice, run_underlying ht, hss, hzz, hr, hzc, Instr.fill, hu, hv, newRow]
  unfold Oper.wp execOp
  simp only [ho, List.map_toArray, List.map_cons, List.map_nil, hx, hy, hrun, Sem.run_bind, Result.andThen_ok, Sem.run_pure]
  exact hk
theorem wl_build2 {P : Program} {ops : Array Oper} {rest : List Oper} {o : Oper} {a : Act} {w : World} {Q : Exit → Act → World → Prop} (hgd : o.guard = none) (t : TypeId) (x y : Operand) (ho : o.op = .buildSlice t 2 #[(0, x), (1, y)]) (e : TypeId) (i : TypeInfo) (z u v : Value) (ht : P.underlying t = some (.slice e)) (hi : P.info? e = some i) (hz : i.zero = some z) (hsz : i.size = 1) (hzc : z.cells = #[z]) (hx : a.eval x = u) (hy : a.eval y = v) (hu : u.cells = #[u]) (hv : v.cells = #[v])
    (hk : ∀ g w', Row w' e g [u, v] → w.heap.size ≤ g → g < w'.heap.size → Below w.heap.size w w' → wpList P ops Q rest (a.put o.dst (.slice (some ⟨g, 0, none⟩) 2 2)) w') : wpList P ops Q (o :: rest) a w :=
  wpList_plain hgd fun K hK => st_build2 t x y ho e i z u v ht hi hz hsz hzc hx hy hu hv (hK _ _ (hk _ _ (by unfold Row; exact heap_alloc_new _ _) (Nat.le_refl _) (by simp) ((Below.refl _ _).alloc (Nat.le_refl _) _)))
/-- A Hash that no call made, or none. -/
def NbH (w : World) (v : Value) : Prop := v = .pointer none ∨ ∃ g, v = .pointer (some ⟨g, 0, none⟩) ∧ Row w 46 g hashZ
theorem NbH.later {w w' : World} {v : Value} (h : NbH w v) (hb : Below w.heap.size w w') : NbH w' v := by
  rcases h with h | ⟨g, h, r⟩
  · exact .inl h
  · exact .inr ⟨g, h, r.later hb⟩
set_option maxRecDepth 100000 in
theorem nb_write (v : Value) (A : Option Addr) (m c : Nat) (w : World) (h : NbH w v) : Calls Tryd.prog 21 #[v, .slice A m c] w fun e w' => e = .returned (.tuple #[]) ∧ w = w' := by
  rcases h with rfl | ⟨g, rfl, r⟩
  · go_enter Tryd.func21, Tryd.ntmps21
    go_wp2
    exact bodyPost_ret (results_none rfl _ _ _) rfl ⟨rfl, rfl⟩
  · have c0 := r.cell (j := 0) (v := .bool false) rfl
    clear r
    go_enter Tryd.func21, Tryd.ntmps21
    go_wp2
    exact bodyPost_ret (results_none rfl _ _ _) rfl ⟨rfl, rfl⟩
set_option maxRecDepth 100000 in
theorem nb_len (v : Value) (w : World) (h : NbH w v) : Calls Tryd.prog 23 #[v] w fun e w' => e = .returned (.int .i64 0) ∧ w = w' := by
  rcases h with rfl | ⟨g, rfl, r⟩
  · go_enter Tryd.func23, Tryd.ntmps23
    go_wp2
    go_ret
    exact ⟨rfl, rfl⟩
  · have c0 := r.cell (j := 73) (v := .int .i64 0) rfl
    clear r
    go_enter Tryd.func23, Tryd.ntmps23
    go_wp2
    go_ret
    exact ⟨rfl, rfl⟩
def zs32 : List Int := List.replicate 32 0
theorem bZ32 : Tryd.prog.built 25 [] = some (bv zs32).toArray := by kernel_rfl
theorem zs32_len : zs32.length = 32 := by simp [zs32]
theorem zero32z : (Tryd.prog.info? 25).map (fun i => i.zero) = some (some (.agg (bv zs32).toArray)) := zero32b
set_option maxRecDepth 100000 in
theorem nb_sum (v : Value) (w : World) (h : NbH w v) : Calls Tryd.prog 22 #[v] w fun e w' => e = .returned (.agg (bv zs32).toArray) ∧ Below w.heap.size w w' := by
  have zz := zero32z
  have zf := hide (size32b zs32_len)
  have bz := bZ32
  generalize zs32 = Z at *
  rcases h with rfl | ⟨g, rfl, r⟩
  · go_enter Tryd.func22, Tryd.ntmps22
    go_wp2_with (first
      | (with_reducible refine wl_alloc rfl 25 _ (bv Z) rfl zz rfl ?_; intro g2 w2 r2 p2 l2 b2)
      | ((with_reducible refine wl_build rfl 25 _ rfl _ ?hv _ bz ?hk); case hv => rfl)
      | (with_reducible refine wl_store_row rfl 25 (.tmp 2) (.tmp 13) g2 25 _ (bv Z) rfl rfl rfl r2 zf.out rfl (bv_one _) ?_; intro w8 r8 o8))
    refine bodyPost_ret (v := .agg (bv Z).toArray) ?_ rfl ⟨rfl, ?_⟩
    · exact results_cell_row Tryd.results22 _ _ g2 25 _ (0, 0) _ rfl r8 Tryd.underlying25 rfl zf.out
    · exact b2.trans (o8.below p2)
  · have c0 := r.cell (j := 0) (v := .bool false) rfl
    have hg := r.lt
    clear r
    go_enter Tryd.func22, Tryd.ntmps22
    go_wp2_with (first
      | (with_reducible refine wl_alloc rfl 25 _ (bv Z) rfl zz rfl ?_; intro g2 w2 r2 p2 l2 b2; have c0a := (b2.cell (p := ⟨g, 0, none⟩) hg).trans c0)
      | ((with_reducible refine wl_build rfl 25 _ rfl _ ?hv2 _ bz ?hk2); case hv2 => rfl)
      | (with_reducible refine wl_store_row rfl 25 (.tmp 2) (.tmp 13) g2 25 _ (bv Z) rfl rfl rfl r2 zf.out rfl (bv_one _) ?_; intro w8 r8 o8))
    refine bodyPost_ret (v := .agg (bv Z).toArray) ?_ rfl ⟨rfl, ?_⟩
    · exact results_cell_row Tryd.results22 _ _ g2 25 _ (0, 0) _ rfl r8 Tryd.underlying25 rfl zf.out
    · exact b2.trans (o8.below p2)
theorem bHash0 : Tryd.prog.built 46 [] = some hashZ.toArray := by kernel_rfl
theorem ptr_info_ : (Tryd.prog.info? 32).map (fun i => (i.zero, i.size, i.bytes)) = some (some (.pointer none), 1, 8) := by kernel_rfl
theorem ptr_info : ∃ i, Tryd.prog.info? 32 = some i ∧ i.zero = some (.pointer none) ∧ i.size = 1 := by
  obtain ⟨i, h0, h1, h2, h3⟩ := info_parts ptr_info_
  exact ⟨i, h0, h1, h2⟩
set_option maxRecDepth 100000 in
set_option maxHeartbeats 1000000 in
theorem shaNobody_any (xs : List Int) (A : Option Addr) (m c : Nat) (w : World) (hT : Tabs w) :
    Calls Tryd.prog 7 #[.slice A m c] w fun e w' => e = .returned (.bool true) ∧ Below w.heap.size w w' := by
  obtain ⟨ipt, hpt, hpz, hps⟩ := ptr_info
  have bm0 := bHash0
  have bz := bZ32
  have hnb : ∀ g w, Row w 46 g hashZ → NbH w (.pointer (some ⟨g, 0, none⟩)) := fun g w h => .inr ⟨g, rfl, h⟩
  have E0 := eq32S zs32 zs32_len
  have E1 := eq32S (sumS []) (sumS_len _)
  have HS := fun g w hT hh => hsum_any [] g w hT hh (fun _ h => by simp at h) (by simp)
  have HP := fun w hT => sum_any [] none 0 0 w hT Bs.nil_ (fun _ h => by simp at h) (Nat.le_refl _) (by decide)
  have hW := fun v w h => nb_write v A m c w h
  have hS := nb_sum
  generalize sumS [] = FS at *
  generalize hashZ = hz at *
  generalize zs32 = Z at *
  go_enter Tryd.func7, Tryd.ntmps7
  go_wp2_with (first
    | ((with_reducible refine wl_build rfl 46 [] rfl [] ?hv2 _ bm0 ?hk2); case hv2 => rfl)
    | (with_reducible refine wl_box rfl 46 (.tmp 5) _ hz rfl rfl rfl ?_; intro gm w6 r6 p6 l6 b6)
    | (with_reducible refine wl_build2 rfl 47 (.const (.pointer none)) (.tmp 6) rfl 32 ipt (.pointer none) (.pointer none) (.pointer (some ⟨gm, 0, none⟩)) Tryd.underlying47 hpt hpz hps rfl rfl rfl rfl rfl ?_; intro g8 w7 r7 p7 l7 b7))
  have n7 := (hnb _ _ r6).later b7
  have B7 := b6.trans (b7.mono b6.size)
  clear r6 b6 b7 hnb bm0
  go_loopw [4] (fun iv wr => ∃ i : Nat, i ≤ 2 ∧ iv = .int .i64 i ∧ Row wr 32 g8 [.pointer none, .pointer (some ⟨gm, 0, none⟩)] ∧ NbH wr (.pointer (some ⟨gm, 0, none⟩)) ∧ Below w.heap.size w wr) (fun iv _ => 2 - (intOf iv).toNat)
  case atStart => exact ⟨0, Nat.zero_le _, rfl, r7, n7, B7⟩
  case round =>
    clear r7 n7 B7
    obtain ⟨i, hi, rfl, r7, n7, br⟩ := hrel
    by_cases hlt : i < 2
    · obtain ⟨v, hv, hn⟩ : ∃ v, [Value.pointer none, .pointer (some ⟨gm, 0, none⟩)][i]? = some v ∧ NbH wr v := by
        have : i = 0 ∨ i = 1 := by omega
        rcases this with rfl | rfl
        · exact ⟨_, rfl, .inl rfl⟩
        · exact ⟨_, rfl, n7⟩
      have c1 := r7.cell hv
      have l8 := r7.lt
      clear hv
      go_wp2_with fail
      refine (hW v wr hn).mono ?_
      rintro e w' ⟨rfl, rfl⟩
      go_wp2_with fail
      refine (hS v wr hn).mono ?_
      rintro e w8 ⟨rfl, b8⟩
      have c1a := (b8.cell (p := ⟨g8, i, none⟩) l8).trans c1
      have B8 := br.trans (b8.mono br.size)
      have r8 := r7.later b8
      have n8 := n7.later b8
      have hn8 := hn.later b8
      clear c1 b8 br r7 n7 hn
      go_wp2_with (first
        | ((with_reducible refine wl_build rfl 25 [] rfl [] ?hv3 _ bz ?hk3); case hv3 => rfl)
        | rw [E0])
      refine (nb_len v w8 hn8).mono ?_
      rintro e w' ⟨rfl, rfl⟩
      go_wp2_with fail
      go_roundw
      case rel => exact ⟨i + 1, by omega, by go_num, r8, n8, B8⟩
      case measure => simp [intOf]; omega
    · clear r7 n7
      go_wp2_with fail
      refine (hnew_any wr (hT.later br)).mono ?_
      rintro e w3 ⟨g, rfl, pg, hh, b3⟩
      have B3 := br.trans (b3.mono br.size)
      go_wp2_with fail
      refine (HS g w3 (hT.later B3) hh).mono ?_
      rintro e w4 ⟨rfl, b4⟩
      have B4 := B3.trans (b4.mono B3.size)
      go_wp2_with fail
      refine (HP w4 (hT.later B4)).mono ?_
      rintro e w5 ⟨rfl, b5⟩
      have B5 := B4.trans (b5.mono B4.size)
      go_wp2_with (first | rw [E1])
      refine (awake_any w5 (hT.later B5)).mono ?_
      rintro e w6 ⟨rfl, b6⟩
      go_wp2_with fail
      go_ret
      exact ⟨rfl, B5.trans (b6.mono B5.size)⟩
end Go.Proofs.YtlhgfobhdhddlaaDoor
