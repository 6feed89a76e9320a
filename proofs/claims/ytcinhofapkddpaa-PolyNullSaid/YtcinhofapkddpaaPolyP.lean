/-
  Poly: the sum of a text; the laws' own 'awake': contracts. Own work.
-/
import Derived.Test.YtcinhofapkddpaaPolyO
namespace Go.Proofs.Ytcinhofapkddpaa
open Go.RowKit
set_option linter.unusedVariables false
set_option linter.unusedSimpArgs false
/-- The sum of a text by a key. -/
def pS (ks ys : List Int) : List Int := polyL (clN (leN (ks.take 16))) (leN (ks.drop 16)) ys
theorem pS_len (ks ys : List Int) : (pS ks ys).length = 16 := lowB_length _ _
theorem pS_by (ks ys : List Int) : IsBy (pS ks ys) := lowB_by _ _
set_option maxRecDepth 100000 in
set_option maxHeartbeats 1000000 in
theorem psum_any (ks ys : List Int) (A : Option Addr) (m c : Nat) (w : World) (hk : ks.length = 32) (hb : IsBy ks) (hy : IsBy ys) (hbs : Bs w w.heap.size A m ys) (hc : m ≤ c) :
    Calls Try.prog 11 #[.agg (bv ks).toArray, .slice A m c] w fun e w' => e = .returned (.agg (bv (pS ks ys)).toArray) ∧ Below w.heap.size w w' := by
  have HN := fun w => new_any ks w hk hb
  have h32 := hide (size32 hk)
  have HR := clN_lt (leN (ks.take 16))
  have HS : ∀ g w, MacAt w g (clN (leN (ks.take 16))) (leN (ks.drop 16)) ys → Calls Try.prog 16 #[.pointer (some ⟨g, 0, none⟩)] w fun e w' => e = .returned (.agg (bv (pS ks ys)).toArray) ∧ Below w.heap.size w w' := fun g w h => sum_any g _ _ ys w h HR hy
  have l16 := pS_len ks ys
  have Hl16 := hide l16
  clear hk l16
  go_enter Try.func11, Try.ntmps11
  go_wp2_with (first
    | (with_reducible refine wl_box rfl 22 (.tmp 0) _ (bv ks) rfl rfl rfl ?_; intro g1 w1 r1 p1 l1 b1)
    | (with_reducible refine wl_alloc rfl 26 _ (bv (List.replicate 16 0)) rfl zero16 rfl ?_; intro g2 w2 r2 p2 l2 b2; have r1' := r1.later b2)
    | (with_reducible refine wl_load_row rfl 22 (.tmp 2) g1 22 _ _ rfl rfl r1' Try.underlying22 rfl h32.out ?_))
  refine (HN _).mono ?_
  rintro e w3 ⟨g, rfl, p3, m3, b3⟩
  go_wp2_with fail
  have s1 := b1.size; have s2 := b2.size; have s3 := b3.size
  have hb3 : Bs w3 w.heap.size A m ys := ((hbs.below b1).below (b2.mono s1)).below (b3.mono (by omega))
  refine (write_any g _ _ m c w.heap.size [] ys A w3 m3 HR (fun _ h => by simp at h) hy hb3 (by omega) hc).mono ?_
  rintro e w4 ⟨rfl, m4, b4⟩
  rw [List.nil_append] at m4
  go_wp2_with fail
  refine (HS g w4 m4).mono ?_
  rintro e w5 ⟨rfl, b5⟩
  have r2' := ((r2.later b3).but b4 (by omega)).later b5
  have s4 := b4.size; have s5 := b5.size
  go_wp2_with (first
    | (with_reducible refine wl_store_row rfl 26 (.tmp 4) (.tmp 12) g2 26 _ (bv (pS ks ys)) rfl rfl rfl r2' (size16 (pS_len _ _)) (by rw [bv_len, bv_len, Hl16.out, List.length_replicate]) (bv_one _) ?_; intro w6 r6 o6))
  refine bodyPost_ret (v := .agg (bv (pS ks ys)).toArray) ?_ rfl ⟨rfl, ?_⟩
  · exact results_cell_row Try.results11 _ _ g2 26 _ (0, 0) _ rfl r6 Try.underlying26 rfl (by simpa using size16 (pS_len ks ys))
  · exact (((((b1.trans (b2.mono s1)).trans (b3.mono (by omega))).trans (b4.below (by omega) (by omega))).trans (b5.mono (by omega))).trans (o6.below (by omega)))
theorem eq16 (xs ys : List Int) (hx : xs.length = 16) (hy : ys.length = 16) (w : World) : (Op.equalIn 10000 26 (.agg (bv xs).toArray) (.agg (bv ys).toArray)).run Try.prog w = .ok (decide (xs = ys)) w := by
  obtain ⟨i0, hi, _⟩ := u8_info
  exact run_eqArr w Try.underlying26 hi (by kernel_rfl) Try.underlying5 Try.isAgg5 xs ys hx hy
def key1 : List Int := [1, 0, 0, 0, 0, 0, 0, 0, 0, 0, 0, 0, 0, 0, 0, 0, 9, 0, 0, 0, 0, 0, 0, 0, 0, 0, 0, 0, 0, 0, 0, 0]
def key2 : List Int := [0, 0, 0, 0, 0, 0, 0, 0, 0, 0, 0, 0, 0, 0, 0, 0, 0, 0, 0, 0, 7, 0, 0, 0, 0, 0, 0, 0, 0, 0, 0, 0]
def sum1 : List Int := [14, 1, 0, 0, 0, 0, 0, 0, 0, 0, 0, 0, 0, 0, 0, 0]
def sum2 : List Int := [0, 0, 0, 0, 7, 0, 0, 0, 0, 0, 0, 0, 0, 0, 0, 0]
theorem pS1 : pS key1 [5] = sum1 := by decide +kernel
theorem pS2 : pS key2 [97, 110, 121] = sum2 := by decide +kernel
theorem by_of_all {xs : List Int} (h : (xs.all fun x => decide (0 ≤ x ∧ x < 256)) = true) : IsBy xs := fun x hx => by simpa using List.all_eq_true.1 h x hx
theorem bK1 : Try.prog.built 22 [(0, .int .u8 1), (16, .int .u8 9)] = some (bv key1).toArray := by kernel_rfl
theorem bK2 : Try.prog.built 22 [(20, .int .u8 7)] = some (bv key2).toArray := by kernel_rfl
theorem bS1 : Try.prog.built 26 [(0, .int .u8 14), (1, .int .u8 1)] = some (bv sum1).toArray := by kernel_rfl
theorem bS2 : Try.prog.built 26 [(4, .int .u8 7)] = some (bv sum2).toArray := by kernel_rfl
set_option maxRecDepth 100000 in
set_option maxHeartbeats 2000000 in
theorem awake_any (w : World) : Calls Try.prog 9 #[] w fun e w' => e = .returned (.bool true) ∧ Below w.heap.size w w' := by
  have P1 := fun A m c w => psum_any key1 [5] A m c w rfl (by_of_all (by decide)) (by_of_all (by decide))
  have P2 := fun A m c w => psum_any key2 [97, 110, 121] A m c w rfl (by_of_all (by decide)) (by_of_all (by decide))
  rw [pS1] at P1
  rw [pS2] at P2
  have P3 : ∀ (A : Option Addr) (m c : Nat) (w : World), Bs w w.heap.size A m [97, 110, 121] → m ≤ c → Calls Try.prog 11 #[.agg #[.int .u8 0, .int .u8 0, .int .u8 0, .int .u8 0, .int .u8 0, .int .u8 0, .int .u8 0, .int .u8 0, .int .u8 0, .int .u8 0, .int .u8 0, .int .u8 0, .int .u8 0, .int .u8 0, .int .u8 0, .int .u8 0, .int .u8 0, .int .u8 0, .int .u8 0, .int .u8 0, .int .u8 7, .int .u8 0, .int .u8 0, .int .u8 0, .int .u8 0, .int .u8 0, .int .u8 0, .int .u8 0, .int .u8 0, .int .u8 0, .int .u8 0, .int .u8 0], .slice A m c] w fun e w' => e = .returned (.agg (bv sum2).toArray) ∧ Below w.heap.size w w' := P2
  clear P2
  have E1 : ∀ w, (Op.equalIn 10000 26 (.agg (bv sum1).toArray) (.agg #[.int .u8 14, .int .u8 1, .int .u8 0, .int .u8 0, .int .u8 0, .int .u8 0, .int .u8 0, .int .u8 0, .int .u8 0, .int .u8 0, .int .u8 0, .int .u8 0, .int .u8 0, .int .u8 0, .int .u8 0, .int .u8 0])).run Try.prog w = .ok true w := fun w => (eq16 sum1 sum1 rfl rfl w).trans (by simp)
  have E2 : ∀ w, (Op.equalIn 10000 26 (.agg (bv sum2).toArray) (.agg #[.int .u8 0, .int .u8 0, .int .u8 0, .int .u8 0, .int .u8 7, .int .u8 0, .int .u8 0, .int .u8 0, .int .u8 0, .int .u8 0, .int .u8 0, .int .u8 0, .int .u8 0, .int .u8 0, .int .u8 0, .int .u8 0])).run Try.prog w = .ok true w := fun w => (eq16 sum2 sum2 rfl rfl w).trans (by simp)
  have z1 := size32 (xs := key1) rfl
  have bk1 := bK1
  have l1 : (bv (List.replicate 32 0)).length = (bv key1).length := rfl
  obtain ⟨i0, hi, hz, hsz, _⟩ := u8_info
  generalize hk1 : bv key1 = K1 at *
  generalize hs1 : bv sum1 = S1 at *
  generalize hs2 : bv sum2 = S2 at *
  have hone : ∀ u ∈ K1, u.oneCell' = true := by rw [← hk1]; exact bv_one _
  clear hk1 hs1 hs2
  go_enter Try.func9, Try.ntmps9
  go_wp2_with (first
    | ((with_reducible refine wl_build rfl 22 _ rfl _ ?hv _ bk1 ?hk); case hv => rfl)
    | (with_reducible refine wl_alloc rfl 22 _ (bv (List.replicate 32 0)) rfl zero32 rfl ?_; intro g1 w1 r1 p1 l1' b1)
    | (with_reducible refine wl_store_row rfl 22 (.tmp 1) (.tmp 2) g1 22 _ K1 rfl rfl rfl r1 z1 l1 hone ?_; intro w2 r2 o2)
    | (with_reducible refine wl_load_row rfl 22 (.tmp 1) g1 22 _ _ rfl rfl r2 Try.underlying22 rfl z1 ?_)
    | (with_reducible refine wl_build1 rfl 23 (.const (.int .u8 5)) rfl 5 i0 (.int .u8 0) (.int .u8 5) Try.underlying23 hi hz hsz rfl rfl rfl ?_; intro g4 w4 r4 p4 l4 b4))
  have r4' : Row w4 5 g4 (bv [5]) := r4
  have s1 := b1.size; have s2 := o2.size; have s4 := b4.size
  refine (P1 _ _ 1 _ ((Row.toOwn r4').bs r4'.lt) (Nat.le_refl _)).mono ?_
  rintro e w5 ⟨rfl, b5⟩
  have s5 := b5.size
  have kc := fun (w : World) (C : Array Value) (n c : Nat) => Lib.run_convert_bytes_const (P := Try.prog) w 23 5 C n c Try.underlying23 Try.underlying5
  go_wp2_with (first | rw [E1])
  refine (P3 _ _ 3 _ (Bs.lit' w5 5 (3, 4) [97, 110, 121] #[.int .u8 97, .int .u8 110, .int .u8 121] 3 _ rfl rfl rfl) (Nat.le_refl _)).mono ?_
  rintro e w6 ⟨rfl, b6⟩
  go_wp2_with (first | rw [E2])
  go_ret
  refine ⟨rfl, ?_⟩
  have s6 := b6.size
  exact ((((b1.trans (o2.below p1)).trans (b4.mono (by omega))).trans (b5.mono (by omega))).alloc (by omega) _).trans (b6.mono (by simp; omega))
end Go.Proofs.Ytcinhofapkddpaa
