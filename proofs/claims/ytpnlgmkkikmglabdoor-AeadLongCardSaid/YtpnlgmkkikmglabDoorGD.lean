/-
  Several own texts in one: RefP1, RefP2, RefP3, RefP4, RefP5, RefP6, RefP7. Own work.
-/
import Derived.Test.YtpnlgmkkikmglabDoorGC
set_option linter.unusedVariables false
set_option linter.unusedSimpArgs false
/-
  The document's answer for poly: numbers of digits: number, carry, plus: contracts. Own work.
-/
namespace Go.Proofs.YtpnlgmkkikmglabDoor
open Go.RowKit
theorem int_info_ : (Tryd.prog.info? 3).map (fun i => (i.zero, i.size, i.bytes)) = some (some (.int .i64 0), 1, 8) := by kernel_rfl
theorem int_info : ∃ i, Tryd.prog.info? 3 = some i ∧ i.zero = some (.int .i64 0) ∧ i.size = 1 ∧ i.bytes = 8 := by
  obtain ⟨i, h0, h1, h2, h3⟩ := info_parts int_info_
  exact ⟨i, h0, h1, h2, h3⟩
def DR (w : World) (g : Nat) (ds : List Int) : Prop := Row w 3 g (vk .i64 ds)
theorem lowB_pad {xs : List Int} (h : IsBy xs) (hl : xs.length ≤ 40) : xs ++ List.replicate (40 - xs.length) 0 = lowB (leN xs) 40 := by
  have h1 := lowB_leN (h.app (IsBy.rep (40 - xs.length)))
  rw [leN_append, leN_zeros, Nat.mul_zero, Nat.add_zero, List.length_append, List.length_replicate, show xs.length + (40 - xs.length) = 40 by omega] at h1
  exact h1.symm
theorem fill_at {xs zs : List Int} {i n : Nat} {v : Int} (hi : i < n) (hn : n ≤ xs.length) (hv : v = xs.getD i 0) (k : Nat) (hk : n ≤ k) : (xs.take i ++ List.replicate (k - i) 0).set i v = xs.take (i + 1) ++ List.replicate (k - (i + 1)) 0 := by
  subst hv
  rw [List.set_append_right _ _ (by rw [List.length_take]; omega), List.length_take, Nat.min_eq_left (by omega), Nat.sub_self, show k - i = (k - (i + 1)) + 1 by omega, List.replicate_succ, List.set_cons_zero, List.take_succ_eq_append_getElem (by omega), List.append_assoc]
  simp [List.getD, show i < xs.length by omega]
set_option maxRecDepth 100000 in
set_option maxHeartbeats 1000000 in
theorem number_any (xs : List Int) (A : Option Addr) (m c : Nat) (w : World) (hb : IsBy xs) (hbs : Bs w w.heap.size A m xs) (hm : m ≤ 40) :
    Calls Tryd.prog 49 #[.slice A m c] w fun e w' => ∃ g, e = .returned (.slice (some ⟨g, 0, none⟩) 40 40) ∧ w.heap.size ≤ g ∧ DR w' g (lowB (leN xs) 40) ∧ Below w.heap.size w w' := by
  obtain ⟨i0, hi, hz, hsz, hby⟩ := int_info
  have hpad := lowB_pad hb (by have := hbs.1; omega)
  have hl := hbs.1
  rw [hl] at hpad
  have HP := hide hpad
  have HL := hide hl
  clear hpad hl
  go_enter Tryd.func49, Tryd.ntmps49
  go_wp2_with (first
    | (with_reducible refine wl_make rfl 84 (.const (.int .i64 40)) (.const (.int .i64 40)) rfl 3 i0 (.int .i64 0) Tryd.underlying84 hi hz hsz rfl .i64 .i64 40 40 40 40 rfl rfl rfl rfl (Nat.le_refl _) (by omega) (by omega) ?_; intro g w1 r1 p1 l1 b1))
  go_loopw [4] (fun iv wr => ∃ i : Nat, i ≤ m ∧ iv = .int .i64 i ∧ Row wr 3 g (vk .i64 (xs.take i ++ List.replicate (40 - i) 0)) ∧ Below w.heap.size w wr) (fun iv _ => m - (intOf iv).toNat)
  case atStart => exact ⟨0, Nat.zero_le _, rfl, r1, b1⟩
  case round =>
    obtain ⟨i, him, rfl, rr, br⟩ := hrel
    by_cases hlt : i < m
    · obtain ⟨b, o, rfl, hb', hc'⟩ := (hbs.below br).at_ hlt
      obtain ⟨y0, y1⟩ := getD_byte hb i
      have hset := fill_at (xs := xs) (zs := []) (i := i) (n := m) (v := xs.getD i 0) hlt (Nat.le_of_eq HL.out.symm) rfl 40 hm
      have HS := hide hset
      have hln : i < (vk .i64 (xs.take i ++ List.replicate (40 - i) 0)).length := by rw [vk_len, List.length_append, List.length_replicate, List.length_take, HL.out]; omega
      clear hset
      generalize xs.getD i 0 = y at *
      have hlt' : i < 40 := by omega
      go_wp2_with (first
        | (with_reducible refine wl_store rfl 3 (.tmp 19) (.tmp 18) g i 3 _ (.int .i64 y) rfl (by kernel_rfl) rfl rfl rr hln rfl ?_; intro w3 r3 o3; rw [vk_set, HS.out] at r3))
      go_roundw
      case rel => exact ⟨i + 1, by omega, by go_num, r3, br.trans (o3.below p1)⟩
      case measure => simp [intOf]; omega
    · have : i = m := by omega
      subst this
      rw [List.take_of_length_le (Nat.le_of_eq HL.out), HP.out] at rr
      go_wp2
      go_ret
      exact ⟨g, rfl, p1, rr, br⟩
set_option maxRecDepth 100000 in
set_option maxHeartbeats 1000000 in
theorem carry_any (g : Nat) (ds : List Int) (w : World) (hl : ds.length = 40) (hn : IsNn ds) (hd : ∀ i, i < ds.length → (ds.getD i 0).toNat ≤ 255 * 1099511627776) (hr : DR w g ds) :
    Calls Tryd.prog 69 #[.slice (some ⟨g, 0, none⟩) 40 40] w fun e w' => e = .returned (.slice (some ⟨g, 0, none⟩) 40 40) ∧ DR w' g (lowB (leN ds) 40) ∧ But g w w' := by
  have HL := hide hl
  have HD := hide hd
  clear hl hd
  go_enter Tryd.func69, Tryd.ntmps69
  go_wp2
  go_loopw [3, 4] (fun cv iv wr => ∃ i : Nat, i ≤ 40 ∧ iv = .int .i64 i ∧ cv = .int .i64 (caC ds i : Int) ∧ Row wr 3 g (vk .i64 (caL ds i)) ∧ But g w wr) (fun _ iv _ => 40 - (intOf iv).toNat)
  case atStart => exact ⟨0, by omega, rfl, by rw [caC_0]; rfl, by rw [caL_0]; exact hr, But.refl _ _⟩
  case round =>
    obtain ⟨i, hi, rfl, rfl, rr, br⟩ := hrel
    by_cases hlt : i < 40
    · have hil : i < ds.length := by rw [HL.out]; exact hlt
      have hc := caC_le HD.out i (by omega)
      have hget := caL_get hil
      have hset := caL_set hil
      have hnext := caC_next hil
      have hll := caL_len ds i (by omega)
      have hdi := HD.out i hil
      have hd0 : ds.getD i 0 = ((ds.getD i 0).toNat : Int) := by
        have := hn (ds.getD i 0) (by rw [List.getD, List.getElem?_eq_getElem hil]; simp)
        omega
      have cell := rr.cell (vk_get (kd := .i64) (xs := caL ds i) (j := i) (by rw [hll]; exact hil))
      rw [hget, hd0] at cell
      have hln : i < (vk .i64 (caL ds i)).length := by rw [vk_len, hll]; exact hil
      clear hd0 hget
      have HS := hide hset
      have HN := hide hnext
      clear hset hnext hll
      generalize (ds.getD i 0).toNat = D at *
      generalize caC ds i = C at *
      have hmod : ((C : Int) + (D : Int)) % 256 = (((C + D) % 256 : Nat) : Int) := by omega
      have hdiv : ((C : Int) + (D : Int)) / 256 = (((C + D) / 256 : Nat) : Int) := by omega
      have HM := hide hmod
      have HV := hide hdiv
      clear hmod hdiv
      go_wp2_with (first
        | (with_reducible refine wl_store rfl 3 (.tmp 21) (.tmp 20) g i 3 _ (.int .i64 (((C : Int) + (D : Int)) % 256)) rfl (by kernel_rfl) rfl rfl rr hln rfl ?_; intro w3 r3 o3; rw [vk_set, HM.out, HS.out] at r3))
      go_roundw
      case rel => exact ⟨i + 1, by omega, by go_num, by rw [HV.out, HN.out], r3, br.trans (But.only o3)⟩
      case measure => simp [intOf]; omega
    · have : i = 40 := by omega
      subst this
      have hall := caL_all ds
      rw [HL.out] at hall
      rw [hall] at rr
      go_wp2
      go_ret
      exact ⟨rfl, rr, br⟩
/-! ### A sum -/
def zL (us bs : List Int) : List Int := List.zipWith (· + ·) us bs
theorem zL_len {us bs : List Int} {n : Nat} (ha : us.length = n) (hb : bs.length = n) : (zL us bs).length = n := by simp [zL, ha, hb]
theorem zL_get {us bs : List Int} {n i : Nat} (ha : us.length = n) (hb : bs.length = n) (hi : i < n) : (zL us bs).getD i 0 = us.getD i 0 + bs.getD i 0 := by
  simp [zL, List.getD, List.getElem?_zipWith, List.getElem?_eq_getElem (show i < us.length by omega), List.getElem?_eq_getElem (show i < bs.length by omega)]
def SRp (ga gb g5 i : Nat) (x y : Int) (opn : Nat) (v : Value) : Prop :=
  match opn with
  | 0 => v = .slice (some ⟨g5, 0, none⟩) 40 40
  | 1 | 3 | 7 => v = .int .i64 (i : Int)
  | 2 => v = .slice (some ⟨ga, 0, none⟩) 40 40
  | 4 => v = .pointer (some ⟨ga, i, none⟩)
  | 5 => v = .int .i64 (x : Int)
  | 6 => v = .slice (some ⟨gb, 0, none⟩) 40 40
  | 8 => v = .pointer (some ⟨gb, i, none⟩)
  | 9 => v = .int .i64 (y : Int)
  | 10 => v = .int .i64 (x + y)
  | 11 => v = .pointer (some ⟨g5, i, none⟩)
  | _ => True

/-- An element of a slice. -/
theorem run_indexS0 {P : Program} {o : Oper} {a : Act} {w : World} (t : TypeId) (x y : Operand) (e : Nat) (g n c i : Nat)
    (ho : o.op = .indexAddr t x y) (hu : P.underlying t = some (.slice e)) (hs : ∀ w, (sizeOf e).run P w = .ok 1 w) (hx : a.eval x = .slice (some ⟨g, 0, none⟩) n c) (hy : a.eval y = .int .i64 i) (hi : i < n) : (execOp a.eval o).run P w = .ok (.value (.pointer (some ⟨g, i, none⟩))) w := by
  unfold execOp
  simp only [ho, hx, hy]
  go_simp
set_option maxRecDepth 100000 in
set_option maxHeartbeats 1000000 in
theorem rplus_any (ga gb : Nat) (us bs : List Int) (w : World) (la : us.length = 40) (lb : bs.length = 40) (na : IsNn us) (nb' : IsNn bs) (ba : ∀ i, i < 40 → us.getD i 0 ≤ 1099511627776) (bb : ∀ i, i < 40 → bs.getD i 0 ≤ 1099511627776) (hra : DR w ga us) (hrb : DR w gb bs) :
    Calls Tryd.prog 53 #[.slice (some ⟨ga, 0, none⟩) 40 40, .slice (some ⟨gb, 0, none⟩) 40 40] w fun e w' => ∃ g, e = .returned (.slice (some ⟨g, 0, none⟩) 40 40) ∧ w.heap.size ≤ g ∧ DR w' g (lowB ((leN us + leN bs : Nat) : Int) 40) ∧ Below w.heap.size w w' := by
  obtain ⟨i0, hi, hz, hsz, hby⟩ := int_info
  have hzv := leN_zip us bs (by omega) na nb'
  have Z0 := hide hzv
  have Zl := hide (zL_len la lb)
  have Ba := hide ba
  have Bb := hide bb
  have La := hide la
  have Lb := hide lb
  clear la lb hzv ba bb
  go_enter Tryd.func53, Tryd.ntmps53
  go_wp2_with (first
    | (with_reducible refine wl_make rfl 84 (.const (.int .i64 40)) (.const (.int .i64 40)) rfl 3 i0 (.int .i64 0) Tryd.underlying84 hi hz hsz rfl .i64 .i64 40 40 40 40 rfl rfl rfl rfl (Nat.le_refl _) (by omega) (by omega) ?_; intro g5 w1 r1 p1 l1 b1))
  have hnea : ga ≠ g5 := by have := hra.lt; omega
  have hneb : gb ≠ g5 := by have := hrb.lt; omega
  have rga1 := Row.later hra b1
  have rgb1 := Row.later hrb b1
  clear hra hrb
  go_loopw [6] (fun iv wr => ∃ i : Nat, i ≤ 40 ∧ iv = .int .i64 i ∧ Row wr 3 g5 (vk .i64 ((zL us bs).take i ++ List.replicate (40 - i) 0)) ∧ But g5 w1 wr) (fun iv _ => 40 - (intOf iv).toNat)
  case atStart => exact ⟨0, Nat.zero_le _, rfl, r1, But.refl _ _⟩
  case round =>
    obtain ⟨i, him, rfl, rr, br⟩ := hrel
    by_cases hi : i < 40
    · have rga := rga1.but br hnea
      have rgb := rgb1.but br hneb
      have cga := vk_get (kd := .i64) (xs := us) (j := i) (by rw [La.out]; exact hi)
      have cgb := vk_get (kd := .i64) (xs := bs) (j := i) (by rw [Lb.out]; exact hi)
      have hx0 : 0 ≤ us.getD i 0 := na _ (by rw [List.getD, List.getElem?_eq_getElem (show i < us.length by rw [La.out]; exact hi)]; simp)
      have hy0 : 0 ≤ bs.getD i 0 := nb' _ (by rw [List.getD, List.getElem?_eq_getElem (show i < bs.length by rw [Lb.out]; exact hi)]; simp)
      have hx1 := Ba.out i hi
      have hy1 := Bb.out i hi
      have hset := fill_at (xs := zL us bs) (zs := []) (i := i) (n := 40) (v := us.getD i 0 + bs.getD i 0) hi (Nat.le_of_eq Zl.out.symm) (zL_get La.out Lb.out hi).symm 40 (Nat.le_refl _)
      have HS := hide (show (vk .i64 ((zL us bs).take i ++ List.replicate (40 - i) 0)).set i (.int .i64 (us.getD i 0 + bs.getD i 0)) = vk .i64 ((zL us bs).take (i + 1) ++ List.replicate (40 - (i + 1)) 0) by rw [vk_set, hset])
      have hcl : i < (vk .i64 ((zL us bs).take i ++ List.replicate (40 - i) 0)).length := by rw [vk_len, List.length_append, List.length_replicate, List.length_take, Zl.out]; omega
      clear hset
      generalize us.getD i 0 = x at *
      generalize bs.getD i 0 = y at *
      generalize vk .i64 ((zL us bs).take i ++ List.replicate (40 - i) 0) = cur at *
      go_wp2_with fail
      rename_i Q1 K1 hK1
      refine wp_region_vals [12] (SRp ga gb g5 i x y) (JB g5 3 wr 0 cur (vk .i64 ((zL us bs).take (i + 1) ++ List.replicate (40 - (i + 1)) 0))) (by kernel_rfl) (by kernel_rfl) (by kernel_rfl) (by kernel_rfl) (by kernel_rfl) (JB.start rr rfl) ?obs ?he
      case obs =>
        refine ⟨?_, ?_, ?_, ?_, ?_, ?_, ?_, ?_, ?_, ?_, ?_, ?_, ?_, trivial⟩
        · exact .inl ⟨by kernel_rfl, fun L a1 w1 n' h => ⟨_, rfl, run_move (.tmp 5) rfl (h.var n' 5 (by kernel_rfl))⟩⟩
        · exact .inl ⟨by kernel_rfl, fun L a1 w1 n' h => ⟨_, rfl, run_move (.tmp 6) rfl (h.var n' 6 (by kernel_rfl))⟩⟩
        · exact .inl ⟨by kernel_rfl, fun L a1 w1 n' h => ⟨_, rfl, run_move (.tmp 0) rfl (h.var n' 0 (by kernel_rfl))⟩⟩
        · exact .inl ⟨by kernel_rfl, fun L a1 w1 n' h => ⟨_, rfl, run_move (.tmp 6) rfl (h.var n' 6 (by kernel_rfl))⟩⟩
        · exact .inl ⟨by kernel_rfl, fun L a1 w1 n' h => ⟨_, rfl, run_indexS0 84 (.tmp 14) (.tmp 15) 3 ga 40 40 i rfl Tryd.underlying84 Tryd.sizeOf3 (h.dep n' 2 14 (by kernel_rfl) rfl) (h.dep n' 3 15 (by kernel_rfl) rfl) hi⟩⟩
        · exact .inl ⟨by kernel_rfl, fun L a1 w1 n' h => ⟨_, rfl, run_loadA 3 (.tmp 16) ⟨ga, i, none⟩ rfl Tryd.isAgg3 (h.dep n' 4 16 (by kernel_rfl) rfl) ((rga.but h.inv.2.2 hnea).cell cga)⟩⟩
        · exact .inl ⟨by kernel_rfl, fun L a1 w1 n' h => ⟨_, rfl, run_move (.tmp 1) rfl (h.var n' 1 (by kernel_rfl))⟩⟩
        · exact .inl ⟨by kernel_rfl, fun L a1 w1 n' h => ⟨_, rfl, run_move (.tmp 6) rfl (h.var n' 6 (by kernel_rfl))⟩⟩
        · exact .inl ⟨by kernel_rfl, fun L a1 w1 n' h => ⟨_, rfl, run_indexS0 84 (.tmp 18) (.tmp 19) 3 gb 40 40 i rfl Tryd.underlying84 Tryd.sizeOf3 (h.dep n' 6 18 (by kernel_rfl) rfl) (h.dep n' 7 19 (by kernel_rfl) rfl) hi⟩⟩
        · exact .inl ⟨by kernel_rfl, fun L a1 w1 n' h => ⟨_, rfl, run_loadA 3 (.tmp 20) ⟨gb, i, none⟩ rfl Tryd.isAgg3 (h.dep n' 8 20 (by kernel_rfl) rfl) ((rgb.but h.inv.2.2 hneb).cell cgb)⟩⟩
        · refine .inl ⟨by kernel_rfl, fun L a1 w1 n' h => ⟨.int .i64 (x + y), rfl, ?_⟩⟩
          have e0 : a1.eval (.tmp 17) = _ := h.dep n' 5 17 (by kernel_rfl) rfl
          have e1 : a1.eval (.tmp 21) = _ := h.dep n' 9 21 (by kernel_rfl) rfl
          unfold execOp
          simp only [e0, e1]
          go_simp
          rw [IntWalk.i64_in _ (by omega)]
        · exact .inl ⟨by kernel_rfl, fun L a1 w1 n' h => ⟨_, rfl, run_indexS0 84 (.tmp 12) (.tmp 13) 3 g5 40 40 i rfl Tryd.underlying84 Tryd.sizeOf3 (h.dep n' 0 12 (by kernel_rfl) rfl) (h.dep n' 1 13 (by kernel_rfl) rfl) hi⟩⟩
        · refine .inr fun L a1 w1 n' h K hK => ?_
          have no : L.getD 12 false = false := n'.not_yet
          refine st_store 3 (.tmp 23) (.tmp 22) g5 i 3 cur (.int .i64 (x + y)) rfl (by kernel_rfl) (h.dep n' 11 23 (by kernel_rfl) rfl) (h.dep n' 10 22 (by kernel_rfl) rfl) (h.inv.1 no) hcl rfl ?_
          intro w3 r3 o3
          rw [HS.out] at r3
          exact hK undef w3 trivial (h.inv.store (us := []) o3 r3 rfl)
      case he =>
        intro V w5 hV hJ
        have r5 := hJ.2.1 rfl
        have bx := br.trans hJ.2.2
        clear hV hJ
        simp only [putOps, List.setIfInBounds_toArray, List.set_cons_succ, List.set_cons_zero]
        refine hK1 _ _ ?_
        go_wp2
        go_roundw
        case rel => exact ⟨i + 1, by omega, by go_num, r5, bx⟩
        case measure => simp [intOf]; omega
    · have : i = 40 := by omega
      subst this
      rw [List.take_of_length_le (Nat.le_of_eq Zl.out), Nat.sub_self, List.replicate_zero, List.append_nil] at rr
      have nz : IsNn (zL us bs) := by
        intro z hz
        obtain ⟨j, hj⟩ := List.getElem?_of_mem hz
        have hjl := (List.getElem?_eq_some_iff.1 hj).1
        rw [Zl.out] at hjl
        have e := zL_get La.out Lb.out hjl
        rw [List.getD, hj, Option.getD_some] at e
        have h1 := na _ (show us.getD j 0 ∈ us by rw [List.getD, List.getElem?_eq_getElem (show j < us.length by rw [La.out]; exact hjl)]; simp)
        have h2 := nb' _ (show bs.getD j 0 ∈ bs by rw [List.getD, List.getElem?_eq_getElem (show j < bs.length by rw [Lb.out]; exact hjl)]; simp)
        omega
      have bz : ∀ i, i < (zL us bs).length → ((zL us bs).getD i 0).toNat ≤ 255 * 1099511627776 := by
        intro j hj
        rw [Zl.out] at hj
        rw [zL_get La.out Lb.out hj]
        have := Ba.out j hj
        have := Bb.out j hj
        omega
      go_wp2_with fail
      refine (carry_any g5 (zL us bs) wr Zl.out nz bz rr).mono ?_
      rintro e w5 ⟨rfl, r5, b5⟩
      rw [show leN (zL us bs) = leN us + leN bs from Z0.out] at r5
      go_wp2
      go_ret
      exact ⟨g5, rfl, p1, r5, b1.trans ((br.trans b5).below p1 b1.size)⟩
end Go.Proofs.YtpnlgmkkikmglabDoor

/-
  The document's answer for poly: a product: contract. Own work.
-/
namespace Go.Proofs.YtpnlgmkkikmglabDoor
open Go.RowKit
/-- In the middle of the school method. -/
structure Sch (us bs : List Int) (i k : Nat) (ds : List Int) : Prop where
  len : ds.length = 40
  nn : IsNn ds
  bd : ∀ j, j < 40 → ds.getD j 0 ≤ 65025 * (20 * i + k : Nat)
  val : leN ds = leN (us.take i) * leN (bs.take 20) + 256 ^ i * (us.getD i 0).toNat * leN (bs.take k)
theorem Sch.start {us bs : List Int} : Sch us bs 0 0 (List.replicate 40 0) := by
  refine ⟨by simp, (IsBy.rep 40).nn, fun j hj => ?_, by simp [leN_zeros, leN]⟩
  have : (List.replicate 40 (0 : Int)).getD j 0 = 0 := by
    rw [List.getD, List.getElem?_replicate]
    split <;> rfl
  rw [this]; omega
theorem Sch.next {us bs ds : List Int} {i : Nat} (h : Sch us bs i 20 ds) (hu : us.length = 40) (hi : i < 20) : Sch us bs (i + 1) 0 ds := by
  refine ⟨h.len, h.nn, fun j hj => ?_, ?_⟩
  · have := h.bd j hj
    rw [show 20 * (i + 1) + 0 = 20 * i + 20 by omega]
    exact this
  · rw [h.val, leN_take_succ (ds := us) (i := i) (by omega), Nat.add_mul]
    simp [leN]
theorem Sch.step {us bs ds : List Int} {i k : Nat} (h : Sch us bs i k ds) (hu : us.length = 40) (hb : bs.length = 40) (bu : IsBy us) (bb : IsBy bs) (hi : i < 20) (hk : k < 20) {v : Int} (hv : v = ds.getD (i + k) 0 + ((us.getD i 0).toNat * (bs.getD k 0).toNat : Nat)) : Sch us bs i (k + 1) (ds.set (i + k) v) := by
  have hl := h.len
  have hd0 : 0 ≤ ds.getD (i + k) 0 := h.nn _ (by rw [List.getD, List.getElem?_eq_getElem (show i + k < ds.length by omega)]; simp)
  obtain ⟨a0, a1⟩ := getD_byte bu i
  obtain ⟨b0, b1⟩ := getD_byte bb k
  have hp : (us.getD i 0).toNat * (bs.getD k 0).toNat ≤ 255 * 255 := Nat.mul_le_mul (by omega) (by omega)
  refine ⟨by rw [List.length_set, hl], ?_, fun j hj => ?_, ?_⟩
  · intro x hx
    rcases List.mem_or_eq_of_mem_set hx with h1 | rfl
    · exact h.nn x h1
    · rw [hv]; omega
  · have hbj := h.bd j hj
    by_cases e : j = i + k
    · subst e
      have : (ds.set (i + k) v).getD (i + k) 0 = v := by simp [List.getD, List.getElem?_set_self (show i + k < ds.length by omega)]
      rw [this, hv]
      omega
    · have : (ds.set (i + k) v).getD j 0 = ds.getD j 0 := by simp [List.getD, List.getElem?_set_ne (Ne.symm e)]
      rw [this]
      omega
  · rw [leN_set (by omega) hd0 hv, h.val, leN_take_succ (ds := bs) (i := k) (by omega), Nat.pow_add, Nat.mul_add, ← Nat.add_assoc]
    congr 1
    ac_rfl
theorem Sch.done {us bs ds : List Int} (h : Sch us bs 20 0 ds) : leN ds = leN (us.take 20) * leN (bs.take 20) := by rw [h.val]; simp [leN]
def SRt (ga gb g5 i k X Y P : Nat) (o : Int) (opn : Nat) (v : Value) : Prop :=
  match opn with
  | 0 | 4 => v = .slice (some ⟨g5, 0, none⟩) 40 40
  | 1 | 5 | 11 => v = .int .i64 (i : Int)
  | 2 | 6 | 15 => v = .int .i64 (k : Int)
  | 3 | 7 => v = .int .i64 ((i + k : Nat) : Int)
  | 8 | 20 => v = .pointer (some ⟨g5, (i + k), none⟩)
  | 9 => v = .int .i64 o
  | 10 => v = .slice (some ⟨ga, 0, none⟩) 40 40
  | 12 => v = .pointer (some ⟨ga, i, none⟩)
  | 13 => v = .int .i64 (X : Int)
  | 14 => v = .slice (some ⟨gb, 0, none⟩) 40 40
  | 16 => v = .pointer (some ⟨gb, k, none⟩)
  | 17 => v = .int .i64 (Y : Int)
  | 18 => v = .int .i64 (P : Int)
  | 19 => v = .int .i64 (o + (P : Int))
  | _ => True

set_option maxRecDepth 100000 in
set_option maxHeartbeats 2000000 in
theorem rtimes_any (ga gb : Nat) (us bs : List Int) (w : World) (la : us.length = 40) (lb : bs.length = 40) (na : IsBy us) (nb' : IsBy bs) (hra : DR w ga us) (hrb : DR w gb bs) :
    Calls Tryd.prog 52 #[.slice (some ⟨ga, 0, none⟩) 40 40, .slice (some ⟨gb, 0, none⟩) 40 40] w fun e w' => ∃ g, e = .returned (.slice (some ⟨g, 0, none⟩) 40 40) ∧ w.heap.size ≤ g ∧ DR w' g (lowB ((leN (us.take 20) * leN (bs.take 20) : Nat) : Int) 40) ∧ Below w.heap.size w w' := by
  obtain ⟨i0, hi, hz, hsz, hby⟩ := int_info
  have La := hide la
  have Lb := hide lb
  clear la lb
  go_enter Tryd.func52, Tryd.ntmps52
  go_wp2_with (first
    | (with_reducible refine wl_make rfl 84 (.const (.int .i64 40)) (.const (.int .i64 40)) rfl 3 i0 (.int .i64 0) Tryd.underlying84 hi hz hsz rfl .i64 .i64 40 40 40 40 rfl rfl rfl rfl (Nat.le_refl _) (by omega) (by omega) ?_; intro g5 w1 r1 p1 l1 b1))
  have hnea : ga ≠ g5 := by have := hra.lt; omega
  have hneb : gb ≠ g5 := by have := hrb.lt; omega
  have rga1 := Row.later hra b1
  have rgb1 := Row.later hrb b1
  clear hra hrb
  go_loopw [6] (fun iv wr => ∃ (i : Nat) (ds : List Int), i ≤ 20 ∧ iv = .int .i64 i ∧ Row wr 3 g5 (vk .i64 ds) ∧ Sch us bs i 0 ds ∧ But g5 w1 wr) (fun iv _ => 20 - (intOf iv).toNat)
  case atStart => exact ⟨0, List.replicate 40 0, Nat.zero_le _, rfl, r1, Sch.start, But.refl _ _⟩
  case round =>
    clear r1
    obtain ⟨i, ds, him, rfl, rr, hs, br⟩ := hrel
    by_cases hi : i < 20
    · have hdi : decide ((i : Int) < 20) = true := by simp; omega
      go_wp2_with fail
      go_loopw [7] (fun kv wr' => ∃ (k : Nat) (ds : List Int), k ≤ 20 ∧ kv = .int .i64 k ∧ Row wr' 3 g5 (vk .i64 ds) ∧ Sch us bs i k ds ∧ But g5 w1 wr') (fun kv _ => 20 - (intOf kv).toNat)
      case atStart => exact ⟨0, ds, by omega, rfl, rr, hs, br⟩
      case round =>
        clear rr br hs
        obtain ⟨k, ds, hk2, rfl, rr, hs, br⟩ := hrel
        by_cases hk : k < 20
        · have rga := rga1.but br hnea
          have rgb := rgb1.but br hneb
          have hik : i + k < 40 := by omega
          have hi40 : i < 40 := by omega
          have hk40 : k < 40 := by omega
          have cga := vk_get (kd := .i64) (xs := us) (j := i) (by rw [La.out]; exact hi40)
          have cgb := vk_get (kd := .i64) (xs := bs) (j := k) (by rw [Lb.out]; exact hk40)
          have co := vk_get (kd := .i64) (xs := ds) (j := i + k) (by rw [hs.len]; exact hik)
          obtain ⟨x0, x1⟩ := getD_byte na i
          obtain ⟨y0, y1⟩ := getD_byte nb' k
          have o0 : 0 ≤ ds.getD (i + k) 0 := hs.nn _ (by rw [List.getD, List.getElem?_eq_getElem (show i + k < ds.length by rw [hs.len]; exact hik)]; simp)
          have o1 := hs.bd (i + k) hik
          have hst := fun v hv => hs.step La.out Lb.out na nb' hi hk (v := v) hv
          have HST := hide hst
          have hcl : i + k < (vk .i64 ds).length := by rw [vk_len, hs.len]; exact hik
          obtain ⟨X, hX⟩ := Int.eq_ofNat_of_zero_le x0
          obtain ⟨Y, hY⟩ := Int.eq_ofNat_of_zero_le y0
          rw [hX] at cga x1
          rw [hY] at cgb y1
          have hP : X * Y ≤ 255 * 255 := Nat.mul_le_mul (by omega) (by omega)
          have hst2 := HST.out _ rfl
          rw [hX, hY, Int.toNat_natCast, Int.toNat_natCast] at hst2
          have HPv : Hid ((X : Int) * (Y : Int) = ((X * Y : Nat) : Int)) := (by simp : (X : Int) * (Y : Int) = ((X * Y : Nat) : Int))
          have HS2 := hide hst2
          clear hst HST hst2 hs hX hY x0 y0
          generalize X * Y = P at *
          generalize ds.getD (i + k) 0 = o at *
          go_wp2_with fail
          rename_i Q1 K1 hK1
          refine wp_region_vals [21] (SRt ga gb g5 i k X Y P o) (JB g5 3 wr 0 (vk .i64 ds) (vk .i64 (ds.set (i + k) (o + (P : Int))))) (by kernel_rfl) (by kernel_rfl) (by kernel_rfl) (by kernel_rfl) (by kernel_rfl) (JB.start rr rfl) ?obs ?he
          case obs =>
            refine ⟨?_, ?_, ?_, ?_, ?_, ?_, ?_, ?_, ?_, ?_, ?_, ?_, ?_, ?_, ?_, ?_, ?_, ?_, ?_, ?_, ?_, ?_, trivial⟩
            · exact .inl ⟨by kernel_rfl, fun L a1 w1 n' h => ⟨_, rfl, run_move (.tmp 5) rfl (h.var n' 5 (by kernel_rfl))⟩⟩
            · exact .inl ⟨by kernel_rfl, fun L a1 w1 n' h => ⟨_, rfl, run_move (.tmp 6) rfl (h.var n' 6 (by kernel_rfl))⟩⟩
            · exact .inl ⟨by kernel_rfl, fun L a1 w1 n' h => ⟨_, rfl, run_move (.tmp 7) rfl (h.var n' 7 (by kernel_rfl))⟩⟩
            · refine .inl ⟨by kernel_rfl, fun L a1 w1 n' h => ⟨.int .i64 ((i + k : Nat) : Int), rfl, ?_⟩⟩
              have e0 : a1.eval (.tmp 18) = _ := h.dep n' 1 18 (by kernel_rfl) rfl
              have e1 : a1.eval (.tmp 19) = _ := h.dep n' 2 19 (by kernel_rfl) rfl
              unfold execOp
              simp only [e0, e1]
              go_simp
              rw [IntWalk.i64_in _ (by omega)]
            · exact .inl ⟨by kernel_rfl, fun L a1 w1 n' h => ⟨_, rfl, run_move (.tmp 5) rfl (h.var n' 5 (by kernel_rfl))⟩⟩
            · exact .inl ⟨by kernel_rfl, fun L a1 w1 n' h => ⟨_, rfl, run_move (.tmp 6) rfl (h.var n' 6 (by kernel_rfl))⟩⟩
            · exact .inl ⟨by kernel_rfl, fun L a1 w1 n' h => ⟨_, rfl, run_move (.tmp 7) rfl (h.var n' 7 (by kernel_rfl))⟩⟩
            · refine .inl ⟨by kernel_rfl, fun L a1 w1 n' h => ⟨.int .i64 ((i + k : Nat) : Int), rfl, ?_⟩⟩
              have e0 : a1.eval (.tmp 22) = _ := h.dep n' 5 22 (by kernel_rfl) rfl
              have e1 : a1.eval (.tmp 23) = _ := h.dep n' 6 23 (by kernel_rfl) rfl
              unfold execOp
              simp only [e0, e1]
              go_simp
              rw [IntWalk.i64_in _ (by omega)]
            · exact .inl ⟨by kernel_rfl, fun L a1 w1 n' h => ⟨_, rfl, run_indexS0 84 (.tmp 21) (.tmp 24) 3 g5 40 40 (i + k) rfl Tryd.underlying84 Tryd.sizeOf3 (h.dep n' 4 21 (by kernel_rfl) rfl) (h.dep n' 7 24 (by kernel_rfl) rfl) hik⟩⟩
            · exact .inl ⟨by kernel_rfl, fun L a1 w1 n' h => ⟨_, rfl, run_loadA 3 (.tmp 25) ⟨g5, (i + k), none⟩ rfl Tryd.isAgg3 (h.dep n' 8 25 (by kernel_rfl) rfl) ((h.inv.1 (n'.later (by kernel_rfl))).cell co)⟩⟩
            · exact .inl ⟨by kernel_rfl, fun L a1 w1 n' h => ⟨_, rfl, run_move (.tmp 0) rfl (h.var n' 0 (by kernel_rfl))⟩⟩
            · exact .inl ⟨by kernel_rfl, fun L a1 w1 n' h => ⟨_, rfl, run_move (.tmp 6) rfl (h.var n' 6 (by kernel_rfl))⟩⟩
            · exact .inl ⟨by kernel_rfl, fun L a1 w1 n' h => ⟨_, rfl, run_indexS0 84 (.tmp 27) (.tmp 28) 3 ga 40 40 i rfl Tryd.underlying84 Tryd.sizeOf3 (h.dep n' 10 27 (by kernel_rfl) rfl) (h.dep n' 11 28 (by kernel_rfl) rfl) hi40⟩⟩
            · exact .inl ⟨by kernel_rfl, fun L a1 w1 n' h => ⟨_, rfl, run_loadA 3 (.tmp 29) ⟨ga, i, none⟩ rfl Tryd.isAgg3 (h.dep n' 12 29 (by kernel_rfl) rfl) ((rga.but h.inv.2.2 hnea).cell cga)⟩⟩
            · exact .inl ⟨by kernel_rfl, fun L a1 w1 n' h => ⟨_, rfl, run_move (.tmp 1) rfl (h.var n' 1 (by kernel_rfl))⟩⟩
            · exact .inl ⟨by kernel_rfl, fun L a1 w1 n' h => ⟨_, rfl, run_move (.tmp 7) rfl (h.var n' 7 (by kernel_rfl))⟩⟩
            · exact .inl ⟨by kernel_rfl, fun L a1 w1 n' h => ⟨_, rfl, run_indexS0 84 (.tmp 31) (.tmp 32) 3 gb 40 40 k rfl Tryd.underlying84 Tryd.sizeOf3 (h.dep n' 14 31 (by kernel_rfl) rfl) (h.dep n' 15 32 (by kernel_rfl) rfl) hk40⟩⟩
            · exact .inl ⟨by kernel_rfl, fun L a1 w1 n' h => ⟨_, rfl, run_loadA 3 (.tmp 33) ⟨gb, k, none⟩ rfl Tryd.isAgg3 (h.dep n' 16 33 (by kernel_rfl) rfl) ((rgb.but h.inv.2.2 hneb).cell cgb)⟩⟩
            · refine .inl ⟨by kernel_rfl, fun L a1 w1 n' h => ⟨.int .i64 (P : Int), rfl, ?_⟩⟩
              have e0 : a1.eval (.tmp 30) = _ := h.dep n' 13 30 (by kernel_rfl) rfl
              have e1 : a1.eval (.tmp 34) = _ := h.dep n' 17 34 (by kernel_rfl) rfl
              unfold execOp
              simp only [e0, e1]
              go_simp
              rw [HPv.out, IntWalk.i64_in _ (by omega)]
            · refine .inl ⟨by kernel_rfl, fun L a1 w1 n' h => ⟨.int .i64 (o + (P : Int)), rfl, ?_⟩⟩
              have e0 : a1.eval (.tmp 26) = _ := h.dep n' 9 26 (by kernel_rfl) rfl
              have e1 : a1.eval (.tmp 35) = _ := h.dep n' 18 35 (by kernel_rfl) rfl
              unfold execOp
              simp only [e0, e1]
              go_simp
              rw [IntWalk.i64_in _ (by omega)]
            · exact .inl ⟨by kernel_rfl, fun L a1 w1 n' h => ⟨_, rfl, run_indexS0 84 (.tmp 17) (.tmp 20) 3 g5 40 40 (i + k) rfl Tryd.underlying84 Tryd.sizeOf3 (h.dep n' 0 17 (by kernel_rfl) rfl) (h.dep n' 3 20 (by kernel_rfl) rfl) hik⟩⟩
            · refine .inr fun L a1 w1 n' h K hK => ?_
              have no : L.getD 21 false = false := n'.not_yet
              refine st_store 3 (.tmp 37) (.tmp 36) g5 (i + k) 3 (vk .i64 ds) (.int .i64 (o + (P : Int))) rfl (by kernel_rfl) (h.dep n' 20 37 (by kernel_rfl) rfl) (h.dep n' 19 36 (by kernel_rfl) rfl) (h.inv.1 no) hcl rfl ?_
              intro w3 r3 o3
              rw [vk_set] at r3
              exact hK undef w3 trivial (h.inv.store (us := []) o3 r3 rfl)
          case he =>
            intro V w5 hV hJ
            have r5 := hJ.2.1 rfl
            have bx := br.trans hJ.2.2
            clear hV hJ
            simp only [putOps, List.setIfInBounds_toArray, List.set_cons_succ, List.set_cons_zero]
            refine hK1 _ _ ?_
            go_wp2
            go_roundw
            case rel => exact ⟨k + 1, _, by omega, by go_num, r5, HS2.out, bx⟩
            case measure => simp [intOf]; omega
        · have hk20 : k = 20 := by omega
          rw [hk20] at hs
          have hs' := hs.next La.out hi
          have HS := hide hs'
          clear hs hs' hk20
          go_wp2
          go_roundw
          case rel => exact ⟨i + 1, ds, by omega, by go_num, rr, HS.out, br⟩
          case measure => simp [intOf]; omega
    · have : i = 20 := by omega
      subst this
      have hv := hs.done
      have HV := hide hv
      have hl := hs.len
      have nz := hs.nn
      have bz : ∀ i, i < ds.length → (ds.getD i 0).toNat ≤ 255 * 1099511627776 := fun j hj => by
        have := hs.bd j (by omega)
        omega
      clear hv hs
      go_wp2_with fail
      refine (carry_any g5 ds wr hl nz bz rr).mono ?_
      rintro e w5 ⟨rfl, r5, b5⟩
      rw [HV.out] at r5
      go_wp2
      go_ret
      exact ⟨g5, rfl, p1, r5, b1.trans ((br.trans b5).below p1 b1.size)⟩
end Go.Proofs.YtpnlgmkkikmglabDoor

/-
  The document's answer for poly: a fold, the prime, which is below: contracts. Own work.
-/
namespace Go.Proofs.YtpnlgmkkikmglabDoor
open Go.RowKit
/-- A number's digits. -/
def dg (X : Nat) : List Int := lowB (X : Int) 40
theorem dg_len (X : Nat) : (dg X).length = 40 := lowB_length _ _
theorem dg_by (X : Nat) : IsBy (dg X) := lowB_by _ _
theorem dg_nn (X : Nat) : IsNn (dg X) := (dg_by X).nn
theorem dg_get {X i : Nat} (h : i < 40) : (dg X).getD i 0 = ((X / 256 ^ i % 256 : Nat) : Int) := lowB_get h
theorem dg_le {X i : Nat} (h : i < 40) : (dg X).getD i 0 ≤ 255 := by rw [dg_get h]; omega
theorem dg_val {X : Nat} (h : X < 256 ^ 40) : leN (dg X) = X := by rw [dg, leN_lowB, Nat.mod_eq_of_lt h]
theorem dg_take {X n : Nat} (h : n ≤ 40) : leN ((dg X).take n) = X % 256 ^ n := by
  have h1 := leN_mod (dg_by X) n
  rw [← h1, dg, leN_lowB]
  exact Nat.mod_mod_of_dvd X (Nat.pow_dvd_pow 256 h)
theorem take_set {L : List Int} {n : Nat} {v : Int} (k : Nat) (hl : L.length = n) (hk : n < k) : (L ++ List.replicate (k - n) 0).set n v = (L ++ [v]) ++ List.replicate (k - (n + 1)) 0 := by
  rw [List.set_append_right _ _ (by omega), hl, Nat.sub_self, show k - n = (k - (n + 1)) + 1 by omega, List.replicate_succ, List.set_cons_zero, List.append_assoc]
  rfl
/-- The lowest 130 bits, as digits. -/
def lowF (X : Nat) : List Int := ((dg X).take 16 ++ [((X / 256 ^ 16 % 256 % 4 : Nat) : Int)]) ++ List.replicate (40 - (16 + 1)) 0
theorem lowF_eq {X : Nat} : lowF X = dg (X % 1361129467683753853853498429727072845824) := by
  have hb : IsBy (lowF X) := by
    refine ((dg_by X).take 16 |>.app ?_).app (IsBy.rep _)
    intro y hy
    simp at hy
    omega
  have hl : (lowF X).length = 40 := by simp [lowF, dg_len]
  have hv : leN (lowF X) = X % 1361129467683753853853498429727072845824 := by
    rw [lowF, leN_append, leN_append, leN_zeros, dg_take (by decide), List.length_take, dg_len]
    simp [leN]
    have : X / 340282366920938463463374607431768211456 % 256 % 4 = X / 340282366920938463463374607431768211456 % 4 := by omega
    omega
  have := lowB_leN hb
  rw [hl, hv] at this
  exact this.symm
/-- What stands above, five times: a digit; all of them. -/
def hiD (X j : Nat) : Int := 5 * ((X / 256 ^ (16 + j) % 256 / 4 + 64 * (X / 256 ^ (17 + j) % 256 % 4) : Nat) : Int)
def hiL (X n : Nat) : List Int := (List.range n).map (hiD X)
theorem hiL_len (X n : Nat) : (hiL X n).length = n := by simp [hiL]
theorem hiL_succ (X n : Nat) : hiL X (n + 1) = hiL X n ++ [hiD X n] := by simp [hiL, List.range_succ]
theorem hiD_eq (X j : Nat) : hiD X j = 5 * ((X / 1361129467683753853853498429727072845824 / 256 ^ j % 256 : Nat) : Int) := by
  unfold hiD
  congr 2
  have e1 : X / 256 ^ (17 + j) = X / 256 ^ (16 + j) / 256 := by rw [Nat.div_div_eq_div_mul, ← Nat.pow_succ]; congr 2; omega
  have e2 : X / 1361129467683753853853498429727072845824 / 256 ^ j = X / 256 ^ (16 + j) / 4 := by
    rw [Nat.div_div_eq_div_mul, Nat.div_div_eq_div_mul, Nat.pow_add, show (256 : Nat) ^ 16 = 340282366920938463463374607431768211456 from by decide]
    congr 1
    rw [show 1361129467683753853853498429727072845824 = 340282366920938463463374607431768211456 * 4 from by decide, Nat.mul_assoc, Nat.mul_assoc, Nat.mul_comm 4]
  rw [e1, e2]
  generalize X / 256 ^ (16 + j) = Y
  omega
theorem hiL_val (X n : Nat) : leN (hiL X n) = 5 * (X / 1361129467683753853853498429727072845824 % 256 ^ n) := by
  have : hiL X n = (lowB ((X / 1361129467683753853853498429727072845824 : Nat) : Int) n).map fun d => ((5 : Nat) : Int) * d := by
    apply List.ext_getElem?
    intro i
    by_cases hi : i < n
    · have := lowB_get (X := X / 1361129467683753853853498429727072845824) hi
      rw [List.getD, List.getElem?_eq_getElem (by rw [lowB_length]; exact hi), Option.getD_some] at this
      simp only [hiL, List.getElem?_map, List.getElem?_range hi, Option.map_some, hiD_eq]
      rw [List.getElem?_eq_getElem (by rw [lowB_length]; exact hi), Option.map_some, this]
      rfl
    · rw [List.getElem?_eq_none (by rw [hiL_len]; omega), List.getElem?_eq_none (by rw [List.length_map, lowB_length]; omega)]
  rw [this, leN_scale 5 _ (lowB_by _ _).nn, leN_lowB]
theorem hiD_le (X j : Nat) : 0 ≤ hiD X j ∧ hiD X j ≤ 1275 := by rw [hiD_eq]; omega
theorem fold_facts {X : Nat} (hX : X < 256 ^ 40) : 5 * (X / 1361129467683753853853498429727072845824 % 256 ^ 24) = 5 * (X / 1361129467683753853853498429727072845824) ∧ 5 * (X / 1361129467683753853853498429727072845824) < 256 ^ 40 := by
  have h : X < 2135987035920910082395021706169552114602704522356652769947041607822219725780640550022962086936576 := hX
  have h24 : (256 : Nat) ^ 24 = 6277101735386680763835789423207666416102355444464034512896 := by decide
  have h40 : (256 : Nat) ^ 40 = 2135987035920910082395021706169552114602704522356652769947041607822219725780640550022962086936576 := by decide
  rw [h24, h40]
  omega
set_option maxRecDepth 100000 in
set_option maxHeartbeats 2000000 in
theorem rfold_any (g0 X : Nat) (w : World) (hX : X < 256 ^ 40) (hr : DR w g0 (dg X)) :
    Calls Tryd.prog 66 #[.slice (some ⟨g0, 0, none⟩) 40 40] w fun e w' => ∃ g, e = .returned (.slice (some ⟨g, 0, none⟩) 40 40) ∧ w.heap.size ≤ g ∧ DR w' g (dg (fold1 X)) ∧ Below w.heap.size w w' := by
  obtain ⟨i0, hi, hz, hsz, hby⟩ := int_info
  obtain ⟨f1, f2⟩ := fold_facts hX
  have F1 := hide f1
  have F2 := hide f2
  have HX := hide hX
  clear f1 f2 hX
  go_enter Tryd.func66, Tryd.ntmps66
  go_wp2_with (first
    | (with_reducible refine wl_make (o := ⟨some 8, _, _, _, _, _⟩) rfl 84 (.const (.int .i64 40)) (.const (.int .i64 40)) rfl 3 i0 (.int .i64 0) Tryd.underlying84 hi hz hsz rfl .i64 .i64 40 40 40 40 rfl rfl rfl rfl (Nat.le_refl _) (by omega) (by omega) ?_; intro g1 w1 r1 p1 l1 b1)
    | (with_reducible refine wl_make (o := ⟨some 9, _, _, _, _, _⟩) rfl 84 (.const (.int .i64 40)) (.const (.int .i64 40)) rfl 3 i0 (.int .i64 0) Tryd.underlying84 hi hz hsz rfl .i64 .i64 40 40 40 40 rfl rfl rfl rfl (Nat.le_refl _) (by omega) (by omega) ?_; intro g2 w2 r2 p2 l2 b2))
  have hgl := hr.lt
  have s1 := b1.size
  have hr2 := (Row.later hr b1).later b2
  have r1' := r1.later b2
  have hne1 : g0 ≠ g1 := by omega
  have hne2 : g0 ≠ g2 := by omega
  have hne : g1 ≠ g2 := by omega
  have B2 := b1.trans (b2.mono s1)
  clear r1
  go_loopw [5] (fun iv wr => ∃ i : Nat, i ≤ 16 ∧ iv = .int .i64 i ∧ Row wr 3 g1 (vk .i64 ((dg X).take i ++ List.replicate (40 - i) 0)) ∧ But g1 w2 wr) (fun iv _ => 16 - (intOf iv).toNat)
  case atStart => exact ⟨0, Nat.zero_le _, rfl, r1', But.refl _ _⟩
  case round =>
    clear r1'
    obtain ⟨i, him, rfl, rr, br⟩ := hrel
    by_cases hi' : i < 16
    · have h40 : i < 40 := by omega
      have cell := (hr2.but br hne1).cell (vk_get (kd := .i64) (xs := dg X) (j := i) (by rw [dg_len]; exact h40))
      have hset := fill_at (xs := dg X) (zs := []) (i := i) (n := 40) (v := (dg X).getD i 0) h40 (Nat.le_of_eq (dg_len X).symm) rfl 40 (Nat.le_refl _)
      have HS := hide hset
      have hcl : i < (vk .i64 ((dg X).take i ++ List.replicate (40 - i) 0)).length := by rw [vk_len, List.length_append, List.length_replicate, List.length_take, dg_len]; omega
      clear hset
      generalize (dg X).getD i 0 = x at *
      go_wp2_with (first
        | (with_reducible refine wl_store rfl 3 (.tmp 20) (.tmp 19) g1 i 3 _ (.int .i64 x) rfl (by kernel_rfl) rfl rfl rr hcl rfl ?_; intro w3 r3 o3; rw [vk_set, HS.out] at r3))
      go_roundw
      case rel => exact ⟨i + 1, by omega, by go_num, r3, br.trans (But.only o3)⟩
      case measure => simp [intOf]; omega
    · have h16 : i = 16 := by omega
      rw [h16] at rr
      clear h16
      have c16 := (hr2.but br hne1).cell (vk_get (kd := .i64) (xs := dg X) (j := 16) (by rw [dg_len]; decide))
      rw [dg_get (by decide)] at c16
      have hset := take_set (L := (dg X).take 16) (n := 16) (v := ((X / 256 ^ 16 % 256 % 4 : Nat) : Int)) 40 (by rw [List.length_take, dg_len]; rfl) (by decide)
      have hmd : ((X / 256 ^ 16 % 256 : Nat) : Int) % 4 = ((X / 256 ^ 16 % 256 % 4 : Nat) : Int) := by omega
      have HS := hide (show ((dg X).take 16 ++ List.replicate (40 - 16) 0).set 16 (((X / 256 ^ 16 % 256 : Nat) : Int) % 4) = dg (X % 1361129467683753853853498429727072845824) by rw [hmd, hset]; exact lowF_eq)
      have hd0 : 0 ≤ ((X / 256 ^ 16 % 256 : Nat) : Int) ∧ ((X / 256 ^ 16 % 256 : Nat) : Int) < 256 := by omega
      have hcl : 16 < (vk .i64 ((dg X).take 16 ++ List.replicate (40 - 16) 0)).length := by rw [vk_len, List.length_append, List.length_replicate, List.length_take, dg_len]; decide
      clear hset hmd
      generalize ((X / 256 ^ 16 % 256 : Nat) : Int) = d at *
      obtain ⟨hd1, hd2⟩ := hd0
      go_wp2_with (first
        | (with_reducible refine wl_store rfl 3 (.tmp 26) (.tmp 25) g1 16 3 _ (.int .i64 (d % 4)) rfl (by kernel_rfl) rfl rfl rr hcl rfl ?_; intro w3 r3 o3; rw [vk_set, HS.out] at r3))
      have hr3 := (hr2.but br hne1).only o3 hne1
      have r23 := (r2.but br (Ne.symm hne)).only o3 (Ne.symm hne)
      have s3 := br.size; have s4 := o3.size
      have B3 := B2.trans ((br.trans (But.only o3)).below p1 B2.size)
      clear rr c16 HS hcl br o3 hd1 hd2
      go_loopw [6] (fun iv wr => ∃ n : Nat, n ≤ 24 ∧ iv = .int .i64 ((16 + n : Nat) : Int) ∧ Row wr 3 g2 (vk .i64 (hiL X n ++ List.replicate (40 - n) 0)) ∧ But g2 w3 wr) (fun iv _ => 40 - (intOf iv).toNat)
      case atStart => exact ⟨0, Nat.zero_le _, rfl, r23, But.refl _ _⟩
      case round =>
        clear r23
        obtain ⟨n, hn24, rfl, rr, br⟩ := hrel
        by_cases hn : n < 24
        · have hdn : decide (((16 + n : Nat) : Int) < 40) = true := by simp; omega
          have c1 := (hr3.but br hne2).cell (vk_get (kd := .i64) (xs := dg X) (j := 16 + n) (by rw [dg_len]; omega))
          rw [dg_get (by omega)] at c1
          have hset := take_set (L := hiL X n) (n := n) (v := hiD X n) 40 (hiL_len X n) (by omega)
          rw [← hiL_succ] at hset
          have hcl : n < (vk .i64 (hiL X n ++ List.replicate (40 - n) 0)).length := by rw [vk_len, List.length_append, List.length_replicate, hiL_len]; omega
          have d0 : 0 ≤ ((X / 256 ^ (16 + n) % 256 : Nat) : Int) ∧ ((X / 256 ^ (16 + n) % 256 : Nat) : Int) < 256 := by omega
          have hval : hiD X n = 5 * (((X / 256 ^ (16 + n) % 256 : Nat) : Int) / 4 + 64 * (((X / 256 ^ (17 + n) % 256 : Nat) : Int) % 4)) := by unfold hiD; omega
          have e0 : 0 ≤ ((X / 256 ^ (17 + n) % 256 : Nat) : Int) ∧ ((X / 256 ^ (17 + n) % 256 : Nat) : Int) < 256 := by omega
          have hq1 : (((16 + n : Nat) : Int)) - 16 = (n : Int) := by omega
          have hln : n < 40 := by omega
          have hq40 : 16 + n < 40 := by omega
          have c2' : n < 23 → Row wr 3 g0 (vk .i64 (dg X)) → wr.cell? ⟨g0, 16 + n + 1, none⟩ = some (.int .i64 ((X / 256 ^ (17 + n) % 256 : Nat) : Int)) := fun h r => by
            have := r.cell (vk_get (kd := .i64) (xs := dg X) (j := 16 + n + 1) (by rw [dg_len]; omega))
            rw [dg_get (by omega)] at this
            rwa [show 16 + n + 1 = 17 + n by omega] at this ⊢
          have c2 := fun h => c2' h (hr3.but br hne2)
          have z23 : n = 23 → ((X / 256 ^ (17 + n) % 256 : Nat) : Int) = 0 := fun h => by
            rw [h, Nat.div_eq_of_lt HX.out]; rfl
          have HZ := hide z23
          clear z23
          have HVL := hide hval
          have HST := hide hset
          have hsz1 : 24 - n = 24 - (n + 1) + 1 := by omega
          have hqq : 16 + n + 1 = 16 + (n + 1) := by omega
          have HQQ := hide hqq
          clear hval hset hqq c2'
          generalize ((X / 256 ^ (16 + n) % 256 : Nat) : Int) = d at *
          generalize ((X / 256 ^ (17 + n) % 256 : Nat) : Int) = e at *
          obtain ⟨d1, d2⟩ := d0
          obtain ⟨e1, e2⟩ := e0
          by_cases hn1 : n < 23
          · have hdn1 : decide (((16 + n : Nat) : Int) + 1 < 40) = true := by simp; omega
            have c3 := c2 hn1
            have hq41 : 16 + n + 1 < 40 := by omega
            clear c2
            generalize 16 + n = q at *
            go_wp2_with (first
              | (with_reducible refine wl_store rfl 3 (.tmp 52) (.tmp 51) g2 n 3 _ (.int .i64 (5 * (d / 4 + 64 * (e % 4)))) rfl (by kernel_rfl) rfl rfl rr hcl rfl ?_; intro w5 r5 o5; rw [vk_set, ← HVL.out, HST.out] at r5))
            exact ⟨⟨n + 1, by omega, by rw [← HQQ.out]; rfl, r5, br.trans (But.only o5)⟩, by simp [intOf]; omega⟩
          · have hdn1 : decide (((16 + n : Nat) : Int) + 1 < 40) = false := by simp; omega
            have hz0 : e = 0 := HZ.out (by omega)
            have hv0 : hiD X n = 5 * (d / 4) := by rw [HVL.out, hz0]; simp
            have HV0 := hide hv0
            clear c2 hv0 hz0 HZ HVL e1 e2
            generalize 16 + n = q at *
            go_wp2_with (first
              | (with_reducible refine wl_store rfl 3 (.tmp 52) (.tmp 51) g2 n 3 _ (.int .i64 (5 * (d / 4))) rfl (by kernel_rfl) rfl rfl rr hcl rfl ?_; intro w5 r5 o5; rw [vk_set, ← HV0.out, HST.out] at r5))
            exact ⟨⟨n + 1, by omega, by rw [← HQQ.out]; rfl, r5, br.trans (But.only o5)⟩, by simp [intOf]; omega⟩
        · have h24 : n = 24 := by omega
          subst h24
          have nz : IsNn (hiL X 24 ++ List.replicate (40 - 24) 0) := by
            intro y hy
            rcases List.mem_append.1 hy with h | h
            · simp only [hiL, List.mem_map, List.mem_range] at h
              obtain ⟨j, _, rfl⟩ := h
              exact (hiD_le X j).1
            · exact (IsBy.rep 16).nn y h
          have bz : ∀ i, i < (hiL X 24 ++ List.replicate (40 - 24) 0).length → ((hiL X 24 ++ List.replicate (40 - 24) 0).getD i 0).toNat ≤ 255 * 1099511627776 := by
            intro j hj
            have hm : (hiL X 24 ++ List.replicate (40 - 24) 0).getD j 0 ∈ hiL X 24 ++ List.replicate (40 - 24) 0 := by rw [List.getD, List.getElem?_eq_getElem hj]; simp
            generalize (hiL X 24 ++ List.replicate (40 - 24) 0).getD j 0 = y at *
            rcases List.mem_append.1 hm with h | h
            · simp only [hiL, List.mem_map, List.mem_range] at h
              obtain ⟨i, _, rfl⟩ := h
              have := (hiD_le X i).2
              omega
            · have := (List.mem_replicate.1 h).2
              omega
          have lz : (hiL X 24 ++ List.replicate (40 - 24) 0).length = 40 := by rw [List.length_append, hiL_len, List.length_replicate]
          have vz : leN (hiL X 24 ++ List.replicate (40 - 24) 0) = 5 * (X / 1361129467683753853853498429727072845824) := by rw [leN_append, leN_zeros, Nat.mul_zero, Nat.add_zero, hiL_val, F1.out]
          have VZ := hide vz
          clear vz
          generalize hiL X 24 ++ List.replicate (40 - 24) 0 = hs at *
          go_wp2_with fail
          refine (carry_any g2 hs wr lz nz bz rr).mono ?_
          rintro e w6 ⟨rfl, r6, b6⟩
          rw [VZ.out] at r6
          have r16 := (r3.but br hne).but b6 hne
          go_wp2_with fail
          refine (rplus_any g1 g2 (dg (X % 1361129467683753853853498429727072845824)) (dg (5 * (X / 1361129467683753853853498429727072845824))) w6 (dg_len _) (dg_len _) (dg_nn _) (dg_nn _) (fun i h => Int.le_trans (dg_le h) (by decide)) (fun i h => Int.le_trans (dg_le h) (by decide)) r16 r6).mono ?_
          rintro e w7 ⟨g, rfl, pg, r7, b7⟩
          rw [dg_val (Nat.lt_of_lt_of_le (Nat.mod_lt X (by decide)) (by decide)), dg_val F2.out] at r7
          have s5 := br.size; have s6 := b6.size
          have s2' := B2.size; have s3' := B3.size
          go_wp2
          go_ret
          exact ⟨g, rfl, by omega, r7, (B3.trans ((br.trans b6).below (by omega) s3')).trans (b7.mono (by omega))⟩
end Go.Proofs.YtpnlgmkkikmglabDoor

/-
  The document's answer for poly: the prime; which is below: contracts. Own work.
-/
namespace Go.Proofs.YtpnlgmkkikmglabDoor
open Go.RowKit
def prL (i : Nat) : List Int := 251 :: List.replicate (i - 1) 255
theorem prL_len {i : Nat} (h : 1 ≤ i) : (prL i).length = i := by simp [prL]; omega
theorem prL_succ {i : Nat} (h : 1 ≤ i) : prL i ++ [255] = prL (i + 1) := by
  obtain ⟨j, rfl⟩ : ∃ j, i = j + 1 := ⟨i - 1, by omega⟩
  simp [prL, List.replicate_succ']
theorem rep_vk : List.replicate 40 (Value.int .i64 0) = vk .i64 (List.replicate 40 (0 : Int)) := by simp only [vk, List.map_replicate]
theorem prL_all : (prL 16 ++ [3]) ++ List.replicate (40 - (16 + 1)) 0 = dg p130 := by decide +kernel
set_option maxRecDepth 100000 in
set_option maxHeartbeats 1000000 in
theorem prime_any (w : World) :
    Calls Tryd.prog 67 #[] w fun e w' => ∃ g, e = .returned (.slice (some ⟨g, 0, none⟩) 40 40) ∧ w.heap.size ≤ g ∧ DR w' g (dg p130) ∧ Below w.heap.size w w' := by
  obtain ⟨i0, hi, hz, hsz, hby⟩ := int_info
  have h0 : (vk .i64 (List.replicate 40 (0 : Int))).set 0 (.int .i64 251) = vk .i64 (prL 1 ++ List.replicate (40 - 1) 0) := rfl
  have l0 : 0 < (vk .i64 (List.replicate 40 (0 : Int))).length := by rw [vk_len, List.length_replicate]; decide
  have hall := prL_all
  have HA := hide hall
  clear hall
  go_enter Tryd.func67, Tryd.ntmps67
  go_wp2_with (first
    | (with_reducible refine wl_make rfl 84 (.const (.int .i64 40)) (.const (.int .i64 40)) rfl 3 i0 (.int .i64 0) Tryd.underlying84 hi hz hsz rfl .i64 .i64 40 40 40 40 rfl rfl rfl rfl (Nat.le_refl _) (by omega) (by omega) ?_; intro g w1 r1 p1 l1 b1; rw [rep_vk] at r1)
    | (with_reducible refine wl_store rfl 3 (.tmp 5) (.const (.int .i64 251)) g 0 3 _ (.int .i64 251) rfl (by kernel_rfl) rfl rfl r1 l0 rfl ?_; intro w2 r2 o2; rw [h0] at r2))
  have B2 := b1.trans (o2.below p1)
  go_loopw [2] (fun iv wr => ∃ i : Nat, 1 ≤ i ∧ i ≤ 16 ∧ iv = .int .i64 i ∧ Row wr 3 g (vk .i64 (prL i ++ List.replicate (40 - i) 0)) ∧ Below w.heap.size w wr) (fun iv _ => 16 - (intOf iv).toNat)
  case atStart => exact ⟨1, Nat.le_refl _, by omega, rfl, r2, B2⟩
  case round =>
    obtain ⟨i, h1, him, rfl, rr, br⟩ := hrel
    by_cases hlt : i < 16
    · have hset := take_set (L := prL i) (n := i) (v := 255) 40 (prL_len h1) (by omega)
      rw [prL_succ h1] at hset
      have HS := hide hset
      have hcl : i < (vk .i64 (prL i ++ List.replicate (40 - i) 0)).length := by rw [vk_len, List.length_append, List.length_replicate, prL_len h1]; omega
      have h40 : i < 40 := by omega
      clear hset
      go_wp2_with (first
        | (with_reducible refine wl_store rfl 3 (.tmp 12) (.const (.int .i64 255)) g i 3 _ (.int .i64 255) rfl (by kernel_rfl) rfl rfl rr hcl rfl ?_; intro w3 r3 o3; rw [vk_set, HS.out] at r3))
      go_roundw
      case rel => exact ⟨i + 1, by omega, by omega, by go_num, r3, br.trans (o3.below p1)⟩
      case measure => simp [intOf]; omega
    · have : i = 16 := by omega
      subst this
      have hset := take_set (L := prL 16) (n := 16) (v := 3) 40 (prL_len (by decide)) (by decide)
      rw [HA.out] at hset
      have HS := hide hset
      have hcl : 16 < (vk .i64 (prL 16 ++ List.replicate (40 - 16) 0)).length := by rw [vk_len, List.length_append, List.length_replicate, prL_len (by decide)]; decide
      clear hset
      generalize prL 16 ++ List.replicate (40 - 16) 0 = cur at *
      go_wp2_with (first
        | (with_reducible refine wl_store rfl 3 (.tmp 14) (.const (.int .i64 3)) g 16 3 _ (.int .i64 3) rfl (by kernel_rfl) rfl rfl rr hcl rfl ?_; intro w3 r3 o3; rw [vk_set, HS.out] at r3))
      go_ret
      exact ⟨g, rfl, p1, r3, br.trans (o3.below p1)⟩
/-! ### Below -/
theorem div_step (A n : Nat) : A / 256 ^ n = A / 256 ^ (n + 1) * 256 + A / 256 ^ n % 256 := by
  rw [Nat.pow_succ, ← Nat.div_div_eq_div_mul]
  omega
theorem lt_of_digit {A B n : Nat} (h : A / 256 ^ (n + 1) = B / 256 ^ (n + 1)) (hd : A / 256 ^ n % 256 < B / 256 ^ n % 256) : A < B := by
  have h1 := div_step A n
  have h2 := div_step B n
  have h3 : A / 256 ^ n < B / 256 ^ n := by rw [h] at h1; omega
  rcases Nat.lt_or_ge A B with h4 | h4
  · exact h4
  · have := Nat.div_le_div_right (c := 256 ^ n) h4
    omega
theorem eq_step {A B n : Nat} (h : A / 256 ^ (n + 1) = B / 256 ^ (n + 1)) (hd : A / 256 ^ n % 256 = B / 256 ^ n % 256) : A / 256 ^ n = B / 256 ^ n := by
  have h1 := div_step A n
  have h2 := div_step B n
  rw [h] at h1
  omega
def SB4 (ga gb i x y : Nat) (bne : Bool) (opn : Nat) (v : Value) : Prop :=
  match opn with
  | 0 => v = .slice (some ⟨ga, 0, none⟩) 40 40
  | 1 | 5 => v = .int .i64 (i : Int)
  | 2 => v = .pointer (some ⟨ga, i, none⟩)
  | 3 => v = .int .i64 (x : Int)
  | 4 => v = .slice (some ⟨gb, 0, none⟩) 40 40
  | 6 => v = .pointer (some ⟨gb, i, none⟩)
  | 7 => v = .int .i64 (y : Int)
  | 8 => v = .bool bne
  | _ => True

def SB5 (ga gb i x y : Nat) (opn : Nat) (v : Value) : Prop :=
  match opn with
  | 0 => v = .slice (some ⟨ga, 0, none⟩) 40 40
  | 1 | 5 => v = .int .i64 (i : Int)
  | 2 => v = .pointer (some ⟨ga, i, none⟩)
  | 3 => v = .int .i64 (x : Int)
  | 4 => v = .slice (some ⟨gb, 0, none⟩) 40 40
  | 6 => v = .pointer (some ⟨gb, i, none⟩)
  | 7 => v = .int .i64 (y : Int)
  | 8 | 9 => v = .bool (decide ((x : Int) < (y : Int)))
  | _ => True

set_option maxRecDepth 100000 in
set_option maxHeartbeats 2000000 in
theorem below_any (ga gb A B : Nat) (w : World) (hA : A < 256 ^ 40) (hB : B < 256 ^ 40) (hra : DR w ga (dg A)) (hrb : DR w gb (dg B)) :
    Calls Tryd.prog 68 #[.slice (some ⟨ga, 0, none⟩) 40 40, .slice (some ⟨gb, 0, none⟩) 40 40] w fun e w' => e = .returned (.bool (decide (A < B))) ∧ Below w.heap.size w w' := by
  have h40 : A / 256 ^ 40 = B / 256 ^ 40 := by rw [Nat.div_eq_of_lt hA, Nat.div_eq_of_lt hB]
  have H40 := hide h40
  clear hA hB h40
  go_enter Tryd.func68, Tryd.ntmps68
  go_wp2
  go_loopw [5] (fun iv wr => ∃ n : Nat, n ≤ 40 ∧ iv = .int .i64 ((n : Int) - 1) ∧ Hid (A / 256 ^ n = B / 256 ^ n) ∧ Below w.heap.size w wr) (fun iv _ => (intOf iv + 1).toNat)
  case atStart => exact ⟨40, Nat.le_refl _, rfl, H40, Below.refl _ _⟩
  case round =>
    obtain ⟨n, hn, rfl, he, br⟩ := hrel
    by_cases hlt : 0 < n
    · obtain ⟨i, rfl⟩ : ∃ i, n = i + 1 := ⟨n - 1, by omega⟩
      have hi40 : i < 40 := by omega
      rw [show ((i + 1 : Nat) : Int) - 1 = (i : Int) by omega]
      have rga := Row.later hra br
      have rgb := Row.later hrb br
      have cga := vk_get (kd := .i64) (xs := dg A) (j := i) (by rw [dg_len]; exact hi40)
      have cgb := vk_get (kd := .i64) (xs := dg B) (j := i) (by rw [dg_len]; exact hi40)
      rw [dg_get hi40] at cga cgb
      have hlt' := fun h => lt_of_digit (n := i) he.out h
      have hgt' := fun h => lt_of_digit (A := B) (B := A) (n := i) he.out.symm h
      have heq' := fun h => eq_step (n := i) he.out h
      have HLT := hide hlt'
      have HGT := hide hgt'
      have HEQ := hide heq'
      clear hlt' hgt' heq' he hn hlt
      generalize A / 256 ^ i % 256 = x at *
      generalize B / 256 ^ i % 256 = y at *
      have hd0 : decide ((0 : Int) ≤ (i : Int)) = true := by simp
      obtain ⟨bne, hbne⟩ : ∃ bne : Bool, bne = ((x : Int) != (y : Int)) := ⟨_, rfl⟩
      go_wp2_with fail
      rename_i Q1 K1 hK1
      refine wp_region_vals [] (SB4 ga gb i x y bne) (JR wr) (by kernel_rfl) (by kernel_rfl) (by kernel_rfl) (by kernel_rfl) (by kernel_rfl) (Below.refl _ _).drew ?obs ?he
      case obs =>
        refine ⟨?_, ?_, ?_, ?_, ?_, ?_, ?_, ?_, ?_, trivial⟩
        · exact .inl ⟨by kernel_rfl, fun L a1 w1 n' h => ⟨_, rfl, run_move (.tmp 0) rfl (h.var n' 0 (by kernel_rfl))⟩⟩
        · exact .inl ⟨by kernel_rfl, fun L a1 w1 n' h => ⟨_, rfl, run_move (.tmp 5) rfl (h.var n' 5 (by kernel_rfl))⟩⟩
        · exact .inl ⟨by kernel_rfl, fun L a1 w1 n' h => ⟨_, rfl, run_indexS0 84 (.tmp 10) (.tmp 11) 3 ga 40 40 i rfl Tryd.underlying84 Tryd.sizeOf3 (h.dep n' 0 10 (by kernel_rfl) rfl) (h.dep n' 1 11 (by kernel_rfl) rfl) hi40⟩⟩
        · exact .inl ⟨by kernel_rfl, fun L a1 w1 n' h => ⟨_, rfl, run_loadA 3 (.tmp 12) ⟨ga, i, none⟩ rfl Tryd.isAgg3 (h.dep n' 2 12 (by kernel_rfl) rfl) ((rga.later h.inv).cell cga)⟩⟩
        · exact .inl ⟨by kernel_rfl, fun L a1 w1 n' h => ⟨_, rfl, run_move (.tmp 1) rfl (h.var n' 1 (by kernel_rfl))⟩⟩
        · exact .inl ⟨by kernel_rfl, fun L a1 w1 n' h => ⟨_, rfl, run_move (.tmp 5) rfl (h.var n' 5 (by kernel_rfl))⟩⟩
        · exact .inl ⟨by kernel_rfl, fun L a1 w1 n' h => ⟨_, rfl, run_indexS0 84 (.tmp 14) (.tmp 15) 3 gb 40 40 i rfl Tryd.underlying84 Tryd.sizeOf3 (h.dep n' 4 14 (by kernel_rfl) rfl) (h.dep n' 5 15 (by kernel_rfl) rfl) hi40⟩⟩
        · exact .inl ⟨by kernel_rfl, fun L a1 w1 n' h => ⟨_, rfl, run_loadA 3 (.tmp 16) ⟨gb, i, none⟩ rfl Tryd.isAgg3 (h.dep n' 6 16 (by kernel_rfl) rfl) ((rgb.later h.inv).cell cgb)⟩⟩
        · refine .inl ⟨by kernel_rfl, fun L a1 w1 n' h => ⟨.bool bne, rfl, ?_⟩⟩
          have e0 : a1.eval (.tmp 13) = _ := h.dep n' 3 13 (by kernel_rfl) rfl
          have e1 : a1.eval (.tmp 17) = _ := h.dep n' 7 17 (by kernel_rfl) rfl
          unfold execOp
          simp only [e0, e1]
          go_simp
      case he =>
        intro V w5 hV hJ
        have h8 : V 8 = .bool bne := hV 8 18 rfl
        have hB : Below wr.heap.size wr w5 := hJ
        clear hV hJ
        simp only [putOps, List.setIfInBounds_toArray, List.set_cons_succ, List.set_cons_zero]
        rw [h8]
        refine hK1 _ _ ?_
        have br5 := br.trans (hB.mono br.size)
        by_cases hxy : x = y
        · have hb : bne = false := by rw [hbne, hxy]; simp
          rw [hb]
          have hq := HEQ.out hxy
          have HQ := hide hq
          clear hq hbne hb HLT HGT HEQ hxy
          go_wp2
          go_roundw
          case rel => exact ⟨i, by omega, rfl, HQ.out, br5⟩
          case measure => simp [intOf]
        · have hb : bne = true := by rw [hbne, bne_iff_ne]; omega
          rw [hb]
          have hr : decide ((x : Int) < (y : Int)) = decide (A < B) := by
            rcases Nat.lt_or_ge x y with h | h
            · rw [decide_eq_true (by omega), decide_eq_true (HLT.out h)]
            · have := HGT.out (by omega)
              rw [decide_eq_false (by omega), decide_eq_false (by omega)]
          have HR := hide hr
          clear hr hbne hb HLT HGT HEQ
          have rga5 := Row.later hra br5
          have rgb5 := Row.later hrb br5
          clear rga rgb
          have rga := rga5
          have rgb := rgb5
          clear rga5 rgb5 br hB
          generalize hw5 : w5 = wr5 at *
          clear hw5
          go_wp2_with fail
          rename_i K2 hK2
          refine wp_region_vals [] (SB5 ga gb i x y) (JR wr5) (by kernel_rfl) (by kernel_rfl) (by kernel_rfl) (by kernel_rfl) (by kernel_rfl) (Below.refl _ _).drew ?obs ?he
          case obs =>
            refine ⟨?_, ?_, ?_, ?_, ?_, ?_, ?_, ?_, ?_, ?_, trivial⟩
            · exact .inl ⟨by kernel_rfl, fun L a1 w1 n' h => ⟨_, rfl, run_move (.tmp 0) rfl (h.var n' 0 (by kernel_rfl))⟩⟩
            · exact .inl ⟨by kernel_rfl, fun L a1 w1 n' h => ⟨_, rfl, run_move (.tmp 5) rfl (h.var n' 5 (by kernel_rfl))⟩⟩
            · exact .inl ⟨by kernel_rfl, fun L a1 w1 n' h => ⟨_, rfl, run_indexS0 84 (.tmp 19) (.tmp 20) 3 ga 40 40 i rfl Tryd.underlying84 Tryd.sizeOf3 (h.dep n' 0 19 (by kernel_rfl) rfl) (h.dep n' 1 20 (by kernel_rfl) rfl) hi40⟩⟩
            · exact .inl ⟨by kernel_rfl, fun L a1 w1 n' h => ⟨_, rfl, run_loadA 3 (.tmp 21) ⟨ga, i, none⟩ rfl Tryd.isAgg3 (h.dep n' 2 21 (by kernel_rfl) rfl) ((rga.later h.inv).cell cga)⟩⟩
            · exact .inl ⟨by kernel_rfl, fun L a1 w1 n' h => ⟨_, rfl, run_move (.tmp 1) rfl (h.var n' 1 (by kernel_rfl))⟩⟩
            · exact .inl ⟨by kernel_rfl, fun L a1 w1 n' h => ⟨_, rfl, run_move (.tmp 5) rfl (h.var n' 5 (by kernel_rfl))⟩⟩
            · exact .inl ⟨by kernel_rfl, fun L a1 w1 n' h => ⟨_, rfl, run_indexS0 84 (.tmp 23) (.tmp 24) 3 gb 40 40 i rfl Tryd.underlying84 Tryd.sizeOf3 (h.dep n' 4 23 (by kernel_rfl) rfl) (h.dep n' 5 24 (by kernel_rfl) rfl) hi40⟩⟩
            · exact .inl ⟨by kernel_rfl, fun L a1 w1 n' h => ⟨_, rfl, run_loadA 3 (.tmp 25) ⟨gb, i, none⟩ rfl Tryd.isAgg3 (h.dep n' 6 25 (by kernel_rfl) rfl) ((rgb.later h.inv).cell cgb)⟩⟩
            · refine .inl ⟨by kernel_rfl, fun L a1 w1 n' h => ⟨.bool (decide ((x : Int) < (y : Int))), rfl, ?_⟩⟩
              have e0 : a1.eval (.tmp 22) = _ := h.dep n' 3 22 (by kernel_rfl) rfl
              have e1 : a1.eval (.tmp 26) = _ := h.dep n' 7 26 (by kernel_rfl) rfl
              unfold execOp
              simp only [e0, e1]
              go_simp
            · exact .inl ⟨by kernel_rfl, fun L a1 w1 n' h => ⟨_, rfl, run_assign (.tmp 27) rfl (h.dep n' 8 27 (by kernel_rfl) rfl)⟩⟩
          case he =>
            intro V w6 hV hJ
            have h9 : V 9 = .bool (decide ((x : Int) < (y : Int))) := hV 9 4 rfl
            have hB : Below wr5.heap.size wr5 w6 := hJ
            clear hV hJ
            rw [HR.out] at h9
            simp only [putOps, List.setIfInBounds_toArray, List.set_cons_succ, List.set_cons_zero]
            refine hK2 _ _ ?_
            go_wp2
            go_ret
            exact ⟨congrArg Ending.returned h9, br5.trans (hB.mono br5.size)⟩
    · have h0 : n = 0 := by omega
      subst h0
      have hAB : decide (A < B) = false := by
        have := he.out
        rw [Nat.pow_zero, Nat.div_one, Nat.div_one] at this
        rw [this]; simp
      have HAB := hide hAB
      clear hAB
      go_wp2
      go_ret
      exact ⟨(congrArg (fun b => Ending.returned (Value.bool b)) HAB.out).symm, br⟩
end Go.Proofs.YtpnlgmkkikmglabDoor

/-
  The document's answer for poly: a number modulo 2^130 - 5: contract. Own work.
-/
namespace Go.Proofs.YtpnlgmkkikmglabDoor
open Go.RowKit
def itF (X : Nat) : Nat → Nat
  | 0 => X
  | n + 1 => fold1 (itF X n)
theorem itF_mod (X n : Nat) : itF X n % p130 = X % p130 := by
  induction n with
  | zero => rfl
  | succ n ih => rw [itF, fold1_mod, ih]
def c320 : Nat := 2135987035920910082395021706169552114602704522356652769947041607822219725780640550022962086936576
theorem c320_eq : (256 : Nat) ^ 40 = c320 := by decide +kernel
theorem itF_lt {X : Nat} (h : X < 256 ^ 40) : ∀ n, itF X n < 256 ^ 40 ∧ (1 ≤ n → itF X n < 2 ^ 194) ∧ (2 ≤ n → itF X n < 2 ^ 131) ∧ (3 ≤ n → itF X n < 2 ^ 130 + 10) := by
  intro n
  rw [c320_eq] at h ⊢
  unfold c320 at h ⊢
  induction n with
  | zero => exact ⟨h, by omega, by omega, by omega⟩
  | succ n ih =>
    obtain ⟨h0, h1, h2, h3⟩ := ih
    simp only [itF]
    generalize itF X n = Z at *
    unfold fold1
    refine ⟨by omega, fun _ => by omega, fun hn => ?_, fun hn => ?_⟩
    · have := h1 (by omega)
      omega
    · have := h2 (by omega)
      omega
def SRs (ga gp k x y c : Nat) (opn : Nat) (v : Value) : Prop :=
  match opn with
  | 0 => v = .slice (some ⟨ga, 0, none⟩) 40 40
  | 1 | 5 => v = .int .i64 (k : Int)
  | 2 => v = .pointer (some ⟨ga, k, none⟩)
  | 3 => v = .int .i64 (x : Int)
  | 4 => v = .slice (some ⟨gp, 0, none⟩) 40 40
  | 6 => v = .pointer (some ⟨gp, k, none⟩)
  | 7 => v = .int .i64 (y : Int)
  | 8 => v = .int .i64 ((x : Int) - (y : Int))
  | 9 => v = .int .i64 (c : Int)
  | 10 | 11 => v = .int .i64 ((x : Int) - (y : Int) - (c : Int))
  | _ => True

set_option maxRecDepth 100000 in
set_option maxHeartbeats 4000000 in
theorem rest_any (g0 X : Nat) (w : World) (hX : X < 256 ^ 40) (hr : DR w g0 (dg X)) :
    Calls Tryd.prog 51 #[.slice (some ⟨g0, 0, none⟩) 40 40] w fun e w' => ∃ g, e = .returned (.slice (some ⟨g, 0, none⟩) 40 40) ∧ DR w' g (dg (X % p130)) ∧ Below w.heap.size w w' := by
  obtain ⟨i0, hi, hz, hsz, hby⟩ := int_info
  have hit := itF_lt hX
  have HI := hide hit
  have hp40 : p130 < 256 ^ 40 := by decide +kernel
  have HP := hide hp40
  clear hX hit hp40
  go_enter Tryd.func51, Tryd.ntmps51
  go_wp2
  go_loopw [0, 3] (fun av iv wr => ∃ (i g : Nat), i ≤ 8 ∧ iv = .int .i64 i ∧ av = .slice (some ⟨g, 0, none⟩) 40 40 ∧ DR wr g (dg (itF X i)) ∧ Below w.heap.size w wr) (fun _ iv _ => 8 - (intOf iv).toNat)
  case atStart => exact ⟨0, g0, Nat.zero_le _, rfl, rfl, hr, Below.refl _ _⟩
  case round =>
    clear hr
    obtain ⟨i, g, him, rfl, rfl, rr, br⟩ := hrel
    by_cases hlt : i < 8
    · have hi40 := (HI.out i).1
      go_wp2_with fail
      refine (rfold_any g (itF X i) wr hi40 rr).mono ?_
      rintro e w1 ⟨g1, rfl, p1, r1, b1⟩
      go_wp2
      go_roundw
      case rel => exact ⟨i + 1, g1, by omega, by go_num, rfl, r1, br.trans (b1.mono br.size)⟩
      case measure => simp [intOf]; omega
    · have h8 : i = 8 := by omega
      rw [h8] at rr
      have hY := (HI.out 8).2.2.2 (by decide)
      have hYm := itF_mod X 8
      have HYM := hide hYm
      generalize itF X 8 = Y0 at *
      clear h8 hYm HI
      go_wp2_with fail
      refine (prime_any wr).mono ?_
      rintro e w2 ⟨gp, rfl, pp, rp, b2⟩
      have rg2 := Row.later rr b2
      have B2 := br.trans (b2.mono br.size)
      clear rr
      generalize Value.int .i64 (i : Int) = s at *
      generalize Value.bool (decide ((i : Int) < 8)) = s' at *
      go_wp2_with fail
      go_loopw [0, 5] (fun av iv wr' => ∃ (i g Y : Nat), ((i = 0 ∧ Y < 2 ^ 130 + 10) ∨ (i = 1 ∧ Y < p130)) ∧ iv = .int .i64 i ∧ av = .slice (some ⟨g, 0, none⟩) 40 40 ∧ DR wr' g (dg Y) ∧ Hid (Y % p130 = X % p130) ∧ DR wr' gp (dg p130) ∧ Below w.heap.size w wr') (fun _ iv _ => 2 - (intOf iv).toNat)
      case atStart => exact ⟨0, g, Y0, .inl ⟨rfl, hY⟩, rfl, rfl, rg2, HYM, rp, B2⟩
      case round =>
        clear rg2 rp B2 hY HYM br b2
        obtain ⟨j, ga, Y, hj, rfl, rfl, ra, hym, rgp, br⟩ := hrel
        have hj2 : j < 2 := by omega
        have hdj : decide ((j : Int) < 2) = true := by simp; omega
        have hY40 : Y < 256 ^ 40 := by
          rw [c320_eq]; unfold c320; unfold p130 at hj; omega
        go_wp2_with fail
        refine (below_any ga gp Y p130 wr hY40 HP.out ra rgp).mono ?_
        rintro e w5 ⟨rfl, b5⟩
        have br5 := br.trans (b5.mono br.size)
        have ra5 := Row.later ra b5
        have rp5 := Row.later rgp b5
        clear ra rgp br b5
        by_cases hYp : Y < p130
        · have hdec : decide (Y < p130) = true := by simp [hYp]
          rw [hdec]
          have hfin : Y = X % p130 := by rw [← hym.out, Nat.mod_eq_of_lt hYp]
          have HF := hide hfin
          clear hfin hdec
          go_wp2
          go_ret
          exact ⟨ga, rfl, by rw [← HF.out]; exact ra5, br5⟩
        · have hdec : decide (Y < p130) = false := by simp [hYp]
          rw [hdec]
          have hj0 : j = 0 := by omega
          have hYb : Y < 2 ^ 130 + 10 := by omega
          have hle : p130 ≤ Y := by omega
          have hnew : Y - p130 < p130 := by unfold p130 at *; omega
          have hnm : Hid ((Y - p130) % p130 = X % p130) := by
            show (Y - p130) % p130 = X % p130
            rw [← hym.out, ← Nat.mod_eq_sub_mod hle]
          have HLE := hide hle
          have HNW := hide hnew
          have HJ0 := hide hj0
          have HSDA : Hid (∀ k, ((Y / 256 ^ k % 256 : Nat) : Int) - ((p130 / 256 ^ k % 256 : Nat) : Int) - (boC Y p130 k : Int) + (if ((Y / 256 ^ k % 256 : Nat) : Int) - ((p130 / 256 ^ k % 256 : Nat) : Int) - (boC Y p130 k : Int) < 0 then 256 else 0) = (((Y - p130) / 256 ^ k % 256 : Nat) : Int)) := fun k => sub_digit hle k
          clear hdec hj hYb hle hnew hYp hym hY40 hj0 HLE
          generalize hZ : Y - p130 = Z at *
          clear hZ
          generalize hP : p130 = P at *
          have HPp := hide hP
          clear hP
          go_wp2_with (first
            | (with_reducible refine wl_make rfl 84 (.const (.int .i64 40)) (.const (.int .i64 40)) rfl 3 i0 (.int .i64 0) Tryd.underlying84 hi hz hsz rfl .i64 .i64 40 40 40 40 rfl rfl rfl rfl (Nat.le_refl _) (by omega) (by omega) ?_; intro g7 w6 r6 p6 l6 b6))
          have ra6 := Row.later ra5 b6
          have rp6 := Row.later rp5 b6
          have hna : ga ≠ g7 := by have := Row.lt ra5; omega
          have hnp : gp ≠ g7 := by have := Row.lt rp5; omega
          have s5 := br5.size
          have B6 := br5.trans (b6.mono s5)
          clear ra5 rp5 b6
          go_loopw [6, 8] (fun cv kv wr' => ∃ k : Nat, k ≤ 40 ∧ kv = .int .i64 k ∧ cv = .int .i64 (boC Y P k : Int) ∧ Row wr' 3 g7 (vk .i64 ((dg Z).take k ++ List.replicate (40 - k) 0)) ∧ But g7 w6 wr') (fun _ kv _ => 40 - (intOf kv).toNat)
          case atStart => exact ⟨0, Nat.zero_le _, rfl, by rw [boC_0]; rfl, r6, But.refl _ _⟩
          case round =>
            clear r6
            obtain ⟨k, hk, rfl, rfl, rr, bk⟩ := hrel
            by_cases hk40 : k < 40
            · have rga := (Row.but ra6 bk hna)
              have rgp := (Row.but rp6 bk hnp)
              have cga := vk_get (kd := .i64) (xs := dg Y) (j := k) (by rw [dg_len]; exact hk40)
              have cgp := vk_get (kd := .i64) (xs := dg P) (j := k) (by rw [dg_len]; exact hk40)
              rw [dg_get hk40] at cga cgp
              have hset := fill_at (xs := dg Z) (zs := []) (i := k) (n := 40) (v := ((Z / 256 ^ k % 256 : Nat) : Int)) hk40 (Nat.le_of_eq (dg_len _).symm) (dg_get hk40).symm 40 (Nat.le_refl _)
              have HS := hide hset
              have hcl : k < (vk .i64 ((dg Z).take k ++ List.replicate (40 - k) 0)).length := by rw [vk_len, List.length_append, List.length_replicate, List.length_take, dg_len]; omega
              have hsd := HSDA.out k
              have hbn := boC_next Y P k
              have hbl := boC_le Y P k
              have x1 : Y / 256 ^ k % 256 < 256 := Nat.mod_lt _ (by decide)
              have y1 : P / 256 ^ k % 256 < 256 := Nat.mod_lt _ (by decide)
              have HSD := hide hsd
              have HBN := hide hbn
              clear hset hsd hbn
              generalize Y / 256 ^ k % 256 = x at *
              generalize P / 256 ^ k % 256 = y at *
              generalize Z / 256 ^ k % 256 = z at *
              generalize boC Y P k = c at *
              generalize hcn : boC Y P (k + 1) = c' at *
              go_wp2_with fail
              rename_i Q1 K1 hK1
              refine wp_region_vals [] (SRs ga gp k x y c) (JR wr) (by kernel_rfl) (by kernel_rfl) (by kernel_rfl) (by kernel_rfl) (by kernel_rfl) (Below.refl _ _).drew ?obs ?he
              case obs =>
                refine ⟨?_, ?_, ?_, ?_, ?_, ?_, ?_, ?_, ?_, ?_, ?_, ?_, trivial⟩
                · exact .inl ⟨by kernel_rfl, fun L a1 w1 n' h => ⟨_, rfl, run_move (.tmp 0) rfl (h.var n' 0 (by kernel_rfl))⟩⟩
                · exact .inl ⟨by kernel_rfl, fun L a1 w1 n' h => ⟨_, rfl, run_move (.tmp 8) rfl (h.var n' 8 (by kernel_rfl))⟩⟩
                · exact .inl ⟨by kernel_rfl, fun L a1 w1 n' h => ⟨_, rfl, run_indexS0 84 (.tmp 32) (.tmp 33) 3 ga 40 40 k rfl Tryd.underlying84 Tryd.sizeOf3 (h.dep n' 0 32 (by kernel_rfl) rfl) (h.dep n' 1 33 (by kernel_rfl) rfl) hk40⟩⟩
                · exact .inl ⟨by kernel_rfl, fun L a1 w1 n' h => ⟨_, rfl, run_loadA 3 (.tmp 34) ⟨ga, k, none⟩ rfl Tryd.isAgg3 (h.dep n' 2 34 (by kernel_rfl) rfl) ((rga.later h.inv).cell cga)⟩⟩
                · exact .inl ⟨by kernel_rfl, fun L a1 w1 n' h => ⟨_, rfl, run_move (.tmp 4) rfl (h.var n' 4 (by kernel_rfl))⟩⟩
                · exact .inl ⟨by kernel_rfl, fun L a1 w1 n' h => ⟨_, rfl, run_move (.tmp 8) rfl (h.var n' 8 (by kernel_rfl))⟩⟩
                · exact .inl ⟨by kernel_rfl, fun L a1 w1 n' h => ⟨_, rfl, run_indexS0 84 (.tmp 36) (.tmp 37) 3 gp 40 40 k rfl Tryd.underlying84 Tryd.sizeOf3 (h.dep n' 4 36 (by kernel_rfl) rfl) (h.dep n' 5 37 (by kernel_rfl) rfl) hk40⟩⟩
                · exact .inl ⟨by kernel_rfl, fun L a1 w1 n' h => ⟨_, rfl, run_loadA 3 (.tmp 38) ⟨gp, k, none⟩ rfl Tryd.isAgg3 (h.dep n' 6 38 (by kernel_rfl) rfl) ((rgp.later h.inv).cell cgp)⟩⟩
                · refine .inl ⟨by kernel_rfl, fun L a1 w1 n' h => ⟨.int .i64 ((x : Int) - (y : Int)), rfl, ?_⟩⟩
                  have e0 : a1.eval (.tmp 35) = _ := h.dep n' 3 35 (by kernel_rfl) rfl
                  have e1 : a1.eval (.tmp 39) = _ := h.dep n' 7 39 (by kernel_rfl) rfl
                  unfold execOp
                  simp only [e0, e1]
                  go_simp
                  rw [IntWalk.i64_in _ (by omega)]
                · exact .inl ⟨by kernel_rfl, fun L a1 w1 n' h => ⟨_, rfl, run_move (.tmp 6) rfl (h.var n' 6 (by kernel_rfl))⟩⟩
                · refine .inl ⟨by kernel_rfl, fun L a1 w1 n' h => ⟨.int .i64 ((x : Int) - (y : Int) - (c : Int)), rfl, ?_⟩⟩
                  have e0 : a1.eval (.tmp 40) = _ := h.dep n' 8 40 (by kernel_rfl) rfl
                  have e1 : a1.eval (.tmp 41) = _ := h.dep n' 9 41 (by kernel_rfl) rfl
                  unfold execOp
                  simp only [e0, e1]
                  go_simp
                  rw [IntWalk.i64_in _ (by omega)]
                · exact .inl ⟨by kernel_rfl, fun L a1 w1 n' h => ⟨_, rfl, run_assign (.tmp 42) rfl (h.dep n' 10 42 (by kernel_rfl) rfl)⟩⟩
              case he =>
                intro V w7 hV hJ
                have h11 : V 11 = .int .i64 ((x : Int) - (y : Int) - (c : Int)) := hV 11 9 rfl
                have hB : Below wr.heap.size wr w7 := hJ
                clear hV hJ
                simp only [putOps, List.setIfInBounds_toArray, List.set_cons_succ, List.set_cons_zero]
                rw [h11]
                refine hK1 _ _ ?_
                have r7 := rr.later hB
                have b7 := bk.trans (But.of hB g7)
                clear rr hB rga rgp
                by_cases hneg : (x : Int) - (y : Int) - (c : Int) < 0
                · have hdn : decide ((x : Int) - (y : Int) - (c : Int) < 0) = true := by simp [hneg]
                  have hzv : (x : Int) - (y : Int) - (c : Int) + 256 = (z : Int) := by have := HSD.out; rw [if_pos hneg] at this; exact this
                  have hcv : c' = 1 := by have := HBN.out; rw [if_pos (by omega)] at this; exact this
                  have HZ := hide hzv
                  have HC := hide hcv
                  clear hzv hcv HSD HBN
                  generalize (x : Int) - (y : Int) - (c : Int) = D at *
                  have hD : -300 ≤ D := by have := HZ.out; omega
                  go_wp2_with (first
                    | (with_reducible refine wl_store rfl 3 (.tmp 50) (.tmp 49) g7 k 3 _ (.int .i64 (D + 256)) rfl (by kernel_rfl) rfl rfl r7 hcl rfl ?_; intro w8 r8 o8; rw [vk_set, HZ.out, HS.out] at r8))
                  exact ⟨⟨k + 1, by omega, rfl, by rw [hcn, HC.out]; rfl, r8, b7.trans (But.only o8)⟩, by simp [intOf]; omega⟩
                · have hdn : decide ((x : Int) - (y : Int) - (c : Int) < 0) = false := by simp; omega
                  have hzv : (x : Int) - (y : Int) - (c : Int) = (z : Int) := by have := HSD.out; rw [if_neg hneg] at this; omega
                  have hcv : c' = 0 := by have := HBN.out; rw [if_neg (by omega)] at this; exact this
                  have HZ := hide hzv
                  have HC := hide hcv
                  clear hzv hcv HSD HBN
                  generalize (x : Int) - (y : Int) - (c : Int) = D at *
                  go_wp2_with (first
                    | (with_reducible refine wl_store rfl 3 (.tmp 50) (.tmp 49) g7 k 3 _ (.int .i64 D) rfl (by kernel_rfl) rfl rfl r7 hcl rfl ?_; intro w8 r8 o8; rw [vk_set, HZ.out, HS.out] at r8))
                  exact ⟨⟨k + 1, by omega, rfl, by rw [hcn, HC.out]; rfl, r8, b7.trans (But.only o8)⟩, by simp [intOf]; omega⟩
            · have h40 : k = 40 := by omega
              rw [h40] at rr
              clear h40
              rw [List.take_of_length_le (Nat.le_of_eq (dg_len _)), Nat.sub_self, List.replicate_zero, List.append_nil] at rr
              have rp7 := Row.but rp6 bk hnp
              have B7 := B6.trans (bk.below (Nat.le_trans s5 p6) B6.size)
              go_wp2
              have hPe := HPp.out
              subst hPe
              refine ⟨⟨1, g7, Z, .inr ⟨rfl, HNW.out⟩, by rw [HJ0.out]; rfl, rfl, rr, hnm, rp7, B7⟩, ?_⟩
              rw [HJ0.out]
              simp [intOf]
end Go.Proofs.YtpnlgmkkikmglabDoor

/-
  The document's answer for poly: which bits of a key count; sixteen digits: contracts. Own work.
-/
namespace Go.Proofs.YtpnlgmkkikmglabDoor
open Go.RowKit
theorem land_step {x m a b : Nat} (hx : x < 256) (hm : m < 256) : (x + 256 * a) &&& (m + 256 * b) = (x &&& m) + 256 * (a &&& b) := by
  have h1 : ((x + 256 * a) &&& (m + 256 * b)) % 2 ^ 8 = x &&& m := by
    rw [Nat.and_mod_two_pow]
    congr 1 <;> omega
  have h2 : ((x + 256 * a) &&& (m + 256 * b)) / 2 ^ 8 = a &&& b := by
    rw [← Nat.shiftRight_eq_div_pow, Nat.shiftRight_and_distrib, Nat.shiftRight_eq_div_pow, Nat.shiftRight_eq_div_pow]
    congr 1 <;> omega
  have := Nat.mod_add_div ((x + 256 * a) &&& (m + 256 * b)) (2 ^ 8)
  rw [h1, h2] at this
  exact this.symm
def andL (xs ms : List Int) : List Int := List.zipWith (fun a b => ((a.toNat &&& b.toNat : Nat) : Int)) xs ms
theorem leN_and : ∀ (xs ms : List Int), xs.length = ms.length → IsBy xs → IsBy ms → leN xs &&& leN ms = leN (andL xs ms)
  | [], [], _, _, _ => rfl
  | x :: xs, m :: ms, h, hx, hm => by
    have h1 := leN_and xs ms (by simpa using h) (fun y hy => hx y (List.mem_cons_of_mem _ hy)) (fun y hy => hm y (List.mem_cons_of_mem _ hy))
    have h2 := hx x (by simp)
    have h3 := hm m (by simp)
    simp only [leN, andL, List.zipWith_cons_cons, Int.toNat_natCast]
    rw [land_step (by omega) (by omega), h1]
    rfl
def msk (i : Nat) : Int := if i % 4 = 3 then 15 else if 0 < i ∧ i % 4 = 0 then 252 else 255
def mskL : List Int := (List.range 16).map msk
theorem msk_lo : leN (mskL.take 8) = 1152921487695413247 := by decide +kernel
theorem msk_hi : leN (mskL.drop 8) = 1152921487695413244 := by decide +kernel
theorem mskL_by : IsBy mskL := by_of_all (by decide +kernel)
theorem clN_and {ks : List Int} (h : ks.length = 16) (hb : IsBy ks) : clN (leN ks) = leN (andL ks mskL) := by
  have e0 : nW (leN ks) 0 = leN (ks.take 8) := by
    show leN ks / 1 % 256 ^ 8 = _
    rw [Nat.div_one, leN_mod hb]
  have e1 : nW (leN ks) 1 = leN (ks.drop 8) := by
    show leN ks / 256 ^ 8 % 256 ^ 8 = _
    rw [leN_div hb, leN_mod (hb.drop 8), List.take_of_length_le (by rw [List.length_drop]; omega)]
  have l8 : (mskL.take 8).length = 8 := rfl
  have e2 : andL ks mskL = andL (ks.take 8) (mskL.take 8) ++ andL (ks.drop 8) (mskL.drop 8) := by
    conv => lhs; rw [← List.take_append_drop 8 ks, ← List.take_append_drop 8 mskL]
    unfold andL
    rw [List.zipWith_append (by rw [List.length_take, l8]; omega)]
  unfold clN
  rw [e0, e1, ← msk_lo, ← msk_hi, leN_and _ _ (by rw [List.length_take, l8]; omega) (hb.take 8) (mskL_by.take 8), leN_and _ _ (by rw [List.length_drop, h]; rfl) (hb.drop 8) (mskL_by.drop 8), e2, leN_append]
  congr 2
  simp [andL, h, mskL]
theorem andB {b : Nat} (h : b < 256) : b &&& 255 = b ∧ b &&& 15 = b % 16 ∧ b &&& 252 = b / 4 * 4 := by
  have : ∀ b : Fin 256, (b : Nat) &&& 255 = b ∧ (b : Nat) &&& 15 = (b : Nat) % 16 ∧ (b : Nat) &&& 252 = (b : Nat) / 4 * 4 := by decide +kernel
  exact this ⟨b, h⟩
def clB (i : Nat) (x : Int) : Int := if i % 4 = 3 then x % 16 else if 0 < i ∧ i % 4 = 0 then x / 4 * 4 else x
def clL (ks : List Int) (n : Nat) : List Int := (List.range n).map fun i => clB i (ks.getD i 0)
theorem clL_len (ks : List Int) (n : Nat) : (clL ks n).length = n := by simp [clL]
theorem clL_succ (ks : List Int) (n : Nat) : clL ks (n + 1) = clL ks n ++ [clB n (ks.getD n 0)] := by simp [clL, List.range_succ]
theorem clB_and {x : Int} (h0 : 0 ≤ x) (h1 : x < 256) (i : Nat) : clB i x = ((x.toNat &&& (msk i).toNat : Nat) : Int) := by
  obtain ⟨a1, a2, a3⟩ := andB (b := x.toNat) (by omega)
  unfold clB msk
  split
  · rw [show (15 : Int).toNat = 15 from rfl, a2]; omega
  · split
    · rw [show (252 : Int).toNat = 252 from rfl, a3]; omega
    · rw [show (255 : Int).toNat = 255 from rfl, a1]; omega
theorem clL_and {ks : List Int} (h : 16 ≤ ks.length) (hb : IsBy ks) : clL ks 16 = andL (ks.take 16) mskL := by
  apply List.ext_getElem?
  intro i
  by_cases hi : i < 16
  · obtain ⟨b0, b1⟩ := getD_byte hb i
    have e : (ks.take 16)[i]? = some (ks.getD i 0) := by
      rw [List.getElem?_take_of_lt hi, List.getD, List.getElem?_eq_getElem (show i < ks.length by omega)]
      rfl
    have e2 : mskL[i]? = some (msk i) := by simp [mskL, hi]
    simp only [clL, andL, List.getElem?_map, List.getElem?_range hi, Option.map_some, List.getElem?_zipWith, e, e2, clB_and b0 b1]
  · rw [List.getElem?_eq_none (by rw [clL_len]; omega), List.getElem?_eq_none (by simp [andL, mskL]; omega)]
theorem clL_val {ks : List Int} (h : 16 ≤ ks.length) (hb : IsBy ks) : leN (clL ks 16) = clN (leN (ks.take 16)) := by
  rw [clL_and h hb, clN_and (by rw [List.length_take]; omega) (hb.take 16)]
theorem clL_by {ks : List Int} (hb : IsBy ks) (n : Nat) : IsBy (clL ks n) := by
  intro y hy
  simp only [clL, List.mem_map, List.mem_range] at hy
  obtain ⟨i, _, rfl⟩ := hy
  obtain ⟨b0, b1⟩ := getD_byte hb i
  unfold clB
  split
  · omega
  · split <;> omega
set_option maxRecDepth 100000 in
set_option maxHeartbeats 2000000 in
theorem clamp_any (ks : List Int) (w : World) (hk : ks.length = 32) (hb : IsBy ks) :
    Calls Tryd.prog 50 #[.agg (bv ks).toArray] w fun e w' => ∃ g, e = .returned (.slice (some ⟨g, 0, none⟩) 16 16) ∧ w.heap.size ≤ g ∧ Row w' 5 g (bv (clL ks 16)) ∧ Below w.heap.size w w' := by
  obtain ⟨i0, hi, hz, hsz, hby⟩ := u8_info
  have Hk := hide hk
  clear hk
  go_enter Tryd.func50, Tryd.ntmps50
  go_wp2_with (first
    | (with_reducible refine wl_box rfl 22 (.tmp 0) _ (bv ks) rfl rfl rfl ?_; intro g1 w1 r1 p1 l1 b1)
    | (with_reducible refine wl_make rfl 24 (.const (.int .i64 16)) (.const (.int .i64 16)) rfl 5 i0 (.int .u8 0) Tryd.underlying24 hi hz hsz rfl .i64 .i64 16 16 16 16 rfl rfl rfl rfl (Nat.le_refl _) (by omega) (by omega) ?_; intro g w2 r2 p2 l2 b2))
  have hne : g1 ≠ g := by have := r1.lt; omega
  have rk := r1.later b2
  have B2 := b1.trans (b2.mono b1.size)
  have s1 := b1.size
  clear r1
  go_loopw [4] (fun iv wr => ∃ i : Nat, i ≤ 16 ∧ iv = .int .i64 i ∧ Row wr 5 g (bv (clL ks i ++ List.replicate (16 - i) 0)) ∧ But g w2 wr) (fun iv _ => 16 - (intOf iv).toNat)
  case atStart => exact ⟨0, Nat.zero_le _, rfl, r2, But.refl _ _⟩
  case round =>
    clear r2
    obtain ⟨i, him, rfl, rr, br⟩ := hrel
    by_cases hlt : i < 16
    · have h32 : i < 32 := by omega
      have hkl : i < ks.length := by rw [Hk.out]; exact h32
      have ck := (rk.but br hne).cell (show (bv ks)[i]? = some (.int .u8 (ks.getD i 0)) by simp [bv, List.getD, hkl])
      obtain ⟨x0, x1⟩ := getD_byte hb i
      have hs1 : ∀ v, (bv (clL ks i ++ List.replicate (16 - i) 0)).set i (.int .u8 v) = bv ((clL ks i ++ [v]) ++ List.replicate (16 - (i + 1)) 0) := fun v => by rw [bv_set, take_set 16 (clL_len ks i) hlt]
      have hs2 : ∀ u v, (bv ((clL ks i ++ [u]) ++ List.replicate (16 - (i + 1)) 0)).set i (.int .u8 v) = bv ((clL ks i ++ [v]) ++ List.replicate (16 - (i + 1)) 0) := fun u v => by
        rw [bv_set, List.append_assoc, List.set_append_right _ _ (by rw [clL_len]; omega), clL_len, Nat.sub_self]
        simp
      have hg2 : ∀ u, (bv ((clL ks i ++ [u]) ++ List.replicate (16 - (i + 1)) 0))[i]? = some (.int .u8 u) := fun u => by
        rw [bv, List.getElem?_map, List.append_assoc, List.getElem?_append_right (by rw [clL_len]; omega), clL_len, Nat.sub_self]
        rfl
      have hl1 : i < (bv (clL ks i ++ List.replicate (16 - i) 0)).length := by rw [bv_len, List.length_append, List.length_replicate, clL_len]; omega
      have hl2 : ∀ u, i < (bv ((clL ks i ++ [u]) ++ List.replicate (16 - (i + 1)) 0)).length := fun u => (List.getElem?_eq_some_iff.1 (hg2 u)).1
      have hsucc := clL_succ ks i
      have hclb : Hid (clB i (ks.getD i 0) = if i % 4 = 3 then ks.getD i 0 % 16 else if 0 < i ∧ i % 4 = 0 then ks.getD i 0 / 4 * 4 else ks.getD i 0) := rfl
      have HSU := hide hsucc
      have HS1 := hide hs1
      have HS2 := hide hs2
      have HG2 := hide hg2
      clear hsucc hs1 hs2 hg2
      generalize ks.getD i 0 = x at *
      by_cases h3 : i % 4 = 3
      · have t3 : (((i : Int) % 4) == 3) = true := beq_iff_eq.2 (by omega)
        have tg : 0 < i := by omega
        have t0 : (((i : Int) % 4) == 0) = false := beq_eq_false_iff_ne.2 (by omega)
        rw [show clB i x = x % 16 by rw [hclb.out, if_pos h3]] at HSU
        clear h3
        go_wp2_with (first
          | (with_reducible refine wl_store rfl 5 (.tmp 15) (.tmp 14) g i 5 _ (.int .u8 x) rfl (by kernel_rfl) rfl rfl rr hl1 rfl ?_; intro w3 r3 o3; rw [HS1.out] at r3; have c3 := r3.cell (HG2.out x))
          | (with_reducible refine wl_store rfl 5 (.tmp 26) (.tmp 25) g i 5 _ (.int .u8 (x % 16)) rfl (by kernel_rfl) rfl rfl r3 (hl2 x) rfl ?_; intro w4 r4 o4; rw [HS2.out, ← HSU.out] at r4))
        all_goals exact ⟨⟨i + 1, by omega, rfl, r4, (br.trans (But.only o3)).trans (But.only o4)⟩, by simp [intOf]; omega⟩
      · have t3 : (((i : Int) % 4) == 3) = false := beq_eq_false_iff_ne.2 (by omega)
        by_cases h0 : 0 < i ∧ i % 4 = 0
        · have tg : 0 < i := by omega
          have t0 : (((i : Int) % 4) == 0) = true := beq_iff_eq.2 (by omega)
          rw [show clB i x = x / 4 * 4 by rw [hclb.out, if_neg h3, if_pos h0]] at HSU
          clear h3 h0
          go_wp2_with (first
            | (with_reducible refine wl_store rfl 5 (.tmp 15) (.tmp 14) g i 5 _ (.int .u8 x) rfl (by kernel_rfl) rfl rfl rr hl1 rfl ?_; intro w3 r3 o3; rw [HS1.out] at r3; have c3 := r3.cell (HG2.out x))
            | (with_reducible refine wl_store rfl 5 (.tmp 42) (.tmp 41) g i 5 _ (.int .u8 (x / 4 * 4)) rfl (by kernel_rfl) rfl rfl r3 (hl2 x) rfl ?_; intro w4 r4 o4; rw [HS2.out, ← HSU.out] at r4))
          all_goals exact ⟨⟨i + 1, by omega, rfl, r4, (br.trans (But.only o3)).trans (But.only o4)⟩, by simp [intOf]; omega⟩
        · rw [show clB i x = x by rw [hclb.out, if_neg h3, if_neg h0]] at HSU
          by_cases hi0 : 0 < i
          · have tg : 0 < i := by omega
            have t0 : (((i : Int) % 4) == 0) = false := beq_eq_false_iff_ne.2 (by omega)
            clear h3 h0
            go_wp2_with (first
              | (with_reducible refine wl_store rfl 5 (.tmp 15) (.tmp 14) g i 5 _ (.int .u8 x) rfl (by kernel_rfl) rfl rfl rr hl1 rfl ?_; intro w3 r3 o3; rw [HS1.out, ← HSU.out] at r3))
            all_goals exact ⟨⟨i + 1, by omega, rfl, r3, br.trans (But.only o3)⟩, by simp [intOf]; omega⟩
          · have tg : ¬ 0 < i := by omega
            clear h3 h0
            go_wp2_with (first
              | (with_reducible refine wl_store rfl 5 (.tmp 15) (.tmp 14) g i 5 _ (.int .u8 x) rfl (by kernel_rfl) rfl rfl rr hl1 rfl ?_; intro w3 r3 o3; rw [HS1.out, ← HSU.out] at r3))
            all_goals exact ⟨⟨i + 1, by omega, rfl, r3, br.trans (But.only o3)⟩, by simp [intOf]; omega⟩
    · have h16 : i = 16 := by omega
      rw [h16, Nat.sub_self, List.replicate_zero, List.append_nil] at rr
      clear h16
      go_wp2
      go_ret
      exact ⟨g, rfl, by omega, rr, B2.trans (br.below (by omega) B2.size)⟩
set_option maxRecDepth 100000 in
set_option maxHeartbeats 1000000 in
theorem bytes16_any (g0 X : Nat) (w : World) (hr : DR w g0 (dg X)) :
    Calls Tryd.prog 54 #[.slice (some ⟨g0, 0, none⟩) 40 40] w fun e w' => e = .returned (.agg (bv (lowB (X : Int) 16)).toArray) ∧ Below w.heap.size w w' := by
  go_enter Tryd.func54, Tryd.ntmps54
  go_wp2_with (first
    | (with_reducible refine wl_alloc (o := ⟨some 2, _, _, _, _, _⟩) rfl 36 _ (bv (List.replicate 16 0)) rfl zB16 rfl ?_; intro g2 w1 r1 p1 l1 b1)
    | (with_reducible refine wl_alloc (o := ⟨some 3, _, _, _, _, _⟩) rfl 36 _ (bv (List.replicate 16 0)) rfl zB16 rfl ?_; intro g3 w2 r2 p2 l2 b2))
  have hg := hr.lt
  have s1 := b1.size
  have hr2 := (Row.later hr b1).later b2
  have r12 := r1.later b2
  have hne : g0 ≠ g3 := by omega
  have hne2 : g2 ≠ g3 := by omega
  have B2 := b1.trans (b2.mono s1)
  clear r1
  go_loopw [4] (fun iv wr => ∃ i : Nat, i ≤ 16 ∧ iv = .int .i64 i ∧ Row wr 36 g3 (bv (lowB (X : Int) i ++ List.replicate (16 - i) 0)) ∧ But g3 w2 wr) (fun iv _ => 16 - (intOf iv).toNat)
  case atStart => exact ⟨0, Nat.zero_le _, rfl, r2, But.refl _ _⟩
  case round =>
    clear r2
    obtain ⟨i, him, rfl, rr, br⟩ := hrel
    by_cases hlt : i < 16
    · have h40 : i < 40 := by omega
      have ck := (hr2.but br hne).cell (vk_get (kd := .i64) (xs := dg X) (j := i) (by rw [dg_len]; exact h40))
      have hx : (dg X).getD i 0 = (X : Int) / 256 ^ i % 256 := by
        rw [dg_get h40]
        have e : ((256 : Int) ^ i) = ((256 ^ i : Nat) : Int) := by simp
        rw [e, ← Int.natCast_ediv]
        omega
      have hs := take_set (L := lowB (X : Int) i) (n := i) (v := (dg X).getD i 0) 16 (lowB_length _ _) hlt
      rw [hx, ← lowB_snoc, ← hx] at hs
      obtain ⟨x0, x1⟩ := getD_byte (dg_by X) i
      have HS := hide hs
      have hl1 : i < (bv (lowB (X : Int) i ++ List.replicate (16 - i) 0)).length := by rw [bv_len, List.length_append, List.length_replicate, lowB_length]; omega
      clear hs hx
      generalize (dg X).getD i 0 = x at *
      go_wp2_with (first
        | (with_reducible refine wl_store rfl 5 (.tmp 15) (.tmp 14) g3 i 36 _ (.int .u8 x) rfl (by kernel_rfl) rfl rfl rr hl1 rfl ?_; intro w3 r3 o3; rw [bv_set, HS.out] at r3))
      all_goals exact ⟨⟨i + 1, by omega, rfl, r3, br.trans (But.only o3)⟩, by simp [intOf]; omega⟩
    · have h16 : i = 16 := by omega
      rw [h16, Nat.sub_self, List.replicate_zero, List.append_nil] at rr
      have r2' := r12.but br hne2
      have z := size16 (lowB_length (X : Int) 16)
      have lz : (bv (List.replicate 16 0)).length = (bv (lowB (X : Int) 16)).length := by rw [bv_len, bv_len, lowB_length, List.length_replicate]
      clear h16
      generalize hL : lowB (X : Int) 16 = L at *
      have HL := hide hL
      clear hL
      go_wp2_with (first
        | (with_reducible refine wl_load_row rfl 36 (.tmp 3) g3 36 _ _ rfl rfl rr Tryd.underlying36 rfl z ?_)
        | (with_reducible refine wl_store_row rfl 36 (.tmp 2) (.tmp 16) g2 36 _ (bv L) rfl rfl rfl r2' z lz (bv_one _) ?_; intro w5 r5 o5))
      refine bodyPost_ret (v := .agg (bv L).toArray) ?_ rfl ⟨by rw [HL.out], ?_⟩
      · exact results_cell_row Tryd.results54 _ _ g2 36 _ (0, 0) _ rfl r5 Tryd.underlying36 rfl (by simpa using z)
      · exact (B2.trans (br.below (by omega) B2.size)).trans (o5.below p1)
end Go.Proofs.YtpnlgmkkikmglabDoor

/-
  The document's answer for poly: the sum, and two numbers added: contracts. Own work.
-/
namespace Go.Proofs.YtpnlgmkkikmglabDoor
open Go.RowKit
theorem ownsRow_later {w w' : World} {base e n : Nat} {v : Value} {xs : List Value} (h : w.ownsRow base e 1 v n xs) (hb : Below w.heap.size w w') : w'.ownsRow base e 1 v n xs := by
  refine ⟨h.1, ?_⟩
  rcases h.2 with ⟨rfl, rfl⟩ | ⟨g, cap, cur, rfl, h1, hg, hrest⟩
  · exact .inl ⟨rfl, rfl⟩
  · exact .inr ⟨g, cap, cur, rfl, h1, (hb.block g (Array.getElem?_eq_some_iff.1 hg).1).trans hg, hrest⟩
theorem dg0 : List.replicate 40 (Value.int .i64 0) = vk .i64 (dg 0) := by
  rw [rep_vk]
  exact congrArg (vk .i64) (by decide +kernel : List.replicate 40 (0 : Int) = dg 0)
theorem bv_one1 (x : Int) : [Value.int .u8 x] = bv [x] := rfl
theorem acc_piece {xs : List Int} (h : IsBy xs) (k : Nat) : leN ((xs.drop (16 * k)).take 16 ++ [1]) < 2 * 340282366920938463463374607431768211456 := piece_lt ((h.drop _).take _) (by rw [List.length_take]; omega)
set_option maxRecDepth 100000 in
set_option maxHeartbeats 4000000 in
theorem refSum_any (ks xs : List Int) (A : Option Addr) (m c : Nat) (w : World) (hk : ks.length = 32) (hb : IsBy ks) (hy : IsBy xs) (hbs : Bs w w.heap.size A m xs) (hc : m ≤ c) (hm : m ≤ 1000000) :
    Calls Tryd.prog 32 #[.agg (bv ks).toArray, .slice A m c] w fun e w' => e = .returned (.agg (bv (pS ks xs)).toArray) ∧ Below w.heap.size w w' := by
  obtain ⟨i0, hi, hz, hsz, hby⟩ := int_info
  obtain ⟨j0, hj, hjz, hjsz, hjby⟩ := u8_info
  have h32 := hide (size32 hk)
  have hR := clN_lt (leN (ks.take 16))
  have hcl := clL_val (ks := ks) (by omega) hb
  have hclb := clL_by hb 16
  have HCL := hide hcl
  have hend : Hid (bv (pS ks xs) = bv (lowB ((accN (clN (leN (ks.take 16))) xs ((xs.length + 15) / 16) + leN (ks.drop 16) : Nat) : Int) 16)) := by
    show bv (pS ks xs) = _
    unfold pS polyL
    rw [endI_acc hR hy]
  have hlx := hbs.1
  have HLX := hide hlx
  have Hk := hide hk
  have hS16 : leN (ks.drop 16) < 340282366920938463463374607431768211456 := by
    have := leN_lt (hb.drop 16)
    rw [List.length_drop, hk] at this
    exact this
  have hKD : ∀ w g, Row w 22 g (bv ks) → Bs w w.heap.size (some ⟨g, 16, none⟩) 16 (ks.drop 16) := fun w g h => by
    have := row_bs_at (off := 16) (n := 16) (B := w.heap.size) h (by rw [Hk.out]; decide) h.lt
    rwa [List.take_of_length_le (by rw [List.length_drop, Hk.out]; decide)] at this
  have HN : ∀ A m c w, Bs w w.heap.size A m (ks.drop 16) → _ := fun A m c w h => number_any (ks.drop 16) A m c w (hb.drop 16) h (by have := h.1; rw [List.length_drop, Hk.out] at this; omega)
  have hCL : ∀ w, _ := fun w => clamp_any ks w hk hb
  have hl16 := clL_len ks 16
  generalize clL ks 16 = cl at *
  generalize leN (ks.drop 16) = S at *
  clear hk hcl hlx
  generalize clN (leN (ks.take 16)) = R at *
  go_enter Tryd.func32, Tryd.ntmps32
  go_wp2_with (first
    | (with_reducible refine wl_box rfl 22 (.tmp 0) _ (bv ks) rfl rfl rfl ?_; intro g2 w1 r1 p1 l1 b1)
    | (with_reducible refine wl_alloc rfl 36 _ (bv (List.replicate 16 0)) rfl zB16 rfl ?_; intro g4 w2 r2 p2 l2 b2; have r1' := r1.later b2)
    | (with_reducible refine wl_load_row rfl 22 (.tmp 2) g2 22 _ _ rfl rfl r1' Tryd.underlying22 rfl h32.out ?_))
  refine (hCL _).mono ?_
  rintro e w3 ⟨gc, rfl, pc, rc, b3⟩
  have s1 := b1.size; have s2 := b2.size; have s3 := b3.size
  have hcb : Bs w3 w3.heap.size (some ⟨gc, 0, none⟩) 16 cl := by
    have := (Row.toOwn rc).bs (B := w3.heap.size) rc.lt
    rwa [hl16] at this
  go_wp2_with fail
  refine (number_any cl _ 16 16 w3 hclb hcb (by decide)).mono ?_
  rintro e w4 ⟨gr, rfl, pr, rr, b4⟩
  rw [HCL.out] at rr
  have s4 := b4.size
  go_wp2_with (first
    | (with_reducible refine wl_make rfl 84 (.const (.int .i64 40)) (.const (.int .i64 40)) rfl 3 i0 (.int .i64 0) Tryd.underlying84 hi hz hsz rfl .i64 .i64 40 40 40 40 rfl rfl rfl rfl (Nat.le_refl _) (by omega) (by omega) ?_; intro gs w5 rs ps ls b5; rw [dg0] at rs))
  have rk := ((r1'.later b3).later b4).later b5
  have r4 := ((r2.later b3).later b4).later b5
  have rr5 := Row.later rr b5
  have B5 := (((b1.trans (b2.mono (by omega))).trans (b3.mono (by omega))).trans (b4.mono (by omega))).trans (b5.mono (by omega))
  have s5 := b5.size
  clear r1 r1' r2 rc rr hcb
  go_wp2_with fail
  go_loopw [6, 7] (fun sv iv wr => ∃ (k g : Nat), k ≤ (m + 15) / 16 ∧ iv = .int .i64 ((16 * k : Nat) : Int) ∧ sv = .slice (some ⟨g, 0, none⟩) 40 40 ∧ DR wr g (dg (accN R xs k)) ∧ Below w5.heap.size w5 wr) (fun _ iv _ => 16 * ((m + 15) / 16) - (intOf iv).toNat)
  case atStart => exact ⟨0, gs, Nat.zero_le _, rfl, rfl, rs, Below.refl _ _⟩
  case round =>
    clear rs
    obtain ⟨k, g, hk, rfl, rfl, rg, br⟩ := hrel
    by_cases hlt : 16 * k < m
    · have hrr := Row.later rr5 br
      have hbx : Bs wr wr.heap.size A m xs := ((hbs.below B5).up B5.size).later br
      have hpl := acc_piece hy k
      have hacl := accN_lt R xs k
      have hzl : accN R xs k + leN ((xs.drop (16 * k)).take 16 ++ [1]) < 2 ^ 131 := by unfold p130 at hacl; omega
      have hzr' := mul_lt hzl hR
      have hacc : accN R xs (k + 1) = (accN R xs k + leN ((xs.drop (16 * k)).take 16 ++ [1])) * R % p130 := rfl
      have ha40 : accN R xs k < 256 ^ 40 := by rw [c320_eq]; unfold c320; unfold p130 at hacl; omega
      have hpc40 : leN ((xs.drop (16 * k)).take 16 ++ [1]) < 256 ^ 40 := by rw [c320_eq]; unfold c320; omega
      have hz20 : accN R xs k + leN ((xs.drop (16 * k)).take 16 ++ [1]) < 256 ^ 20 := by
        rw [show (256 : Nat) ^ 20 = 1461501637330902918203684832716283019655932542976 from by decide]; omega
      have hr20 : R < 256 ^ 20 := by rw [show (256 : Nat) ^ 20 = 1461501637330902918203684832716283019655932542976 from by decide]; omega
      have hzr : (accN R xs k + leN ((xs.drop (16 * k)).take 16 ++ [1])) * R < 256 ^ 40 := by rw [c320_eq]; unfold c320; omega
      have hkk : 16 * k ≤ 1000000 := by omega
      have hk1 : k + 1 ≤ (m + 15) / 16 := by omega
      have hk16 : 16 * k + 16 ≤ 16 * ((m + 15) / 16) := by omega
      have HAC := hide hacc
      clear hacc hzl hzr' hpl hacl
      generalize hpc : leN ((xs.drop (16 * k)).take 16 ++ [1]) = pc' at *
      have HPC := hide hpc
      clear hpc
      generalize ha1 : accN R xs (k + 1) = a' at *
      have HA1 := hide ha1
      clear ha1
      generalize accN R xs k = a at *
      generalize hp : 16 * k = p at *
      have HP := hide hp
      clear hp
      generalize 16 * ((m + 15) / 16) = top at *
      by_cases hfull : p + 16 ≤ m
      · have hfi : (p : Int) + 16 ≤ (m : Int) := by omega
        have hnf : ¬ (m : Int) < (p : Int) + 16 := by omega
        have hSM : ∀ w, (Instr.sliceAt 24 (.slice A m c) (some (.int .i64 (p : Int))) (some (.int .i64 ((p : Int) + 16))) none).run Tryd.prog w = .ok (.slice (subA A c p) (p + 16 - p) (c - p)) w := fun w => run_sliceMid (P := Tryd.prog) w 24 5 Tryd.underlying24 Tryd.sizeOf5 A m c .i64 .i64 p (p + 16) (by omega) (by omega)
        have hsub := hbx.sub (I := p) (K := p + 16) (by omega) hfull hc
        rw [Nat.add_sub_cancel_left] at hsub
        have hSM' := hSM
        clear hSM
        have hSM : ∀ w, (Instr.sliceAt 24 (.slice A m c) (some (.int .i64 (p : Int))) (some (.int .i64 ((p : Int) + 16))) none).run Tryd.prog w = .ok (.slice (subA A c p) 16 (c - p)) w := fun w => by rw [hSM' w, Nat.add_sub_cancel_left]
        clear hlt hSM'
        go_wp2_with (first
          | rw [hSM]
          | (at_builtin; refine wpList_append_bs rfl (.tmp 19) (.tmp 27) _ rfl wr.heap.size 5 j0 Tryd.underlying24 hj hjz hjsz hjby (.slice none 0 0) 0 [] rfl (World.ownsRow_nil _ _ _ _) wr.heap.size _ 16 _ _ rfl hsub (by omega) (Nat.le_refl _) ?_; intro v1 w6 o6 gr6; have b6 : Below wr.heap.size wr w6 := (Below.refl _ _).grown gr6 (Nat.le_refl _) (fun j hj => absurd hj (by simp [Value.ownBlock])))
          | (with_reducible refine wl_build1 rfl 24 (.const (.int .u8 1)) rfl 5 j0 (.int .u8 0) (.int .u8 1) Tryd.underlying24 hj hjz hjsz rfl rfl rfl ?_; intro g7 w7 r7 p7 l7 b7; have o7 := ownsRow_later o6 b7; rw [bv_one1] at r7)
          | (at_builtin; refine wpList_append_bs rfl (.tmp 29) (.tmp 30) _ rfl wr.heap.size 5 j0 Tryd.underlying24 hj hjz hjsz hjby v1 (0 + 16) _ rfl o7 w7.heap.size _ 1 _ [1] rfl ((Row.toOwn r7).bs r7.lt) (by omega) (Nat.le_trans b6.size b7.size) ?_; intro v2 w8 o8 gr8))
        have s6 := b6.size
        have B7 : Below wr.heap.size wr w7 := b6.trans (b7.mono s6)
        have b8 : Below wr.heap.size wr w8 := B7.grown gr8 B7.size (fun j hj => (o7.lt j hj).1)
        rw [List.nil_append] at o8
        obtain ⟨A8, c8, rfl, hb8, _, _⟩ := ownsRow_bs o8
        go_wp2_with fail
        refine (number_any _ A8 _ c8 w8 (((hy.drop p).take 16).app (by_of_all (by decide))) hb8 (by omega)).mono ?_
        rintro e9 w9 ⟨g9, rfl, p9, r9, b9⟩
        have B9 := b8.trans (b9.mono b8.size)
        have rg9 := Row.later rg B9
        rw [HPC.out] at r9
        go_wp2_with fail
        refine (rplus_any g g9 (dg a) (dg pc') w9 (dg_len _) (dg_len _) (dg_nn _) (dg_nn _) (fun i h => Int.le_trans (dg_le h) (by decide)) (fun i h => Int.le_trans (dg_le h) (by decide)) rg9 r9).mono ?_
        rintro e10 w10 ⟨g10, rfl, p10, r10, b10⟩
        rw [dg_val ha40, dg_val hpc40] at r10
        have B10 := B9.trans (b10.mono B9.size)
        have rr10 := Row.later hrr B10
        go_wp2_with fail
        refine (rtimes_any g10 gr (dg (a + pc')) (dg R) w10 (dg_len _) (dg_len _) (dg_by _) (dg_by _) r10 rr10).mono ?_
        rintro e11 w11 ⟨g11, rfl, p11, r11, b11⟩
        rw [dg_take (by decide), dg_take (by decide), Nat.mod_eq_of_lt hz20, Nat.mod_eq_of_lt hr20] at r11
        have B11 := B10.trans (b11.mono B10.size)
        go_wp2_with fail
        refine (rest_any g11 ((a + pc') * R) w11 hzr r11).mono ?_
        rintro e12 w12 ⟨g12, rfl, r12, b12⟩
        have B12 := B11.trans (b12.mono B11.size)
        rw [← HAC.out] at r12
        go_wp2
        refine ⟨⟨k + 1, g12, by omega, ?_, rfl, by rw [HA1.out]; exact r12, br.trans (B12.mono br.size)⟩, ?_⟩
        · rw [Nat.mul_succ, HP.out]
          rfl
        · simp [intOf]
          omega
      · have hfi : ¬ ((p : Int) + 16 ≤ (m : Int)) := by omega
        have hnf : (m : Int) < (p : Int) + 16 := by omega
        have hSM := fun w => run_sliceMid (P := Tryd.prog) w 24 5 Tryd.underlying24 Tryd.sizeOf5 A m c .i64 .i64 p m (by omega) (by omega)
        have hsub := hbx.sub (I := p) (K := m) (by omega) (Nat.le_refl _) hc
        rw [show (xs.drop p).take (m - p) = (xs.drop p).take 16 by rw [List.take_of_length_le (by rw [List.length_drop, HLX.out]; exact Nat.le_refl _), List.take_of_length_le (by rw [List.length_drop, HLX.out]; omega)]] at hsub
        have hlti : (p : Int) < (m : Int) := by omega
        go_wp2_with (first
          | rw [hSM]
          | (at_builtin; refine wpList_append_bs rfl (.tmp 19) (.tmp 27) _ rfl wr.heap.size 5 j0 Tryd.underlying24 hj hjz hjsz hjby (.slice none 0 0) 0 [] rfl (World.ownsRow_nil _ _ _ _) wr.heap.size _ (m - p) _ _ rfl hsub (by omega) (Nat.le_refl _) ?_; intro v1 w6 o6 gr6; have b6 : Below wr.heap.size wr w6 := (Below.refl _ _).grown gr6 (Nat.le_refl _) (fun j hj => absurd hj (by simp [Value.ownBlock])))
          | (with_reducible refine wl_build1 rfl 24 (.const (.int .u8 1)) rfl 5 j0 (.int .u8 0) (.int .u8 1) Tryd.underlying24 hj hjz hjsz rfl rfl rfl ?_; intro g7 w7 r7 p7 l7 b7; have o7 := ownsRow_later o6 b7; rw [bv_one1] at r7)
          | (at_builtin; refine wpList_append_bs rfl (.tmp 29) (.tmp 30) _ rfl wr.heap.size 5 j0 Tryd.underlying24 hj hjz hjsz hjby v1 (0 + (m - p)) _ rfl o7 w7.heap.size _ 1 _ [1] rfl ((Row.toOwn r7).bs r7.lt) (by omega) (Nat.le_trans b6.size b7.size) ?_; intro v2 w8 o8 gr8))
        have s6 := b6.size
        have B7 : Below wr.heap.size wr w7 := b6.trans (b7.mono s6)
        have b8 : Below wr.heap.size wr w8 := B7.grown gr8 B7.size (fun j hj => (o7.lt j hj).1)
        rw [List.nil_append] at o8
        obtain ⟨A8, c8, rfl, hb8, _, _⟩ := ownsRow_bs o8
        go_wp2_with fail
        refine (number_any _ A8 _ c8 w8 (((hy.drop p).take 16).app (by_of_all (by decide))) hb8 (by omega)).mono ?_
        rintro e9 w9 ⟨g9, rfl, p9, r9, b9⟩
        have B9 := b8.trans (b9.mono b8.size)
        have rg9 := Row.later rg B9
        rw [HPC.out] at r9
        go_wp2_with fail
        refine (rplus_any g g9 (dg a) (dg pc') w9 (dg_len _) (dg_len _) (dg_nn _) (dg_nn _) (fun i h => Int.le_trans (dg_le h) (by decide)) (fun i h => Int.le_trans (dg_le h) (by decide)) rg9 r9).mono ?_
        rintro e10 w10 ⟨g10, rfl, p10, r10, b10⟩
        rw [dg_val ha40, dg_val hpc40] at r10
        have B10 := B9.trans (b10.mono B9.size)
        have rr10 := Row.later hrr B10
        go_wp2_with fail
        refine (rtimes_any g10 gr (dg (a + pc')) (dg R) w10 (dg_len _) (dg_len _) (dg_by _) (dg_by _) r10 rr10).mono ?_
        rintro e11 w11 ⟨g11, rfl, p11, r11, b11⟩
        rw [dg_take (by decide), dg_take (by decide), Nat.mod_eq_of_lt hz20, Nat.mod_eq_of_lt hr20] at r11
        have B11 := B10.trans (b11.mono B10.size)
        go_wp2_with fail
        refine (rest_any g11 ((a + pc') * R) w11 hzr r11).mono ?_
        rintro e12 w12 ⟨g12, rfl, r12, b12⟩
        have B12 := B11.trans (b12.mono B11.size)
        rw [← HAC.out] at r12
        go_wp2
        refine ⟨⟨k + 1, g12, by omega, ?_, rfl, by rw [HA1.out]; exact r12, br.trans (B12.mono br.size)⟩, ?_⟩
        · rw [Nat.mul_succ, HP.out]
          rfl
        · simp [intOf]
          omega
    · have hkk : k = (m + 15) / 16 := by omega
      have hnl : ¬ ((16 * k : Nat) : Int) < (m : Int) := by omega
      have hEnd := hend.out
      rw [HLX.out, ← hkk] at hEnd
      have hacl := accN_lt R xs k
      have ha40 : accN R xs k < 256 ^ 40 := by rw [c320_eq]; unfold c320; unfold p130 at hacl; omega
      have hS40 : S < 256 ^ 40 := by rw [c320_eq]; unfold c320; omega
      have HE := hide hEnd
      clear hEnd hend hacl hkk hk hlt
      generalize accN R xs k = a at *
      generalize 16 * k = p at *
      have rk2 := rk.later br
      have s5 := br.size
      have r42 := r4.later br
      have BR := B5.trans (br.mono B5.size)
      have lz : (bv (List.replicate 16 0)).length = (bv (pS ks xs)).length := by rw [bv_len, bv_len, pS_len, List.length_replicate]
      have z16 := size16 (pS_len ks xs)
      go_wp2_with fail
      refine (HN _ 16 16 wr (hKD wr g2 rk2)).mono ?_
      rintro e7 w7 ⟨g7, rfl, p7, r7, b7⟩
      have rg7 := Row.later rg b7
      go_wp2_with fail
      refine (rplus_any g g7 (dg a) (dg S) w7 (dg_len _) (dg_len _) (dg_nn _) (dg_nn _) (fun i h => Int.le_trans (dg_le h) (by decide)) (fun i h => Int.le_trans (dg_le h) (by decide)) rg7 r7).mono ?_
      rintro e8 w8 ⟨g8, rfl, p8, r8, b8⟩
      rw [dg_val ha40, dg_val hS40] at r8
      go_wp2_with fail
      refine (bytes16_any g8 (a + S) w8 r8).mono ?_
      rintro e9 w9 ⟨rfl, b9⟩
      rw [← HE.out]
      have s7 := b7.size; have s8 := b8.size; have s9 := b9.size
      have r43 := ((r42.later b7).later b8).later b9
      go_wp2_with (first
        | (with_reducible refine wl_store_row rfl 36 (.tmp 4) (.tmp 43) g4 36 _ (bv (pS ks xs)) rfl rfl rfl r43 z16 lz (bv_one _) ?_; intro w10 r10 o10))
      refine bodyPost_ret (v := .agg (bv (pS ks xs)).toArray) ?_ rfl ⟨rfl, ?_⟩
      · exact results_cell_row Tryd.results32 _ _ g4 36 _ (0, 0) _ rfl r10 Tryd.underlying36 rfl (by simpa using z16)
      · exact (((BR.trans (b7.mono BR.size)).trans (b8.mono (by have := BR.size; omega))).trans (b9.mono (by have := BR.size; omega))).trans (o10.below (by omega))
/-! ### Two numbers added -/
def addL (xs ys : List Int) : List Int := lowB ((leN xs + leN ys : Nat) : Int) 16
end Go.Proofs.YtpnlgmkkikmglabDoor
