/-
  The document's answer for poly: numbers of digits: number, carry, plus: contracts. Own work.
-/
import Derived.Test.YtcinhofapkddpaaPolyP
namespace Go.Proofs.Ytcinhofapkddpaa
open Go.RowKit
set_option linter.unusedVariables false
set_option linter.unusedSimpArgs false
theorem int_info_ : (Try.prog.info? 3).map (fun i => (i.zero, i.size, i.bytes)) = some (some (.int .i64 0), 1, 8) := by kernel_rfl
theorem int_info : ∃ i, Try.prog.info? 3 = some i ∧ i.zero = some (.int .i64 0) ∧ i.size = 1 ∧ i.bytes = 8 := by
  obtain ⟨i, h0, h1, h2, h3⟩ := info_parts int_info_
  exact ⟨i, h0, h1, h2, h3⟩
def DR (w : World) (g : Nat) (ds : List Int) : Prop := Row w 3 g (vk .i64 ds)
theorem lowB_pad {xs : List Int} (h : IsBy xs) (hl : xs.length ≤ 40) : xs ++ List.replicate (40 - xs.length) 0 = lowB (leN xs) 40 := by
  have h1 := lowB_leN (h.app (IsBy.rep (40 - xs.length)))
  rw [leN_append, leN_zeros, Nat.mul_zero, Nat.add_zero, List.length_append, List.length_replicate, show xs.length + (40 - xs.length) = 40 by omega] at h1
  exact h1.symm
theorem fill_at {xs zs : List Int} {i n : Nat} {v : Int} (hi : i < n) (hn : n ≤ xs.length) (hv : v = xs.getD i 0) (k : Nat) (hk : n ≤ k) : (xs.take i ++ List.replicate (k - i) 0).set i v = xs.take (i + 1) ++ List.replicate (k - (i + 1)) 0 := by
  subst hv
  rw [List.set_append_right _ _ (by rw [List.length_take]; omega), List.length_take, Nat.min_eq_left (by omega), Nat.sub_self, show k - i = (k - (i + 1)) + 1 by omega, List.replicate_succ, List.set_cons_zero, List.take_succ_eq_append_getElem (by omega), List.append_assoc]
  simp [List.getD, show i < xs.length by omega]
set_option maxRecDepth 100000 in
set_option maxHeartbeats 1000000 in
theorem number_any (xs : List Int) (A : Option Addr) (m c : Nat) (w : World) (hb : IsBy xs) (hbs : Bs w w.heap.size A m xs) (hm : m ≤ 40) :
    Calls Try.prog 18 #[.slice A m c] w fun e w' => ∃ g, e = .returned (.slice (some ⟨g, 0, none⟩) 40 40) ∧ w.heap.size ≤ g ∧ DR w' g (lowB (leN xs) 40) ∧ Below w.heap.size w w' := by
  obtain ⟨i0, hi, hz, hsz, hby⟩ := int_info
  have hpad := lowB_pad hb (by have := hbs.1; omega)
  have hl := hbs.1
  rw [hl] at hpad
  have HP := hide hpad
  have HL := hide hl
  clear hpad hl
  go_enter Try.func18, Try.ntmps18
  go_wp2_with (first
    | (with_reducible refine wl_make rfl 51 (.const (.int .i64 40)) (.const (.int .i64 40)) rfl 3 i0 (.int .i64 0) Try.underlying51 hi hz hsz rfl .i64 .i64 40 40 40 40 rfl rfl rfl rfl (Nat.le_refl _) (by omega) (by omega) ?_; intro g w1 r1 p1 l1 b1))
  go_loopw [4] (fun iv wr => ∃ i : Nat, i ≤ m ∧ iv = .int .i64 i ∧ Row wr 3 g (vk .i64 (xs.take i ++ List.replicate (40 - i) 0)) ∧ Below w.heap.size w wr) (fun iv _ => m - (intOf iv).toNat)
  case atStart => exact ⟨0, Nat.zero_le _, rfl, r1, b1⟩
  case round =>
    obtain ⟨i, him, rfl, rr, br⟩ := hrel
    by_cases hlt : i < m
    · obtain ⟨b, o, rfl, hb', hc'⟩ := (hbs.below br).at_ hlt
      obtain ⟨y0, y1⟩ := getD_byte hb i
      have hset := fill_at (xs := xs) (zs := []) (i := i) (n := m) (v := xs.getD i 0) hlt (Nat.le_of_eq HL.out.symm) rfl 40 hm
      have HS := hide hset
      have hln : i < (vk .i64 (xs.take i ++ List.replicate (40 - i) 0)).length := by rw [vk_len, List.length_append, List.length_replicate, List.length_take, HL.out]; omega
      clear hset
      generalize xs.getD i 0 = y at *
      have hlt' : i < 40 := by omega
      go_wp2_with (first
        | (with_reducible refine wl_store rfl 3 (.tmp 19) (.tmp 18) g i 3 _ (.int .i64 y) rfl (by kernel_rfl) rfl rfl rr hln rfl ?_; intro w3 r3 o3; rw [vk_set, HS.out] at r3))
      go_roundw
      case rel => exact ⟨i + 1, by omega, by go_num, r3, br.trans (o3.below p1)⟩
      case measure => simp [intOf]; omega
    · have : i = m := by omega
      subst this
      rw [List.take_of_length_le (Nat.le_of_eq HL.out), HP.out] at rr
      go_wp2
      go_ret
      exact ⟨g, rfl, p1, rr, br⟩
set_option maxRecDepth 100000 in
set_option maxHeartbeats 1000000 in
theorem carry_any (g : Nat) (ds : List Int) (w : World) (hl : ds.length = 40) (hn : IsNn ds) (hd : ∀ i, i < ds.length → (ds.getD i 0).toNat ≤ 255 * 1099511627776) (hr : DR w g ds) :
    Calls Try.prog 36 #[.slice (some ⟨g, 0, none⟩) 40 40] w fun e w' => e = .returned (.slice (some ⟨g, 0, none⟩) 40 40) ∧ DR w' g (lowB (leN ds) 40) ∧ But g w w' := by
  have HL := hide hl
  have HD := hide hd
  clear hl hd
  go_enter Try.func36, Try.ntmps36
  go_wp2
  go_loopw [3, 4] (fun cv iv wr => ∃ i : Nat, i ≤ 40 ∧ iv = .int .i64 i ∧ cv = .int .i64 (caC ds i : Int) ∧ Row wr 3 g (vk .i64 (caL ds i)) ∧ But g w wr) (fun _ iv _ => 40 - (intOf iv).toNat)
  case atStart => exact ⟨0, by omega, rfl, by rw [caC_0]; rfl, by rw [caL_0]; exact hr, But.refl _ _⟩
  case round =>
    obtain ⟨i, hi, rfl, rfl, rr, br⟩ := hrel
    by_cases hlt : i < 40
    · have hil : i < ds.length := by rw [HL.out]; exact hlt
      have hc := caC_le HD.out i (by omega)
      have hget := caL_get hil
      have hset := caL_set hil
      have hnext := caC_next hil
      have hll := caL_len ds i (by omega)
      have hdi := HD.out i hil
      have hd0 : ds.getD i 0 = ((ds.getD i 0).toNat : Int) := by
        have := hn (ds.getD i 0) (by rw [List.getD, List.getElem?_eq_getElem hil]; simp)
        omega
      have cell := rr.cell (vk_get (kd := .i64) (xs := caL ds i) (j := i) (by rw [hll]; exact hil))
      rw [hget, hd0] at cell
      have hln : i < (vk .i64 (caL ds i)).length := by rw [vk_len, hll]; exact hil
      clear hd0 hget
      have HS := hide hset
      have HN := hide hnext
      clear hset hnext hll
      generalize (ds.getD i 0).toNat = D at *
      generalize caC ds i = C at *
      have hmod : ((C : Int) + (D : Int)) % 256 = (((C + D) % 256 : Nat) : Int) := by omega
      have hdiv : ((C : Int) + (D : Int)) / 256 = (((C + D) / 256 : Nat) : Int) := by omega
      have HM := hide hmod
      have HV := hide hdiv
      clear hmod hdiv
      go_wp2_with (first
        | (with_reducible refine wl_store rfl 3 (.tmp 21) (.tmp 20) g i 3 _ (.int .i64 (((C : Int) + (D : Int)) % 256)) rfl (by kernel_rfl) rfl rfl rr hln rfl ?_; intro w3 r3 o3; rw [vk_set, HM.out, HS.out] at r3))
      go_roundw
      case rel => exact ⟨i + 1, by omega, by go_num, by rw [HV.out, HN.out], r3, br.trans (But.only o3)⟩
      case measure => simp [intOf]; omega
    · have : i = 40 := by omega
      subst this
      have hall := caL_all ds
      rw [HL.out] at hall
      rw [hall] at rr
      go_wp2
      go_ret
      exact ⟨rfl, rr, br⟩
/-! ### A sum -/
def zL (us bs : List Int) : List Int := List.zipWith (· + ·) us bs
theorem zL_len {us bs : List Int} {n : Nat} (ha : us.length = n) (hb : bs.length = n) : (zL us bs).length = n := by simp [zL, ha, hb]
theorem zL_get {us bs : List Int} {n i : Nat} (ha : us.length = n) (hb : bs.length = n) (hi : i < n) : (zL us bs).getD i 0 = us.getD i 0 + bs.getD i 0 := by
  simp [zL, List.getD, List.getElem?_zipWith, List.getElem?_eq_getElem (show i < us.length by omega), List.getElem?_eq_getElem (show i < bs.length by omega)]
def SRp (ga gb g5 i : Nat) (x y : Int) (opn : Nat) (v : Value) : Prop :=
  match opn with
  | 0 => v = .slice (some ⟨g5, 0, none⟩) 40 40
  | 1 | 3 | 7 => v = .int .i64 (i : Int)
  | 2 => v = .slice (some ⟨ga, 0, none⟩) 40 40
  | 4 => v = .pointer (some ⟨ga, i, none⟩)
  | 5 => v = .int .i64 (x : Int)
  | 6 => v = .slice (some ⟨gb, 0, none⟩) 40 40
  | 8 => v = .pointer (some ⟨gb, i, none⟩)
  | 9 => v = .int .i64 (y : Int)
  | 10 => v = .int .i64 (x + y)
  | 11 => v = .pointer (some ⟨g5, i, none⟩)
  | _ => True

/-- An element of a slice. -/
theorem run_indexS0 {P : Program} {o : Oper} {a : Act} {w : World} (t : TypeId) (x y : Operand) (e : Nat) (g n c i : Nat)
    (ho : o.op = .indexAddr t x y) (hu : P.underlying t = some (.slice e)) (hs : ∀ w, (sizeOf e).run P w = .ok 1 w) (hx : a.eval x = .slice (some ⟨g, 0, none⟩) n c) (hy : a.eval y = .int .i64 i) (hi : i < n) : (execOp a.eval o).run P w = .ok (.value (.pointer (some ⟨g, i, none⟩))) w := by
  unfold execOp
  simp only [ho, hx, hy]
  go_simp
set_option maxRecDepth 100000 in
set_option maxHeartbeats 1000000 in
theorem rplus_any (ga gb : Nat) (us bs : List Int) (w : World) (la : us.length = 40) (lb : bs.length = 40) (na : IsNn us) (nb' : IsNn bs) (ba : ∀ i, i < 40 → us.getD i 0 ≤ 1099511627776) (bb : ∀ i, i < 40 → bs.getD i 0 ≤ 1099511627776) (hra : DR w ga us) (hrb : DR w gb bs) :
    Calls Try.prog 22 #[.slice (some ⟨ga, 0, none⟩) 40 40, .slice (some ⟨gb, 0, none⟩) 40 40] w fun e w' => ∃ g, e = .returned (.slice (some ⟨g, 0, none⟩) 40 40) ∧ w.heap.size ≤ g ∧ DR w' g (lowB ((leN us + leN bs : Nat) : Int) 40) ∧ Below w.heap.size w w' := by
  obtain ⟨i0, hi, hz, hsz, hby⟩ := int_info
  have hzv := leN_zip us bs (by omega) na nb'
  have Z0 := hide hzv
  have Zl := hide (zL_len la lb)
  have Ba := hide ba
  have Bb := hide bb
  have La := hide la
  have Lb := hide lb
  clear la lb hzv ba bb
  go_enter Try.func22, Try.ntmps22
  go_wp2_with (first
    | (with_reducible refine wl_make rfl 51 (.const (.int .i64 40)) (.const (.int .i64 40)) rfl 3 i0 (.int .i64 0) Try.underlying51 hi hz hsz rfl .i64 .i64 40 40 40 40 rfl rfl rfl rfl (Nat.le_refl _) (by omega) (by omega) ?_; intro g5 w1 r1 p1 l1 b1))
  have hnea : ga ≠ g5 := by have := hra.lt; omega
  have hneb : gb ≠ g5 := by have := hrb.lt; omega
  have rga1 := Row.later hra b1
  have rgb1 := Row.later hrb b1
  clear hra hrb
  go_loopw [6] (fun iv wr => ∃ i : Nat, i ≤ 40 ∧ iv = .int .i64 i ∧ Row wr 3 g5 (vk .i64 ((zL us bs).take i ++ List.replicate (40 - i) 0)) ∧ But g5 w1 wr) (fun iv _ => 40 - (intOf iv).toNat)
  case atStart => exact ⟨0, Nat.zero_le _, rfl, r1, But.refl _ _⟩
  case round =>
    obtain ⟨i, him, rfl, rr, br⟩ := hrel
    by_cases hi : i < 40
    · have rga := rga1.but br hnea
      have rgb := rgb1.but br hneb
      have cga := vk_get (kd := .i64) (xs := us) (j := i) (by rw [La.out]; exact hi)
      have cgb := vk_get (kd := .i64) (xs := bs) (j := i) (by rw [Lb.out]; exact hi)
      have hx0 : 0 ≤ us.getD i 0 := na _ (by rw [List.getD, List.getElem?_eq_getElem (show i < us.length by rw [La.out]; exact hi)]; simp)
      have hy0 : 0 ≤ bs.getD i 0 := nb' _ (by rw [List.getD, List.getElem?_eq_getElem (show i < bs.length by rw [Lb.out]; exact hi)]; simp)
      have hx1 := Ba.out i hi
      have hy1 := Bb.out i hi
      have hset := fill_at (xs := zL us bs) (zs := []) (i := i) (n := 40) (v := us.getD i 0 + bs.getD i 0) hi (Nat.le_of_eq Zl.out.symm) (zL_get La.out Lb.out hi).symm 40 (Nat.le_refl _)
      have HS := hide (show (vk .i64 ((zL us bs).take i ++ List.replicate (40 - i) 0)).set i (.int .i64 (us.getD i 0 + bs.getD i 0)) = vk .i64 ((zL us bs).take (i + 1) ++ List.replicate (40 - (i + 1)) 0) by rw [vk_set, hset])
      have hcl : i < (vk .i64 ((zL us bs).take i ++ List.replicate (40 - i) 0)).length := by rw [vk_len, List.length_append, List.length_replicate, List.length_take, Zl.out]; omega
      clear hset
      generalize us.getD i 0 = x at *
      generalize bs.getD i 0 = y at *
      generalize vk .i64 ((zL us bs).take i ++ List.replicate (40 - i) 0) = cur at *
      go_wp2_with fail
      rename_i Q1 K1 hK1
      refine wp_region_vals [12] (SRp ga gb g5 i x y) (JB g5 3 wr 0 cur (vk .i64 ((zL us bs).take (i + 1) ++ List.replicate (40 - (i + 1)) 0))) (by kernel_rfl) (by kernel_rfl) (by kernel_rfl) (by kernel_rfl) (by kernel_rfl) (JB.start rr rfl) ?obs ?he
      case obs =>
        refine ⟨?_, ?_, ?_, ?_, ?_, ?_, ?_, ?_, ?_, ?_, ?_, ?_, ?_, trivial⟩
        · exact .inl ⟨by kernel_rfl, fun L a1 w1 n' h => ⟨_, rfl, run_move (.tmp 5) rfl (h.var n' 5 (by kernel_rfl))⟩⟩
        · exact .inl ⟨by kernel_rfl, fun L a1 w1 n' h => ⟨_, rfl, run_move (.tmp 6) rfl (h.var n' 6 (by kernel_rfl))⟩⟩
        · exact .inl ⟨by kernel_rfl, fun L a1 w1 n' h => ⟨_, rfl, run_move (.tmp 0) rfl (h.var n' 0 (by kernel_rfl))⟩⟩
        · exact .inl ⟨by kernel_rfl, fun L a1 w1 n' h => ⟨_, rfl, run_move (.tmp 6) rfl (h.var n' 6 (by kernel_rfl))⟩⟩
        · exact .inl ⟨by kernel_rfl, fun L a1 w1 n' h => ⟨_, rfl, run_indexS0 51 (.tmp 14) (.tmp 15) 3 ga 40 40 i rfl Try.underlying51 Try.sizeOf3 (h.dep n' 2 14 (by kernel_rfl) rfl) (h.dep n' 3 15 (by kernel_rfl) rfl) hi⟩⟩
        · exact .inl ⟨by kernel_rfl, fun L a1 w1 n' h => ⟨_, rfl, run_loadA 3 (.tmp 16) ⟨ga, i, none⟩ rfl Try.isAgg3 (h.dep n' 4 16 (by kernel_rfl) rfl) ((rga.but h.inv.2.2 hnea).cell cga)⟩⟩
        · exact .inl ⟨by kernel_rfl, fun L a1 w1 n' h => ⟨_, rfl, run_move (.tmp 1) rfl (h.var n' 1 (by kernel_rfl))⟩⟩
        · exact .inl ⟨by kernel_rfl, fun L a1 w1 n' h => ⟨_, rfl, run_move (.tmp 6) rfl (h.var n' 6 (by kernel_rfl))⟩⟩
        · exact .inl ⟨by kernel_rfl, fun L a1 w1 n' h => ⟨_, rfl, run_indexS0 51 (.tmp 18) (.tmp 19) 3 gb 40 40 i rfl Try.underlying51 Try.sizeOf3 (h.dep n' 6 18 (by kernel_rfl) rfl) (h.dep n' 7 19 (by kernel_rfl) rfl) hi⟩⟩
        · exact .inl ⟨by kernel_rfl, fun L a1 w1 n' h => ⟨_, rfl, run_loadA 3 (.tmp 20) ⟨gb, i, none⟩ rfl Try.isAgg3 (h.dep n' 8 20 (by kernel_rfl) rfl) ((rgb.but h.inv.2.2 hneb).cell cgb)⟩⟩
        · refine .inl ⟨by kernel_rfl, fun L a1 w1 n' h => ⟨.int .i64 (x + y), rfl, ?_⟩⟩
          have e0 : a1.eval (.tmp 17) = _ := h.dep n' 5 17 (by kernel_rfl) rfl
          have e1 : a1.eval (.tmp 21) = _ := h.dep n' 9 21 (by kernel_rfl) rfl
          unfold execOp
          simp only [e0, e1]
          go_simp
          rw [IntWalk.i64_in _ (by omega)]
        · exact .inl ⟨by kernel_rfl, fun L a1 w1 n' h => ⟨_, rfl, run_indexS0 51 (.tmp 12) (.tmp 13) 3 g5 40 40 i rfl Try.underlying51 Try.sizeOf3 (h.dep n' 0 12 (by kernel_rfl) rfl) (h.dep n' 1 13 (by kernel_rfl) rfl) hi⟩⟩
        · refine .inr fun L a1 w1 n' h K hK => ?_
          have no : L.getD 12 false = false := n'.not_yet
          refine st_store 3 (.tmp 23) (.tmp 22) g5 i 3 cur (.int .i64 (x + y)) rfl (by kernel_rfl) (h.dep n' 11 23 (by kernel_rfl) rfl) (h.dep n' 10 22 (by kernel_rfl) rfl) (h.inv.1 no) hcl rfl ?_
          intro w3 r3 o3
          rw [HS.out] at r3
          exact hK undef w3 trivial (h.inv.store (us := []) o3 r3 rfl)
      case he =>
        intro V w5 hV hJ
        have r5 := hJ.2.1 rfl
        have bx := br.trans hJ.2.2
        clear hV hJ
        simp only [putOps, List.setIfInBounds_toArray, List.set_cons_succ, List.set_cons_zero]
        refine hK1 _ _ ?_
        go_wp2
        go_roundw
        case rel => exact ⟨i + 1, by omega, by go_num, r5, bx⟩
        case measure => simp [intOf]; omega
    · have : i = 40 := by omega
      subst this
      rw [List.take_of_length_le (Nat.le_of_eq Zl.out), Nat.sub_self, List.replicate_zero, List.append_nil] at rr
      have nz : IsNn (zL us bs) := by
        intro z hz
        obtain ⟨j, hj⟩ := List.getElem?_of_mem hz
        have hjl := (List.getElem?_eq_some_iff.1 hj).1
        rw [Zl.out] at hjl
        have e := zL_get La.out Lb.out hjl
        rw [List.getD, hj, Option.getD_some] at e
        have h1 := na _ (show us.getD j 0 ∈ us by rw [List.getD, List.getElem?_eq_getElem (show j < us.length by rw [La.out]; exact hjl)]; simp)
        have h2 := nb' _ (show bs.getD j 0 ∈ bs by rw [List.getD, List.getElem?_eq_getElem (show j < bs.length by rw [Lb.out]; exact hjl)]; simp)
        omega
      have bz : ∀ i, i < (zL us bs).length → ((zL us bs).getD i 0).toNat ≤ 255 * 1099511627776 := by
        intro j hj
        rw [Zl.out] at hj
        rw [zL_get La.out Lb.out hj]
        have := Ba.out j hj
        have := Bb.out j hj
        omega
      go_wp2_with fail
      refine (carry_any g5 (zL us bs) wr Zl.out nz bz rr).mono ?_
      rintro e w5 ⟨rfl, r5, b5⟩
      rw [show leN (zL us bs) = leN us + leN bs from Z0.out] at r5
      go_wp2
      go_ret
      exact ⟨g5, rfl, p1, r5, b1.trans ((br.trans b5).below p1 b1.size)⟩
end Go.Proofs.Ytcinhofapkddpaa
