/-
  The law PolyNull: contract. Own work.
-/
import Derived.Test.YtcinhofapkddpaaPolySum
import Derived.Laws.BitsAllLaws
namespace Go.Proofs.Ytcinhofapkddpaa
open Go.RowKit
set_option linter.unusedVariables false
set_option linter.unusedSimpArgs false
set_option maxRecDepth 100000 in
theorem write_nil (A : Option Addr) (m c : Nat) (w : World) :
    Calls Try.prog 15 #[.pointer none, .slice A m c] w fun e w' => e = .returned (.tuple #[]) ∧ w = w' := by
  go_enter Try.func15, Try.ntmps15
  go_wp2
  refine bodyPost_ret (results_none rfl _ _ _) rfl ?_
  exact ⟨rfl, rfl⟩
theorem But.belowB' {g B : Nat} {a b c : World} (h : But g a b) (k : Below B b c) (hB : a.heap.size ≤ B) : But g a c :=
  ⟨k.os.trans h.os, k.tape.trans h.tape, k.output.trans h.output, Nat.le_trans h.size k.size, fun q hq hne => (k.block q (by omega)).trans (h.block q hq hne)⟩
def zz : List Int := List.replicate 16 0
theorem bz16 : Try.prog.built 26 [] = some (bv zz).toArray := by kernel_rfl
set_option maxRecDepth 100000 in
theorem sum_nil (w : World) :
    Calls Try.prog 16 #[.pointer none] w fun e w' => e = .returned (.agg (bv zz).toArray) ∧ Below w.heap.size w w' := by
  have hz := size16 (xs := zz) rfl
  have lz : (bv (List.replicate 16 0)).length = (bv zz).length := rfl
  have bz := bz16
  generalize zz = Z at *
  go_enter Try.func16, Try.ntmps16
  go_wp2_with (first
    | (with_reducible refine wl_alloc rfl 26 _ (bv (List.replicate 16 0)) rfl zero16 rfl ?_; intro g2 w1 r1 a1 l1 b1)
    | ((with_reducible refine wl_build rfl 26 [] rfl [] ?hv _ bz ?hk); case hv => rfl)
    | (with_reducible refine wl_store_row rfl 26 (.tmp 2) (.tmp 6) g2 26 _ (bv Z) rfl rfl rfl r1 hz lz (bv_one _) ?_; intro w2 r2 o2))
  refine bodyPost_ret (v := .agg (bv Z).toArray) ?_ rfl ⟨rfl, ?_⟩
  · exact results_cell_row Try.results16 _ _ g2 26 _ (0, 0) _ rfl r2 Try.underlying26 rfl (by simpa using hz)
  · exact b1.trans (o2.below a1)
theorem fold1_0 : fold1 0 = 0 := rfl
theorem totI_0 (xs : List Int) (k : Nat) : totI 0 xs k = 0 := by
  cases k with
  | zero => rfl
  | succ k => simp only [totI, stepI, Nat.mul_zero]; rfl
theorem endI_0 (xs : List Int) : endI 0 xs = 0 := by
  unfold endI
  split
  · exact totI_0 _ _
  · simp only [stepI, Nat.mul_zero]; rfl
theorem polyL_0 {xs ss : List Int} (h : ss.length = 16) (hb : IsBy ss) : polyL 0 (leN ss) xs = ss := by
  unfold polyL
  rw [endI_0, show red 0 + leN ss = leN ss from by unfold red; simp]
  have := lowB_leN hb
  rwa [h] at this
theorem polyL_00 (xs : List Int) : polyL 0 0 xs = zz := polyL_0 (ss := zz) rfl (IsBy.rep 16)
def kN (a b : Int) (ss : List Int) : List Int := [0, 0, 0, a, b, 0, 0, 0, 0, 0, 0, 0, 0, 0, 0, 0] ++ ss
theorem kN_len {a b : Int} {ss : List Int} (h : ss.length = 16) : (kN a b ss).length = 32 := by simp [kN, h]
theorem kN_by {a b : Int} {ss : List Int} (a0 : 0 ≤ a ∧ a < 256) (b0 : 0 ≤ b ∧ b < 256) (h : IsBy ss) : IsBy (kN a b ss) := by
  refine IsBy.app ?_ h
  intro x hx
  simp only [List.mem_cons, List.not_mem_nil, or_false] at hx
  rcases hx with rfl | rfl | rfl | rfl | rfl | rfl | rfl | rfl | rfl | rfl | rfl | rfl | rfl | rfl | rfl | rfl <;> omega
theorem pS_null {a b : Int} {ss : List Int} (a0 : 0 ≤ a ∧ a < 256) (b0 : 0 ≤ b ∧ b < 256) (ha : a % 16 = 0) (hb : b / 4 = 0) (h : ss.length = 16) (hs : IsBy ss) (xs : List Int) : pS (kN a b ss) xs = ss := by
  have hl := kN_len (a := a) (b := b) h
  have hc : clN (leN ((kN a b ss).take 16)) = 0 := by
    rw [← clL_val (by omega) (kN_by a0 b0 hs)]
    have : clL (kN a b ss) 16 = List.replicate 16 0 := by
      apply List.ext_getElem
      · simp [clL_len]
      · intro i h1 h2
        rw [clL_len] at h1
        simp only [clL, List.getElem_map, List.getElem_range, List.getElem_replicate]
        have hi : i = 0 ∨ i = 1 ∨ i = 2 ∨ i = 3 ∨ i = 4 ∨ i = 5 ∨ i = 6 ∨ i = 7 ∨ i = 8 ∨ i = 9 ∨ i = 10 ∨ i = 11 ∨ i = 12 ∨ i = 13 ∨ i = 14 ∨ i = 15 := by omega
        rcases hi with rfl | rfl | rfl | rfl | rfl | rfl | rfl | rfl | rfl | rfl | rfl | rfl | rfl | rfl | rfl | rfl <;> simp [clB, kN, List.getD] <;> omega
    rw [this, leN_zeros]
  unfold pS
  rw [hc, show (kN a b ss).drop 16 = ss from rfl]
  exact polyL_0 h hs
theorem bKN (a b : Int) : Try.prog.built 22 [(3, .int .u8 a), (4, .int .u8 b)] = some (bv (kN a b zz)).toArray := by kernel_rfl
theorem bMac0 : Try.prog.built 48 [] = some (macL zz 0 0 0 0).toArray := by kernel_rfl
def k16 : List Int := [0, 0, 0, 0, 0, 0, 0, 0, 0, 0, 0, 0, 0, 0, 0, 0, 1, 0, 0, 0, 0, 0, 0, 0, 0, 0, 0, 0, 0, 0, 0, 0]
def o16 : List Int := [1, 0, 0, 0, 0, 0, 0, 0, 0, 0, 0, 0, 0, 0, 0, 0]
theorem bK16 : Try.prog.built 22 [(16, .int .u8 1)] = some (bv k16).toArray := by kernel_rfl
theorem bO16 : Try.prog.built 26 [(0, .int .u8 1)] = some (bv o16).toArray := by kernel_rfl
theorem pS16 : pS k16 [] = o16 := by decide +kernel
theorem ptr_info_ : (Try.prog.info? 31).map (fun i => (i.zero, i.size, i.bytes)) = some (some (.pointer none), 1, 8) := by kernel_rfl
theorem ptr_info : ∃ i, Try.prog.info? 31 = some i ∧ i.zero = some (.pointer none) ∧ i.size = 1 := by
  obtain ⟨i, h0, h1, h2, h3⟩ := info_parts ptr_info_
  exact ⟨i, h0, h1, h2⟩
theorem wl_build2 {P : Program} {ops : Array Oper} {rest : List Oper} {o : Oper} {a : Act} {w : World} {Q : Exit → Act → World → Prop} (hgd : o.guard = none) (t : TypeId) (x y : Operand) (ho : o.op = .buildSlice t 2 #[(0, x), (1, y)]) (e : TypeId) (i : TypeInfo) (z u v : Value) (ht : P.underlying t = some (.slice e)) (hi : P.info? e = some i) (hz : i.zero = some z) (hsz : i.size = 1) (hzc : z.cells = #[z]) (hx : a.eval x = u) (hy : a.eval y = v) (hu : u.cells = #[u]) (hv : v.cells = #[v])
    (hk : ∀ g w', Row w' e g [u, v] → w.heap.size ≤ g → g < w'.heap.size → Below w.heap.size w w' → wpList P ops Q rest (a.put o.dst (.slice (some ⟨g, 0, none⟩) 2 2)) w') : wpList P ops Q (o :: rest) a w :=
  wpList_plain hgd fun K hK => st_build2 t x y ho e i z u v ht hi hz hsz hzc hx hy hu hv (hK _ _ (hk _ _ (by unfold Row; exact heap_alloc_new _ _) (Nat.le_refl _) (by simp) ((Below.refl _ _).alloc (Nat.le_refl _) _)))
def SN4 (g3 g7 : Nat) (opn : Nat) (v : Value) : Prop :=
  match opn with
  | 0 => v = .slice (some ⟨g7, 16, none⟩) 16 16
  | 1 => v = .slice (some ⟨g3, 0, none⟩) 16 16
  | 2 => v = .int .i64 16
  | _ => True

def SN12 (ks ss : List Int) (A : Option Addr) (g3 g7 m c : Nat) (opn : Nat) (v : Value) : Prop :=
  match opn with
  | 0 => v = .agg (bv ks).toArray
  | 1 => v = .slice A m c
  | 2 | 3 => v = .agg (bv ss).toArray
  | 4 | 5 | 9 | 10 | 11 | 12 | 13 | 14 => v = .bool true
  | 6 => v = .agg (bv k16).toArray
  | 7 | 8 => v = .agg (bv o16).toArray
  | _ => True

set_option maxRecDepth 100000 in
set_option maxHeartbeats 1500000 in
theorem polyNull_any (ss xs : List Int) (odd : Int) (A : Option Addr) (m c : Nat) (w : World) (hs : ss.length = 16) (hsb : IsBy ss) (o0 : 0 ≤ odd) (o1 : odd < 256) (hbs : Bs w w.heap.size A m xs) (hby : IsBy xs) (hc : m ≤ c) :
    Calls Try.prog 8 #[.agg (bv ss).toArray, .int .u8 odd, .slice A m c] w fun e w' => e = .returned (.bool true) ∧ Below w.heap.size w w' := by
  have Hs := hide hs
  have hs16 := size16 hs
  by_cases hlong : (1000 : Int) < (m : Int)
  · have hd : decide ((1000 : Int) < (m : Int)) = true := by simp; omega
    clear hs
    go_enter Try.func8, Try.ntmps8
    go_wp2_with (first
      | (with_reducible refine wl_box rfl 26 (.tmp 0) _ (bv ss) rfl rfl rfl ?_; intro g1 w1 r1 p1 l1 b1))
    refine (awake_any _).mono ?_
    rintro e w2 ⟨rfl, b2⟩
    go_wp2
    go_ret
    exact ⟨rfl, b1.trans (b2.mono b1.size)⟩
  · have hd : decide ((1000 : Int) < (m : Int)) = false := by simp; omega
    obtain ⟨ipt, hpt, hpz, hps⟩ := ptr_info
    have hab : ∃ a b : Int, bits .and .u8 odd 240 = a ∧ bits .and .u8 odd 3 = b ∧ (0 ≤ a ∧ a < 256) ∧ (0 ≤ b ∧ b < 256) ∧ a % 16 = 0 ∧ b / 4 = 0 := by
      obtain ⟨X, rfl⟩ := Int.eq_ofNat_of_zero_le o0
      have h1 := u8_and_nat X 240 (by omega) (by decide)
      have h2 := u8_and_nat X 3 (by omega) (by decide)
      have h3 : X &&& 240 ≤ 240 := Nat.and_le_right
      have h4 : X &&& 3 ≤ 3 := Nat.and_le_right
      have h5 : (X &&& 240) % 2 ^ 4 = 0 := by rw [Nat.and_mod_two_pow]; simp
      refine ⟨_, _, h1, h2, by omega, by omega, by omega, by omega⟩
    obtain ⟨a, b, ha, hb, a0, b0, a16, b4⟩ := hab
    have lks := kN_len (a := a) (b := b) hs
    have bks := kN_by a0 b0 hsb
    have hps' := pS_null a0 b0 a16 b4 hs hsb xs
    have HPS := hide hps'
    have hbkn := bKN a b
    have hcp : (bv (kN a b zz)).take 16 ++ (bv ss ++ (bv (kN a b zz)).drop (16 + 16)) = bv (kN a b ss) := by
      rw [← bv_drop, ← bv_take, ← bv_app, ← bv_app, show (kN a b zz).drop (16 + 16) = [] from rfl, List.append_nil]
      rfl
    have z32 := size32 (xs := kN a b zz) rfl
    have l32 : (bv (List.replicate 32 0)).length = (bv (kN a b zz)).length := rfl
    have bz := bz16
    have bm0 := bMac0
    have hE : ∀ w, (Op.equalIn 10000 26 (.agg (bv zz).toArray) (.agg #[.int .u8 0, .int .u8 0, .int .u8 0, .int .u8 0, .int .u8 0, .int .u8 0, .int .u8 0, .int .u8 0, .int .u8 0, .int .u8 0, .int .u8 0, .int .u8 0, .int .u8 0, .int .u8 0, .int .u8 0, .int .u8 0])).run Try.prog w = .ok true w := fun w => (eq16 zz zz rfl rfl w).trans (by simp)
    have hsum0 := polyL_00 xs
    have HS0 := hide hsum0
    have mac0 : ∀ g w, Row w 48 g (macL zz 0 0 0 0) → MacAt w g 0 0 [] := fun g w h => h
    clear hs hps' hsum0 a0 b0 a16 b4
    generalize hz : zz = Z at *
    have HZ := hide hz
    clear hz
    go_enter Try.func8, Try.ntmps8
    go_wp2_with (first
      | (with_reducible refine wl_box rfl 26 (.tmp 0) _ (bv ss) rfl rfl rfl ?_; intro g3 w1 r1 p1 l1 b1)
      | ((with_reducible refine wl_build rfl 22 _ rfl _ ?hv _ hbkn ?hk); case hv => rfl)
      | (with_reducible refine wl_alloc rfl 22 _ (bv (List.replicate 32 0)) rfl zero32 rfl ?_; intro g7 w2 r2 p2 l2 b2)
      | (with_reducible refine wl_store_row rfl 22 (.tmp 7) (.tmp 18) g7 22 _ (bv (kN a b Z)) rfl rfl rfl r2 z32 l32 (bv_one _) ?_; intro w3 r3 o3))
    have s1 := b1.size; have s2 := b2.size; have s3 := o3.size
    have h37 : g3 ≠ g7 := by have := r1.lt; omega
    have rs := (r1.later b2).only o3 h37
    have HSS : ∀ w', Row w' 26 g3 (bv ss) → Bs w' (g3 + 1) (some ⟨g3, 0, none⟩) 16 ss := fun w' h => by
      have := (Row.toOwn h).bs (B := g3 + 1) (by omega)
      rwa [Hs.out] at this
    have B3 := (b1.trans (b2.mono s1)).trans (o3.below (by omega))
    have hkz : (kN a b Z).length = 32 := by rw [← HZ.out]; rfl
    clear r1 r2 b1 b2 o3
    rename_i K1 hK1
    refine wp_region_vals [2] (SN4 g3 g7) (JB g7 22 w3 0 (bv (kN a b Z)) (bv (kN a b ss))) (by kernel_rfl) (by kernel_rfl) (by kernel_rfl) (by kernel_rfl) (by kernel_rfl) (JB.start r3 rfl) ?obs ?he
    case obs =>
      refine ⟨?_, ?_, ?_, trivial⟩
      · exact .inl ⟨by kernel_rfl, fun L a1 w1 n' h => ⟨_, rfl, run_sliceLo 22 (.tmp 7) (.const (.int .i64 16)) 32 5 g7 16 rfl Try.underlying22 Try.sizeOf5 (h.var n' 7 (by kernel_rfl)) rfl (by decide)⟩⟩
      · exact .inl ⟨by kernel_rfl, fun L a1 w1 n' h => ⟨_, rfl, run_sliceAll 26 (.tmp 3) 16 5 g3 rfl Try.underlying26 Try.sizeOf5 (h.var n' 3 (by kernel_rfl))⟩⟩
      · refine .inr fun L a1 w1 n' h K hK => ?_
        have no : L.getD 2 false = false := n'.not_yet
        refine st_copy (.tmp 19) (.tmp 20) _ _ rfl 5 Try.underlying23 u8_size g7 16 16 16 16 16 22 (g3 + 1) (some ⟨g3, 0, none⟩) (h.dep n' 0 19 (by kernel_rfl) rfl) (h.dep n' 1 20 (by kernel_rfl) rfl) (bv (kN a b Z)) ss (h.inv.1 no) (HSS _ (rs.but h.inv.2.2 h37)) (Nat.le_refl _) (by decide) (by rw [bv_len, hkz]; decide) ?_
        intro w3 r3 o3
        rw [hcp] at r3
        exact hK _ w3 rfl (h.inv.store (us := []) o3 r3 rfl)
    case he =>
      intro V w5 hV hJ
      have r5 := hJ.2.1 rfl
      have bx := hJ.2.2
      clear hV hJ
      simp only [putOps, Act.put, List.setIfInBounds_toArray, List.set_cons_succ, List.set_cons_zero]
      refine hK1 _ _ ?_
      have rs5 := rs.but bx h37
      have B5 := B3.trans (bx.below (by omega) B3.size)
      have s5 := bx.size
      clear rs r3 bx hK1 hcp
      go_wp2_with (first
        | ((with_reducible refine wl_build rfl 48 [] rfl [] ?hv2 _ bm0 ?hk2); case hv2 => rfl)
        | (with_reducible refine wl_box rfl 48 (.tmp 22) _ (macL Z 0 0 0 0) rfl rfl rfl ?_; intro gm w6 r6 p6 l6 b6)
        | (with_reducible refine wl_build2 rfl 49 (.const (.pointer none)) (.tmp 23) rfl 31 ipt (.pointer none) (.pointer none) (.pointer (some ⟨gm, 0, none⟩)) Try.underlying49 hpt hpz hps rfl rfl rfl rfl rfl ?_; intro g8 w7 r7 p7 l7 b7))
      have mm := mac0 gm w7 (r6.later b7)
      have s6 := b6.size; have s7 := b7.size
      have hgm3 : g3 ≠ gm := by have := rs5.lt; omega
      have hgm7 : g7 ≠ gm := by have := r5.lt; omega
      have hgm8 : g8 ≠ gm := by omega
      have rs7 := (rs5.later b6).later b7
      have rk7 := (r5.later b6).later b7
      have B7 := (B5.trans (b6.mono B5.size)).trans (b7.mono (by have := B5.size; omega))
      have hgw : w.heap.size ≤ gm := by have := B5.size; omega
      clear rs5 r5 r6 b6 b7
      go_loopw [9] (fun iv wr => ∃ i : Nat, i ≤ 2 ∧ iv = .int .i64 i ∧ (i ≤ 1 → MacAt wr gm 0 0 []) ∧ But gm w7 wr) (fun iv _ => 2 - (intOf iv).toNat)
      case atStart => exact ⟨0, by omega, rfl, fun _ => mm, But.refl _ _⟩
      case round =>
        clear mm
        obtain ⟨i, hi, rfl, hm, br⟩ := hrel
        have r8 := r7.but br hgm8
        have sr := br.size
        by_cases h0 : i = 0
        · subst h0
          have c0 := r8.cell (j := 0) rfl
          have mm := hm (by omega)
          clear hm
          go_wp2_with fail
          refine (write_nil A m c wr).mono ?_
          rintro e w8 ⟨rfl, rfl⟩
          go_wp2_with fail
          refine (sum_nil wr).mono ?_
          rintro e w9 ⟨rfl, b9⟩
          rw [HZ.out]
          have m9 : MacAt w9 gm 0 0 [] := Row.later mm b9
          have br9 := br.belowB' b9 sr
          go_wp2_with (first | rw [hE])
          exact ⟨⟨1, by omega, rfl, fun _ => m9, br9⟩, by simp [intOf]⟩
        · by_cases h1 : i = 1
          · subst h1
            have c1 := r8.cell (j := 1) rfl
            have mm := hm (by omega)
            have hB : Below w.heap.size w wr := B7.trans (br.below hgw B7.size)
            have hxr : Bs wr w.heap.size A m xs := hbs.below hB
            clear hm
            go_wp2_with fail
            refine (write_any gm 0 0 m c w.heap.size [] xs A wr mm (by decide) (fun _ h => by simp at h) hby hxr hgw hc).mono ?_
            rintro e w8 ⟨rfl, m8, b8⟩
            rw [List.nil_append] at m8
            have r88 := r8.but b8 hgm8
            have c2 := r88.cell (j := 1) rfl
            have s8 := b8.size
            clear c1 r8
            go_wp2_with fail
            refine (sum_any gm 0 0 xs w8 m8 (by decide) hby).mono ?_
            rintro e w9 ⟨rfl, b9⟩
            rw [HS0.out]
            have br9 := (br.trans b8).belowB' b9 (by omega)
            go_wp2_with (first | rw [hE])
            exact ⟨⟨2, by omega, rfl, fun h => absurd h (by decide), br9⟩, by simp [intOf]⟩
          · have h2 : i = 2 := by omega
            subst h2
            have r3 := rs7.but br hgm3
            have r7 := rk7.but br hgm7
            have BS := B7.trans (br.below hgw B7.size)
            have hxS : Bs wr wr.heap.size A m xs := hbs.later BS
            clear hm rs7 rk7 br r8
            generalize kN a b ss = ks at *
            go_wp2_with fail
            rename_i K2 hK2
            refine wp_region_valsG [2, 7, 12] (SN12 ks ss A g3 g7 m c) (JR wr) (by kernel_rfl) (by kernel_rfl) (by kernel_rfl) (by kernel_rfl) (Below.refl _ _).drew ?obs ?he
            case obs =>
              refine ⟨?_, ?_, ?_, ?_, ?_, ?_, ?_, ?_, ?_, ?_, ?_, ?_, ?_, ?_, ?_, trivial⟩
              · refine ⟨.inl rfl, ?_⟩
                exact .inl ⟨by kernel_rfl, fun L a1 w1 n' h => ⟨_, rfl, run_loadRow 22 (.tmp 7) g7 22 _ _ rfl (h.var n' 7 (by kernel_rfl)) (r7.later h.inv) Try.underlying22 rfl (size32 lks)⟩⟩
              · refine ⟨.inl rfl, ?_⟩
                exact .inl ⟨by kernel_rfl, fun L a1 w1 n' h => ⟨_, rfl, run_move (.tmp 2) rfl (h.var n' 2 (by kernel_rfl))⟩⟩
              · refine ⟨.inl rfl, ?_⟩
                refine .inr fun L a1 w1 n' h K hK => ?_
                have e0 : a1.eval (.tmp 44) = .agg (bv ks).toArray := h.dep n' 0 44 (by kernel_rfl) rfl
                have e1 : a1.eval (.tmp 45) = .slice A m c := h.dep n' 1 45 (by kernel_rfl) rfl
                refine st_call 11 _ _ #[.agg (bv ks).toArray, .slice A m c] rfl Try.call11 ?_ (psum_any ks xs A m c w1 lks bks hby (hxS.later h.inv) hc) ?_
                · simp only [List.map_toArray, List.map_cons, List.map_nil, e0, e1]
                · rintro e w3 ⟨rfl, b9⟩
                  rw [HPS.out]
                  exact ⟨_, rfl, hK _ w3 rfl (JR.call h.inv b9)⟩
              · refine ⟨.inl rfl, ?_⟩
                exact .inl ⟨by kernel_rfl, fun L a1 w1 n' h => ⟨_, rfl, run_loadRow 26 (.tmp 3) g3 26 _ _ rfl (h.var n' 3 (by kernel_rfl)) (r3.later h.inv) Try.underlying26 rfl (size16 Hs.out)⟩⟩
              · refine ⟨.inl rfl, ?_⟩
                exact .inl ⟨by kernel_rfl, fun L a1 w1 n' h => ⟨_, rfl, run_eqlT (.tmp 46) (.tmp 47) rfl Try.underlying26 (Classical.choose_spec u8_info).1 (by kernel_rfl) Try.underlying5 Try.isAgg5 ss (h.dep n' 2 46 (by kernel_rfl) rfl) (h.dep n' 3 47 (by kernel_rfl) rfl) (Hs.out) (by kernel_rfl)⟩⟩
              · refine ⟨.inl rfl, ?_⟩
                exact .inl ⟨by kernel_rfl, fun L a1 w1 n' h => ⟨_, rfl, run_move (.tmp 48) rfl (h.dep n' 4 48 (by kernel_rfl) rfl)⟩⟩
              · refine ⟨.inr ⟨5, true, 49, rfl, by kernel_rfl, rfl, by simp, fun v h => h⟩, ?_⟩
                exact .inl ⟨by kernel_rfl, fun L a1 w1 n' h => ⟨_, rfl, run_buildX 22 [(16, .const (.int .u8 1))] rfl [(16, .int .u8 1)] rfl _ bK16⟩⟩
              · refine ⟨.inr ⟨5, true, 49, rfl, by kernel_rfl, rfl, by simp, fun v h => h⟩, ?_⟩
                refine .inr fun L a1 w1 n' h K hK => ?_
                have e0 : a1.eval (.tmp 50) = .agg (bv k16).toArray := h.dep n' 6 50 (by kernel_rfl) rfl
                refine st_call 11 _ _ #[.agg (bv k16).toArray, .slice none 0 0] rfl Try.call11 ?_ (psum_any k16 [] none 0 0 w1 rfl (by_of_all (by decide)) (fun _ h => by simp at h) Bs.nil_ (Nat.le_refl _)) ?_
                · simp only [List.map_toArray, List.map_cons, List.map_nil, e0]; rfl
                · rintro e w3 ⟨rfl, b9⟩
                  rw [pS16]
                  exact ⟨_, rfl, hK _ w3 rfl (JR.call h.inv b9)⟩
              · refine ⟨.inr ⟨5, true, 49, rfl, by kernel_rfl, rfl, by simp, fun v h => h⟩, ?_⟩
                exact .inl ⟨by kernel_rfl, fun L a1 w1 n' h => ⟨_, rfl, run_buildX 26 [(0, .const (.int .u8 1))] rfl [(0, .int .u8 1)] rfl _ bO16⟩⟩
              · refine ⟨.inr ⟨5, true, 49, rfl, by kernel_rfl, rfl, by simp, fun v h => h⟩, ?_⟩
                exact .inl ⟨by kernel_rfl, fun L a1 w1 n' h => ⟨_, rfl, run_eqlT (.tmp 51) (.tmp 52) rfl Try.underlying26 (Classical.choose_spec u8_info).1 (by kernel_rfl) Try.underlying5 Try.isAgg5 o16 (h.dep n' 7 51 (by kernel_rfl) rfl) (h.dep n' 8 52 (by kernel_rfl) rfl) (rfl) (by kernel_rfl)⟩⟩
              · refine ⟨.inl rfl, ?_⟩
                exact .inl ⟨by kernel_rfl, fun L a1 w1 n' h => ⟨_, rfl, run_pickT (.tmp 49) _ _ rfl (h.dep n' 5 49 (by kernel_rfl) rfl) (h.dep n' 9 53 (by kernel_rfl) rfl)⟩⟩
              · refine ⟨.inl rfl, ?_⟩
                exact .inl ⟨by kernel_rfl, fun L a1 w1 n' h => ⟨_, rfl, run_move (.tmp 54) rfl (h.dep n' 10 54 (by kernel_rfl) rfl)⟩⟩
              · refine ⟨.inr ⟨11, true, 55, rfl, by kernel_rfl, rfl, by simp, fun v h => h⟩, ?_⟩
                refine .inr fun L a1 w1 n' h K hK => ?_
                refine st_call 9 _ _ #[] rfl Try.call9 ?_ (awake_any w1) ?_
                · simp
                · rintro e w3 ⟨rfl, b9⟩
                  exact ⟨_, rfl, hK _ w3 rfl (JR.call h.inv b9)⟩
              · refine ⟨.inl rfl, ?_⟩
                exact .inl ⟨by kernel_rfl, fun L a1 w1 n' h => ⟨_, rfl, run_pickT (.tmp 55) _ _ rfl (h.dep n' 11 55 (by kernel_rfl) rfl) (h.dep n' 12 56 (by kernel_rfl) rfl)⟩⟩
              · refine ⟨.inl rfl, ?_⟩
                exact .inl ⟨by kernel_rfl, fun L a1 w1 n' h => ⟨_, rfl, run_assign (.tmp 57) rfl (h.dep n' 13 57 (by kernel_rfl) rfl)⟩⟩
            case he =>
              intro V w8 hV hJ
              have h14 : V 14 = .bool true := hV 14 6 rfl
              have hB : Below wr.heap.size wr w8 := hJ
              clear hV hJ
              simp only [putOps, Act.put, List.setIfInBounds_toArray, List.set_cons_succ, List.set_cons_zero]
              refine hK2 _ _ ?_
              go_wp2
              go_ret
              exact ⟨congrArg Ending.returned h14, BS.trans (hB.mono BS.size)⟩
end Go.Proofs.Ytcinhofapkddpaa
