/-
  The law PolyMacs: contract. Own work.
-/
import Derived.Test.YtcinhofapkddpaaPolySum
import Derived.Test.YtcinhofapkddpaaOpen
namespace Go.Proofs.Ytcinhofapkddpaa
open Go.RowKit Go.ChangeShapes Go.WideShapes
set_option linter.unusedVariables false
set_option linter.unusedSimpArgs false
/-- A slice of slices of bytes, each within its room. -/
def BssC (w : World) (B : Nat) (A : Option Addr) (k : Nat) (xss : List (List Int)) : Prop :=
  xss.length = k ∧ (0 < k → ∃ b o, A = some ⟨b, o, none⟩ ∧ b < B ∧ ∀ j, j < k → ∃ A' n' c', w.cell? ⟨b, o + j, none⟩ = some (.slice A' n' c') ∧ Bs w B A' n' (xss.getD j []) ∧ n' ≤ c')
theorem BssC.keep {w w' : World} {B k : Nat} {A : Option Addr} {xss : List (List Int)} (h : BssC w B A k xss) (hb : ∀ p : Addr, p.block < B → w'.cell? p = w.cell? p) : BssC w' B A k xss :=
  ⟨h.1, fun hk => let ⟨b, o, e, hlt, hc⟩ := h.2 hk; ⟨b, o, e, hlt, fun j hj => let ⟨A', n', c', h1, h2, h3⟩ := hc j hj; ⟨A', n', c', (hb _ hlt).trans h1, h2.keep hb, h3⟩⟩⟩
theorem trod_bssC {H : Type} {enc : TypeId × Value → H} {P : Program} {w : World} {spare : Nat → Bool} {held : Bool} {t e e1 : TypeId} {A : Option Addr} {n c : Nat} {d : DataW H} {p : List MemPlace} (ht : P.underlying t = some (.slice e)) (hc : P.cellsOf e = 1) (ht1 : P.underlying e = some (.slice e1)) (he1 : P.underlying e1 = some (.int .u8)) (hc1 : P.cellsOf e1 = 1)
    (h : DataW.Trod enc P w 0 spare held t (.slice A n c) d p) : ∃ xss, BssC w w.heap.size A n xss ∧ (∀ xs ∈ xss, IsBy xs) := by
  obtain ⟨fuel, hf⟩ := h
  rcases Go.Deep.open_slice1 ht hc hf with ⟨hcs, _⟩ | ⟨a, len, cap, m, k, V, D, Pl, hcs, _, hl, hm, hmm, _, hx⟩
  · simp [Value.cells] at hcs
    obtain ⟨rfl, rfl, rfl⟩ := hcs
    exact ⟨[], ⟨rfl, fun h => absurd h (by omega)⟩, fun _ h => by simp at h⟩
  · simp [Value.cells] at hcs
    obtain ⟨rfl, rfl, rfl⟩ := hcs
    have hnm : n ≤ m := by rw [hmm]; split <;> omega
    have key : ∀ i, i < n → ∃ xs, IsBy xs ∧ ∃ A' n' c', w.cell? (a.add i) = some (.slice A' n' c') ∧ Bs w w.heap.size A' n' xs ∧ n' ≤ c' := by
      intro i hi
      obtain ⟨h1, h2⟩ := hx i (by omega)
      obtain ⟨A', n', c', xs, hv, hb, hby, hnc, _⟩ := trod_bs ht1 he1 hc1 h2
      exact ⟨xs, hby, A', n', c', by rw [h1, hv], hb, hnc⟩
    obtain ⟨f, hf'⟩ := Go.Deep.choose_lt (α := List Int) key
    refine ⟨(List.range n).map f, ⟨by simp, fun h0 => ?_⟩, fun xs hxs => ?_⟩
    · obtain ⟨b, off, spot⟩ := a
      obtain ⟨_, A0, n0, c0, hc0, _⟩ := hf' 0 h0
      have hspot : spot = none := by simpa [Addr.add] using World.cell?_spot hc0
      subst hspot
      refine ⟨b, off, rfl, ?_, fun j hj => ?_⟩
      · have := block_lt_of_cell hc0
        simpa [Addr.add] using this
      · obtain ⟨_, A', n', c', hc', hb', hn'⟩ := hf' j hj
        rw [addr_plain] at hc'
        exact ⟨A', n', c', hc', by simpa [List.getD, hj] using hb', hn'⟩
    · simp only [List.mem_map, List.mem_range] at hxs
      obtain ⟨i, hi, rfl⟩ := hxs
      exact (hf' i hi).1
theorem ownsRow_but {w w' : World} {base e n g : Nat} {v : Value} {xs : List Value} (h : w.ownsRow base e 1 v n xs) (hb : But g w w') (hg : g < base) : w'.ownsRow base e 1 v n xs := by
  refine ⟨h.1, ?_⟩
  rcases h.2 with ⟨rfl, rfl⟩ | ⟨q, cap, cur, rfl, h1, hq, hrest⟩
  · exact .inl ⟨rfl, rfl⟩
  · have hlt := h.lt q rfl
    exact .inr ⟨q, cap, cur, rfl, h1, (hb.block q (Array.getElem?_eq_some_iff.1 hq).1 (by omega)).trans hq, hrest⟩
theorem But.belowB {g B : Nat} {a b c : World} (h : But g a b) (k : Below B b c) (hB : a.heap.size ≤ B) : But g a c :=
  ⟨k.os.trans h.os, k.tape.trans h.tape, k.output.trans h.output, Nat.le_trans h.size k.size, fun q hq hne => (k.block q (by omega)).trans (h.block q hq hne)⟩
theorem flat_by {xss : List (List Int)} (h : ∀ xs ∈ xss, IsBy xs) (i : Nat) : IsBy (xss.take i).flatten := by
  intro x hx
  obtain ⟨l, hl, hxl⟩ := List.mem_flatten.1 hx
  exact h l (List.mem_of_mem_take hl) x hxl
def SMi (ks all : List Int) (A6 : Option Addr) (g2 gm n6 c6 : Nat) (opn : Nat) (v : Value) : Prop :=
  match opn with
  | 0 => v = .pointer (some ⟨gm, 0, none⟩)
  | 1 | 4 => v = .agg (bv (pS ks all)).toArray
  | 2 => v = .agg (bv ks).toArray
  | 3 => v = .slice A6 n6 c6
  | 5 => v = .bool false
  | _ => True

def SMe (ks all : List Int) (A6 : Option Addr) (g2 gm n6 c6 : Nat) (opn : Nat) (v : Value) : Prop :=
  match opn with
  | 0 => v = .pointer (some ⟨gm, 0, none⟩)
  | 1 | 4 => v = .agg (bv (pS ks all)).toArray
  | 2 => v = .agg (bv ks).toArray
  | 3 => v = .slice A6 n6 c6
  | 5 | 6 | 7 | 8 | 9 => v = .bool true
  | _ => True

set_option maxRecDepth 100000 in
set_option maxHeartbeats 4000000 in
theorem polyMacs_any (ks : List Int) (xss : List (List Int)) (A : Option Addr) (k c : Nat) (w : World) (hk : ks.length = 32) (hkb : IsBy ks) (hbs : BssC w w.heap.size A k xss) (hby : ∀ xs ∈ xss, IsBy xs) :
    Calls Try.prog 4 #[.agg (bv ks).toArray, .slice A k c] w fun e w' => e = .returned (.bool true) ∧ Below w.heap.size w w' := by
  have Hk := hide hk
  have h32 := hide (size32 hk)
  clear hk
  obtain ⟨j0, hj, hjz, hjsz, hjby⟩ := u8_info
  by_cases hlong : (12 : Int) < (k : Int)
  · have hd : decide ((12 : Int) < (k : Int)) = true := by simp; omega
    go_enter Try.func4, Try.ntmps4
    go_wp2_with (first
      | (with_reducible refine wl_box rfl 22 (.tmp 0) _ (bv ks) rfl rfl rfl ?_; intro g1 w1 r1 p1 l1 b1))
    refine (awake_any _).mono ?_
    rintro e w2 ⟨rfl, b2⟩
    go_wp2
    go_ret
    exact ⟨rfl, b1.trans (b2.mono b1.size)⟩
  · have hd : decide ((12 : Int) < (k : Int)) = false := by simp; omega
    have hk12 : k ≤ 12 := by omega
    have HR := clN_lt (leN (ks.take 16))
    have HN := fun w => new_any ks w Hk.out hkb
    have HS : ∀ g w all, IsBy all → MacAt w g (clN (leN (ks.take 16))) (leN (ks.drop 16)) all → Calls Try.prog 16 #[.pointer (some ⟨g, 0, none⟩)] w fun e w' => e = .returned (.agg (bv (pS ks all)).toArray) ∧ Below w.heap.size w w' := fun g w all ha h => sum_any g _ _ _ w h HR ha
    go_enter Try.func4, Try.ntmps4
    go_wp2_with (first
      | (with_reducible refine wl_box rfl 22 (.tmp 0) _ (bv ks) rfl rfl rfl ?_; intro g2 w1 r1 p1 l1 b1)
      | (with_reducible refine wl_load_row rfl 22 (.tmp 2) g2 22 _ _ rfl rfl r1 Try.underlying22 rfl h32.out ?_))
    refine (HN _).mono ?_
    rintro e w2 ⟨gm, rfl, pm, mm, b2⟩
    have s1 := b1.size; have s2 := b2.size
    have rk2 := r1.later b2
    have B2 := b1.trans (b2.mono s1)
    have gml := mm.lt
    have hg2 : g2 ≠ gm := by have := r1.lt; omega
    have hgw : w.heap.size ≤ gm := by omega
    clear r1 b1 b2 hd
    go_wp2_with fail
    go_loopw [6, 7] (fun av iv wr => ∃ i : Nat, i ≤ k ∧ iv = .int .i64 i ∧ wr.ownsRow w2.heap.size 5 1 av (sumLen xss i) (bv (xss.take i).flatten) ∧ sumLen xss i ≤ 100 * i ∧ MacAt wr gm (clN (leN (ks.take 16))) (leN (ks.drop 16)) (xss.take i).flatten ∧ But gm w2 wr) (fun _ iv _ => k - (intOf iv).toNat)
    case atStart => exact ⟨0, Nat.zero_le _, rfl, World.ownsRow_nil _ _ _ _, by simp [sumLen], mm, But.refl _ _⟩
    case round =>
      clear mm
      obtain ⟨i, hi, rfl, hown, hsl, mm, br⟩ := hrel
      have sbr := br.size
      have hBr : Below w.heap.size w wr := B2.trans (br.below hgw B2.size)
      have rk3 := rk2.but br hg2
      have hallb := flat_by hby i
      by_cases hlt : i < k
      · obtain ⟨b, o, rfl, hb, hcx⟩ := (hbs.keep fun p hp => hBr.cell hp).2 (by omega)
        obtain ⟨A', n', c', hcell, hbi, hnc⟩ := hcx i hlt
        have hxi : IsBy (xss.getD i []) := by
          rw [List.getD, List.getElem?_eq_getElem (show i < xss.length by rw [hbs.1]; exact hlt)]
          exact hby _ (by simp)
        have htf := take_flat xss i (by rw [hbs.1]; exact hlt)
        have hsu := sumLen_succ xss i (by rw [hbs.1]; exact hlt)
        rw [hbi.1] at hsu
        have HTF := hide htf
        have HSU := hide hsu
        clear htf hsu hcx
        by_cases h100 : (100 : Int) < (n' : Int)
        · have hd : decide ((100 : Int) < (n' : Int)) = true := by simp; omega
          go_wp2_with fail
          refine (awake_any _).mono ?_
          rintro e w5 ⟨rfl, b5⟩
          go_wp2
          go_ret
          exact ⟨rfl, hBr.trans (b5.mono hBr.size)⟩
        · have hd : decide ((100 : Int) < (n' : Int)) = false := by simp; omega
          have hn1 : n' ≤ 100 := by omega
          go_wp2_with fail
          refine (write_any gm _ _ n' c' w.heap.size _ (xss.getD i []) A' wr mm HR hallb hxi hbi hgw hnc).mono ?_
          rintro e w5 ⟨rfl, m5, b5⟩
          have own5 := ownsRow_but hown b5 gml
          have cell5 : w5.cell? ⟨b, o + i, none⟩ = some (.slice A' n' c') := (b5.cellB hgw hBr.size (show (⟨b, o + i, none⟩ : Addr).block < w.heap.size from hb)).trans hcell
          have hbi5 := hbi.keep fun p hp => b5.cellB hgw hBr.size hp
          have s5 := b5.size
          have hlen : sumLen xss i + n' ≤ 140737488355328 := by omega
          clear hown mm hcell hbi
          go_wp2_with (first
            | (at_builtin; refine wpList_append_bs rfl (.tmp 33) (.tmp 37) _ rfl w2.heap.size 5 j0 Try.underlying23 hj hjz hjsz hjby _ (sumLen xss i) _ rfl own5 w.heap.size _ n' _ (xss.getD i []) rfl hbi5 hlen (Nat.le_trans sbr s5) ?_; intro v6 w6 own6 gr6))
          have b6 : Below w2.heap.size w5 w6 := (Below.refl _ _).grown gr6 (Nat.le_trans sbr s5) (fun j hj => (own5.lt j hj).1)
          rw [← HTF.out] at m5 own6
          rw [show sumLen xss i + n' = sumLen xss (i + 1) from HSU.out.symm] at own6
          have m6 : MacAt w6 gm _ _ _ := Row.below m5 b6 gml
          have rk6 := (rk3.but b5 hg2).below b6 (by have := rk2.lt; omega)
          have hsl' : sumLen xss (i + 1) ≤ 100 * (i + 1) := by rw [HSU.out]; omega
          have br6 : But gm w2 w6 := (br.trans b5).belowB b6 (Nat.le_refl _)
          have hB6 : Below w.heap.size w w6 := B2.trans (br6.below hgw B2.size)
          have hall := flat_by hby (i + 1)
          clear hn1 hd own5 m5 b6 b5 gr6 br rk3 hallb HTF HSU hsl hlen cell5 hbi5 hBr
          obtain ⟨A6, c6, rfl, h6, hc6, hcm6⟩ := ownsRow_bs own6
          clear hcm6
          have hm6 : sumLen xss (i + 1) ≤ 1000000 := by omega
          have rM := m6
          have rk := rk6
          have hi1 : i + 1 ≤ k := hlt
          generalize hal : (xss.take (i + 1)).flatten = all at *
          generalize hn6 : sumLen xss (i + 1) = n6 at *
          have HAL := hide hal
          have HN6 := hide hn6
          clear hal hn6
          go_wp2_with fail
          rename_i Q1 K1 hK1
          refine wp_region_vals [1, 4] (SMi ks all A6 g2 gm n6 c6) (JR w6) (by kernel_rfl) (by kernel_rfl) (by kernel_rfl) (by kernel_rfl) (by kernel_rfl) (Below.refl _ _).drew ?obs ?he
          case obs =>
            refine ⟨?_, ?_, ?_, ?_, ?_, ?_, trivial⟩
            · exact .inl ⟨by kernel_rfl, fun L a1 w1 n' h => ⟨_, rfl, run_move (.tmp 5) rfl (h.var n' 5 (by kernel_rfl))⟩⟩
            · refine .inr fun L a1 w1 n' h K hK => ?_
              have e0 : a1.eval (.tmp 39) = .pointer (some ⟨gm, 0, none⟩) := h.dep n' 0 39 (by kernel_rfl) rfl
              refine st_call 16 _ _ #[.pointer (some ⟨gm, 0, none⟩)] rfl Try.call16 ?_ (HS gm w1 _ hall (Row.later rM h.inv)) ?_
              · simp only [List.map_toArray, List.map_cons, List.map_nil, e0]
              · rintro e w3 ⟨rfl, b9⟩
                exact ⟨_, rfl, hK _ w3 rfl (JR.call h.inv b9)⟩
            · exact .inl ⟨by kernel_rfl, fun L a1 w1 n' h => ⟨_, rfl, run_loadRow 22 (.tmp 2) g2 22 _ _ rfl (h.var n' 2 (by kernel_rfl)) (rk.later h.inv) Try.underlying22 rfl (h32.out)⟩⟩
            · exact .inl ⟨by kernel_rfl, fun L a1 w1 n' h => ⟨_, rfl, run_move (.tmp 6) rfl (h.var n' 6 (by kernel_rfl))⟩⟩
            · refine .inr fun L a1 w1 n' h K hK => ?_
              have e0 : a1.eval (.tmp 41) = .agg (bv ks).toArray := h.dep n' 2 41 (by kernel_rfl) rfl
              have e1 : a1.eval (.tmp 42) = .slice A6 n6 c6 := h.dep n' 3 42 (by kernel_rfl) rfl
              refine st_call 12 _ _ #[.agg (bv ks).toArray, .slice A6 n6 c6] rfl Try.call12 ?_ (refSum_any ks all A6 n6 c6 w1 Hk.out hkb hall (h6.later h.inv) hc6 hm6) ?_
              · simp only [List.map_toArray, List.map_cons, List.map_nil, e0, e1]
              · rintro e w3 ⟨rfl, b9⟩
                exact ⟨_, rfl, hK _ w3 rfl (JR.call h.inv b9)⟩
            · exact .inl ⟨by kernel_rfl, fun L a1 w1 n' h => ⟨_, rfl, run_neqF (.tmp 40) (.tmp 43) rfl Try.underlying26 (Classical.choose_spec u8_info).1 (by kernel_rfl) Try.underlying5 Try.isAgg5 (pS ks all) (h.dep n' 1 40 (by kernel_rfl) rfl) (h.dep n' 4 43 (by kernel_rfl) rfl) (pS_len _ _) (by kernel_rfl)⟩⟩
          case he =>
            intro V w7 hV hJ
            have h5 : V 5 = .bool false := hV 5 44 rfl
            have hB : Below w6.heap.size w6 w7 := hJ
            clear hV hJ
            simp only [putOps, List.setIfInBounds_toArray, List.set_cons_succ, List.set_cons_zero]
            rw [h5]
            refine hK1 _ _ ?_
            have own7 := ownsRow_later own6 hB
            have m7 : MacAt w7 gm _ _ _ := Row.later rM hB
            have br7 := br6.belowB hB br6.size
            go_wp2
            refine ⟨⟨i + 1, hi1, rfl, by rw [HN6.out, HAL.out]; exact own7, by rw [HN6.out]; exact hsl', by rw [HAL.out]; exact m7, br7⟩, by simp [intOf]; omega⟩
      · have hik : i = k := by omega
        have hfl : (xss.take i).flatten = (xss.take i).flatten := rfl
        have hnl : ¬ (i : Int) < (k : Int) := by omega
        obtain ⟨A6, c6, rfl, h6, hc6, hcm6⟩ := ownsRow_bs hown
        have hm6 : sumLen xss i ≤ 1000000 := by omega
        have rM := mm
        have rk := rk3
        have hall := hallb
        clear mm hown rk3 hallb hik hfl hcm6
        generalize (xss.take i).flatten = all at *
        generalize sumLen xss i = n6 at *
        go_wp2_with fail
        rename_i K1 hK1
        refine wp_region_valsG [1, 4, 7] (SMe ks all A6 g2 gm n6 c6) (JR wr) (by kernel_rfl) (by kernel_rfl) (by kernel_rfl) (by kernel_rfl) (Below.refl _ _).drew ?obs ?he
        case obs =>
          refine ⟨?_, ?_, ?_, ?_, ?_, ?_, ?_, ?_, ?_, ?_, trivial⟩
          · refine ⟨.inl rfl, ?_⟩
            exact .inl ⟨by kernel_rfl, fun L a1 w1 n' h => ⟨_, rfl, run_move (.tmp 5) rfl (h.var n' 5 (by kernel_rfl))⟩⟩
          · refine ⟨.inl rfl, ?_⟩
            refine .inr fun L a1 w1 n' h K hK => ?_
            have e0 : a1.eval (.tmp 45) = .pointer (some ⟨gm, 0, none⟩) := h.dep n' 0 45 (by kernel_rfl) rfl
            refine st_call 16 _ _ #[.pointer (some ⟨gm, 0, none⟩)] rfl Try.call16 ?_ (HS gm w1 _ hall (Row.later rM h.inv)) ?_
            · simp only [List.map_toArray, List.map_cons, List.map_nil, e0]
            · rintro e w3 ⟨rfl, b9⟩
              exact ⟨_, rfl, hK _ w3 rfl (JR.call h.inv b9)⟩
          · refine ⟨.inl rfl, ?_⟩
            exact .inl ⟨by kernel_rfl, fun L a1 w1 n' h => ⟨_, rfl, run_loadRow 22 (.tmp 2) g2 22 _ _ rfl (h.var n' 2 (by kernel_rfl)) (rk.later h.inv) Try.underlying22 rfl (h32.out)⟩⟩
          · refine ⟨.inl rfl, ?_⟩
            exact .inl ⟨by kernel_rfl, fun L a1 w1 n' h => ⟨_, rfl, run_move (.tmp 6) rfl (h.var n' 6 (by kernel_rfl))⟩⟩
          · refine ⟨.inl rfl, ?_⟩
            refine .inr fun L a1 w1 n' h K hK => ?_
            have e0 : a1.eval (.tmp 47) = .agg (bv ks).toArray := h.dep n' 2 47 (by kernel_rfl) rfl
            have e1 : a1.eval (.tmp 48) = .slice A6 n6 c6 := h.dep n' 3 48 (by kernel_rfl) rfl
            refine st_call 12 _ _ #[.agg (bv ks).toArray, .slice A6 n6 c6] rfl Try.call12 ?_ (refSum_any ks all A6 n6 c6 w1 Hk.out hkb hall (h6.later h.inv) hc6 hm6) ?_
            · simp only [List.map_toArray, List.map_cons, List.map_nil, e0, e1]
            · rintro e w3 ⟨rfl, b9⟩
              exact ⟨_, rfl, hK _ w3 rfl (JR.call h.inv b9)⟩
          · refine ⟨.inl rfl, ?_⟩
            exact .inl ⟨by kernel_rfl, fun L a1 w1 n' h => ⟨_, rfl, run_eqlT (.tmp 46) (.tmp 49) rfl Try.underlying26 (Classical.choose_spec u8_info).1 (by kernel_rfl) Try.underlying5 Try.isAgg5 (pS ks all) (h.dep n' 1 46 (by kernel_rfl) rfl) (h.dep n' 4 49 (by kernel_rfl) rfl) (pS_len _ _) (by kernel_rfl)⟩⟩
          · refine ⟨.inl rfl, ?_⟩
            exact .inl ⟨by kernel_rfl, fun L a1 w1 n' h => ⟨_, rfl, run_move (.tmp 50) rfl (h.dep n' 5 50 (by kernel_rfl) rfl)⟩⟩
          · refine ⟨.inr ⟨6, true, 51, rfl, by kernel_rfl, rfl, by simp, fun v h => h⟩, ?_⟩
            refine .inr fun L a1 w1 n' h K hK => ?_
            refine st_call 9 _ _ #[] rfl Try.call9 ?_ (awake_any w1) ?_
            · simp
            · rintro e w3 ⟨rfl, b9⟩
              exact ⟨_, rfl, hK _ w3 rfl (JR.call h.inv b9)⟩
          · refine ⟨.inl rfl, ?_⟩
            exact .inl ⟨by kernel_rfl, fun L a1 w1 n' h => ⟨_, rfl, run_pickT (.tmp 51) _ _ rfl (h.dep n' 6 51 (by kernel_rfl) rfl) (h.dep n' 7 52 (by kernel_rfl) rfl)⟩⟩
          · refine ⟨.inl rfl, ?_⟩
            exact .inl ⟨by kernel_rfl, fun L a1 w1 n' h => ⟨_, rfl, run_assign (.tmp 53) rfl (h.dep n' 8 53 (by kernel_rfl) rfl)⟩⟩
        case he =>
          intro V w7 hV hJ
          have h9 : V 9 = .bool true := hV 9 4 rfl
          have hB : Below wr.heap.size wr w7 := hJ
          clear hV hJ
          simp only [putOps, List.setIfInBounds_toArray, List.set_cons_succ, List.set_cons_zero]
          refine hK1 _ _ ?_
          go_wp2
          go_ret
          exact ⟨congrArg Ending.returned h9, hBr.trans (hB.mono hBr.size)⟩
end Go.Proofs.Ytcinhofapkddpaa
