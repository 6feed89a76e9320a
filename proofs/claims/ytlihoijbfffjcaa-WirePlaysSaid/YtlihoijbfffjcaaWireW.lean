/-
  The law WirePlays: contract. Own work.
-/
import Derived.Test.YtlihoijbfffjcaaWireZa
import Derived.Test.YtlihoijbfffjcaaSkip
import Derived.Test.YtlihoijbfffjcaaCmp
import Derived.Test.YtlihoijbfffjcaaEqArr
namespace Go.Proofs.Ytlihoijbfffjcaa
open Go.RowKit Go.Conc
set_option linter.unusedVariables false
set_option linter.unusedSimpArgs false
theorem zeroAct : (Try.prog.info? 110).map (fun i => i.zero) = some (some (.agg #[.int .u8 0, .int .i64 0, .slice none 0 0, .int .i64 0])) := by kernel_rfl
theorem szAct (a b : Int) (A : Option Addr) (n c : Nat) (d : Int) : (Try.prog.info? 110).map (·.size) = some [Value.int .u8 a, .int .i64 b, .slice A n c, .int .i64 d].length := by kernel_rfl
theorem one_act (a b : Int) (A : Option Addr) (n c : Nat) (d : Int) : ∀ u ∈ [Value.int .u8 a, .int .i64 b, .slice A n c, .int .i64 d], u.oneCell' = true := by intro u hu; simp at hu; rcases hu with rfl | rfl | rfl | rfl <;> rfl
theorem four_at {w : World} {g o : Nat} {x y z u : Value} (h0 : w.cell? ⟨g, o, none⟩ = some x) (h1 : w.cell? ⟨g, o + 1, none⟩ = some y) (h2 : w.cell? ⟨g, o + 2, none⟩ = some z) (h3 : w.cell? ⟨g, o + 3, none⟩ = some u) : ∀ j v, [x, y, z, u][j]? = some v → w.cell? ⟨g, o + j, none⟩ = some v := by
  intro j v hj
  match j, hj with
  | 0, hj => simp at hj; subst hj; exact h0
  | 1, hj => simp at hj; subst hj; exact h1
  | 2, hj => simp at hj; subst hj; exact h2
  | 3, hj => simp at hj; subst hj; exact h3
theorem int_info : ∃ i, Try.prog.info? 3 = some i := info_of_underlying Try.underlying3
theorem built2 (n1 n2 : Int) : Try.prog.built 119 [(0, .int .i64 n1), (1, .int .i64 n2)] = some [Value.int .i64 n1, Value.int .i64 n2].toArray := by kernel_rfl
theorem szBy : (Try.prog.info? 5).map (·.size) = some 1 := by kernel_rfl
theorem equal_both (A B : Option Addr) (n m c d : Nat) (xs : List Int) (w : World) (h1 : Bs w w.heap.size A n xs) (h2 : Bs w w.heap.size B m xs) : Calls Try.prog 40 #[.slice A n c, .slice B m d] w fun e w' => e = .returned (.bool true) ∧ w = w' :=
  (equal_any A B n m c d xs xs w h1 h2).mono fun e w' h => ⟨by rw [h.1, equal_self], h.2⟩
def SPs (gw gr g9 : Nat) (qA : Option Addr) (qn qc : Nat) (qk qy qq er : Int) (opn : Nat) (v : Value) : Prop :=
  match opn with
  | 0 => v = ptr gw
  | 1 | 7 => v = .pointer (some ⟨g9, 1, none⟩)
  | 2 | 8 => v = .int .i64 qy
  | 3 | 9 => v = .pointer (some ⟨g9, 2, none⟩)
  | 4 | 10 => v = .slice qA qn qc
  | 5 | 11 | 12 | 13 => v = .int .i64 er
  | 6 => v = ptr gr
  | _ => True

def SPq (gw gr g9 : Nat) (qA : Option Addr) (qn qc : Nat) (qk qy qq : Int) (A7 : Option Addr) (n7 c7 : Nat) (A8 : Option Addr) (n8 c8 : Nat) (er n1 n2 : Int) (opn : Nat) (v : Value) : Prop :=
  match opn with
  | 0 => v = .slice A7 n7 c7
  | 1 => v = .slice A8 n8 c8
  | 2 => v = .bool true
  | 3 | 4 | 7 | 8 | 9 | 23 | 24 => v = .bool false
  | 5 | 6 => v = .int .i64 er
  | 10 | 14 => v = ptr gw
  | 11 | 15 | 20 => v = .pointer (some ⟨g9, 1, none⟩)
  | 12 | 16 | 21 => v = .int .i64 qy
  | 13 => v = .int .i64 n1
  | 17 => v = .int .i64 n2
  | 18 | 22 => v = .agg #[.int .i64 n1, .int .i64 n2]
  | 19 => v = ptr gr
  | _ => True

def FNoW  (opn : Nat) (v : Value) (w : World) : Prop :=
  match opn with
  | _ => True
theorem FNoW_mono  : ∀ j v w w', FNoW  j v w → Below w.heap.size w w' → FNoW  j v w' := by
  intro j v w w' h hb
  unfold FNoW at h ⊢
  split at h
  · trivial

set_option maxRecDepth 100000 in
set_option maxHeartbeats 8000000 in
theorem wirePlays_any (ways : Int) (A : Option Addr) (m c : Nat) (f : Nat → WAct) (w : World) (h : WActs w w.heap.size A m f) (hk : ∀ j, j < m → 0 ≤ (f j).k ∧ (f j).k < 256) :
    Calls Try.prog 13 #[.int .i64 ways, .slice A m c] w fun e w' => e = .returned (.bool true) ∧ Below w.heap.size w w' := by
  have H := hide h
  have HK := hide hk
  clear h hk
  by_cases hbad : ways < 1 ∨ 64 < ways
  · have hN := fun w => new_none w ways hbad
    have hR := fun w => rnew_none w ways hbad
    clear hbad
    go_enter Try.func13, Try.ntmps13
    go_wp2_with fail
    refine (hN w).mono ?_
    rintro en w1 ⟨rfl, rfl⟩
    go_wp2_with fail
    refine (hR w).mono ?_
    rintro en w1 ⟨rfl, rfl⟩
    go_wp2_with fail
    refine (awake_any w).mono ?_
    rintro en w1 ⟨rfl, b1⟩
    go_wp2_with fail
    go_ret
    exact ⟨rfl, b1⟩
  · obtain ⟨mw, rfl, hm1, hm64⟩ : ∃ mw : Nat, ways = (mw : Int) ∧ 1 ≤ mw ∧ mw ≤ 64 := ⟨ways.toNat, by omega, by omega, by omega⟩
    clear hbad
    obtain ⟨B, hBe⟩ : ∃ B, B = w.heap.size := ⟨_, rfl⟩
    have hBw : B ≤ w.heap.size := Nat.le_of_eq hBe
    go_enter Try.func13, Try.ntmps13
    go_wp2_with fail
    refine (new_some w mw hm1 hm64).mono ?_
    rintro en w1 ⟨gw, nv, ls, rfl, hN, hlen, hbare, b1⟩
    go_wp2_with fail
    refine (rnew_some w1 mw hm1 hm64).mono ?_
    rintro en w2 ⟨gr, gb, rfl, hR, b2⟩
    rw [← hBe] at hN
    obtain ⟨hD, hS⟩ := duo_start (w := w) (Nat.le_trans hBw b1.size) hN hlen hbare hR b2
    have B2 : Below w.heap.size w w2 := b1.trans (b2.mono b1.size)
    clear hN hlen hbare hR b1 b2
    go_wp2_with fail
    refine (few_any w2 A m c f (H.out.later B2)).mono ?_
    rintro en w3 ⟨⟨b, rfl, hfew⟩, rfl⟩
    cases b with
    | false =>
      clear hfew hD hS
      go_wp2_with fail
      refine (awake_any w2).mono ?_
      rintro en w3 ⟨rfl, b3⟩
      go_wp2_with fail
      go_ret
      exact ⟨rfl, B2.trans (b3.mono B2.size)⟩
    | true =>
      obtain ⟨hm60, hshort⟩ := hfew rfl
      have HSh := hide hshort
      have HD0 := hide (And.intro hD hS)
      generalize List.replicate mw RWay.d = rs0 at *
      clear hfew hD hS hshort
      rw [← hBe] at B2
      go_wp2_with fail
      go_loopw [7] (fun iv wr => ∃ (i : Nat) (ls : List Way) (rs : List RWay), i ≤ m ∧ iv = .int .i64 i ∧ Duo wr B gw nv ls gr gb rs ∧ Sm ls rs ∧ Below B w wr) (fun iv _ => m - (intOf iv).toNat)
      case atStart => exact ⟨0, ls, rs0, by omega, rfl, HD0.out.1, HD0.out.2, B2⟩
      case round =>
        clear HD0 B2
        obtain ⟨i, ls, rs, him, rfl, hD, hS, hBr⟩ := hrel
        have hBs : B ≤ wr.heap.size := Nat.le_trans hBw hBr.size
        by_cases hi : i < m
        · obtain ⟨bb, oo, rfl, hbb, ⟨c0, c1, c2, c3⟩, hx⟩ := H.out.at_ (hBe ▸ hBr) (hBe ▸ hBs) hi
          have hk := HK.out i hi
          have hsh := HSh.out i hi
          generalize f i = q at *
          obtain ⟨qk, qy, qA, qn, qc, qx, qq⟩ := q
          simp only at c0 c1 c2 c3 hx hk hsh
          have t4 := four_at c0 c1 c2 c3
          have HD := hide (And.intro hD hS)
          clear hD hS c0 c1 c2 c3
          have hcase : qk % 6 = 2 ∨ qk % 6 = 3 ∨ (qk % 6 = 4 ∨ qk % 6 = 5) ∨ (qk % 6 ≠ 2 ∧ qk % 6 ≠ 3 ∧ qk % 6 ≠ 4 ∧ qk % 6 ≠ 5) := by omega
          rcases hcase with hk6 | hk6 | hk6 | hk6
          · have x2 : decide (qk % 6 = 2) = true := by simp; omega
            go_wp2_with (first
              | (with_reducible refine wl_load_cells rfl 110 (.tmp 39) bb (oo + i * 4) [.int .u8 qk, .int .i64 qy, .slice qA qn qc, .int .i64 qq] _ rfl rfl t4 Try.underlying110 rfl (szAct _ _ _ _ _ _) ?_)
              | ((with_reducible refine wl_alloc rfl 110 _ [.int .u8 0, .int .i64 0, .slice none 0 0, .int .i64 0] rfl zeroAct rfl ?_); intro g9 w4 r9 p9 l9 b9)
              | ((with_reducible refine wl_store_row rfl 110 (.tmp 8) (.tmp 40) g9 110 _ [.int .u8 qk, .int .i64 qy, .slice qA qn qc, .int .i64 qq] rfl rfl rfl r9 (szAct _ _ _ _ _ _) rfl (one_act _ _ _ _ _ _) ?_); intro w5 r10 o10; have k0 := r10.cell (j := 0) rfl; have k1 := r10.cell (j := 1) rfl; have k2 := r10.cell (j := 2) rfl; have k3 := r10.cell (j := 3) rfl))
            have bA : Below wr.heap.size wr w5 := b9.trans (o10.below p9)
            have hn9 : g9 ∉ nblocks gw nv ls := fun hk2 => by have := (HD.out.1.net.nlt g9 hk2).2; omega
            have hq9 : g9 ∉ rblocks gr gb rs := fun hk2 => by have := (HD.out.1.ref.lt g9 hk2).2; omega
            have hD5 := HD.out.1.later bA
            have hS5 := HD.out.2
            have B5 : Below B w w5 := hBr.trans (bA.mono hBs)
            have hB5 : B ≤ w5.heap.size := Nat.le_trans hBs bA.size
            have hx5 : Bs w5 B qA qn qx := (hBe.symm ▸ hx : Bs wr B qA qn qx).below (bA.mono hBs)
            have HN := hide (next2_any hB5 hD5 hS5 r10 hn9 hq9 qy)
            clear HD r9 p9 l9 b9 o10 bA t4 hBr hBs hx
            clear hn9 hq9 hD5 hS5 hx5 r10
            refine HN.out.mono ?_
            rintro en w6 ⟨A7, n7, c7, er, rfl, b6, hr9, HR⟩
            have k1 := hr9.cell (j := 1) rfl
            have HR := hide HR
            clear HN
            go_wp2_with fail
            refine HR.out.mono ?_
            rintro en w7 ⟨A8, n8, c8, rfl, b7, hr9, hF⟩
            have Bf : Below B w w7 := B5.trans (b6.trans b7)
            clear HR k1 b6 b7 B5
            obtain ⟨ls2, rs2, T, xs, hS2, hBT, hTw, hDuo, hrow9, hb1, hb2, hn300⟩ := hF
            obtain ⟨n1, n2, hC⟩ := counts_any (hDuo w7 (Below.refl _ _)) hS2 qy
            have HC := hide hC
            have HDuo := hide (And.intro hDuo hS2)
            clear hC hDuo hS2
            go_wp2_with fail
            rename_i K6 hK6
            refine wp_region_valsS [2, 13, 17, 22] (SPq gw gr g9 qA qn qc qk qy qq A7 n7 c7 A8 n8 c8 er n1 n2) (JF w7 [2, 13, 17, 22] FNoW) (by kernel_rfl) (by kernel_rfl) (by kernel_rfl) (by kernel_rfl) (JF.start _) ?obsE ?heE
            case obsE =>
              refine ⟨?_, ?_, ?_, ?_, ?_, ?_, ?_, ?_, ?_, ?_, ?_, ?_, ?_, ?_, ?_, ?_, ?_, ?_, ?_, ?_, ?_, ?_, ?_, ?_, ?_, trivial⟩
              · refine .inl ⟨.inl rfl, ?_⟩
                exact .inl ⟨by kernel_rfl, fun L a1 w1 n h => ⟨_, rfl, run_move (.tmp 9) rfl (h.var n 9 (by kernel_rfl))⟩⟩
              · refine .inl ⟨.inl rfl, ?_⟩
                exact .inl ⟨by kernel_rfl, fun L a1 w1 n h => ⟨_, rfl, run_move (.tmp 10) rfl (h.var n 10 (by kernel_rfl))⟩⟩
              · refine .inl ⟨.inl rfl, ?_⟩
                refine .inr fun L a1 w1 n h K hK => ?_
                have e0 : a1.eval (.tmp 106) = .slice A7 n7 c7 := h.dep n 0 106 (by kernel_rfl) rfl
                have e1 : a1.eval (.tmp 107) = .slice A8 n8 c8 := h.dep n 1 107 (by kernel_rfl) rfl
                refine JF.call (FNoW_mono ) h hK 108 rfl 40 _ _ #[.slice A7 n7 c7, .slice A8 n8 c8] rfl Try.call40 ?_ (equal_both A7 A8 n7 n8 c7 c8 xs w1 (hb1.later h.inv.1) (hb2.later h.inv.1)) ?_
                · simp only [List.map_toArray, List.map_cons, List.map_nil, e0, e1]
                · rintro e w3 ⟨rfl, rfl⟩
                  exact ⟨_, rfl, rfl, trivial, (Below.refl _ _)⟩
              · refine .inl ⟨.inl rfl, ?_⟩
                exact .inl ⟨by kernel_rfl, fun L a1 w1 n h => ⟨_, rfl, run_notB (.tmp 108) true rfl (h.dep n 2 108 (by kernel_rfl) rfl) rfl⟩⟩
              · refine .inl ⟨.inl rfl, ?_⟩
                exact .inl ⟨by kernel_rfl, fun L a1 w1 n h => ⟨_, rfl, run_move (.tmp 109) rfl (h.dep n 3 109 (by kernel_rfl) rfl)⟩⟩
              · refine .inl ⟨.inr ⟨4, false, 110, rfl, by kernel_rfl, rfl, by simp, fun v h => h⟩, ?_⟩
                exact .inl ⟨by kernel_rfl, fun L a1 w1 n h => ⟨_, rfl, run_move (.tmp 11) rfl (h.var n 11 (by kernel_rfl))⟩⟩
              · refine .inl ⟨.inr ⟨4, false, 110, rfl, by kernel_rfl, rfl, by simp, fun v h => h⟩, ?_⟩
                exact .inl ⟨by kernel_rfl, fun L a1 w1 n h => ⟨_, rfl, run_move (.tmp 12) rfl (h.var n 12 (by kernel_rfl))⟩⟩
              · refine .inl ⟨.inr ⟨4, false, 110, rfl, by kernel_rfl, rfl, by simp, fun v h => h⟩, ?_⟩
                exact .inl ⟨by kernel_rfl, fun L a1 w1 n h => ⟨_, rfl, run_neqI (.tmp 111) (.tmp 112) rfl (h.dep n 5 111 (by kernel_rfl) rfl) (h.dep n 6 112 (by kernel_rfl) rfl) (by simp)⟩⟩
              · refine .inl ⟨.inl rfl, ?_⟩
                exact .inl ⟨by kernel_rfl, fun L a1 w1 n h => ⟨_, rfl, run_pickF (.tmp 110) _ _ rfl (h.dep n 4 110 (by kernel_rfl) rfl) (h.dep n 7 113 (by kernel_rfl) rfl)⟩⟩
              · refine .inl ⟨.inl rfl, ?_⟩
                exact .inl ⟨by kernel_rfl, fun L a1 w1 n h => ⟨_, rfl, run_move (.tmp 114) rfl (h.dep n 8 114 (by kernel_rfl) rfl)⟩⟩
              · refine .inl ⟨.inr ⟨9, false, 115, rfl, by kernel_rfl, rfl, by simp, fun v h => h⟩, ?_⟩
                exact .inl ⟨by kernel_rfl, fun L a1 w1 n h => ⟨_, rfl, run_move (.tmp 5) rfl (h.var n 5 (by kernel_rfl))⟩⟩
              · refine .inl ⟨.inr ⟨9, false, 115, rfl, by kernel_rfl, rfl, by simp, fun v h => h⟩, ?_⟩
                refine .inl ⟨by kernel_rfl, fun L a1 w1 n h => ⟨.pointer (some ⟨g9, 1, none⟩), rfl, ?_⟩⟩
                have e0 : a1.eval (.tmp 8) = _ := h.var n 8 (by kernel_rfl)
                unfold execOp
                simp only [e0]
                go_simp
              · refine .inl ⟨.inr ⟨9, false, 115, rfl, by kernel_rfl, rfl, by simp, fun v h => h⟩, ?_⟩
                exact .inl ⟨by kernel_rfl, fun L a1 w1 n h => ⟨_, rfl, run_loadA 3 (.tmp 117) ⟨g9, 1, none⟩ rfl Try.isAgg3 (h.dep n 11 117 (by kernel_rfl) rfl) ((Row.later hr9 h.inv.1).cell (j := 1) (v := .int .i64 qy) rfl)⟩⟩
              · refine .inl ⟨.inr ⟨9, false, 115, rfl, by kernel_rfl, rfl, by simp, fun v h => h⟩, ?_⟩
                refine .inr fun L a1 w1 n h K hK => ?_
                have e0 : a1.eval (.tmp 116) = ptr gw := h.dep n 10 116 (by kernel_rfl) rfl
                have e1 : a1.eval (.tmp 118) = .int .i64 qy := h.dep n 12 118 (by kernel_rfl) rfl
                refine JF.call (FNoW_mono ) h hK 119 rfl 66 _ _ #[ptr gw, .int .i64 qy] rfl Try.call66 ?_ ((HC.out w1 h.inv.1).1) ?_
                · simp only [List.map_toArray, List.map_cons, List.map_nil, e0, e1]
                · rintro e w3 ⟨rfl, rfl⟩
                  exact ⟨_, rfl, rfl, trivial, (Below.refl _ _)⟩
              · refine .inl ⟨.inr ⟨9, false, 115, rfl, by kernel_rfl, rfl, by simp, fun v h => h⟩, ?_⟩
                exact .inl ⟨by kernel_rfl, fun L a1 w1 n h => ⟨_, rfl, run_move (.tmp 5) rfl (h.var n 5 (by kernel_rfl))⟩⟩
              · refine .inl ⟨.inr ⟨9, false, 115, rfl, by kernel_rfl, rfl, by simp, fun v h => h⟩, ?_⟩
                refine .inl ⟨by kernel_rfl, fun L a1 w1 n h => ⟨.pointer (some ⟨g9, 1, none⟩), rfl, ?_⟩⟩
                have e0 : a1.eval (.tmp 8) = _ := h.var n 8 (by kernel_rfl)
                unfold execOp
                simp only [e0]
                go_simp
              · refine .inl ⟨.inr ⟨9, false, 115, rfl, by kernel_rfl, rfl, by simp, fun v h => h⟩, ?_⟩
                exact .inl ⟨by kernel_rfl, fun L a1 w1 n h => ⟨_, rfl, run_loadA 3 (.tmp 121) ⟨g9, 1, none⟩ rfl Try.isAgg3 (h.dep n 15 121 (by kernel_rfl) rfl) ((Row.later hr9 h.inv.1).cell (j := 1) (v := .int .i64 qy) rfl)⟩⟩
              · refine .inl ⟨.inr ⟨9, false, 115, rfl, by kernel_rfl, rfl, by simp, fun v h => h⟩, ?_⟩
                refine .inr fun L a1 w1 n h K hK => ?_
                have e0 : a1.eval (.tmp 120) = ptr gw := h.dep n 14 120 (by kernel_rfl) rfl
                have e1 : a1.eval (.tmp 122) = .int .i64 qy := h.dep n 16 122 (by kernel_rfl) rfl
                refine JF.call (FNoW_mono ) h hK 123 rfl 67 _ _ #[ptr gw, .int .i64 qy] rfl Try.call67 ?_ ((HC.out w1 h.inv.1).2.1) ?_
                · simp only [List.map_toArray, List.map_cons, List.map_nil, e0, e1]
                · rintro e w3 ⟨rfl, rfl⟩
                  exact ⟨_, rfl, rfl, trivial, (Below.refl _ _)⟩
              · refine .inl ⟨.inr ⟨9, false, 115, rfl, by kernel_rfl, rfl, by simp, fun v h => h⟩, ?_⟩
                exact .inl ⟨by kernel_rfl, fun L a1 w1 n h => ⟨_, rfl, run_buildX 119 [(0, .tmp 119), (1, .tmp 123)] rfl _ (by simp only [List.map_cons, List.map_nil]; rw [show a1.eval (.tmp 119) = .int .i64 n1 from (h.dep n 13 119 (by kernel_rfl) rfl), show a1.eval (.tmp 123) = .int .i64 n2 from (h.dep n 17 123 (by kernel_rfl) rfl)]) _ (built2 n1 n2)⟩⟩
              · refine .inl ⟨.inr ⟨9, false, 115, rfl, by kernel_rfl, rfl, by simp, fun v h => h⟩, ?_⟩
                exact .inl ⟨by kernel_rfl, fun L a1 w1 n h => ⟨_, rfl, run_move (.tmp 6) rfl (h.var n 6 (by kernel_rfl))⟩⟩
              · refine .inl ⟨.inr ⟨9, false, 115, rfl, by kernel_rfl, rfl, by simp, fun v h => h⟩, ?_⟩
                refine .inl ⟨by kernel_rfl, fun L a1 w1 n h => ⟨.pointer (some ⟨g9, 1, none⟩), rfl, ?_⟩⟩
                have e0 : a1.eval (.tmp 8) = _ := h.var n 8 (by kernel_rfl)
                unfold execOp
                simp only [e0]
                go_simp
              · refine .inl ⟨.inr ⟨9, false, 115, rfl, by kernel_rfl, rfl, by simp, fun v h => h⟩, ?_⟩
                exact .inl ⟨by kernel_rfl, fun L a1 w1 n h => ⟨_, rfl, run_loadA 3 (.tmp 126) ⟨g9, 1, none⟩ rfl Try.isAgg3 (h.dep n 20 126 (by kernel_rfl) rfl) ((Row.later hr9 h.inv.1).cell (j := 1) (v := .int .i64 qy) rfl)⟩⟩
              · refine .inl ⟨.inr ⟨9, false, 115, rfl, by kernel_rfl, rfl, by simp, fun v h => h⟩, ?_⟩
                refine .inr fun L a1 w1 n h K hK => ?_
                have e0 : a1.eval (.tmp 125) = ptr gr := h.dep n 19 125 (by kernel_rfl) rfl
                have e1 : a1.eval (.tmp 127) = .int .i64 qy := h.dep n 21 127 (by kernel_rfl) rfl
                refine JF.call (FNoW_mono ) h hK 128 rfl 68 _ _ #[ptr gr, .int .i64 qy] rfl Try.call68 ?_ ((HC.out w1 h.inv.1).2.2) ?_
                · simp only [List.map_toArray, List.map_cons, List.map_nil, e0, e1]
                · rintro e w3 ⟨rfl, b9⟩
                  exact ⟨_, rfl, rfl, trivial, b9⟩
              · refine .inl ⟨.inr ⟨9, false, 115, rfl, by kernel_rfl, rfl, by simp, fun v h => h⟩, ?_⟩
                exact .inl ⟨by kernel_rfl, fun L a1 w1 n h => ⟨_, rfl, run_neqF (.tmp 124) (.tmp 128) rfl Try.underlying119 (Classical.choose_spec int_info) (by kernel_rfl) Try.underlying3 Try.isAgg3 [n1, n2] (h.dep n 18 124 (by kernel_rfl) rfl) (h.dep n 22 128 (by kernel_rfl) rfl) rfl (by kernel_rfl)⟩⟩
              · refine .inl ⟨.inl rfl, ?_⟩
                exact .inl ⟨by kernel_rfl, fun L a1 w1 n h => ⟨_, rfl, run_pickF (.tmp 115) _ _ rfl (h.dep n 9 115 (by kernel_rfl) rfl) (h.dep n 23 129 (by kernel_rfl) rfl)⟩⟩
            case heE =>
              intro V w9 hV2 hJ
              have hz : V 24 = .bool false := hV2 24 130 rfl
              have b9 : Below w7.heap.size w7 w9 := hJ.1
              clear hV2 hJ hr9 HC hb1 hb2
              simp only [putOps, List.setIfInBounds_toArray, List.set_cons_succ, List.set_cons_zero, Nat.reduceAdd]
              rw [hz]
              refine hK6 _ _ ?_
              clear hz
              have hg9 : n7 = 0 ∨ ∃ g cur, A7 = some ⟨g, 0, none⟩ ∧ T ≤ g ∧ Row w9 5 g cur ∧ n7 ≤ cur.length := hrow9.imp id fun ⟨g, cur, q1, q2, q3, q4⟩ => ⟨g, cur, q1, q2, q3.later b9, q4⟩
              have bT9 : Below T w7 w9 := b9.mono hTw
              have bB9 : Below B w w9 := Bf.trans (bT9.mono hBT)
              clear hrow9 b9 Bf hTw
              go_wp2_with fail
              go_loopw [13] (fun kv wq => ∃ k : Nat, kv = .int .i64 k ∧ k ≤ n7 ∧ Below T w9 wq ∧ (n7 = 0 ∨ ∃ g cur, A7 = some ⟨g, 0, none⟩ ∧ T ≤ g ∧ Row wq 5 g cur ∧ n7 ≤ cur.length)) (fun kv _ => n7 - (intOf kv).toNat)
              case atStart => exact ⟨0, rfl, by omega, Below.refl _ _, hg9⟩
              case round =>
                clear hg9
                rename_i wr0 _ _
                obtain ⟨k, rfl, hk7, hbq, hgq⟩ := hrel
                by_cases hkn : k < n7
                · obtain ⟨g, cur, hA9, hTg, hrow, hlen⟩ := hgq.resolve_left (by omega)
                  subst hA9
                  have hkl : k < cur.length := by omega
                  go_wp2_with (first
                    | (with_reducible refine wl_store rfl 5 (.tmp 139) (.const (.int .u8 63)) g k 5 cur (.int .u8 63) rfl szBy rfl rfl hrow hkl rfl ?_; intro wz rz oz))
                  go_roundw
                  case rel => exact ⟨k + 1, by go_num, hkn, hbq.trans (oz.below hTg), .inr ⟨g, _, rfl, hTg, rz, by simp; omega⟩⟩
                  case measure => simp [intOf]; omega
                · obtain rfl : k = n7 := by omega
                  clear hgq
                  go_wp2_with fail
                  go_roundw
                  case rel => exact ⟨i + 1, ls2, rs2, by omega, by go_num, HDuo.out.1 _ (bT9.trans hbq), HDuo.out.2, bB9.trans (hbq.mono hBT)⟩
                  case measure => simp [intOf]; omega
          · have x2 : decide (qk % 6 = 2) = false := by simp; omega
            have x3 : decide (qk % 6 = 3) = true := by simp; omega
            go_wp2_with (first
              | (with_reducible refine wl_load_cells rfl 110 (.tmp 39) bb (oo + i * 4) [.int .u8 qk, .int .i64 qy, .slice qA qn qc, .int .i64 qq] _ rfl rfl t4 Try.underlying110 rfl (szAct _ _ _ _ _ _) ?_)
              | ((with_reducible refine wl_alloc rfl 110 _ [.int .u8 0, .int .i64 0, .slice none 0 0, .int .i64 0] rfl zeroAct rfl ?_); intro g9 w4 r9 p9 l9 b9)
              | ((with_reducible refine wl_store_row rfl 110 (.tmp 8) (.tmp 40) g9 110 _ [.int .u8 qk, .int .i64 qy, .slice qA qn qc, .int .i64 qq] rfl rfl rfl r9 (szAct _ _ _ _ _ _) rfl (one_act _ _ _ _ _ _) ?_); intro w5 r10 o10; have k0 := r10.cell (j := 0) rfl; have k1 := r10.cell (j := 1) rfl; have k2 := r10.cell (j := 2) rfl; have k3 := r10.cell (j := 3) rfl))
            have bA : Below wr.heap.size wr w5 := b9.trans (o10.below p9)
            have hn9 : g9 ∉ nblocks gw nv ls := fun hk2 => by have := (HD.out.1.net.nlt g9 hk2).2; omega
            have hq9 : g9 ∉ rblocks gr gb rs := fun hk2 => by have := (HD.out.1.ref.lt g9 hk2).2; omega
            have hD5 := HD.out.1.later bA
            have hS5 := HD.out.2
            have B5 : Below B w w5 := hBr.trans (bA.mono hBs)
            have hB5 : B ≤ w5.heap.size := Nat.le_trans hBs bA.size
            have hx5 : Bs w5 B qA qn qx := (hBe.symm ▸ hx : Bs wr B qA qn qx).below (bA.mono hBs)
            have HN := hide (lose2_any hB5 hD5 hS5 r10 hn9 hq9 qy)
            clear HD r9 p9 l9 b9 o10 bA t4 hBr hBs hx
            clear hn9 hq9 hD5 hS5 hx5 r10
            refine HN.out.mono ?_
            rintro en w6 ⟨er, rfl, b6, hr9, HR⟩
            have k1 := hr9.cell (j := 1) rfl
            have HR := hide HR
            clear HN
            go_wp2_with fail
            refine HR.out.mono ?_
            rintro en w7 ⟨A8, n8, c8, rfl, b7, hr9, hF⟩
            have Bf : Below B w w7 := B5.trans (b6.trans b7)
            clear HR k1 b6 b7 B5
            obtain ⟨ls2, rs2, T, xs, hS2, hBT, hTw, hDuo, hrow9, hb1, hb2, hn300⟩ := hF
            obtain ⟨n1, n2, hC⟩ := counts_any (hDuo w7 (Below.refl _ _)) hS2 qy
            have HC := hide hC
            have HDuo := hide (And.intro hDuo hS2)
            clear hC hDuo hS2
            go_wp2_with fail
            rename_i K6 hK6
            refine wp_region_valsS [2, 13, 17, 22] (SPq gw gr g9 qA qn qc qk qy qq (none : Option Addr) 0 0 (none : Option Addr) 0 0 er n1 n2) (JF w7 [2, 13, 17, 22] FNoW) (by kernel_rfl) (by kernel_rfl) (by kernel_rfl) (by kernel_rfl) (JF.start _) ?obsE ?heE
            case obsE =>
              refine ⟨?_, ?_, ?_, ?_, ?_, ?_, ?_, ?_, ?_, ?_, ?_, ?_, ?_, ?_, ?_, ?_, ?_, ?_, ?_, ?_, ?_, ?_, ?_, ?_, ?_, trivial⟩
              · refine .inl ⟨.inl rfl, ?_⟩
                exact .inl ⟨by kernel_rfl, fun L a1 w1 n h => ⟨_, rfl, run_move (.tmp 9) rfl (h.var n 9 (by kernel_rfl))⟩⟩
              · refine .inl ⟨.inl rfl, ?_⟩
                exact .inl ⟨by kernel_rfl, fun L a1 w1 n h => ⟨_, rfl, run_move (.tmp 10) rfl (h.var n 10 (by kernel_rfl))⟩⟩
              · refine .inl ⟨.inl rfl, ?_⟩
                refine .inr fun L a1 w1 n h K hK => ?_
                have e0 : a1.eval (.tmp 106) = .slice (none : Option Addr) 0 0 := h.dep n 0 106 (by kernel_rfl) rfl
                have e1 : a1.eval (.tmp 107) = .slice (none : Option Addr) 0 0 := h.dep n 1 107 (by kernel_rfl) rfl
                refine JF.call (FNoW_mono ) h hK 108 rfl 40 _ _ #[.slice (none : Option Addr) 0 0, .slice (none : Option Addr) 0 0] rfl Try.call40 ?_ (equal_both (none : Option Addr) (none : Option Addr) 0 0 0 0 xs w1 (hb1.later h.inv.1) (hb2.later h.inv.1)) ?_
                · simp only [List.map_toArray, List.map_cons, List.map_nil, e0, e1]
                · rintro e w3 ⟨rfl, rfl⟩
                  exact ⟨_, rfl, rfl, trivial, (Below.refl _ _)⟩
              · refine .inl ⟨.inl rfl, ?_⟩
                exact .inl ⟨by kernel_rfl, fun L a1 w1 n h => ⟨_, rfl, run_notB (.tmp 108) true rfl (h.dep n 2 108 (by kernel_rfl) rfl) rfl⟩⟩
              · refine .inl ⟨.inl rfl, ?_⟩
                exact .inl ⟨by kernel_rfl, fun L a1 w1 n h => ⟨_, rfl, run_move (.tmp 109) rfl (h.dep n 3 109 (by kernel_rfl) rfl)⟩⟩
              · refine .inl ⟨.inr ⟨4, false, 110, rfl, by kernel_rfl, rfl, by simp, fun v h => h⟩, ?_⟩
                exact .inl ⟨by kernel_rfl, fun L a1 w1 n h => ⟨_, rfl, run_move (.tmp 11) rfl (h.var n 11 (by kernel_rfl))⟩⟩
              · refine .inl ⟨.inr ⟨4, false, 110, rfl, by kernel_rfl, rfl, by simp, fun v h => h⟩, ?_⟩
                exact .inl ⟨by kernel_rfl, fun L a1 w1 n h => ⟨_, rfl, run_move (.tmp 12) rfl (h.var n 12 (by kernel_rfl))⟩⟩
              · refine .inl ⟨.inr ⟨4, false, 110, rfl, by kernel_rfl, rfl, by simp, fun v h => h⟩, ?_⟩
                exact .inl ⟨by kernel_rfl, fun L a1 w1 n h => ⟨_, rfl, run_neqI (.tmp 111) (.tmp 112) rfl (h.dep n 5 111 (by kernel_rfl) rfl) (h.dep n 6 112 (by kernel_rfl) rfl) (by simp)⟩⟩
              · refine .inl ⟨.inl rfl, ?_⟩
                exact .inl ⟨by kernel_rfl, fun L a1 w1 n h => ⟨_, rfl, run_pickF (.tmp 110) _ _ rfl (h.dep n 4 110 (by kernel_rfl) rfl) (h.dep n 7 113 (by kernel_rfl) rfl)⟩⟩
              · refine .inl ⟨.inl rfl, ?_⟩
                exact .inl ⟨by kernel_rfl, fun L a1 w1 n h => ⟨_, rfl, run_move (.tmp 114) rfl (h.dep n 8 114 (by kernel_rfl) rfl)⟩⟩
              · refine .inl ⟨.inr ⟨9, false, 115, rfl, by kernel_rfl, rfl, by simp, fun v h => h⟩, ?_⟩
                exact .inl ⟨by kernel_rfl, fun L a1 w1 n h => ⟨_, rfl, run_move (.tmp 5) rfl (h.var n 5 (by kernel_rfl))⟩⟩
              · refine .inl ⟨.inr ⟨9, false, 115, rfl, by kernel_rfl, rfl, by simp, fun v h => h⟩, ?_⟩
                refine .inl ⟨by kernel_rfl, fun L a1 w1 n h => ⟨.pointer (some ⟨g9, 1, none⟩), rfl, ?_⟩⟩
                have e0 : a1.eval (.tmp 8) = _ := h.var n 8 (by kernel_rfl)
                unfold execOp
                simp only [e0]
                go_simp
              · refine .inl ⟨.inr ⟨9, false, 115, rfl, by kernel_rfl, rfl, by simp, fun v h => h⟩, ?_⟩
                exact .inl ⟨by kernel_rfl, fun L a1 w1 n h => ⟨_, rfl, run_loadA 3 (.tmp 117) ⟨g9, 1, none⟩ rfl Try.isAgg3 (h.dep n 11 117 (by kernel_rfl) rfl) ((Row.later hr9 h.inv.1).cell (j := 1) (v := .int .i64 qy) rfl)⟩⟩
              · refine .inl ⟨.inr ⟨9, false, 115, rfl, by kernel_rfl, rfl, by simp, fun v h => h⟩, ?_⟩
                refine .inr fun L a1 w1 n h K hK => ?_
                have e0 : a1.eval (.tmp 116) = ptr gw := h.dep n 10 116 (by kernel_rfl) rfl
                have e1 : a1.eval (.tmp 118) = .int .i64 qy := h.dep n 12 118 (by kernel_rfl) rfl
                refine JF.call (FNoW_mono ) h hK 119 rfl 66 _ _ #[ptr gw, .int .i64 qy] rfl Try.call66 ?_ ((HC.out w1 h.inv.1).1) ?_
                · simp only [List.map_toArray, List.map_cons, List.map_nil, e0, e1]
                · rintro e w3 ⟨rfl, rfl⟩
                  exact ⟨_, rfl, rfl, trivial, (Below.refl _ _)⟩
              · refine .inl ⟨.inr ⟨9, false, 115, rfl, by kernel_rfl, rfl, by simp, fun v h => h⟩, ?_⟩
                exact .inl ⟨by kernel_rfl, fun L a1 w1 n h => ⟨_, rfl, run_move (.tmp 5) rfl (h.var n 5 (by kernel_rfl))⟩⟩
              · refine .inl ⟨.inr ⟨9, false, 115, rfl, by kernel_rfl, rfl, by simp, fun v h => h⟩, ?_⟩
                refine .inl ⟨by kernel_rfl, fun L a1 w1 n h => ⟨.pointer (some ⟨g9, 1, none⟩), rfl, ?_⟩⟩
                have e0 : a1.eval (.tmp 8) = _ := h.var n 8 (by kernel_rfl)
                unfold execOp
                simp only [e0]
                go_simp
              · refine .inl ⟨.inr ⟨9, false, 115, rfl, by kernel_rfl, rfl, by simp, fun v h => h⟩, ?_⟩
                exact .inl ⟨by kernel_rfl, fun L a1 w1 n h => ⟨_, rfl, run_loadA 3 (.tmp 121) ⟨g9, 1, none⟩ rfl Try.isAgg3 (h.dep n 15 121 (by kernel_rfl) rfl) ((Row.later hr9 h.inv.1).cell (j := 1) (v := .int .i64 qy) rfl)⟩⟩
              · refine .inl ⟨.inr ⟨9, false, 115, rfl, by kernel_rfl, rfl, by simp, fun v h => h⟩, ?_⟩
                refine .inr fun L a1 w1 n h K hK => ?_
                have e0 : a1.eval (.tmp 120) = ptr gw := h.dep n 14 120 (by kernel_rfl) rfl
                have e1 : a1.eval (.tmp 122) = .int .i64 qy := h.dep n 16 122 (by kernel_rfl) rfl
                refine JF.call (FNoW_mono ) h hK 123 rfl 67 _ _ #[ptr gw, .int .i64 qy] rfl Try.call67 ?_ ((HC.out w1 h.inv.1).2.1) ?_
                · simp only [List.map_toArray, List.map_cons, List.map_nil, e0, e1]
                · rintro e w3 ⟨rfl, rfl⟩
                  exact ⟨_, rfl, rfl, trivial, (Below.refl _ _)⟩
              · refine .inl ⟨.inr ⟨9, false, 115, rfl, by kernel_rfl, rfl, by simp, fun v h => h⟩, ?_⟩
                exact .inl ⟨by kernel_rfl, fun L a1 w1 n h => ⟨_, rfl, run_buildX 119 [(0, .tmp 119), (1, .tmp 123)] rfl _ (by simp only [List.map_cons, List.map_nil]; rw [show a1.eval (.tmp 119) = .int .i64 n1 from (h.dep n 13 119 (by kernel_rfl) rfl), show a1.eval (.tmp 123) = .int .i64 n2 from (h.dep n 17 123 (by kernel_rfl) rfl)]) _ (built2 n1 n2)⟩⟩
              · refine .inl ⟨.inr ⟨9, false, 115, rfl, by kernel_rfl, rfl, by simp, fun v h => h⟩, ?_⟩
                exact .inl ⟨by kernel_rfl, fun L a1 w1 n h => ⟨_, rfl, run_move (.tmp 6) rfl (h.var n 6 (by kernel_rfl))⟩⟩
              · refine .inl ⟨.inr ⟨9, false, 115, rfl, by kernel_rfl, rfl, by simp, fun v h => h⟩, ?_⟩
                refine .inl ⟨by kernel_rfl, fun L a1 w1 n h => ⟨.pointer (some ⟨g9, 1, none⟩), rfl, ?_⟩⟩
                have e0 : a1.eval (.tmp 8) = _ := h.var n 8 (by kernel_rfl)
                unfold execOp
                simp only [e0]
                go_simp
              · refine .inl ⟨.inr ⟨9, false, 115, rfl, by kernel_rfl, rfl, by simp, fun v h => h⟩, ?_⟩
                exact .inl ⟨by kernel_rfl, fun L a1 w1 n h => ⟨_, rfl, run_loadA 3 (.tmp 126) ⟨g9, 1, none⟩ rfl Try.isAgg3 (h.dep n 20 126 (by kernel_rfl) rfl) ((Row.later hr9 h.inv.1).cell (j := 1) (v := .int .i64 qy) rfl)⟩⟩
              · refine .inl ⟨.inr ⟨9, false, 115, rfl, by kernel_rfl, rfl, by simp, fun v h => h⟩, ?_⟩
                refine .inr fun L a1 w1 n h K hK => ?_
                have e0 : a1.eval (.tmp 125) = ptr gr := h.dep n 19 125 (by kernel_rfl) rfl
                have e1 : a1.eval (.tmp 127) = .int .i64 qy := h.dep n 21 127 (by kernel_rfl) rfl
                refine JF.call (FNoW_mono ) h hK 128 rfl 68 _ _ #[ptr gr, .int .i64 qy] rfl Try.call68 ?_ ((HC.out w1 h.inv.1).2.2) ?_
                · simp only [List.map_toArray, List.map_cons, List.map_nil, e0, e1]
                · rintro e w3 ⟨rfl, b9⟩
                  exact ⟨_, rfl, rfl, trivial, b9⟩
              · refine .inl ⟨.inr ⟨9, false, 115, rfl, by kernel_rfl, rfl, by simp, fun v h => h⟩, ?_⟩
                exact .inl ⟨by kernel_rfl, fun L a1 w1 n h => ⟨_, rfl, run_neqF (.tmp 124) (.tmp 128) rfl Try.underlying119 (Classical.choose_spec int_info) (by kernel_rfl) Try.underlying3 Try.isAgg3 [n1, n2] (h.dep n 18 124 (by kernel_rfl) rfl) (h.dep n 22 128 (by kernel_rfl) rfl) rfl (by kernel_rfl)⟩⟩
              · refine .inl ⟨.inl rfl, ?_⟩
                exact .inl ⟨by kernel_rfl, fun L a1 w1 n h => ⟨_, rfl, run_pickF (.tmp 115) _ _ rfl (h.dep n 9 115 (by kernel_rfl) rfl) (h.dep n 23 129 (by kernel_rfl) rfl)⟩⟩
            case heE =>
              intro V w9 hV2 hJ
              have hz : V 24 = .bool false := hV2 24 130 rfl
              have b9 : Below w7.heap.size w7 w9 := hJ.1
              clear hV2 hJ hr9 HC hb1 hb2
              simp only [putOps, List.setIfInBounds_toArray, List.set_cons_succ, List.set_cons_zero, Nat.reduceAdd]
              rw [hz]
              refine hK6 _ _ ?_
              clear hz
              have bT9 : Below T w7 w9 := b9.mono hTw
              have bB9 : Below B w w9 := Bf.trans (bT9.mono hBT)
              clear hrow9 b9 Bf hTw
              go_wp2_with fail
              go_loopw [13] (fun kv wq => kv = .int .i64 0 ∧ wq = w9) (fun kv _ => 0)
              case atStart => exact ⟨rfl, rfl⟩
              case round =>
                obtain ⟨rfl, rfl⟩ := hrel
                go_wp2_with fail
                go_roundw
                case rel => exact ⟨i + 1, ls2, rs2, by omega, by go_num, HDuo.out.1 _ bT9, HDuo.out.2, bB9⟩
                case measure => simp [intOf]; omega
          · rcases hk6 with hk6 | hk6
            · have x2 : decide (qk % 6 = 2) = false := by simp; omega
              have x3 : decide (qk % 6 = 3) = false := by simp; omega
              have x4 : decide (qk % 6 = 4) = true := by simp; omega
              go_wp2_with (first
                | (with_reducible refine wl_load_cells rfl 110 (.tmp 39) bb (oo + i * 4) [.int .u8 qk, .int .i64 qy, .slice qA qn qc, .int .i64 qq] _ rfl rfl t4 Try.underlying110 rfl (szAct _ _ _ _ _ _) ?_)
                | ((with_reducible refine wl_alloc rfl 110 _ [.int .u8 0, .int .i64 0, .slice none 0 0, .int .i64 0] rfl zeroAct rfl ?_); intro g9 w4 r9 p9 l9 b9)
                | ((with_reducible refine wl_store_row rfl 110 (.tmp 8) (.tmp 40) g9 110 _ [.int .u8 qk, .int .i64 qy, .slice qA qn qc, .int .i64 qq] rfl rfl rfl r9 (szAct _ _ _ _ _ _) rfl (one_act _ _ _ _ _ _) ?_); intro w5 r10 o10; have k0 := r10.cell (j := 0) rfl; have k1 := r10.cell (j := 1) rfl; have k2 := r10.cell (j := 2) rfl; have k3 := r10.cell (j := 3) rfl))
              have bA : Below wr.heap.size wr w5 := b9.trans (o10.below p9)
              have hn9 : g9 ∉ nblocks gw nv ls := fun hk2 => by have := (HD.out.1.net.nlt g9 hk2).2; omega
              have hq9 : g9 ∉ rblocks gr gb rs := fun hk2 => by have := (HD.out.1.ref.lt g9 hk2).2; omega
              have hD5 := HD.out.1.later bA
              have hS5 := HD.out.2
              have B5 : Below B w w5 := hBr.trans (bA.mono hBs)
              have hB5 : B ≤ w5.heap.size := Nat.le_trans hBs bA.size
              have hx5 : Bs w5 B qA qn qx := (hBe.symm ▸ hx : Bs wr B qA qn qx).below (bA.mono hBs)
              have HN := hide (pick2_any hB5 hD5 hS5 qy qq)
              clear HD r9 p9 l9 b9 o10 bA t4 hBr hBs hx
              clear hn9 hq9 hD5 hS5 hx5
              refine HN.out.mono ?_
              rintro en w6 ⟨A7, n7, c7, er, rfl, b6, HR⟩
              have hr9 := Row.later r10 b6
              have k1 := hr9.cell (j := 1) rfl
              have k3 := hr9.cell (j := 3) rfl
              have HR := hide HR
              clear HN r10
              go_wp2_with fail
              refine HR.out.mono ?_
              rintro en w7 ⟨A8, n8, c8, rfl, rfl, hF⟩
              have Bf : Below B w w6 := B5.trans (b6.mono hB5)
              clear HR k1 k3 b6 B5
              obtain ⟨ls2, rs2, T, xs, hS2, hBT, hTw, hDuo, hrow9, hb1, hb2, hn300⟩ := hF
              obtain ⟨n1, n2, hC⟩ := counts_any (hDuo w6 (Below.refl _ _)) hS2 qy
              have HC := hide hC
              have HDuo := hide (And.intro hDuo hS2)
              clear hC hDuo hS2
              go_wp2_with fail
              rename_i K6 hK6
              refine wp_region_valsS [2, 13, 17, 22] (SPq gw gr g9 qA qn qc qk qy qq A7 n7 c7 A8 n8 c8 er n1 n2) (JF w6 [2, 13, 17, 22] FNoW) (by kernel_rfl) (by kernel_rfl) (by kernel_rfl) (by kernel_rfl) (JF.start _) ?obsE ?heE
              case obsE =>
                refine ⟨?_, ?_, ?_, ?_, ?_, ?_, ?_, ?_, ?_, ?_, ?_, ?_, ?_, ?_, ?_, ?_, ?_, ?_, ?_, ?_, ?_, ?_, ?_, ?_, ?_, trivial⟩
                · refine .inl ⟨.inl rfl, ?_⟩
                  exact .inl ⟨by kernel_rfl, fun L a1 w1 n h => ⟨_, rfl, run_move (.tmp 9) rfl (h.var n 9 (by kernel_rfl))⟩⟩
                · refine .inl ⟨.inl rfl, ?_⟩
                  exact .inl ⟨by kernel_rfl, fun L a1 w1 n h => ⟨_, rfl, run_move (.tmp 10) rfl (h.var n 10 (by kernel_rfl))⟩⟩
                · refine .inl ⟨.inl rfl, ?_⟩
                  refine .inr fun L a1 w1 n h K hK => ?_
                  have e0 : a1.eval (.tmp 106) = .slice A7 n7 c7 := h.dep n 0 106 (by kernel_rfl) rfl
                  have e1 : a1.eval (.tmp 107) = .slice A8 n8 c8 := h.dep n 1 107 (by kernel_rfl) rfl
                  refine JF.call (FNoW_mono ) h hK 108 rfl 40 _ _ #[.slice A7 n7 c7, .slice A8 n8 c8] rfl Try.call40 ?_ (equal_both A7 A8 n7 n8 c7 c8 xs w1 (hb1.later h.inv.1) (hb2.later h.inv.1)) ?_
                  · simp only [List.map_toArray, List.map_cons, List.map_nil, e0, e1]
                  · rintro e w3 ⟨rfl, rfl⟩
                    exact ⟨_, rfl, rfl, trivial, (Below.refl _ _)⟩
                · refine .inl ⟨.inl rfl, ?_⟩
                  exact .inl ⟨by kernel_rfl, fun L a1 w1 n h => ⟨_, rfl, run_notB (.tmp 108) true rfl (h.dep n 2 108 (by kernel_rfl) rfl) rfl⟩⟩
                · refine .inl ⟨.inl rfl, ?_⟩
                  exact .inl ⟨by kernel_rfl, fun L a1 w1 n h => ⟨_, rfl, run_move (.tmp 109) rfl (h.dep n 3 109 (by kernel_rfl) rfl)⟩⟩
                · refine .inl ⟨.inr ⟨4, false, 110, rfl, by kernel_rfl, rfl, by simp, fun v h => h⟩, ?_⟩
                  exact .inl ⟨by kernel_rfl, fun L a1 w1 n h => ⟨_, rfl, run_move (.tmp 11) rfl (h.var n 11 (by kernel_rfl))⟩⟩
                · refine .inl ⟨.inr ⟨4, false, 110, rfl, by kernel_rfl, rfl, by simp, fun v h => h⟩, ?_⟩
                  exact .inl ⟨by kernel_rfl, fun L a1 w1 n h => ⟨_, rfl, run_move (.tmp 12) rfl (h.var n 12 (by kernel_rfl))⟩⟩
                · refine .inl ⟨.inr ⟨4, false, 110, rfl, by kernel_rfl, rfl, by simp, fun v h => h⟩, ?_⟩
                  exact .inl ⟨by kernel_rfl, fun L a1 w1 n h => ⟨_, rfl, run_neqI (.tmp 111) (.tmp 112) rfl (h.dep n 5 111 (by kernel_rfl) rfl) (h.dep n 6 112 (by kernel_rfl) rfl) (by simp)⟩⟩
                · refine .inl ⟨.inl rfl, ?_⟩
                  exact .inl ⟨by kernel_rfl, fun L a1 w1 n h => ⟨_, rfl, run_pickF (.tmp 110) _ _ rfl (h.dep n 4 110 (by kernel_rfl) rfl) (h.dep n 7 113 (by kernel_rfl) rfl)⟩⟩
                · refine .inl ⟨.inl rfl, ?_⟩
                  exact .inl ⟨by kernel_rfl, fun L a1 w1 n h => ⟨_, rfl, run_move (.tmp 114) rfl (h.dep n 8 114 (by kernel_rfl) rfl)⟩⟩
                · refine .inl ⟨.inr ⟨9, false, 115, rfl, by kernel_rfl, rfl, by simp, fun v h => h⟩, ?_⟩
                  exact .inl ⟨by kernel_rfl, fun L a1 w1 n h => ⟨_, rfl, run_move (.tmp 5) rfl (h.var n 5 (by kernel_rfl))⟩⟩
                · refine .inl ⟨.inr ⟨9, false, 115, rfl, by kernel_rfl, rfl, by simp, fun v h => h⟩, ?_⟩
                  refine .inl ⟨by kernel_rfl, fun L a1 w1 n h => ⟨.pointer (some ⟨g9, 1, none⟩), rfl, ?_⟩⟩
                  have e0 : a1.eval (.tmp 8) = _ := h.var n 8 (by kernel_rfl)
                  unfold execOp
                  simp only [e0]
                  go_simp
                · refine .inl ⟨.inr ⟨9, false, 115, rfl, by kernel_rfl, rfl, by simp, fun v h => h⟩, ?_⟩
                  exact .inl ⟨by kernel_rfl, fun L a1 w1 n h => ⟨_, rfl, run_loadA 3 (.tmp 117) ⟨g9, 1, none⟩ rfl Try.isAgg3 (h.dep n 11 117 (by kernel_rfl) rfl) ((Row.later hr9 h.inv.1).cell (j := 1) (v := .int .i64 qy) rfl)⟩⟩
                · refine .inl ⟨.inr ⟨9, false, 115, rfl, by kernel_rfl, rfl, by simp, fun v h => h⟩, ?_⟩
                  refine .inr fun L a1 w1 n h K hK => ?_
                  have e0 : a1.eval (.tmp 116) = ptr gw := h.dep n 10 116 (by kernel_rfl) rfl
                  have e1 : a1.eval (.tmp 118) = .int .i64 qy := h.dep n 12 118 (by kernel_rfl) rfl
                  refine JF.call (FNoW_mono ) h hK 119 rfl 66 _ _ #[ptr gw, .int .i64 qy] rfl Try.call66 ?_ ((HC.out w1 h.inv.1).1) ?_
                  · simp only [List.map_toArray, List.map_cons, List.map_nil, e0, e1]
                  · rintro e w3 ⟨rfl, rfl⟩
                    exact ⟨_, rfl, rfl, trivial, (Below.refl _ _)⟩
                · refine .inl ⟨.inr ⟨9, false, 115, rfl, by kernel_rfl, rfl, by simp, fun v h => h⟩, ?_⟩
                  exact .inl ⟨by kernel_rfl, fun L a1 w1 n h => ⟨_, rfl, run_move (.tmp 5) rfl (h.var n 5 (by kernel_rfl))⟩⟩
                · refine .inl ⟨.inr ⟨9, false, 115, rfl, by kernel_rfl, rfl, by simp, fun v h => h⟩, ?_⟩
                  refine .inl ⟨by kernel_rfl, fun L a1 w1 n h => ⟨.pointer (some ⟨g9, 1, none⟩), rfl, ?_⟩⟩
                  have e0 : a1.eval (.tmp 8) = _ := h.var n 8 (by kernel_rfl)
                  unfold execOp
                  simp only [e0]
                  go_simp
                · refine .inl ⟨.inr ⟨9, false, 115, rfl, by kernel_rfl, rfl, by simp, fun v h => h⟩, ?_⟩
                  exact .inl ⟨by kernel_rfl, fun L a1 w1 n h => ⟨_, rfl, run_loadA 3 (.tmp 121) ⟨g9, 1, none⟩ rfl Try.isAgg3 (h.dep n 15 121 (by kernel_rfl) rfl) ((Row.later hr9 h.inv.1).cell (j := 1) (v := .int .i64 qy) rfl)⟩⟩
                · refine .inl ⟨.inr ⟨9, false, 115, rfl, by kernel_rfl, rfl, by simp, fun v h => h⟩, ?_⟩
                  refine .inr fun L a1 w1 n h K hK => ?_
                  have e0 : a1.eval (.tmp 120) = ptr gw := h.dep n 14 120 (by kernel_rfl) rfl
                  have e1 : a1.eval (.tmp 122) = .int .i64 qy := h.dep n 16 122 (by kernel_rfl) rfl
                  refine JF.call (FNoW_mono ) h hK 123 rfl 67 _ _ #[ptr gw, .int .i64 qy] rfl Try.call67 ?_ ((HC.out w1 h.inv.1).2.1) ?_
                  · simp only [List.map_toArray, List.map_cons, List.map_nil, e0, e1]
                  · rintro e w3 ⟨rfl, rfl⟩
                    exact ⟨_, rfl, rfl, trivial, (Below.refl _ _)⟩
                · refine .inl ⟨.inr ⟨9, false, 115, rfl, by kernel_rfl, rfl, by simp, fun v h => h⟩, ?_⟩
                  exact .inl ⟨by kernel_rfl, fun L a1 w1 n h => ⟨_, rfl, run_buildX 119 [(0, .tmp 119), (1, .tmp 123)] rfl _ (by simp only [List.map_cons, List.map_nil]; rw [show a1.eval (.tmp 119) = .int .i64 n1 from (h.dep n 13 119 (by kernel_rfl) rfl), show a1.eval (.tmp 123) = .int .i64 n2 from (h.dep n 17 123 (by kernel_rfl) rfl)]) _ (built2 n1 n2)⟩⟩
                · refine .inl ⟨.inr ⟨9, false, 115, rfl, by kernel_rfl, rfl, by simp, fun v h => h⟩, ?_⟩
                  exact .inl ⟨by kernel_rfl, fun L a1 w1 n h => ⟨_, rfl, run_move (.tmp 6) rfl (h.var n 6 (by kernel_rfl))⟩⟩
                · refine .inl ⟨.inr ⟨9, false, 115, rfl, by kernel_rfl, rfl, by simp, fun v h => h⟩, ?_⟩
                  refine .inl ⟨by kernel_rfl, fun L a1 w1 n h => ⟨.pointer (some ⟨g9, 1, none⟩), rfl, ?_⟩⟩
                  have e0 : a1.eval (.tmp 8) = _ := h.var n 8 (by kernel_rfl)
                  unfold execOp
                  simp only [e0]
                  go_simp
                · refine .inl ⟨.inr ⟨9, false, 115, rfl, by kernel_rfl, rfl, by simp, fun v h => h⟩, ?_⟩
                  exact .inl ⟨by kernel_rfl, fun L a1 w1 n h => ⟨_, rfl, run_loadA 3 (.tmp 126) ⟨g9, 1, none⟩ rfl Try.isAgg3 (h.dep n 20 126 (by kernel_rfl) rfl) ((Row.later hr9 h.inv.1).cell (j := 1) (v := .int .i64 qy) rfl)⟩⟩
                · refine .inl ⟨.inr ⟨9, false, 115, rfl, by kernel_rfl, rfl, by simp, fun v h => h⟩, ?_⟩
                  refine .inr fun L a1 w1 n h K hK => ?_
                  have e0 : a1.eval (.tmp 125) = ptr gr := h.dep n 19 125 (by kernel_rfl) rfl
                  have e1 : a1.eval (.tmp 127) = .int .i64 qy := h.dep n 21 127 (by kernel_rfl) rfl
                  refine JF.call (FNoW_mono ) h hK 128 rfl 68 _ _ #[ptr gr, .int .i64 qy] rfl Try.call68 ?_ ((HC.out w1 h.inv.1).2.2) ?_
                  · simp only [List.map_toArray, List.map_cons, List.map_nil, e0, e1]
                  · rintro e w3 ⟨rfl, b9⟩
                    exact ⟨_, rfl, rfl, trivial, b9⟩
                · refine .inl ⟨.inr ⟨9, false, 115, rfl, by kernel_rfl, rfl, by simp, fun v h => h⟩, ?_⟩
                  exact .inl ⟨by kernel_rfl, fun L a1 w1 n h => ⟨_, rfl, run_neqF (.tmp 124) (.tmp 128) rfl Try.underlying119 (Classical.choose_spec int_info) (by kernel_rfl) Try.underlying3 Try.isAgg3 [n1, n2] (h.dep n 18 124 (by kernel_rfl) rfl) (h.dep n 22 128 (by kernel_rfl) rfl) rfl (by kernel_rfl)⟩⟩
                · refine .inl ⟨.inl rfl, ?_⟩
                  exact .inl ⟨by kernel_rfl, fun L a1 w1 n h => ⟨_, rfl, run_pickF (.tmp 115) _ _ rfl (h.dep n 9 115 (by kernel_rfl) rfl) (h.dep n 23 129 (by kernel_rfl) rfl)⟩⟩
              case heE =>
                intro V w9 hV2 hJ
                have hz : V 24 = .bool false := hV2 24 130 rfl
                have b9 : Below w6.heap.size w6 w9 := hJ.1
                clear hV2 hJ hr9 HC hb1 hb2
                simp only [putOps, List.setIfInBounds_toArray, List.set_cons_succ, List.set_cons_zero, Nat.reduceAdd]
                rw [hz]
                refine hK6 _ _ ?_
                clear hz
                have hg9 : n7 = 0 ∨ ∃ g cur, A7 = some ⟨g, 0, none⟩ ∧ T ≤ g ∧ Row w9 5 g cur ∧ n7 ≤ cur.length := hrow9.imp id fun ⟨g, cur, q1, q2, q3, q4⟩ => ⟨g, cur, q1, q2, q3.later b9, q4⟩
                have bT9 : Below T w6 w9 := b9.mono hTw
                have bB9 : Below B w w9 := Bf.trans (bT9.mono hBT)
                clear hrow9 b9 Bf hTw
                go_wp2_with fail
                go_loopw [13] (fun kv wq => ∃ k : Nat, kv = .int .i64 k ∧ k ≤ n7 ∧ Below T w9 wq ∧ (n7 = 0 ∨ ∃ g cur, A7 = some ⟨g, 0, none⟩ ∧ T ≤ g ∧ Row wq 5 g cur ∧ n7 ≤ cur.length)) (fun kv _ => n7 - (intOf kv).toNat)
                case atStart => exact ⟨0, rfl, by omega, Below.refl _ _, hg9⟩
                case round =>
                  clear hg9
                  rename_i wr0 _ _
                  obtain ⟨k, rfl, hk7, hbq, hgq⟩ := hrel
                  by_cases hkn : k < n7
                  · obtain ⟨g, cur, hA9, hTg, hrow, hlen⟩ := hgq.resolve_left (by omega)
                    subst hA9
                    have hkl : k < cur.length := by omega
                    go_wp2_with (first
                      | (with_reducible refine wl_store rfl 5 (.tmp 139) (.const (.int .u8 63)) g k 5 cur (.int .u8 63) rfl szBy rfl rfl hrow hkl rfl ?_; intro wz rz oz))
                    go_roundw
                    case rel => exact ⟨k + 1, by go_num, hkn, hbq.trans (oz.below hTg), .inr ⟨g, _, rfl, hTg, rz, by simp; omega⟩⟩
                    case measure => simp [intOf]; omega
                  · obtain rfl : k = n7 := by omega
                    clear hgq
                    go_wp2_with fail
                    go_roundw
                    case rel => exact ⟨i + 1, ls2, rs2, by omega, by go_num, HDuo.out.1 _ (bT9.trans hbq), HDuo.out.2, bB9.trans (hbq.mono hBT)⟩
                    case measure => simp [intOf]; omega
            · have x2 : decide (qk % 6 = 2) = false := by simp; omega
              have x3 : decide (qk % 6 = 3) = false := by simp; omega
              have x4 : decide (qk % 6 = 4) = false := by simp; omega
              have x5 : decide (qk % 6 = 5) = true := by simp; omega
              go_wp2_with (first
                | (with_reducible refine wl_load_cells rfl 110 (.tmp 39) bb (oo + i * 4) [.int .u8 qk, .int .i64 qy, .slice qA qn qc, .int .i64 qq] _ rfl rfl t4 Try.underlying110 rfl (szAct _ _ _ _ _ _) ?_)
                | ((with_reducible refine wl_alloc rfl 110 _ [.int .u8 0, .int .i64 0, .slice none 0 0, .int .i64 0] rfl zeroAct rfl ?_); intro g9 w4 r9 p9 l9 b9)
                | ((with_reducible refine wl_store_row rfl 110 (.tmp 8) (.tmp 40) g9 110 _ [.int .u8 qk, .int .i64 qy, .slice qA qn qc, .int .i64 qq] rfl rfl rfl r9 (szAct _ _ _ _ _ _) rfl (one_act _ _ _ _ _ _) ?_); intro w5 r10 o10; have k0 := r10.cell (j := 0) rfl; have k1 := r10.cell (j := 1) rfl; have k2 := r10.cell (j := 2) rfl; have k3 := r10.cell (j := 3) rfl))
              have bA : Below wr.heap.size wr w5 := b9.trans (o10.below p9)
              have hn9 : g9 ∉ nblocks gw nv ls := fun hk2 => by have := (HD.out.1.net.nlt g9 hk2).2; omega
              have hq9 : g9 ∉ rblocks gr gb rs := fun hk2 => by have := (HD.out.1.ref.lt g9 hk2).2; omega
              have hD5 := HD.out.1.later bA
              have hS5 := HD.out.2
              have B5 : Below B w w5 := hBr.trans (bA.mono hBs)
              have hB5 : B ≤ w5.heap.size := Nat.le_trans hBs bA.size
              have hx5 : Bs w5 B qA qn qx := (hBe.symm ▸ hx : Bs wr B qA qn qx).below (bA.mono hBs)
              have HN := hide (pick2_any hB5 hD5 hS5 qy qq)
              clear HD r9 p9 l9 b9 o10 bA t4 hBr hBs hx
              clear hn9 hq9 hD5 hS5 hx5
              refine HN.out.mono ?_
              rintro en w6 ⟨A7, n7, c7, er, rfl, b6, HR⟩
              have hr9 := Row.later r10 b6
              have k1 := hr9.cell (j := 1) rfl
              have k3 := hr9.cell (j := 3) rfl
              have HR := hide HR
              clear HN r10
              go_wp2_with fail
              refine HR.out.mono ?_
              rintro en w7 ⟨A8, n8, c8, rfl, rfl, hF⟩
              have Bf : Below B w w6 := B5.trans (b6.mono hB5)
              clear HR k1 k3 b6 B5
              obtain ⟨ls2, rs2, T, xs, hS2, hBT, hTw, hDuo, hrow9, hb1, hb2, hn300⟩ := hF
              obtain ⟨n1, n2, hC⟩ := counts_any (hDuo w6 (Below.refl _ _)) hS2 qy
              have HC := hide hC
              have HDuo := hide (And.intro hDuo hS2)
              clear hC hDuo hS2
              go_wp2_with fail
              rename_i K6 hK6
              refine wp_region_valsS [2, 13, 17, 22] (SPq gw gr g9 qA qn qc qk qy qq A7 n7 c7 A8 n8 c8 er n1 n2) (JF w6 [2, 13, 17, 22] FNoW) (by kernel_rfl) (by kernel_rfl) (by kernel_rfl) (by kernel_rfl) (JF.start _) ?obsE ?heE
              case obsE =>
                refine ⟨?_, ?_, ?_, ?_, ?_, ?_, ?_, ?_, ?_, ?_, ?_, ?_, ?_, ?_, ?_, ?_, ?_, ?_, ?_, ?_, ?_, ?_, ?_, ?_, ?_, trivial⟩
                · refine .inl ⟨.inl rfl, ?_⟩
                  exact .inl ⟨by kernel_rfl, fun L a1 w1 n h => ⟨_, rfl, run_move (.tmp 9) rfl (h.var n 9 (by kernel_rfl))⟩⟩
                · refine .inl ⟨.inl rfl, ?_⟩
                  exact .inl ⟨by kernel_rfl, fun L a1 w1 n h => ⟨_, rfl, run_move (.tmp 10) rfl (h.var n 10 (by kernel_rfl))⟩⟩
                · refine .inl ⟨.inl rfl, ?_⟩
                  refine .inr fun L a1 w1 n h K hK => ?_
                  have e0 : a1.eval (.tmp 106) = .slice A7 n7 c7 := h.dep n 0 106 (by kernel_rfl) rfl
                  have e1 : a1.eval (.tmp 107) = .slice A8 n8 c8 := h.dep n 1 107 (by kernel_rfl) rfl
                  refine JF.call (FNoW_mono ) h hK 108 rfl 40 _ _ #[.slice A7 n7 c7, .slice A8 n8 c8] rfl Try.call40 ?_ (equal_both A7 A8 n7 n8 c7 c8 xs w1 (hb1.later h.inv.1) (hb2.later h.inv.1)) ?_
                  · simp only [List.map_toArray, List.map_cons, List.map_nil, e0, e1]
                  · rintro e w3 ⟨rfl, rfl⟩
                    exact ⟨_, rfl, rfl, trivial, (Below.refl _ _)⟩
                · refine .inl ⟨.inl rfl, ?_⟩
                  exact .inl ⟨by kernel_rfl, fun L a1 w1 n h => ⟨_, rfl, run_notB (.tmp 108) true rfl (h.dep n 2 108 (by kernel_rfl) rfl) rfl⟩⟩
                · refine .inl ⟨.inl rfl, ?_⟩
                  exact .inl ⟨by kernel_rfl, fun L a1 w1 n h => ⟨_, rfl, run_move (.tmp 109) rfl (h.dep n 3 109 (by kernel_rfl) rfl)⟩⟩
                · refine .inl ⟨.inr ⟨4, false, 110, rfl, by kernel_rfl, rfl, by simp, fun v h => h⟩, ?_⟩
                  exact .inl ⟨by kernel_rfl, fun L a1 w1 n h => ⟨_, rfl, run_move (.tmp 11) rfl (h.var n 11 (by kernel_rfl))⟩⟩
                · refine .inl ⟨.inr ⟨4, false, 110, rfl, by kernel_rfl, rfl, by simp, fun v h => h⟩, ?_⟩
                  exact .inl ⟨by kernel_rfl, fun L a1 w1 n h => ⟨_, rfl, run_move (.tmp 12) rfl (h.var n 12 (by kernel_rfl))⟩⟩
                · refine .inl ⟨.inr ⟨4, false, 110, rfl, by kernel_rfl, rfl, by simp, fun v h => h⟩, ?_⟩
                  exact .inl ⟨by kernel_rfl, fun L a1 w1 n h => ⟨_, rfl, run_neqI (.tmp 111) (.tmp 112) rfl (h.dep n 5 111 (by kernel_rfl) rfl) (h.dep n 6 112 (by kernel_rfl) rfl) (by simp)⟩⟩
                · refine .inl ⟨.inl rfl, ?_⟩
                  exact .inl ⟨by kernel_rfl, fun L a1 w1 n h => ⟨_, rfl, run_pickF (.tmp 110) _ _ rfl (h.dep n 4 110 (by kernel_rfl) rfl) (h.dep n 7 113 (by kernel_rfl) rfl)⟩⟩
                · refine .inl ⟨.inl rfl, ?_⟩
                  exact .inl ⟨by kernel_rfl, fun L a1 w1 n h => ⟨_, rfl, run_move (.tmp 114) rfl (h.dep n 8 114 (by kernel_rfl) rfl)⟩⟩
                · refine .inl ⟨.inr ⟨9, false, 115, rfl, by kernel_rfl, rfl, by simp, fun v h => h⟩, ?_⟩
                  exact .inl ⟨by kernel_rfl, fun L a1 w1 n h => ⟨_, rfl, run_move (.tmp 5) rfl (h.var n 5 (by kernel_rfl))⟩⟩
                · refine .inl ⟨.inr ⟨9, false, 115, rfl, by kernel_rfl, rfl, by simp, fun v h => h⟩, ?_⟩
                  refine .inl ⟨by kernel_rfl, fun L a1 w1 n h => ⟨.pointer (some ⟨g9, 1, none⟩), rfl, ?_⟩⟩
                  have e0 : a1.eval (.tmp 8) = _ := h.var n 8 (by kernel_rfl)
                  unfold execOp
                  simp only [e0]
                  go_simp
                · refine .inl ⟨.inr ⟨9, false, 115, rfl, by kernel_rfl, rfl, by simp, fun v h => h⟩, ?_⟩
                  exact .inl ⟨by kernel_rfl, fun L a1 w1 n h => ⟨_, rfl, run_loadA 3 (.tmp 117) ⟨g9, 1, none⟩ rfl Try.isAgg3 (h.dep n 11 117 (by kernel_rfl) rfl) ((Row.later hr9 h.inv.1).cell (j := 1) (v := .int .i64 qy) rfl)⟩⟩
                · refine .inl ⟨.inr ⟨9, false, 115, rfl, by kernel_rfl, rfl, by simp, fun v h => h⟩, ?_⟩
                  refine .inr fun L a1 w1 n h K hK => ?_
                  have e0 : a1.eval (.tmp 116) = ptr gw := h.dep n 10 116 (by kernel_rfl) rfl
                  have e1 : a1.eval (.tmp 118) = .int .i64 qy := h.dep n 12 118 (by kernel_rfl) rfl
                  refine JF.call (FNoW_mono ) h hK 119 rfl 66 _ _ #[ptr gw, .int .i64 qy] rfl Try.call66 ?_ ((HC.out w1 h.inv.1).1) ?_
                  · simp only [List.map_toArray, List.map_cons, List.map_nil, e0, e1]
                  · rintro e w3 ⟨rfl, rfl⟩
                    exact ⟨_, rfl, rfl, trivial, (Below.refl _ _)⟩
                · refine .inl ⟨.inr ⟨9, false, 115, rfl, by kernel_rfl, rfl, by simp, fun v h => h⟩, ?_⟩
                  exact .inl ⟨by kernel_rfl, fun L a1 w1 n h => ⟨_, rfl, run_move (.tmp 5) rfl (h.var n 5 (by kernel_rfl))⟩⟩
                · refine .inl ⟨.inr ⟨9, false, 115, rfl, by kernel_rfl, rfl, by simp, fun v h => h⟩, ?_⟩
                  refine .inl ⟨by kernel_rfl, fun L a1 w1 n h => ⟨.pointer (some ⟨g9, 1, none⟩), rfl, ?_⟩⟩
                  have e0 : a1.eval (.tmp 8) = _ := h.var n 8 (by kernel_rfl)
                  unfold execOp
                  simp only [e0]
                  go_simp
                · refine .inl ⟨.inr ⟨9, false, 115, rfl, by kernel_rfl, rfl, by simp, fun v h => h⟩, ?_⟩
                  exact .inl ⟨by kernel_rfl, fun L a1 w1 n h => ⟨_, rfl, run_loadA 3 (.tmp 121) ⟨g9, 1, none⟩ rfl Try.isAgg3 (h.dep n 15 121 (by kernel_rfl) rfl) ((Row.later hr9 h.inv.1).cell (j := 1) (v := .int .i64 qy) rfl)⟩⟩
                · refine .inl ⟨.inr ⟨9, false, 115, rfl, by kernel_rfl, rfl, by simp, fun v h => h⟩, ?_⟩
                  refine .inr fun L a1 w1 n h K hK => ?_
                  have e0 : a1.eval (.tmp 120) = ptr gw := h.dep n 14 120 (by kernel_rfl) rfl
                  have e1 : a1.eval (.tmp 122) = .int .i64 qy := h.dep n 16 122 (by kernel_rfl) rfl
                  refine JF.call (FNoW_mono ) h hK 123 rfl 67 _ _ #[ptr gw, .int .i64 qy] rfl Try.call67 ?_ ((HC.out w1 h.inv.1).2.1) ?_
                  · simp only [List.map_toArray, List.map_cons, List.map_nil, e0, e1]
                  · rintro e w3 ⟨rfl, rfl⟩
                    exact ⟨_, rfl, rfl, trivial, (Below.refl _ _)⟩
                · refine .inl ⟨.inr ⟨9, false, 115, rfl, by kernel_rfl, rfl, by simp, fun v h => h⟩, ?_⟩
                  exact .inl ⟨by kernel_rfl, fun L a1 w1 n h => ⟨_, rfl, run_buildX 119 [(0, .tmp 119), (1, .tmp 123)] rfl _ (by simp only [List.map_cons, List.map_nil]; rw [show a1.eval (.tmp 119) = .int .i64 n1 from (h.dep n 13 119 (by kernel_rfl) rfl), show a1.eval (.tmp 123) = .int .i64 n2 from (h.dep n 17 123 (by kernel_rfl) rfl)]) _ (built2 n1 n2)⟩⟩
                · refine .inl ⟨.inr ⟨9, false, 115, rfl, by kernel_rfl, rfl, by simp, fun v h => h⟩, ?_⟩
                  exact .inl ⟨by kernel_rfl, fun L a1 w1 n h => ⟨_, rfl, run_move (.tmp 6) rfl (h.var n 6 (by kernel_rfl))⟩⟩
                · refine .inl ⟨.inr ⟨9, false, 115, rfl, by kernel_rfl, rfl, by simp, fun v h => h⟩, ?_⟩
                  refine .inl ⟨by kernel_rfl, fun L a1 w1 n h => ⟨.pointer (some ⟨g9, 1, none⟩), rfl, ?_⟩⟩
                  have e0 : a1.eval (.tmp 8) = _ := h.var n 8 (by kernel_rfl)
                  unfold execOp
                  simp only [e0]
                  go_simp
                · refine .inl ⟨.inr ⟨9, false, 115, rfl, by kernel_rfl, rfl, by simp, fun v h => h⟩, ?_⟩
                  exact .inl ⟨by kernel_rfl, fun L a1 w1 n h => ⟨_, rfl, run_loadA 3 (.tmp 126) ⟨g9, 1, none⟩ rfl Try.isAgg3 (h.dep n 20 126 (by kernel_rfl) rfl) ((Row.later hr9 h.inv.1).cell (j := 1) (v := .int .i64 qy) rfl)⟩⟩
                · refine .inl ⟨.inr ⟨9, false, 115, rfl, by kernel_rfl, rfl, by simp, fun v h => h⟩, ?_⟩
                  refine .inr fun L a1 w1 n h K hK => ?_
                  have e0 : a1.eval (.tmp 125) = ptr gr := h.dep n 19 125 (by kernel_rfl) rfl
                  have e1 : a1.eval (.tmp 127) = .int .i64 qy := h.dep n 21 127 (by kernel_rfl) rfl
                  refine JF.call (FNoW_mono ) h hK 128 rfl 68 _ _ #[ptr gr, .int .i64 qy] rfl Try.call68 ?_ ((HC.out w1 h.inv.1).2.2) ?_
                  · simp only [List.map_toArray, List.map_cons, List.map_nil, e0, e1]
                  · rintro e w3 ⟨rfl, b9⟩
                    exact ⟨_, rfl, rfl, trivial, b9⟩
                · refine .inl ⟨.inr ⟨9, false, 115, rfl, by kernel_rfl, rfl, by simp, fun v h => h⟩, ?_⟩
                  exact .inl ⟨by kernel_rfl, fun L a1 w1 n h => ⟨_, rfl, run_neqF (.tmp 124) (.tmp 128) rfl Try.underlying119 (Classical.choose_spec int_info) (by kernel_rfl) Try.underlying3 Try.isAgg3 [n1, n2] (h.dep n 18 124 (by kernel_rfl) rfl) (h.dep n 22 128 (by kernel_rfl) rfl) rfl (by kernel_rfl)⟩⟩
                · refine .inl ⟨.inl rfl, ?_⟩
                  exact .inl ⟨by kernel_rfl, fun L a1 w1 n h => ⟨_, rfl, run_pickF (.tmp 115) _ _ rfl (h.dep n 9 115 (by kernel_rfl) rfl) (h.dep n 23 129 (by kernel_rfl) rfl)⟩⟩
              case heE =>
                intro V w9 hV2 hJ
                have hz : V 24 = .bool false := hV2 24 130 rfl
                have b9 : Below w6.heap.size w6 w9 := hJ.1
                clear hV2 hJ hr9 HC hb1 hb2
                simp only [putOps, List.setIfInBounds_toArray, List.set_cons_succ, List.set_cons_zero, Nat.reduceAdd]
                rw [hz]
                refine hK6 _ _ ?_
                clear hz
                have hg9 : n7 = 0 ∨ ∃ g cur, A7 = some ⟨g, 0, none⟩ ∧ T ≤ g ∧ Row w9 5 g cur ∧ n7 ≤ cur.length := hrow9.imp id fun ⟨g, cur, q1, q2, q3, q4⟩ => ⟨g, cur, q1, q2, q3.later b9, q4⟩
                have bT9 : Below T w6 w9 := b9.mono hTw
                have bB9 : Below B w w9 := Bf.trans (bT9.mono hBT)
                clear hrow9 b9 Bf hTw
                go_wp2_with fail
                go_loopw [13] (fun kv wq => ∃ k : Nat, kv = .int .i64 k ∧ k ≤ n7 ∧ Below T w9 wq ∧ (n7 = 0 ∨ ∃ g cur, A7 = some ⟨g, 0, none⟩ ∧ T ≤ g ∧ Row wq 5 g cur ∧ n7 ≤ cur.length)) (fun kv _ => n7 - (intOf kv).toNat)
                case atStart => exact ⟨0, rfl, by omega, Below.refl _ _, hg9⟩
                case round =>
                  clear hg9
                  rename_i wr0 _ _
                  obtain ⟨k, rfl, hk7, hbq, hgq⟩ := hrel
                  by_cases hkn : k < n7
                  · obtain ⟨g, cur, hA9, hTg, hrow, hlen⟩ := hgq.resolve_left (by omega)
                    subst hA9
                    have hkl : k < cur.length := by omega
                    go_wp2_with (first
                      | (with_reducible refine wl_store rfl 5 (.tmp 139) (.const (.int .u8 63)) g k 5 cur (.int .u8 63) rfl szBy rfl rfl hrow hkl rfl ?_; intro wz rz oz))
                    go_roundw
                    case rel => exact ⟨k + 1, by go_num, hkn, hbq.trans (oz.below hTg), .inr ⟨g, _, rfl, hTg, rz, by simp; omega⟩⟩
                    case measure => simp [intOf]; omega
                  · obtain rfl : k = n7 := by omega
                    clear hgq
                    go_wp2_with fail
                    go_roundw
                    case rel => exact ⟨i + 1, ls2, rs2, by omega, by go_num, HDuo.out.1 _ (bT9.trans hbq), HDuo.out.2, bB9.trans (hbq.mono hBT)⟩
                    case measure => simp [intOf]; omega
          · have x2 : decide (qk % 6 = 2) = false := by simp; omega
            have x3 : decide (qk % 6 = 3) = false := by simp; omega
            have x4 : decide (qk % 6 = 4) = false := by simp; omega
            have x5 : decide (qk % 6 = 5) = false := by simp; omega
            go_wp2_with (first
              | (with_reducible refine wl_load_cells rfl 110 (.tmp 39) bb (oo + i * 4) [.int .u8 qk, .int .i64 qy, .slice qA qn qc, .int .i64 qq] _ rfl rfl t4 Try.underlying110 rfl (szAct _ _ _ _ _ _) ?_)
              | ((with_reducible refine wl_alloc rfl 110 _ [.int .u8 0, .int .i64 0, .slice none 0 0, .int .i64 0] rfl zeroAct rfl ?_); intro g9 w4 r9 p9 l9 b9)
              | ((with_reducible refine wl_store_row rfl 110 (.tmp 8) (.tmp 40) g9 110 _ [.int .u8 qk, .int .i64 qy, .slice qA qn qc, .int .i64 qq] rfl rfl rfl r9 (szAct _ _ _ _ _ _) rfl (one_act _ _ _ _ _ _) ?_); intro w5 r10 o10; have k0 := r10.cell (j := 0) rfl; have k1 := r10.cell (j := 1) rfl; have k2 := r10.cell (j := 2) rfl; have k3 := r10.cell (j := 3) rfl))
            have bA : Below wr.heap.size wr w5 := b9.trans (o10.below p9)
            have hn9 : g9 ∉ nblocks gw nv ls := fun hk2 => by have := (HD.out.1.net.nlt g9 hk2).2; omega
            have hq9 : g9 ∉ rblocks gr gb rs := fun hk2 => by have := (HD.out.1.ref.lt g9 hk2).2; omega
            have hD5 := HD.out.1.later bA
            have hS5 := HD.out.2
            have B5 : Below B w w5 := hBr.trans (bA.mono hBs)
            have hB5 : B ≤ w5.heap.size := Nat.le_trans hBs bA.size
            have hx5 : Bs w5 B qA qn qx := (hBe.symm ▸ hx : Bs wr B qA qn qx).below (bA.mono hBs)
            obtain ⟨er, LS, RS, hLR, hSN, hSR⟩ := send2_any (T9 := 110) (vs9 := [.int .u8 qk, .int .i64 qy, .slice qA qn qc, .int .i64 qq]) hB5 hD5 hS5 hn9 hq9 qy qA qn qc qx hx5 hsh
            have HSN := hide hSN
            have HSR := hide hSR
            have HLR := hide hLR
            clear hSN hSR hLR
            have HD5 := hide hD5
            clear HD r9 p9 l9 b9 o10 bA t4 hBr hBs hx
            clear hn9 hq9 hD5 hS5 hx5
            rename_i K5 hK5 z2 z3 z4 z5
            clear z2 z3 z4 z5
            refine wp_region_valsS [5, 11] (SPs gw gr g9 qA qn qc qk qy qq er) (DJ w5 B gw nv ls gr gb rs 110 g9 [.int .u8 qk, .int .i64 qy, .slice qA qn qc, .int .i64 qq] LS RS) (by kernel_rfl) (by kernel_rfl) (by kernel_rfl) (by kernel_rfl) ?ini5 ?obs5 ?he5
            case ini5 => exact ⟨(Below.refl _ _).drew, r10, ls, rs, HD5.out.later (Below.refl _ _).drew, fun _ => rfl, fun h0 => absurd (show false = true from h0) (by decide), fun _ => rfl, fun h0 => absurd (show false = true from h0) (by decide)⟩
            case obs5 =>
              refine ⟨?_, ?_, ?_, ?_, ?_, ?_, ?_, ?_, ?_, ?_, ?_, ?_, ?_, ?_, trivial⟩
              · refine .inl ⟨.inl rfl, ?_⟩
                exact .inl ⟨by kernel_rfl, fun L a1 w1 n h => ⟨_, rfl, run_move (.tmp 5) rfl (h.var n 5 (by kernel_rfl))⟩⟩
              · refine .inl ⟨.inl rfl, ?_⟩
                refine .inl ⟨by kernel_rfl, fun L a1 w1 n h => ⟨.pointer (some ⟨g9, 1, none⟩), rfl, ?_⟩⟩
                have e0 : a1.eval (.tmp 8) = _ := h.var n 8 (by kernel_rfl)
                unfold execOp
                simp only [e0]
                go_simp
              · refine .inl ⟨.inl rfl, ?_⟩
                exact .inl ⟨by kernel_rfl, fun L a1 w1 n h => ⟨_, rfl, run_loadA 3 (.tmp 45) ⟨g9, 1, none⟩ rfl Try.isAgg3 (h.dep n 1 45 (by kernel_rfl) rfl) ((h.inv.2.1).cell (j := 1) (v := .int .i64 qy) rfl)⟩⟩
              · refine .inl ⟨.inl rfl, ?_⟩
                refine .inl ⟨by kernel_rfl, fun L a1 w1 n h => ⟨.pointer (some ⟨g9, 2, none⟩), rfl, ?_⟩⟩
                have e0 : a1.eval (.tmp 8) = _ := h.var n 8 (by kernel_rfl)
                unfold execOp
                simp only [e0]
                go_simp
              · refine .inl ⟨.inl rfl, ?_⟩
                exact .inl ⟨by kernel_rfl, fun L a1 w1 n h => ⟨_, rfl, run_loadA 35 (.tmp 47) ⟨g9, 2, none⟩ rfl Try.isAgg35 (h.dep n 3 47 (by kernel_rfl) rfl) ((h.inv.2.1).cell (j := 2) (v := .slice qA qn qc) rfl)⟩⟩
              · refine .inl ⟨.inl rfl, ?_⟩
                refine .inr fun L a1 w1 n h K hK => ?_
                have no : L.getD 5 false = false := n.not_yet
                obtain ⟨d1, d2, ls1, rs1, d3, d4, d5, d6, d7⟩ := h.inv
                rw [d4 ((bits_at rfl).trans no)] at d3
                have y0 : a1.eval (.tmp 44) = ptr gw := h.dep n 0 44 (by kernel_rfl) rfl
                have y1 : a1.eval (.tmp 46) = .int .i64 qy := h.dep n 2 46 (by kernel_rfl) rfl
                have y2 : a1.eval (.tmp 48) = .slice qA qn qc := h.dep n 4 48 (by kernel_rfl) rfl
                refine st_call 64 _ _ #[ptr gw, .int .i64 qy, .slice qA qn qc] rfl Try.call64 ?_ (HSN.out w1 rs1 d1 d3 d2) ?_
                · simp only [List.map_toArray, List.map_cons, List.map_nil, y0, y1, y2]
                · rintro e w3 ⟨rfl, b9, d8, l2, d9, D9⟩
                  exact ⟨_, rfl, hK _ w3 rfl ⟨d1.trans b9, d8, l2, rs1, D9, fun h0 => absurd (show true = false from h0) (by decide), fun _ => d9, fun h0 => d6 h0, fun h0 => d7 h0⟩⟩
              · refine .inl ⟨.inl rfl, ?_⟩
                exact .inl ⟨by kernel_rfl, fun L a1 w1 n h => ⟨_, rfl, run_move (.tmp 6) rfl (h.var n 6 (by kernel_rfl))⟩⟩
              · refine .inl ⟨.inl rfl, ?_⟩
                refine .inl ⟨by kernel_rfl, fun L a1 w1 n h => ⟨.pointer (some ⟨g9, 1, none⟩), rfl, ?_⟩⟩
                have e0 : a1.eval (.tmp 8) = _ := h.var n 8 (by kernel_rfl)
                unfold execOp
                simp only [e0]
                go_simp
              · refine .inl ⟨.inl rfl, ?_⟩
                exact .inl ⟨by kernel_rfl, fun L a1 w1 n h => ⟨_, rfl, run_loadA 3 (.tmp 51) ⟨g9, 1, none⟩ rfl Try.isAgg3 (h.dep n 7 51 (by kernel_rfl) rfl) ((h.inv.2.1).cell (j := 1) (v := .int .i64 qy) rfl)⟩⟩
              · refine .inl ⟨.inl rfl, ?_⟩
                refine .inl ⟨by kernel_rfl, fun L a1 w1 n h => ⟨.pointer (some ⟨g9, 2, none⟩), rfl, ?_⟩⟩
                have e0 : a1.eval (.tmp 8) = _ := h.var n 8 (by kernel_rfl)
                unfold execOp
                simp only [e0]
                go_simp
              · refine .inl ⟨.inl rfl, ?_⟩
                exact .inl ⟨by kernel_rfl, fun L a1 w1 n h => ⟨_, rfl, run_loadA 35 (.tmp 53) ⟨g9, 2, none⟩ rfl Try.isAgg35 (h.dep n 9 53 (by kernel_rfl) rfl) ((h.inv.2.1).cell (j := 2) (v := .slice qA qn qc) rfl)⟩⟩
              · refine .inl ⟨.inl rfl, ?_⟩
                refine .inr fun L a1 w1 n h K hK => ?_
                have no : L.getD 11 false = false := n.not_yet
                obtain ⟨d1, d2, ls1, rs1, d3, d4, d5, d6, d7⟩ := h.inv
                rw [d6 ((bits_at rfl).trans no)] at d3
                have y0 : a1.eval (.tmp 50) = ptr gr := h.dep n 6 50 (by kernel_rfl) rfl
                have y1 : a1.eval (.tmp 52) = .int .i64 qy := h.dep n 8 52 (by kernel_rfl) rfl
                have y2 : a1.eval (.tmp 54) = .slice qA qn qc := h.dep n 10 54 (by kernel_rfl) rfl
                refine st_call 65 _ _ #[ptr gr, .int .i64 qy, .slice qA qn qc] rfl Try.call65 ?_ (HSR.out w1 ls1 d1 d3 d2) ?_
                · simp only [List.map_toArray, List.map_cons, List.map_nil, y0, y1, y2]
                · rintro e w3 ⟨rfl, b9, d8, l2, d9, D9⟩
                  exact ⟨_, rfl, hK _ w3 rfl ⟨d1.trans b9, d8, ls1, l2, D9, fun h0 => d4 h0, fun h0 => d5 h0, fun h0 => absurd (show true = false from h0) (by decide), fun _ => d9⟩⟩
              · refine .inl ⟨.inl rfl, ?_⟩
                exact .inl ⟨by kernel_rfl, fun L a1 w1 n h => ⟨_, rfl, run_assign (.tmp 49) rfl (h.dep n 5 49 (by kernel_rfl) rfl)⟩⟩
              · refine .inl ⟨.inl rfl, ?_⟩
                exact .inl ⟨by kernel_rfl, fun L a1 w1 n h => ⟨_, rfl, run_assign (.tmp 55) rfl (h.dep n 11 55 (by kernel_rfl) rfl)⟩⟩
            case he5 =>
              intro V w6 hV5 hJ
              have z12 : V 12 = .int .i64 er := hV5 12 11 rfl
              have z13 : V 13 = .int .i64 er := hV5 13 12 rfl
              obtain ⟨b6, hr9, ls1, rs1, hD6, _, hl1, _, hr1⟩ := hJ
              have hS6 := HLR.out ls1 rs1 (hl1 rfl) (hr1 rfl)
              have Bf : Below B w w6 := B5.trans b6
              have hF := fin_nil (Nat.le_trans hB5 b6.size) hD6 hS6
              clear hl1 hr1 hV5 HSN HSR HLR HD5 hD6 hS6 b6 B5 r10
              simp only [putOps, List.setIfInBounds_toArray, List.set_cons_succ, List.set_cons_zero, Nat.reduceAdd]
              rw [z12, z13]
              refine hK5 _ _ ?_
              clear z12 z13
              obtain ⟨ls2, rs2, T, xs, hS2, hBT, hTw, hDuo, hrow9, hb1, hb2, hn300⟩ := hF
              obtain ⟨n1, n2, hC⟩ := counts_any (hDuo w6 (Below.refl _ _)) hS2 qy
              have HC := hide hC
              have HDuo := hide (And.intro hDuo hS2)
              clear hC hDuo hS2
              go_wp2_with fail
              rename_i K6 hK6
              refine wp_region_valsS [2, 13, 17, 22] (SPq gw gr g9 qA qn qc qk qy qq (none : Option Addr) 0 0 (none : Option Addr) 0 0 er n1 n2) (JF w6 [2, 13, 17, 22] FNoW) (by kernel_rfl) (by kernel_rfl) (by kernel_rfl) (by kernel_rfl) (JF.start _) ?obsE ?heE
              case obsE =>
                refine ⟨?_, ?_, ?_, ?_, ?_, ?_, ?_, ?_, ?_, ?_, ?_, ?_, ?_, ?_, ?_, ?_, ?_, ?_, ?_, ?_, ?_, ?_, ?_, ?_, ?_, trivial⟩
                · refine .inl ⟨.inl rfl, ?_⟩
                  exact .inl ⟨by kernel_rfl, fun L a1 w1 n h => ⟨_, rfl, run_move (.tmp 9) rfl (h.var n 9 (by kernel_rfl))⟩⟩
                · refine .inl ⟨.inl rfl, ?_⟩
                  exact .inl ⟨by kernel_rfl, fun L a1 w1 n h => ⟨_, rfl, run_move (.tmp 10) rfl (h.var n 10 (by kernel_rfl))⟩⟩
                · refine .inl ⟨.inl rfl, ?_⟩
                  refine .inr fun L a1 w1 n h K hK => ?_
                  have e0 : a1.eval (.tmp 106) = .slice (none : Option Addr) 0 0 := h.dep n 0 106 (by kernel_rfl) rfl
                  have e1 : a1.eval (.tmp 107) = .slice (none : Option Addr) 0 0 := h.dep n 1 107 (by kernel_rfl) rfl
                  refine JF.call (FNoW_mono ) h hK 108 rfl 40 _ _ #[.slice (none : Option Addr) 0 0, .slice (none : Option Addr) 0 0] rfl Try.call40 ?_ (equal_both (none : Option Addr) (none : Option Addr) 0 0 0 0 xs w1 (hb1.later h.inv.1) (hb2.later h.inv.1)) ?_
                  · simp only [List.map_toArray, List.map_cons, List.map_nil, e0, e1]
                  · rintro e w3 ⟨rfl, rfl⟩
                    exact ⟨_, rfl, rfl, trivial, (Below.refl _ _)⟩
                · refine .inl ⟨.inl rfl, ?_⟩
                  exact .inl ⟨by kernel_rfl, fun L a1 w1 n h => ⟨_, rfl, run_notB (.tmp 108) true rfl (h.dep n 2 108 (by kernel_rfl) rfl) rfl⟩⟩
                · refine .inl ⟨.inl rfl, ?_⟩
                  exact .inl ⟨by kernel_rfl, fun L a1 w1 n h => ⟨_, rfl, run_move (.tmp 109) rfl (h.dep n 3 109 (by kernel_rfl) rfl)⟩⟩
                · refine .inl ⟨.inr ⟨4, false, 110, rfl, by kernel_rfl, rfl, by simp, fun v h => h⟩, ?_⟩
                  exact .inl ⟨by kernel_rfl, fun L a1 w1 n h => ⟨_, rfl, run_move (.tmp 11) rfl (h.var n 11 (by kernel_rfl))⟩⟩
                · refine .inl ⟨.inr ⟨4, false, 110, rfl, by kernel_rfl, rfl, by simp, fun v h => h⟩, ?_⟩
                  exact .inl ⟨by kernel_rfl, fun L a1 w1 n h => ⟨_, rfl, run_move (.tmp 12) rfl (h.var n 12 (by kernel_rfl))⟩⟩
                · refine .inl ⟨.inr ⟨4, false, 110, rfl, by kernel_rfl, rfl, by simp, fun v h => h⟩, ?_⟩
                  exact .inl ⟨by kernel_rfl, fun L a1 w1 n h => ⟨_, rfl, run_neqI (.tmp 111) (.tmp 112) rfl (h.dep n 5 111 (by kernel_rfl) rfl) (h.dep n 6 112 (by kernel_rfl) rfl) (by simp)⟩⟩
                · refine .inl ⟨.inl rfl, ?_⟩
                  exact .inl ⟨by kernel_rfl, fun L a1 w1 n h => ⟨_, rfl, run_pickF (.tmp 110) _ _ rfl (h.dep n 4 110 (by kernel_rfl) rfl) (h.dep n 7 113 (by kernel_rfl) rfl)⟩⟩
                · refine .inl ⟨.inl rfl, ?_⟩
                  exact .inl ⟨by kernel_rfl, fun L a1 w1 n h => ⟨_, rfl, run_move (.tmp 114) rfl (h.dep n 8 114 (by kernel_rfl) rfl)⟩⟩
                · refine .inl ⟨.inr ⟨9, false, 115, rfl, by kernel_rfl, rfl, by simp, fun v h => h⟩, ?_⟩
                  exact .inl ⟨by kernel_rfl, fun L a1 w1 n h => ⟨_, rfl, run_move (.tmp 5) rfl (h.var n 5 (by kernel_rfl))⟩⟩
                · refine .inl ⟨.inr ⟨9, false, 115, rfl, by kernel_rfl, rfl, by simp, fun v h => h⟩, ?_⟩
                  refine .inl ⟨by kernel_rfl, fun L a1 w1 n h => ⟨.pointer (some ⟨g9, 1, none⟩), rfl, ?_⟩⟩
                  have e0 : a1.eval (.tmp 8) = _ := h.var n 8 (by kernel_rfl)
                  unfold execOp
                  simp only [e0]
                  go_simp
                · refine .inl ⟨.inr ⟨9, false, 115, rfl, by kernel_rfl, rfl, by simp, fun v h => h⟩, ?_⟩
                  exact .inl ⟨by kernel_rfl, fun L a1 w1 n h => ⟨_, rfl, run_loadA 3 (.tmp 117) ⟨g9, 1, none⟩ rfl Try.isAgg3 (h.dep n 11 117 (by kernel_rfl) rfl) ((Row.later hr9 h.inv.1).cell (j := 1) (v := .int .i64 qy) rfl)⟩⟩
                · refine .inl ⟨.inr ⟨9, false, 115, rfl, by kernel_rfl, rfl, by simp, fun v h => h⟩, ?_⟩
                  refine .inr fun L a1 w1 n h K hK => ?_
                  have e0 : a1.eval (.tmp 116) = ptr gw := h.dep n 10 116 (by kernel_rfl) rfl
                  have e1 : a1.eval (.tmp 118) = .int .i64 qy := h.dep n 12 118 (by kernel_rfl) rfl
                  refine JF.call (FNoW_mono ) h hK 119 rfl 66 _ _ #[ptr gw, .int .i64 qy] rfl Try.call66 ?_ ((HC.out w1 h.inv.1).1) ?_
                  · simp only [List.map_toArray, List.map_cons, List.map_nil, e0, e1]
                  · rintro e w3 ⟨rfl, rfl⟩
                    exact ⟨_, rfl, rfl, trivial, (Below.refl _ _)⟩
                · refine .inl ⟨.inr ⟨9, false, 115, rfl, by kernel_rfl, rfl, by simp, fun v h => h⟩, ?_⟩
                  exact .inl ⟨by kernel_rfl, fun L a1 w1 n h => ⟨_, rfl, run_move (.tmp 5) rfl (h.var n 5 (by kernel_rfl))⟩⟩
                · refine .inl ⟨.inr ⟨9, false, 115, rfl, by kernel_rfl, rfl, by simp, fun v h => h⟩, ?_⟩
                  refine .inl ⟨by kernel_rfl, fun L a1 w1 n h => ⟨.pointer (some ⟨g9, 1, none⟩), rfl, ?_⟩⟩
                  have e0 : a1.eval (.tmp 8) = _ := h.var n 8 (by kernel_rfl)
                  unfold execOp
                  simp only [e0]
                  go_simp
                · refine .inl ⟨.inr ⟨9, false, 115, rfl, by kernel_rfl, rfl, by simp, fun v h => h⟩, ?_⟩
                  exact .inl ⟨by kernel_rfl, fun L a1 w1 n h => ⟨_, rfl, run_loadA 3 (.tmp 121) ⟨g9, 1, none⟩ rfl Try.isAgg3 (h.dep n 15 121 (by kernel_rfl) rfl) ((Row.later hr9 h.inv.1).cell (j := 1) (v := .int .i64 qy) rfl)⟩⟩
                · refine .inl ⟨.inr ⟨9, false, 115, rfl, by kernel_rfl, rfl, by simp, fun v h => h⟩, ?_⟩
                  refine .inr fun L a1 w1 n h K hK => ?_
                  have e0 : a1.eval (.tmp 120) = ptr gw := h.dep n 14 120 (by kernel_rfl) rfl
                  have e1 : a1.eval (.tmp 122) = .int .i64 qy := h.dep n 16 122 (by kernel_rfl) rfl
                  refine JF.call (FNoW_mono ) h hK 123 rfl 67 _ _ #[ptr gw, .int .i64 qy] rfl Try.call67 ?_ ((HC.out w1 h.inv.1).2.1) ?_
                  · simp only [List.map_toArray, List.map_cons, List.map_nil, e0, e1]
                  · rintro e w3 ⟨rfl, rfl⟩
                    exact ⟨_, rfl, rfl, trivial, (Below.refl _ _)⟩
                · refine .inl ⟨.inr ⟨9, false, 115, rfl, by kernel_rfl, rfl, by simp, fun v h => h⟩, ?_⟩
                  exact .inl ⟨by kernel_rfl, fun L a1 w1 n h => ⟨_, rfl, run_buildX 119 [(0, .tmp 119), (1, .tmp 123)] rfl _ (by simp only [List.map_cons, List.map_nil]; rw [show a1.eval (.tmp 119) = .int .i64 n1 from (h.dep n 13 119 (by kernel_rfl) rfl), show a1.eval (.tmp 123) = .int .i64 n2 from (h.dep n 17 123 (by kernel_rfl) rfl)]) _ (built2 n1 n2)⟩⟩
                · refine .inl ⟨.inr ⟨9, false, 115, rfl, by kernel_rfl, rfl, by simp, fun v h => h⟩, ?_⟩
                  exact .inl ⟨by kernel_rfl, fun L a1 w1 n h => ⟨_, rfl, run_move (.tmp 6) rfl (h.var n 6 (by kernel_rfl))⟩⟩
                · refine .inl ⟨.inr ⟨9, false, 115, rfl, by kernel_rfl, rfl, by simp, fun v h => h⟩, ?_⟩
                  refine .inl ⟨by kernel_rfl, fun L a1 w1 n h => ⟨.pointer (some ⟨g9, 1, none⟩), rfl, ?_⟩⟩
                  have e0 : a1.eval (.tmp 8) = _ := h.var n 8 (by kernel_rfl)
                  unfold execOp
                  simp only [e0]
                  go_simp
                · refine .inl ⟨.inr ⟨9, false, 115, rfl, by kernel_rfl, rfl, by simp, fun v h => h⟩, ?_⟩
                  exact .inl ⟨by kernel_rfl, fun L a1 w1 n h => ⟨_, rfl, run_loadA 3 (.tmp 126) ⟨g9, 1, none⟩ rfl Try.isAgg3 (h.dep n 20 126 (by kernel_rfl) rfl) ((Row.later hr9 h.inv.1).cell (j := 1) (v := .int .i64 qy) rfl)⟩⟩
                · refine .inl ⟨.inr ⟨9, false, 115, rfl, by kernel_rfl, rfl, by simp, fun v h => h⟩, ?_⟩
                  refine .inr fun L a1 w1 n h K hK => ?_
                  have e0 : a1.eval (.tmp 125) = ptr gr := h.dep n 19 125 (by kernel_rfl) rfl
                  have e1 : a1.eval (.tmp 127) = .int .i64 qy := h.dep n 21 127 (by kernel_rfl) rfl
                  refine JF.call (FNoW_mono ) h hK 128 rfl 68 _ _ #[ptr gr, .int .i64 qy] rfl Try.call68 ?_ ((HC.out w1 h.inv.1).2.2) ?_
                  · simp only [List.map_toArray, List.map_cons, List.map_nil, e0, e1]
                  · rintro e w3 ⟨rfl, b9⟩
                    exact ⟨_, rfl, rfl, trivial, b9⟩
                · refine .inl ⟨.inr ⟨9, false, 115, rfl, by kernel_rfl, rfl, by simp, fun v h => h⟩, ?_⟩
                  exact .inl ⟨by kernel_rfl, fun L a1 w1 n h => ⟨_, rfl, run_neqF (.tmp 124) (.tmp 128) rfl Try.underlying119 (Classical.choose_spec int_info) (by kernel_rfl) Try.underlying3 Try.isAgg3 [n1, n2] (h.dep n 18 124 (by kernel_rfl) rfl) (h.dep n 22 128 (by kernel_rfl) rfl) rfl (by kernel_rfl)⟩⟩
                · refine .inl ⟨.inl rfl, ?_⟩
                  exact .inl ⟨by kernel_rfl, fun L a1 w1 n h => ⟨_, rfl, run_pickF (.tmp 115) _ _ rfl (h.dep n 9 115 (by kernel_rfl) rfl) (h.dep n 23 129 (by kernel_rfl) rfl)⟩⟩
              case heE =>
                intro V w9 hV2 hJ
                have hz : V 24 = .bool false := hV2 24 130 rfl
                have b9 : Below w6.heap.size w6 w9 := hJ.1
                clear hV2 hJ hr9 HC hb1 hb2
                simp only [putOps, List.setIfInBounds_toArray, List.set_cons_succ, List.set_cons_zero, Nat.reduceAdd]
                rw [hz]
                refine hK6 _ _ ?_
                clear hz
                have bT9 : Below T w6 w9 := b9.mono hTw
                have bB9 : Below B w w9 := Bf.trans (bT9.mono hBT)
                clear hrow9 b9 Bf hTw
                go_wp2_with fail
                go_loopw [13] (fun kv wq => kv = .int .i64 0 ∧ wq = w9) (fun kv _ => 0)
                case atStart => exact ⟨rfl, rfl⟩
                case round =>
                  obtain ⟨rfl, rfl⟩ := hrel
                  go_wp2_with fail
                  go_roundw
                  case rel => exact ⟨i + 1, ls2, rs2, by omega, by go_num, HDuo.out.1 _ bT9, HDuo.out.2, bB9⟩
                  case measure => simp [intOf]; omega
        · obtain rfl : i = m := by omega
          clear hD hS
          go_wp2_with fail
          refine (awake_any wr).mono ?_
          rintro en w3 ⟨rfl, b3⟩
          go_wp2_with fail
          go_ret
          exact ⟨rfl, hBe ▸ hBr.trans (b3.mono hBs)⟩
end Go.Proofs.Ytlihoijbfffjcaa
