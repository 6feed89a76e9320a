/-
  The cell: the law CellRises: contract. Own work.
-/
import Derived.Test.YtlihoijbfffjcaaCellJ
namespace Go.Proofs.Ytlihoijbfffjcaa
open Go.RowKit
set_option linter.unusedVariables false
set_option linter.unusedSimpArgs false
/-- What the state keeps to, with the pin. -/
def St.fine (s : St) (m1 m2 : Int) : Prop := s.ok m1 ∧ s.a ≤ s.life ∧ s.b ≤ m2
theorem less_iff (x1 x2 y1 y2 : Int) : lessB x1 x2 y1 y2 = true ↔ (x1 = y1 ∧ x2 < y2) ∨ x1 < y1 := by
  rw [← lessB_or]; simp
  omega
theorem less_no {x1 x2 y1 y2 : Int} (h : ¬ ((x1 = y1 ∧ x2 < y2) ∨ x1 < y1)) : lessB x1 x2 y1 y2 = false := by
  cases hl : lessB x1 x2 y1 y2 with
  | false => rfl
  | true => exact absurd ((less_iff _ _ _ _).1 hl) h
/-- How a call leaves the cell. -/
structure Rose (s s' : St) (e m1 m2 : Int) : Prop where
  life : s.life ≤ s'.life
  less : lessB s'.a s'.b s.a s.b = false
  same : e ≠ 0 → s'.life = s.life ∧ s'.a = s.a ∧ s'.b = s.b
  fine : s'.fine m1 m2
theorem rose_birth {s : St} {m1 m2 : Int} (h : s.fine m1 m2) : Rose s (s.birth m1) (s.birthV m1).2 m1 m2 := by
  have hok := St.ok_birth h.1
  obtain ⟨⟨h1, h2, h3⟩, h4, h5⟩ := h
  unfold St.birthV St.birth at *
  by_cases hm : m1 ≤ s.life
  · rw [if_pos hm] at hok ⊢
    rw [if_pos hm]
    exact ⟨Int.le_refl _, lessB_self _ _, fun _ => ⟨rfl, rfl, rfl⟩, hok, h4, h5⟩
  · rw [if_neg hm] at hok ⊢
    rw [if_neg hm]
    have hL : birL (actE s.on s.fuse) s.life = s.life ∨ birL (actE s.on s.fuse) s.life = s.life + 1 := by
      unfold birL; split
      · exact .inr rfl
      · exact .inl rfl
    refine ⟨?_, lessB_self _ _, fun he => ⟨?_, rfl, rfl⟩, hok, ?_, h5⟩
    · show s.life ≤ birL _ _; omega
    · show birL _ _ = s.life
      unfold birV at he; unfold birL
      split at he
      · exact absurd rfl he
      · rename_i h0; rw [if_neg h0]
    · show s.a ≤ birL _ _; omega
theorem rose_raise {s : St} {m1 m2 p q : Int} (h : s.fine m1 m2) : Rose s (s.raise m2 p q) (s.raiseV m2 p q) m1 m2 := by
  have hok := St.ok_raise (m2 := m2) (p := p) (q := q) h.1
  obtain ⟨⟨h1, h2, h3⟩, h4, h5⟩ := h
  unfold St.raiseV St.raise at *
  by_cases hv : refV m2 s.life s.a s.b p q = 0
  · rw [if_pos hv] at hok ⊢
    rw [if_pos hv]
    obtain ⟨z1, z2, z3, z4, z5⟩ := ref_zero hv
    simp at z1 z2 z4 z5
    have z3' := (less_iff _ _ _ _).1 z3
    unfold raiP at *
    rcases act08 s.on s.fuse with hE | hE
    · rw [hE] at hok ⊢
      exact ⟨Int.le_refl _, less_no (by simp; omega), fun he => absurd rfl he, hok, z4, z5⟩
    · rw [hE] at hok ⊢
      exact ⟨Int.le_refl _, by simpa using lessB_self _ _, fun he => ⟨rfl, by simp, by simp⟩, hok, h4, h5⟩
  · rw [if_neg hv] at hok ⊢
    rw [if_neg hv]
    exact ⟨Int.le_refl _, lessB_self _ _, fun _ => ⟨rfl, rfl, rfl⟩, hok, h4, h5⟩
theorem fieldPin0 (a b : Int) (w : World) : (Instr.field 83 (pin a b) 0).run Try.prog w = .ok (.int .i64 a) w := by kernel_rfl
theorem fieldPin1 (a b : Int) (w : World) : (Instr.field 83 (pin a b) 1).run Try.prog w = .ok (.int .i64 b) w := by kernel_rfl
def SA (gc g9 : Nat) (life0 a0 b0 ev : Int) (s : St) (opn : Nat) (v : Value) : Prop :=
  match opn with
  | 0 | 5 => v = ptr gc
  | 1 => v = .int .i64 s.life
  | 2 => v = .int .i64 life0
  | 3 | 4 | 8 | 9 | 10 | 12 | 13 | 24 | 25 => v = .bool false
  | 6 => v = pin s.a s.b
  | 7 => v = .agg [.int .i64 a0, .int .i64 b0].toArray
  | 11 => v = .int .i64 ev
  | 14 | 15 | 16 | 17 | 18 | 19 | 20 | 21 | 22 | 23 => v = undef
  | _ => True

def SB (gc g9 : Nat) (life0 a0 b0 ev : Int) (s : St) (opn : Nat) (v : Value) : Prop :=
  match opn with
  | 0 | 5 | 14 | 19 => v = ptr gc
  | 1 | 15 => v = .int .i64 s.life
  | 2 | 16 => v = .int .i64 life0
  | 3 | 4 | 8 | 9 | 10 | 17 | 18 | 22 | 23 | 24 | 25 => v = .bool false
  | 6 | 20 => v = pin s.a s.b
  | 7 | 21 => v = .agg [.int .i64 a0, .int .i64 b0].toArray
  | 11 => v = .int .i64 ev
  | 12 | 13 => v = .bool true
  | _ => True

def SC (gc g2 : Nat) (n1 n2 n3 n4 n5 n6 n7 : Int) (s : St) (opn : Nat) (v : Value) : Prop :=
  match opn with
  | 0 | 7 | 16 | 19 => v = ptr gc
  | 1 | 20 => v = .int .i64 s.life
  | 2 => v = .pointer (some ⟨g2, 4, none⟩)
  | 3 => v = .int .i64 n5
  | 4 => v = .int .i64 (bnd n5)
  | 5 | 6 | 13 | 14 | 15 | 21 | 22 => v = .bool false
  | 8 | 17 => v = pin s.a s.b
  | 9 => v = .int .i64 s.b
  | 10 => v = .pointer (some ⟨g2, 2, none⟩)
  | 11 => v = .int .i64 n3
  | 12 => v = .int .i64 (bnd n3)
  | 18 => v = .int .i64 s.a
  | _ => True

set_option maxRecDepth 100000 in
set_option maxHeartbeats 8000000 in
theorem cellRises_any (n1 n2 n3 n4 n5 n6 n7 : Int) (A : Option Addr) (k cap : Nat) (fk fp fq fm : Nat → Int) (w : World) (hl : Acts w w.heap.size A k fk fp fq fm)
    (hk0 : ∀ j, j < k → 0 ≤ fk j ∧ fk j < 256) (hp0 : ∀ j, j < k → isI (fp j)) (hq0 : ∀ j, j < k → isI (fq j)) (hm0 : ∀ j, j < k → isI (fm j)) :
    Calls Try.prog 10 #[.agg (bdsL n1 n2 n3 n4 n5 n6 n7).toArray, .slice A k cap] w fun e w' => e = .returned (.bool true) ∧ Below w.heap.size w w' := by
  by_cases hlong : (60 : Int) < (k : Int)
  · have hd : decide ((60 : Int) < (k : Int)) = true := by simp; omega
    go_enter Try.func10, Try.ntmps10
    go_wp2_with (first
      | (with_reducible refine wl_box rfl 77 (.tmp 0) _ (bdsL n1 n2 n3 n4 n5 n6 n7) rfl rfl rfl ?_; intro g2 w2 r2 p2 l2 b2))
    refine (awake_any w2).mono ?_
    rintro e w3 ⟨rfl, b3⟩
    go_wp2
    go_ret
    exact ⟨rfl, b2.trans (b3.mono b2.size)⟩
  · have hd : decide ((60 : Int) < (k : Int)) = false := by simp; omega
    have hk60 : k ≤ 60 := by omega
    go_enter Try.func10, Try.ntmps10
    go_wp2_with (first
      | (with_reducible refine wl_box rfl 77 (.tmp 0) _ (bdsL n1 n2 n3 n4 n5 n6 n7) rfl rfl rfl ?_; intro g2 wa r2 p2 l2 ba))
    refine (plug_any wa).mono ?_
    rintro e wb ⟨gP, gp, rfl, hPw, hPl, q1, q2, hne, bb'⟩
    have r2 := Row.later r2 bb'
    have Bb := ba.trans (bb'.mono ba.size)
    go_wp2_with (first
      | (with_reducible refine wl_load_row rfl 77 (.tmp 2) g2 77 (bdsL n1 n2 n3 n4 n5 n6 n7) _ rfl rfl r2 Try.underlying77 rfl (szBds _ _ _ _ _ _ _) ?_))
    refine (new_any (some ⟨gP, 0, none⟩) n1 n2 n3 n4 n5 n6 n7 wb).mono ?_
    rintro e wd ⟨gc, rfl, hCl, q4, bd⟩
    have r2 := Row.later r2 bd
    have hPw := Row.later hPw bd
    have hPl := Row.later hPl bd
    have Bd := Bb.trans (bd.mono Bb.size)
    have hnP : gP ≠ gp ∧ gP ≠ gc ∧ gc ≠ gp := ⟨row_ne hPw hPl (by decide), row_ne hPw hCl (by decide), row_ne hCl hPl (by decide)⟩
    have hgp : w.heap.size ≤ gp := Nat.le_trans ba.size q2
    have hgc : w.heap.size ≤ gc := Nat.le_trans Bb.size q4
    have hS1 : ∀ j ∈ [gc, gp], w.heap.size ≤ j := by intro j hj; simp at hj; omega
    have n2' : g2 ∉ [gc, gp] := by simp; exact ⟨row_ne r2 hCl (by decide), row_ne r2 hPl (by decide)⟩
    obtain ⟨bl0, bl1⟩ := bnd_le n5
    obtain ⟨bm0, bm1⟩ := bnd_le n3
    have hSt : PSide wd gP gp gc (bnd n5) (bnd n3) ⟨true, -1, 0, 0, 0⟩ := ⟨hPw, hPl, hCl⟩
    have hOt : St.fine ⟨true, -1, 0, 0, 0⟩ (bnd n5) (bnd n3) := ⟨⟨(⟨by omega, by omega⟩ : isI (-1)), by simp, by simpa using bl0⟩, by simp, by simpa using bm0⟩
    clear hPw hPl hCl bl0 bl1 bm0 bm1 q1 q2 q4 ba bb' bd p2 l2 hne Bb
    go_wp2_with fail
    go_loopw [7] (fun iv wr => ∃ (i : Nat) (s : St), i ≤ k ∧ iv = .int .i64 i ∧ PSide wr gP gp gc (bnd n5) (bnd n3) s ∧ Row wr 77 g2 (bdsL n1 n2 n3 n4 n5 n6 n7) ∧ s.fine (bnd n5) (bnd n3) ∧ Below w.heap.size w wr) (fun iv _ => k - (intOf iv).toNat)
    case atStart => exact ⟨0, _, by omega, rfl, hSt, r2, hOt, Bd⟩
    case round =>
      clear hSt hOt Bd r2
      obtain ⟨i, s, hik, rfl, hP, r2, fine, hB⟩ := hrel
      by_cases hi : i < k
      · obtain ⟨bb, oo, rfl, hbb, hcc⟩ := hl (by omega)
        obtain ⟨d0, d1, d2, d3⟩ := hcc i hi
        obtain ⟨k0, k1⟩ := hk0 i hi
        have p0 := hp0 i hi
        have m0 := hm0 i hi
        generalize fk i = kd at *
        generalize fp i = p1 at *
        generalize fq i = p2 at *
        generalize fm i = nn at *
        clear hcc
        have hcase : kd % 5 = 0 ∨ kd % 5 = 3 ∨ kd % 5 = 4 ∨ (kd % 5 ≠ 0 ∧ kd % 5 ≠ 3 ∧ kd % 5 ≠ 4) := by omega
        rcases hcase with hk | hk | hk | hk
        · clear d1 d2 d3 p0 m0
          go_wp2_with fail
          refine (life_any wr gc _ _ _ _ _ _ _ hP.2.2).mono ?_
          rintro e wa' ⟨rfl, rfl⟩
          go_wp2_with fail
          refine (pin_any wr gc _ _ _ _ _ _ _ hP.2.2).mono ?_
          rintro e wb' ⟨rfl, bb2⟩
          have hP0 := hP.later bb2
          have r20 := Row.later r2 bb2
          have hBb := hB.trans (bb2.mono hB.size)
          clear hB hP r2
          go_wp2_with (first
            | ((with_reducible refine wl_alloc rfl 83 _ [.int .i64 0, .int .i64 0] rfl zeroPin rfl ?_); intro g9 wc' r90 p9 l9 bc2; have hP1 := hP0.later bc2; have r21 := Row.later r20 bc2; have hBc := hBb.trans (bc2.mono hBb.size); have p9' := Nat.le_trans hBb.size p9)
            | ((with_reducible refine wl_store_row rfl 83 (.tmp 9) (.tmp 28) g9 83 _ [.int .i64 s.a, .int .i64 s.b] rfl rfl rfl r90 (szPin _ _) rfl (one_pin _ _) ?_); intro wd' r9 o9; have r2 := r21.only o9 (row_ne r21 r90 (by decide)); have hP := hP1.buts (Buts.only (S := [g9]) o9 (by simp)) (by simp; exact row_ne hP1.1 r90 (by decide)) (by simp; exact row_ne hP1.2.1 r90 (by decide)) (by simp; exact row_ne hP1.2.2 r90 (by decide)); have hB := hBc.trans (o9.below p9'); have d0' := (hB.cell (p := ⟨bb, oo + i * 4, none⟩) hbb).trans d0))
          have c9 := row_ne r9 hP.2.2 (by decide)
          have e9 := row_ne r9 hP.2.1 (by decide)
          clear hP0 hP1 r20 r21 r90 hBb hBc
          refine (pBirth _ gP gp gc n5 (bnd n3) s hP fine.1 hnP).mono ?_
          rintro e we ⟨rfl, hP, be⟩
          have r9 := Row.buts r9 be (by simp; exact ⟨c9, e9⟩)
          have r2 := Row.buts r2 be n2'
          have Be := hB.trans (be.below hS1 hB.size)
          clear c9 e9 hB
          have ro : Rose s (s.birth (bnd n5)) ((s.birthV (bnd n5)).2) (bnd n5) (bnd n3) := rose_birth fine
          obtain ⟨hlf, hq2, hsame, hfine⟩ := ro
          generalize (s.birthV (bnd n5)).1 = v1 at *
          generalize (s.birthV (bnd n5)).2 = ev at *
          generalize s.birth (bnd n5) = s' at *
          generalize s.life = life0 at *
          generalize s.a = a0 at *
          generalize s.b = b0 at *
          generalize s' = s at *
          clear d0 d0' hk k0 k1
          have hq1 : decide (s.life < life0) = false := by simp; omega
          have hq5 : decide (bnd n5 < s.life) = false := by have := hfine.1.2.2; simp; omega
          have hq6 : decide (bnd n3 < s.b) = false := by have := hfine.2.2; simp; omega
          have hq7 : decide (s.life < s.a) = false := by have := hfine.2.1; simp; omega
          by_cases hev0 : ev = 0
          · have hev := hide (show decide (ev = 0) = !false by simp [hev0])
            clear hev0 hsame
            go_wp2_with fail
            rename_i K7 hK7
            refine wp_region_valsS [1, 6, 8] (SA gc g9 life0 a0 b0 ev s) (JF we [1, 6, 8] FNo) (by kernel_rfl) (by kernel_rfl) (by kernel_rfl) (by kernel_rfl) (JF.start _) ?obsSA ?heSA
            case obsSA =>
              refine ⟨?_, ?_, ?_, ?_, ?_, ?_, ?_, ?_, ?_, ?_, ?_, ?_, ?_, ?_, ?_, ?_, ?_, ?_, ?_, ?_, ?_, ?_, ?_, ?_, ?_, ?_, trivial⟩
              · refine .inl ⟨.inl rfl, ?_⟩
                exact .inl ⟨by kernel_rfl, fun L a1 w1 n h => ⟨_, rfl, run_move (.tmp 6) rfl (h.var n 6 (by kernel_rfl))⟩⟩
              · refine .inl ⟨.inl rfl, ?_⟩
                refine .inr fun L a1 w1 n h K hK => ?_
                have e0 : a1.eval (.tmp 62) = ptr gc := h.dep n 0 62 (by kernel_rfl) rfl
                refine JF.call (FNo_mono ) h hK 63 rfl 50 _ _ #[ptr gc] rfl Try.call50 ?_ (life_any w1 gc _ _ _ _ _ _ _ (Row.later hP.2.2 h.inv.1)) ?_
                · simp only [List.map_toArray, List.map_cons, List.map_nil, e0]
                · rintro e w3 ⟨rfl, rfl⟩
                  exact ⟨_, rfl, rfl, trivial, (Below.refl _ _)⟩
              · refine .inl ⟨.inl rfl, ?_⟩
                exact .inl ⟨by kernel_rfl, fun L a1 w1 n h => ⟨_, rfl, run_move (.tmp 8) rfl (h.var n 8 (by kernel_rfl))⟩⟩
              · refine .inl ⟨.inl rfl, ?_⟩
                exact .inl ⟨by kernel_rfl, fun L a1 w1 n h => ⟨_, rfl, run_lssI (.tmp 63) (.tmp 64) rfl (h.dep n 1 63 (by kernel_rfl) rfl) (h.dep n 2 64 (by kernel_rfl) rfl) hq1⟩⟩
              · refine .inl ⟨.inl rfl, ?_⟩
                exact .inl ⟨by kernel_rfl, fun L a1 w1 n h => ⟨_, rfl, run_move (.tmp 65) rfl (h.dep n 3 65 (by kernel_rfl) rfl)⟩⟩
              · refine .inl ⟨.inr ⟨4, false, 66, rfl, by kernel_rfl, rfl, by simp, fun v h => h⟩, ?_⟩
                exact .inl ⟨by kernel_rfl, fun L a1 w1 n h => ⟨_, rfl, run_move (.tmp 6) rfl (h.var n 6 (by kernel_rfl))⟩⟩
              · refine .inl ⟨.inr ⟨4, false, 66, rfl, by kernel_rfl, rfl, by simp, fun v h => h⟩, ?_⟩
                refine .inr fun L a1 w1 n h K hK => ?_
                have e0 : a1.eval (.tmp 67) = ptr gc := h.dep n 5 67 (by kernel_rfl) rfl
                refine JF.call (FNo_mono ) h hK 68 rfl 51 _ _ #[ptr gc] rfl Try.call51 ?_ (pin_any w1 gc _ _ _ _ _ _ _ (Row.later hP.2.2 h.inv.1)) ?_
                · simp only [List.map_toArray, List.map_cons, List.map_nil, e0]
                · rintro e w3 ⟨rfl, b9⟩
                  exact ⟨_, rfl, rfl, trivial, b9⟩
              · refine .inl ⟨.inr ⟨4, false, 66, rfl, by kernel_rfl, rfl, by simp, fun v h => h⟩, ?_⟩
                exact .inl ⟨by kernel_rfl, fun L a1 w1 n h => ⟨_, rfl, run_loadP 83 (.tmp 9) g9 0 83 [] [.int .i64 a0, .int .i64 b0] [] _ rfl (h.var n 9 (by kernel_rfl)) (Row.later r9 h.inv.1) rfl Try.underlying83 rfl (szPin _ _)⟩⟩
              · refine .inl ⟨.inr ⟨4, false, 66, rfl, by kernel_rfl, rfl, by simp, fun v h => h⟩, ?_⟩
                refine .inr fun L a1 w1 n h K hK => ?_
                have e0 : a1.eval (.tmp 68) = pin s.a s.b := h.dep n 6 68 (by kernel_rfl) rfl
                have e1 : a1.eval (.tmp 69) = pin a0 b0 := h.dep n 7 69 (by kernel_rfl) rfl
                refine JF.call (FNo_mono ) h hK 70 rfl 52 _ _ #[pin s.a s.b, pin a0 b0] rfl Try.call52 ?_ (less_any s.a s.b a0 b0 w1) ?_
                · simp only [List.map_toArray, List.map_cons, List.map_nil, e0, e1]
                · rintro e w3 ⟨rfl, b9⟩
                  exact ⟨_, rfl, congrArg Value.bool hq2, trivial, b9⟩
              · refine .inl ⟨.inl rfl, ?_⟩
                exact .inl ⟨by kernel_rfl, fun L a1 w1 n h => ⟨_, rfl, run_pickF (.tmp 66) _ _ rfl (h.dep n 4 66 (by kernel_rfl) rfl) (h.dep n 8 70 (by kernel_rfl) rfl)⟩⟩
              · refine .inl ⟨.inl rfl, ?_⟩
                exact .inl ⟨by kernel_rfl, fun L a1 w1 n h => ⟨_, rfl, run_move (.tmp 71) rfl (h.dep n 9 71 (by kernel_rfl) rfl)⟩⟩
              · refine .inl ⟨.inr ⟨10, false, 72, rfl, by kernel_rfl, rfl, by simp, fun v h => h⟩, ?_⟩
                exact .inl ⟨by kernel_rfl, fun L a1 w1 n h => ⟨_, rfl, run_move (.tmp 10) rfl (h.var n 10 (by kernel_rfl))⟩⟩
              · refine .inl ⟨.inr ⟨10, false, 72, rfl, by kernel_rfl, rfl, by simp, fun v h => h⟩, ?_⟩
                exact .inl ⟨by kernel_rfl, fun L a1 w1 n h => ⟨_, rfl, run_neqI (.tmp 73) (.const (.int .i64 0)) rfl (h.dep n 11 73 (by kernel_rfl) rfl) rfl hev.out⟩⟩
              · refine .inl ⟨.inr ⟨10, false, 72, rfl, by kernel_rfl, rfl, by simp, fun v h => h⟩, ?_⟩
                exact .inl ⟨by kernel_rfl, fun L a1 w1 n h => ⟨_, rfl, run_move (.tmp 74) rfl (h.dep n 12 74 (by kernel_rfl) rfl)⟩⟩
              · exact .inr ⟨⟨13, true, 75, rfl, by kernel_rfl, rfl, by simp, fun v h => by rw [show v = .bool false from h]; first | exact ne_tf | exact ne_ft | exact ne_undef _⟩, by kernel_rfl, rfl⟩
              · exact .inr ⟨⟨13, true, 75, rfl, by kernel_rfl, rfl, by simp, fun v h => by rw [show v = .bool false from h]; first | exact ne_tf | exact ne_ft | exact ne_undef _⟩, by kernel_rfl, rfl⟩
              · exact .inr ⟨⟨13, true, 75, rfl, by kernel_rfl, rfl, by simp, fun v h => by rw [show v = .bool false from h]; first | exact ne_tf | exact ne_ft | exact ne_undef _⟩, by kernel_rfl, rfl⟩
              · exact .inr ⟨⟨13, true, 75, rfl, by kernel_rfl, rfl, by simp, fun v h => by rw [show v = .bool false from h]; first | exact ne_tf | exact ne_ft | exact ne_undef _⟩, by kernel_rfl, rfl⟩
              · exact .inr ⟨⟨13, true, 75, rfl, by kernel_rfl, rfl, by simp, fun v h => by rw [show v = .bool false from h]; first | exact ne_tf | exact ne_ft | exact ne_undef _⟩, by kernel_rfl, rfl⟩
              · exact .inr ⟨⟨18, false, 80, rfl, by kernel_rfl, rfl, by simp, fun v h => by rw [show v = undef from h]; first | exact ne_tf | exact ne_ft | exact ne_undef _⟩, by kernel_rfl, rfl⟩
              · exact .inr ⟨⟨18, false, 80, rfl, by kernel_rfl, rfl, by simp, fun v h => by rw [show v = undef from h]; first | exact ne_tf | exact ne_ft | exact ne_undef _⟩, by kernel_rfl, rfl⟩
              · exact .inr ⟨⟨18, false, 80, rfl, by kernel_rfl, rfl, by simp, fun v h => by rw [show v = undef from h]; first | exact ne_tf | exact ne_ft | exact ne_undef _⟩, by kernel_rfl, rfl⟩
              · exact .inr ⟨⟨18, false, 80, rfl, by kernel_rfl, rfl, by simp, fun v h => by rw [show v = undef from h]; first | exact ne_tf | exact ne_ft | exact ne_undef _⟩, by kernel_rfl, rfl⟩
              · exact .inr ⟨⟨13, true, 75, rfl, by kernel_rfl, rfl, by simp, fun v h => by rw [show v = .bool false from h]; first | exact ne_tf | exact ne_ft | exact ne_undef _⟩, by kernel_rfl, rfl⟩
              · refine .inl ⟨.inr ⟨10, false, 72, rfl, by kernel_rfl, rfl, by simp, fun v h => h⟩, ?_⟩
                exact .inl ⟨by kernel_rfl, fun L a1 w1 n h => ⟨_, rfl, run_pickF (.tmp 75) _ _ rfl (h.dep n 13 75 (by kernel_rfl) rfl) rfl⟩⟩
              · refine .inl ⟨.inl rfl, ?_⟩
                exact .inl ⟨by kernel_rfl, fun L a1 w1 n h => ⟨_, rfl, run_pickF (.tmp 72) _ _ rfl (h.dep n 10 72 (by kernel_rfl) rfl) (h.dep n 24 86 (by kernel_rfl) rfl)⟩⟩
            case heSA =>
              intro V wx hV2 hJ
              have hz : V 25 = .bool false := hV2 25 87 rfl
              have bwx : Below we.heap.size we wx := hJ.1
              have hP := hP.later bwx
              have r2 := Row.later r2 bwx
              clear hV2 hJ
              simp only [putOps, List.setIfInBounds_toArray, List.set_cons_succ, List.set_cons_zero, Nat.reduceAdd]
              rw [hz]
              refine hK7 _ _ ?_
              clear hz
              go_wp2_with fail
              rename_i K8 hK8
              refine wp_region_valsS [1, 4, 8, 12, 17, 20] (SC gc g2 n1 n2 n3 n4 n5 n6 n7 s) (JF wx [1, 4, 8, 12, 17, 20] FNo) (by kernel_rfl) (by kernel_rfl) (by kernel_rfl) (by kernel_rfl) (JF.start _) ?obsSC ?heSC
              case obsSC =>
                refine ⟨?_, ?_, ?_, ?_, ?_, ?_, ?_, ?_, ?_, ?_, ?_, ?_, ?_, ?_, ?_, ?_, ?_, ?_, ?_, ?_, ?_, ?_, ?_, trivial⟩
                · refine .inl ⟨.inl rfl, ?_⟩
                  exact .inl ⟨by kernel_rfl, fun L a1 w1 n h => ⟨_, rfl, run_move (.tmp 6) rfl (h.var n 6 (by kernel_rfl))⟩⟩
                · refine .inl ⟨.inl rfl, ?_⟩
                  refine .inr fun L a1 w1 n h K hK => ?_
                  have e0 : a1.eval (.tmp 88) = ptr gc := h.dep n 0 88 (by kernel_rfl) rfl
                  refine JF.call (FNo_mono ) h hK 89 rfl 50 _ _ #[ptr gc] rfl Try.call50 ?_ (life_any w1 gc _ _ _ _ _ _ _ (Row.later hP.2.2 h.inv.1)) ?_
                  · simp only [List.map_toArray, List.map_cons, List.map_nil, e0]
                  · rintro e w3 ⟨rfl, rfl⟩
                    exact ⟨_, rfl, rfl, trivial, (Below.refl _ _)⟩
                · refine .inl ⟨.inl rfl, ?_⟩
                  refine .inl ⟨by kernel_rfl, fun L a1 w1 n h => ⟨.pointer (some ⟨g2, 4, none⟩), rfl, ?_⟩⟩
                  have e0 : a1.eval (.tmp 2) = _ := h.var n 2 (by kernel_rfl)
                  unfold execOp
                  simp only [e0]
                  go_simp
                · refine .inl ⟨.inl rfl, ?_⟩
                  exact .inl ⟨by kernel_rfl, fun L a1 w1 n h => ⟨_, rfl, run_loadA 3 (.tmp 90) ⟨g2, 4, none⟩ rfl Try.isAgg3 (h.dep n 2 90 (by kernel_rfl) rfl) ((Row.later r2 h.inv.1).cell (j := 4) (v := .int .i64 n5) rfl)⟩⟩
                · refine .inl ⟨.inl rfl, ?_⟩
                  refine .inr fun L a1 w1 n h K hK => ?_
                  have e0 : a1.eval (.tmp 91) = .int .i64 n5 := h.dep n 3 91 (by kernel_rfl) rfl
                  refine JF.call (FNo_mono ) h hK 92 rfl 53 _ _ #[.int .i64 n5] rfl Try.call53 ?_ (bound_any n5 w1) ?_
                  · simp only [List.map_toArray, List.map_cons, List.map_nil, e0]
                  · rintro e w3 ⟨rfl, rfl⟩
                    exact ⟨_, rfl, rfl, trivial, (Below.refl _ _)⟩
                · refine .inl ⟨.inl rfl, ?_⟩
                  exact .inl ⟨by kernel_rfl, fun L a1 w1 n h => ⟨_, rfl, run_gtrI (.tmp 89) (.tmp 92) rfl (h.dep n 1 89 (by kernel_rfl) rfl) (h.dep n 4 92 (by kernel_rfl) rfl) hq5⟩⟩
                · refine .inl ⟨.inl rfl, ?_⟩
                  exact .inl ⟨by kernel_rfl, fun L a1 w1 n h => ⟨_, rfl, run_move (.tmp 93) rfl (h.dep n 5 93 (by kernel_rfl) rfl)⟩⟩
                · refine .inl ⟨.inr ⟨6, false, 94, rfl, by kernel_rfl, rfl, by simp, fun v h => h⟩, ?_⟩
                  exact .inl ⟨by kernel_rfl, fun L a1 w1 n h => ⟨_, rfl, run_move (.tmp 6) rfl (h.var n 6 (by kernel_rfl))⟩⟩
                · refine .inl ⟨.inr ⟨6, false, 94, rfl, by kernel_rfl, rfl, by simp, fun v h => h⟩, ?_⟩
                  refine .inr fun L a1 w1 n h K hK => ?_
                  have e0 : a1.eval (.tmp 95) = ptr gc := h.dep n 7 95 (by kernel_rfl) rfl
                  refine JF.call (FNo_mono ) h hK 96 rfl 51 _ _ #[ptr gc] rfl Try.call51 ?_ (pin_any w1 gc _ _ _ _ _ _ _ (Row.later hP.2.2 h.inv.1)) ?_
                  · simp only [List.map_toArray, List.map_cons, List.map_nil, e0]
                  · rintro e w3 ⟨rfl, b9⟩
                    exact ⟨_, rfl, rfl, trivial, b9⟩
                · refine .inl ⟨.inr ⟨6, false, 94, rfl, by kernel_rfl, rfl, by simp, fun v h => h⟩, ?_⟩
                  refine .inl ⟨by kernel_rfl, fun L a1 w1 n h => ⟨.int .i64 s.b, rfl, ?_⟩⟩
                  have e0 : a1.eval (.tmp 96) = _ := h.dep n 8 96 (by kernel_rfl) rfl
                  unfold execOp
                  simp only [e0]
                  go_simp
                  rw [fieldPin1]
                  rfl
                · refine .inl ⟨.inr ⟨6, false, 94, rfl, by kernel_rfl, rfl, by simp, fun v h => h⟩, ?_⟩
                  refine .inl ⟨by kernel_rfl, fun L a1 w1 n h => ⟨.pointer (some ⟨g2, 2, none⟩), rfl, ?_⟩⟩
                  have e0 : a1.eval (.tmp 2) = _ := h.var n 2 (by kernel_rfl)
                  unfold execOp
                  simp only [e0]
                  go_simp
                · refine .inl ⟨.inr ⟨6, false, 94, rfl, by kernel_rfl, rfl, by simp, fun v h => h⟩, ?_⟩
                  exact .inl ⟨by kernel_rfl, fun L a1 w1 n h => ⟨_, rfl, run_loadA 3 (.tmp 98) ⟨g2, 2, none⟩ rfl Try.isAgg3 (h.dep n 10 98 (by kernel_rfl) rfl) ((Row.later r2 h.inv.1).cell (j := 2) (v := .int .i64 n3) rfl)⟩⟩
                · refine .inl ⟨.inr ⟨6, false, 94, rfl, by kernel_rfl, rfl, by simp, fun v h => h⟩, ?_⟩
                  refine .inr fun L a1 w1 n h K hK => ?_
                  have e0 : a1.eval (.tmp 99) = .int .i64 n3 := h.dep n 11 99 (by kernel_rfl) rfl
                  refine JF.call (FNo_mono ) h hK 100 rfl 53 _ _ #[.int .i64 n3] rfl Try.call53 ?_ (bound_any n3 w1) ?_
                  · simp only [List.map_toArray, List.map_cons, List.map_nil, e0]
                  · rintro e w3 ⟨rfl, rfl⟩
                    exact ⟨_, rfl, rfl, trivial, (Below.refl _ _)⟩
                · refine .inl ⟨.inr ⟨6, false, 94, rfl, by kernel_rfl, rfl, by simp, fun v h => h⟩, ?_⟩
                  exact .inl ⟨by kernel_rfl, fun L a1 w1 n h => ⟨_, rfl, run_gtrI (.tmp 97) (.tmp 100) rfl (h.dep n 9 97 (by kernel_rfl) rfl) (h.dep n 12 100 (by kernel_rfl) rfl) hq6⟩⟩
                · refine .inl ⟨.inl rfl, ?_⟩
                  exact .inl ⟨by kernel_rfl, fun L a1 w1 n h => ⟨_, rfl, run_pickF (.tmp 94) _ _ rfl (h.dep n 6 94 (by kernel_rfl) rfl) (h.dep n 13 101 (by kernel_rfl) rfl)⟩⟩
                · refine .inl ⟨.inl rfl, ?_⟩
                  exact .inl ⟨by kernel_rfl, fun L a1 w1 n h => ⟨_, rfl, run_move (.tmp 102) rfl (h.dep n 14 102 (by kernel_rfl) rfl)⟩⟩
                · refine .inl ⟨.inr ⟨15, false, 103, rfl, by kernel_rfl, rfl, by simp, fun v h => h⟩, ?_⟩
                  exact .inl ⟨by kernel_rfl, fun L a1 w1 n h => ⟨_, rfl, run_move (.tmp 6) rfl (h.var n 6 (by kernel_rfl))⟩⟩
                · refine .inl ⟨.inr ⟨15, false, 103, rfl, by kernel_rfl, rfl, by simp, fun v h => h⟩, ?_⟩
                  refine .inr fun L a1 w1 n h K hK => ?_
                  have e0 : a1.eval (.tmp 104) = ptr gc := h.dep n 16 104 (by kernel_rfl) rfl
                  refine JF.call (FNo_mono ) h hK 105 rfl 51 _ _ #[ptr gc] rfl Try.call51 ?_ (pin_any w1 gc _ _ _ _ _ _ _ (Row.later hP.2.2 h.inv.1)) ?_
                  · simp only [List.map_toArray, List.map_cons, List.map_nil, e0]
                  · rintro e w3 ⟨rfl, b9⟩
                    exact ⟨_, rfl, rfl, trivial, b9⟩
                · refine .inl ⟨.inr ⟨15, false, 103, rfl, by kernel_rfl, rfl, by simp, fun v h => h⟩, ?_⟩
                  refine .inl ⟨by kernel_rfl, fun L a1 w1 n h => ⟨.int .i64 s.a, rfl, ?_⟩⟩
                  have e0 : a1.eval (.tmp 105) = _ := h.dep n 17 105 (by kernel_rfl) rfl
                  unfold execOp
                  simp only [e0]
                  go_simp
                  rw [fieldPin0]
                  rfl
                · refine .inl ⟨.inr ⟨15, false, 103, rfl, by kernel_rfl, rfl, by simp, fun v h => h⟩, ?_⟩
                  exact .inl ⟨by kernel_rfl, fun L a1 w1 n h => ⟨_, rfl, run_move (.tmp 6) rfl (h.var n 6 (by kernel_rfl))⟩⟩
                · refine .inl ⟨.inr ⟨15, false, 103, rfl, by kernel_rfl, rfl, by simp, fun v h => h⟩, ?_⟩
                  refine .inr fun L a1 w1 n h K hK => ?_
                  have e0 : a1.eval (.tmp 107) = ptr gc := h.dep n 19 107 (by kernel_rfl) rfl
                  refine JF.call (FNo_mono ) h hK 108 rfl 50 _ _ #[ptr gc] rfl Try.call50 ?_ (life_any w1 gc _ _ _ _ _ _ _ (Row.later hP.2.2 h.inv.1)) ?_
                  · simp only [List.map_toArray, List.map_cons, List.map_nil, e0]
                  · rintro e w3 ⟨rfl, rfl⟩
                    exact ⟨_, rfl, rfl, trivial, (Below.refl _ _)⟩
                · refine .inl ⟨.inr ⟨15, false, 103, rfl, by kernel_rfl, rfl, by simp, fun v h => h⟩, ?_⟩
                  exact .inl ⟨by kernel_rfl, fun L a1 w1 n h => ⟨_, rfl, run_gtrI (.tmp 106) (.tmp 108) rfl (h.dep n 18 106 (by kernel_rfl) rfl) (h.dep n 20 108 (by kernel_rfl) rfl) hq7⟩⟩
                · refine .inl ⟨.inl rfl, ?_⟩
                  exact .inl ⟨by kernel_rfl, fun L a1 w1 n h => ⟨_, rfl, run_pickF (.tmp 103) _ _ rfl (h.dep n 15 103 (by kernel_rfl) rfl) (h.dep n 21 109 (by kernel_rfl) rfl)⟩⟩
              case heSC =>
                intro V wy hV2 hJ
                have hz : V 22 = .bool false := hV2 22 110 rfl
                have bwy : Below wx.heap.size wx wy := hJ.1
                have hP := hP.later bwy
                have r2 := Row.later r2 bwy
                clear hV2 hJ
                simp only [putOps, List.setIfInBounds_toArray, List.set_cons_succ, List.set_cons_zero, Nat.reduceAdd]
                rw [hz]
                refine hK8 _ _ ?_
                clear hz
                have hB9 := (Be.trans ((bwx.trans (bwy.mono bwx.size)).mono Be.size))
                go_wp2
                go_roundw
                case rel => exact ⟨i + 1, s, by omega, by go_num, hP, r2, hfine, hB9⟩
                case measure => simp [intOf]; omega
          · have hq3 := hide (show decide (s.life = life0) = !false by simp; exact (hsame hev0).1)
            have hq4 := hide (show decide (s.a = a0 ∧ s.b = b0) = true by simp; exact (hsame hev0).2)
            have hev := hide (show decide (ev = 0) = !true by simp [hev0])
            clear hsame hev0
            go_wp2_with fail
            rename_i K7 hK7
            refine wp_region_valsS [1, 6, 8, 15, 20] (SB gc g9 life0 a0 b0 ev s) (JF we [1, 6, 8, 15, 20] FNo) (by kernel_rfl) (by kernel_rfl) (by kernel_rfl) (by kernel_rfl) (JF.start _) ?obsSB ?heSB
            case obsSB =>
              refine ⟨?_, ?_, ?_, ?_, ?_, ?_, ?_, ?_, ?_, ?_, ?_, ?_, ?_, ?_, ?_, ?_, ?_, ?_, ?_, ?_, ?_, ?_, ?_, ?_, ?_, ?_, trivial⟩
              · refine .inl ⟨.inl rfl, ?_⟩
                exact .inl ⟨by kernel_rfl, fun L a1 w1 n h => ⟨_, rfl, run_move (.tmp 6) rfl (h.var n 6 (by kernel_rfl))⟩⟩
              · refine .inl ⟨.inl rfl, ?_⟩
                refine .inr fun L a1 w1 n h K hK => ?_
                have e0 : a1.eval (.tmp 62) = ptr gc := h.dep n 0 62 (by kernel_rfl) rfl
                refine JF.call (FNo_mono ) h hK 63 rfl 50 _ _ #[ptr gc] rfl Try.call50 ?_ (life_any w1 gc _ _ _ _ _ _ _ (Row.later hP.2.2 h.inv.1)) ?_
                · simp only [List.map_toArray, List.map_cons, List.map_nil, e0]
                · rintro e w3 ⟨rfl, rfl⟩
                  exact ⟨_, rfl, rfl, trivial, (Below.refl _ _)⟩
              · refine .inl ⟨.inl rfl, ?_⟩
                exact .inl ⟨by kernel_rfl, fun L a1 w1 n h => ⟨_, rfl, run_move (.tmp 8) rfl (h.var n 8 (by kernel_rfl))⟩⟩
              · refine .inl ⟨.inl rfl, ?_⟩
                exact .inl ⟨by kernel_rfl, fun L a1 w1 n h => ⟨_, rfl, run_lssI (.tmp 63) (.tmp 64) rfl (h.dep n 1 63 (by kernel_rfl) rfl) (h.dep n 2 64 (by kernel_rfl) rfl) hq1⟩⟩
              · refine .inl ⟨.inl rfl, ?_⟩
                exact .inl ⟨by kernel_rfl, fun L a1 w1 n h => ⟨_, rfl, run_move (.tmp 65) rfl (h.dep n 3 65 (by kernel_rfl) rfl)⟩⟩
              · refine .inl ⟨.inr ⟨4, false, 66, rfl, by kernel_rfl, rfl, by simp, fun v h => h⟩, ?_⟩
                exact .inl ⟨by kernel_rfl, fun L a1 w1 n h => ⟨_, rfl, run_move (.tmp 6) rfl (h.var n 6 (by kernel_rfl))⟩⟩
              · refine .inl ⟨.inr ⟨4, false, 66, rfl, by kernel_rfl, rfl, by simp, fun v h => h⟩, ?_⟩
                refine .inr fun L a1 w1 n h K hK => ?_
                have e0 : a1.eval (.tmp 67) = ptr gc := h.dep n 5 67 (by kernel_rfl) rfl
                refine JF.call (FNo_mono ) h hK 68 rfl 51 _ _ #[ptr gc] rfl Try.call51 ?_ (pin_any w1 gc _ _ _ _ _ _ _ (Row.later hP.2.2 h.inv.1)) ?_
                · simp only [List.map_toArray, List.map_cons, List.map_nil, e0]
                · rintro e w3 ⟨rfl, b9⟩
                  exact ⟨_, rfl, rfl, trivial, b9⟩
              · refine .inl ⟨.inr ⟨4, false, 66, rfl, by kernel_rfl, rfl, by simp, fun v h => h⟩, ?_⟩
                exact .inl ⟨by kernel_rfl, fun L a1 w1 n h => ⟨_, rfl, run_loadP 83 (.tmp 9) g9 0 83 [] [.int .i64 a0, .int .i64 b0] [] _ rfl (h.var n 9 (by kernel_rfl)) (Row.later r9 h.inv.1) rfl Try.underlying83 rfl (szPin _ _)⟩⟩
              · refine .inl ⟨.inr ⟨4, false, 66, rfl, by kernel_rfl, rfl, by simp, fun v h => h⟩, ?_⟩
                refine .inr fun L a1 w1 n h K hK => ?_
                have e0 : a1.eval (.tmp 68) = pin s.a s.b := h.dep n 6 68 (by kernel_rfl) rfl
                have e1 : a1.eval (.tmp 69) = pin a0 b0 := h.dep n 7 69 (by kernel_rfl) rfl
                refine JF.call (FNo_mono ) h hK 70 rfl 52 _ _ #[pin s.a s.b, pin a0 b0] rfl Try.call52 ?_ (less_any s.a s.b a0 b0 w1) ?_
                · simp only [List.map_toArray, List.map_cons, List.map_nil, e0, e1]
                · rintro e w3 ⟨rfl, b9⟩
                  exact ⟨_, rfl, congrArg Value.bool hq2, trivial, b9⟩
              · refine .inl ⟨.inl rfl, ?_⟩
                exact .inl ⟨by kernel_rfl, fun L a1 w1 n h => ⟨_, rfl, run_pickF (.tmp 66) _ _ rfl (h.dep n 4 66 (by kernel_rfl) rfl) (h.dep n 8 70 (by kernel_rfl) rfl)⟩⟩
              · refine .inl ⟨.inl rfl, ?_⟩
                exact .inl ⟨by kernel_rfl, fun L a1 w1 n h => ⟨_, rfl, run_move (.tmp 71) rfl (h.dep n 9 71 (by kernel_rfl) rfl)⟩⟩
              · refine .inl ⟨.inr ⟨10, false, 72, rfl, by kernel_rfl, rfl, by simp, fun v h => h⟩, ?_⟩
                exact .inl ⟨by kernel_rfl, fun L a1 w1 n h => ⟨_, rfl, run_move (.tmp 10) rfl (h.var n 10 (by kernel_rfl))⟩⟩
              · refine .inl ⟨.inr ⟨10, false, 72, rfl, by kernel_rfl, rfl, by simp, fun v h => h⟩, ?_⟩
                exact .inl ⟨by kernel_rfl, fun L a1 w1 n h => ⟨_, rfl, run_neqI (.tmp 73) (.const (.int .i64 0)) rfl (h.dep n 11 73 (by kernel_rfl) rfl) rfl hev.out⟩⟩
              · refine .inl ⟨.inr ⟨10, false, 72, rfl, by kernel_rfl, rfl, by simp, fun v h => h⟩, ?_⟩
                exact .inl ⟨by kernel_rfl, fun L a1 w1 n h => ⟨_, rfl, run_move (.tmp 74) rfl (h.dep n 12 74 (by kernel_rfl) rfl)⟩⟩
              · refine .inl ⟨.inr ⟨13, true, 75, rfl, by kernel_rfl, rfl, by simp, fun v h => h⟩, ?_⟩
                exact .inl ⟨by kernel_rfl, fun L a1 w1 n h => ⟨_, rfl, run_move (.tmp 6) rfl (h.var n 6 (by kernel_rfl))⟩⟩
              · refine .inl ⟨.inr ⟨13, true, 75, rfl, by kernel_rfl, rfl, by simp, fun v h => h⟩, ?_⟩
                refine .inr fun L a1 w1 n h K hK => ?_
                have e0 : a1.eval (.tmp 76) = ptr gc := h.dep n 14 76 (by kernel_rfl) rfl
                refine JF.call (FNo_mono ) h hK 77 rfl 50 _ _ #[ptr gc] rfl Try.call50 ?_ (life_any w1 gc _ _ _ _ _ _ _ (Row.later hP.2.2 h.inv.1)) ?_
                · simp only [List.map_toArray, List.map_cons, List.map_nil, e0]
                · rintro e w3 ⟨rfl, rfl⟩
                  exact ⟨_, rfl, rfl, trivial, (Below.refl _ _)⟩
              · refine .inl ⟨.inr ⟨13, true, 75, rfl, by kernel_rfl, rfl, by simp, fun v h => h⟩, ?_⟩
                exact .inl ⟨by kernel_rfl, fun L a1 w1 n h => ⟨_, rfl, run_move (.tmp 8) rfl (h.var n 8 (by kernel_rfl))⟩⟩
              · refine .inl ⟨.inr ⟨13, true, 75, rfl, by kernel_rfl, rfl, by simp, fun v h => h⟩, ?_⟩
                exact .inl ⟨by kernel_rfl, fun L a1 w1 n h => ⟨_, rfl, run_neqI (.tmp 77) (.tmp 78) rfl (h.dep n 15 77 (by kernel_rfl) rfl) (h.dep n 16 78 (by kernel_rfl) rfl) hq3.out⟩⟩
              · refine .inl ⟨.inr ⟨13, true, 75, rfl, by kernel_rfl, rfl, by simp, fun v h => h⟩, ?_⟩
                exact .inl ⟨by kernel_rfl, fun L a1 w1 n h => ⟨_, rfl, run_move (.tmp 79) rfl (h.dep n 17 79 (by kernel_rfl) rfl)⟩⟩
              · refine .inl ⟨.inr ⟨18, false, 80, rfl, by kernel_rfl, rfl, by simp, fun v h => h⟩, ?_⟩
                exact .inl ⟨by kernel_rfl, fun L a1 w1 n h => ⟨_, rfl, run_move (.tmp 6) rfl (h.var n 6 (by kernel_rfl))⟩⟩
              · refine .inl ⟨.inr ⟨18, false, 80, rfl, by kernel_rfl, rfl, by simp, fun v h => h⟩, ?_⟩
                refine .inr fun L a1 w1 n h K hK => ?_
                have e0 : a1.eval (.tmp 81) = ptr gc := h.dep n 19 81 (by kernel_rfl) rfl
                refine JF.call (FNo_mono ) h hK 82 rfl 51 _ _ #[ptr gc] rfl Try.call51 ?_ (pin_any w1 gc _ _ _ _ _ _ _ (Row.later hP.2.2 h.inv.1)) ?_
                · simp only [List.map_toArray, List.map_cons, List.map_nil, e0]
                · rintro e w3 ⟨rfl, b9⟩
                  exact ⟨_, rfl, rfl, trivial, b9⟩
              · refine .inl ⟨.inr ⟨18, false, 80, rfl, by kernel_rfl, rfl, by simp, fun v h => h⟩, ?_⟩
                exact .inl ⟨by kernel_rfl, fun L a1 w1 n h => ⟨_, rfl, run_loadP 83 (.tmp 9) g9 0 83 [] [.int .i64 a0, .int .i64 b0] [] _ rfl (h.var n 9 (by kernel_rfl)) (Row.later r9 h.inv.1) rfl Try.underlying83 rfl (szPin _ _)⟩⟩
              · refine .inl ⟨.inr ⟨18, false, 80, rfl, by kernel_rfl, rfl, by simp, fun v h => h⟩, ?_⟩
                exact .inl ⟨by kernel_rfl, fun L a1 w1 n h => ⟨_, rfl, run_neqS (.tmp 82) (.tmp 83) rfl (fun w => (eqPin _ _ _ _ w).trans (by rw [hq4.out]; rfl)) (h.dep n 20 82 (by kernel_rfl) rfl) (h.dep n 21 83 (by kernel_rfl) rfl) (by kernel_rfl)⟩⟩
              · refine .inl ⟨.inr ⟨13, true, 75, rfl, by kernel_rfl, rfl, by simp, fun v h => h⟩, ?_⟩
                exact .inl ⟨by kernel_rfl, fun L a1 w1 n h => ⟨_, rfl, run_pickF (.tmp 80) _ _ rfl (h.dep n 18 80 (by kernel_rfl) rfl) (h.dep n 22 84 (by kernel_rfl) rfl)⟩⟩
              · refine .inl ⟨.inr ⟨10, false, 72, rfl, by kernel_rfl, rfl, by simp, fun v h => h⟩, ?_⟩
                exact .inl ⟨by kernel_rfl, fun L a1 w1 n h => ⟨_, rfl, run_pickT (.tmp 75) _ _ rfl (h.dep n 13 75 (by kernel_rfl) rfl) (h.dep n 23 85 (by kernel_rfl) rfl)⟩⟩
              · refine .inl ⟨.inl rfl, ?_⟩
                exact .inl ⟨by kernel_rfl, fun L a1 w1 n h => ⟨_, rfl, run_pickF (.tmp 72) _ _ rfl (h.dep n 10 72 (by kernel_rfl) rfl) (h.dep n 24 86 (by kernel_rfl) rfl)⟩⟩
            case heSB =>
              intro V wx hV2 hJ
              have hz : V 25 = .bool false := hV2 25 87 rfl
              have bwx : Below we.heap.size we wx := hJ.1
              have hP := hP.later bwx
              have r2 := Row.later r2 bwx
              clear hV2 hJ
              simp only [putOps, List.setIfInBounds_toArray, List.set_cons_succ, List.set_cons_zero, Nat.reduceAdd]
              rw [hz]
              refine hK7 _ _ ?_
              clear hz
              go_wp2_with fail
              rename_i K8 hK8
              refine wp_region_valsS [1, 4, 8, 12, 17, 20] (SC gc g2 n1 n2 n3 n4 n5 n6 n7 s) (JF wx [1, 4, 8, 12, 17, 20] FNo) (by kernel_rfl) (by kernel_rfl) (by kernel_rfl) (by kernel_rfl) (JF.start _) ?obsSC ?heSC
              case obsSC =>
                refine ⟨?_, ?_, ?_, ?_, ?_, ?_, ?_, ?_, ?_, ?_, ?_, ?_, ?_, ?_, ?_, ?_, ?_, ?_, ?_, ?_, ?_, ?_, ?_, trivial⟩
                · refine .inl ⟨.inl rfl, ?_⟩
                  exact .inl ⟨by kernel_rfl, fun L a1 w1 n h => ⟨_, rfl, run_move (.tmp 6) rfl (h.var n 6 (by kernel_rfl))⟩⟩
                · refine .inl ⟨.inl rfl, ?_⟩
                  refine .inr fun L a1 w1 n h K hK => ?_
                  have e0 : a1.eval (.tmp 88) = ptr gc := h.dep n 0 88 (by kernel_rfl) rfl
                  refine JF.call (FNo_mono ) h hK 89 rfl 50 _ _ #[ptr gc] rfl Try.call50 ?_ (life_any w1 gc _ _ _ _ _ _ _ (Row.later hP.2.2 h.inv.1)) ?_
                  · simp only [List.map_toArray, List.map_cons, List.map_nil, e0]
                  · rintro e w3 ⟨rfl, rfl⟩
                    exact ⟨_, rfl, rfl, trivial, (Below.refl _ _)⟩
                · refine .inl ⟨.inl rfl, ?_⟩
                  refine .inl ⟨by kernel_rfl, fun L a1 w1 n h => ⟨.pointer (some ⟨g2, 4, none⟩), rfl, ?_⟩⟩
                  have e0 : a1.eval (.tmp 2) = _ := h.var n 2 (by kernel_rfl)
                  unfold execOp
                  simp only [e0]
                  go_simp
                · refine .inl ⟨.inl rfl, ?_⟩
                  exact .inl ⟨by kernel_rfl, fun L a1 w1 n h => ⟨_, rfl, run_loadA 3 (.tmp 90) ⟨g2, 4, none⟩ rfl Try.isAgg3 (h.dep n 2 90 (by kernel_rfl) rfl) ((Row.later r2 h.inv.1).cell (j := 4) (v := .int .i64 n5) rfl)⟩⟩
                · refine .inl ⟨.inl rfl, ?_⟩
                  refine .inr fun L a1 w1 n h K hK => ?_
                  have e0 : a1.eval (.tmp 91) = .int .i64 n5 := h.dep n 3 91 (by kernel_rfl) rfl
                  refine JF.call (FNo_mono ) h hK 92 rfl 53 _ _ #[.int .i64 n5] rfl Try.call53 ?_ (bound_any n5 w1) ?_
                  · simp only [List.map_toArray, List.map_cons, List.map_nil, e0]
                  · rintro e w3 ⟨rfl, rfl⟩
                    exact ⟨_, rfl, rfl, trivial, (Below.refl _ _)⟩
                · refine .inl ⟨.inl rfl, ?_⟩
                  exact .inl ⟨by kernel_rfl, fun L a1 w1 n h => ⟨_, rfl, run_gtrI (.tmp 89) (.tmp 92) rfl (h.dep n 1 89 (by kernel_rfl) rfl) (h.dep n 4 92 (by kernel_rfl) rfl) hq5⟩⟩
                · refine .inl ⟨.inl rfl, ?_⟩
                  exact .inl ⟨by kernel_rfl, fun L a1 w1 n h => ⟨_, rfl, run_move (.tmp 93) rfl (h.dep n 5 93 (by kernel_rfl) rfl)⟩⟩
                · refine .inl ⟨.inr ⟨6, false, 94, rfl, by kernel_rfl, rfl, by simp, fun v h => h⟩, ?_⟩
                  exact .inl ⟨by kernel_rfl, fun L a1 w1 n h => ⟨_, rfl, run_move (.tmp 6) rfl (h.var n 6 (by kernel_rfl))⟩⟩
                · refine .inl ⟨.inr ⟨6, false, 94, rfl, by kernel_rfl, rfl, by simp, fun v h => h⟩, ?_⟩
                  refine .inr fun L a1 w1 n h K hK => ?_
                  have e0 : a1.eval (.tmp 95) = ptr gc := h.dep n 7 95 (by kernel_rfl) rfl
                  refine JF.call (FNo_mono ) h hK 96 rfl 51 _ _ #[ptr gc] rfl Try.call51 ?_ (pin_any w1 gc _ _ _ _ _ _ _ (Row.later hP.2.2 h.inv.1)) ?_
                  · simp only [List.map_toArray, List.map_cons, List.map_nil, e0]
                  · rintro e w3 ⟨rfl, b9⟩
                    exact ⟨_, rfl, rfl, trivial, b9⟩
                · refine .inl ⟨.inr ⟨6, false, 94, rfl, by kernel_rfl, rfl, by simp, fun v h => h⟩, ?_⟩
                  refine .inl ⟨by kernel_rfl, fun L a1 w1 n h => ⟨.int .i64 s.b, rfl, ?_⟩⟩
                  have e0 : a1.eval (.tmp 96) = _ := h.dep n 8 96 (by kernel_rfl) rfl
                  unfold execOp
                  simp only [e0]
                  go_simp
                  rw [fieldPin1]
                  rfl
                · refine .inl ⟨.inr ⟨6, false, 94, rfl, by kernel_rfl, rfl, by simp, fun v h => h⟩, ?_⟩
                  refine .inl ⟨by kernel_rfl, fun L a1 w1 n h => ⟨.pointer (some ⟨g2, 2, none⟩), rfl, ?_⟩⟩
                  have e0 : a1.eval (.tmp 2) = _ := h.var n 2 (by kernel_rfl)
                  unfold execOp
                  simp only [e0]
                  go_simp
                · refine .inl ⟨.inr ⟨6, false, 94, rfl, by kernel_rfl, rfl, by simp, fun v h => h⟩, ?_⟩
                  exact .inl ⟨by kernel_rfl, fun L a1 w1 n h => ⟨_, rfl, run_loadA 3 (.tmp 98) ⟨g2, 2, none⟩ rfl Try.isAgg3 (h.dep n 10 98 (by kernel_rfl) rfl) ((Row.later r2 h.inv.1).cell (j := 2) (v := .int .i64 n3) rfl)⟩⟩
                · refine .inl ⟨.inr ⟨6, false, 94, rfl, by kernel_rfl, rfl, by simp, fun v h => h⟩, ?_⟩
                  refine .inr fun L a1 w1 n h K hK => ?_
                  have e0 : a1.eval (.tmp 99) = .int .i64 n3 := h.dep n 11 99 (by kernel_rfl) rfl
                  refine JF.call (FNo_mono ) h hK 100 rfl 53 _ _ #[.int .i64 n3] rfl Try.call53 ?_ (bound_any n3 w1) ?_
                  · simp only [List.map_toArray, List.map_cons, List.map_nil, e0]
                  · rintro e w3 ⟨rfl, rfl⟩
                    exact ⟨_, rfl, rfl, trivial, (Below.refl _ _)⟩
                · refine .inl ⟨.inr ⟨6, false, 94, rfl, by kernel_rfl, rfl, by simp, fun v h => h⟩, ?_⟩
                  exact .inl ⟨by kernel_rfl, fun L a1 w1 n h => ⟨_, rfl, run_gtrI (.tmp 97) (.tmp 100) rfl (h.dep n 9 97 (by kernel_rfl) rfl) (h.dep n 12 100 (by kernel_rfl) rfl) hq6⟩⟩
                · refine .inl ⟨.inl rfl, ?_⟩
                  exact .inl ⟨by kernel_rfl, fun L a1 w1 n h => ⟨_, rfl, run_pickF (.tmp 94) _ _ rfl (h.dep n 6 94 (by kernel_rfl) rfl) (h.dep n 13 101 (by kernel_rfl) rfl)⟩⟩
                · refine .inl ⟨.inl rfl, ?_⟩
                  exact .inl ⟨by kernel_rfl, fun L a1 w1 n h => ⟨_, rfl, run_move (.tmp 102) rfl (h.dep n 14 102 (by kernel_rfl) rfl)⟩⟩
                · refine .inl ⟨.inr ⟨15, false, 103, rfl, by kernel_rfl, rfl, by simp, fun v h => h⟩, ?_⟩
                  exact .inl ⟨by kernel_rfl, fun L a1 w1 n h => ⟨_, rfl, run_move (.tmp 6) rfl (h.var n 6 (by kernel_rfl))⟩⟩
                · refine .inl ⟨.inr ⟨15, false, 103, rfl, by kernel_rfl, rfl, by simp, fun v h => h⟩, ?_⟩
                  refine .inr fun L a1 w1 n h K hK => ?_
                  have e0 : a1.eval (.tmp 104) = ptr gc := h.dep n 16 104 (by kernel_rfl) rfl
                  refine JF.call (FNo_mono ) h hK 105 rfl 51 _ _ #[ptr gc] rfl Try.call51 ?_ (pin_any w1 gc _ _ _ _ _ _ _ (Row.later hP.2.2 h.inv.1)) ?_
                  · simp only [List.map_toArray, List.map_cons, List.map_nil, e0]
                  · rintro e w3 ⟨rfl, b9⟩
                    exact ⟨_, rfl, rfl, trivial, b9⟩
                · refine .inl ⟨.inr ⟨15, false, 103, rfl, by kernel_rfl, rfl, by simp, fun v h => h⟩, ?_⟩
                  refine .inl ⟨by kernel_rfl, fun L a1 w1 n h => ⟨.int .i64 s.a, rfl, ?_⟩⟩
                  have e0 : a1.eval (.tmp 105) = _ := h.dep n 17 105 (by kernel_rfl) rfl
                  unfold execOp
                  simp only [e0]
                  go_simp
                  rw [fieldPin0]
                  rfl
                · refine .inl ⟨.inr ⟨15, false, 103, rfl, by kernel_rfl, rfl, by simp, fun v h => h⟩, ?_⟩
                  exact .inl ⟨by kernel_rfl, fun L a1 w1 n h => ⟨_, rfl, run_move (.tmp 6) rfl (h.var n 6 (by kernel_rfl))⟩⟩
                · refine .inl ⟨.inr ⟨15, false, 103, rfl, by kernel_rfl, rfl, by simp, fun v h => h⟩, ?_⟩
                  refine .inr fun L a1 w1 n h K hK => ?_
                  have e0 : a1.eval (.tmp 107) = ptr gc := h.dep n 19 107 (by kernel_rfl) rfl
                  refine JF.call (FNo_mono ) h hK 108 rfl 50 _ _ #[ptr gc] rfl Try.call50 ?_ (life_any w1 gc _ _ _ _ _ _ _ (Row.later hP.2.2 h.inv.1)) ?_
                  · simp only [List.map_toArray, List.map_cons, List.map_nil, e0]
                  · rintro e w3 ⟨rfl, rfl⟩
                    exact ⟨_, rfl, rfl, trivial, (Below.refl _ _)⟩
                · refine .inl ⟨.inr ⟨15, false, 103, rfl, by kernel_rfl, rfl, by simp, fun v h => h⟩, ?_⟩
                  exact .inl ⟨by kernel_rfl, fun L a1 w1 n h => ⟨_, rfl, run_gtrI (.tmp 106) (.tmp 108) rfl (h.dep n 18 106 (by kernel_rfl) rfl) (h.dep n 20 108 (by kernel_rfl) rfl) hq7⟩⟩
                · refine .inl ⟨.inl rfl, ?_⟩
                  exact .inl ⟨by kernel_rfl, fun L a1 w1 n h => ⟨_, rfl, run_pickF (.tmp 103) _ _ rfl (h.dep n 15 103 (by kernel_rfl) rfl) (h.dep n 21 109 (by kernel_rfl) rfl)⟩⟩
              case heSC =>
                intro V wy hV2 hJ
                have hz : V 22 = .bool false := hV2 22 110 rfl
                have bwy : Below wx.heap.size wx wy := hJ.1
                have hP := hP.later bwy
                have r2 := Row.later r2 bwy
                clear hV2 hJ
                simp only [putOps, List.setIfInBounds_toArray, List.set_cons_succ, List.set_cons_zero, Nat.reduceAdd]
                rw [hz]
                refine hK8 _ _ ?_
                clear hz
                have hB9 := (Be.trans ((bwx.trans (bwy.mono bwx.size)).mono Be.size))
                go_wp2
                go_roundw
                case rel => exact ⟨i + 1, s, by omega, by go_num, hP, r2, hfine, hB9⟩
                case measure => simp [intOf]; omega
        · have hk0 : ¬ kd % 5 = 0 := by omega
          clear d1 d2 p0
          go_wp2_with fail
          refine (life_any wr gc _ _ _ _ _ _ _ hP.2.2).mono ?_
          rintro e wa' ⟨rfl, rfl⟩
          go_wp2_with fail
          refine (pin_any wr gc _ _ _ _ _ _ _ hP.2.2).mono ?_
          rintro e wb' ⟨rfl, bb2⟩
          have hP0 := hP.later bb2
          have r20 := Row.later r2 bb2
          have hBb := hB.trans (bb2.mono hB.size)
          clear hB hP r2
          go_wp2_with (first
            | ((with_reducible refine wl_alloc rfl 83 _ [.int .i64 0, .int .i64 0] rfl zeroPin rfl ?_); intro g9 wc' r90 p9 l9 bc2; have hP1 := hP0.later bc2; have r21 := Row.later r20 bc2; have hBc := hBb.trans (bc2.mono hBb.size); have p9' := Nat.le_trans hBb.size p9)
            | ((with_reducible refine wl_store_row rfl 83 (.tmp 9) (.tmp 28) g9 83 _ [.int .i64 s.a, .int .i64 s.b] rfl rfl rfl r90 (szPin _ _) rfl (one_pin _ _) ?_); intro wd' r9 o9; have r2 := r21.only o9 (row_ne r21 r90 (by decide)); have hP := hP1.buts (Buts.only (S := [g9]) o9 (by simp)) (by simp; exact row_ne hP1.1 r90 (by decide)) (by simp; exact row_ne hP1.2.1 r90 (by decide)) (by simp; exact row_ne hP1.2.2 r90 (by decide)); have hB := hBc.trans (o9.below p9'); have d0' := (hB.cell (p := ⟨bb, oo + i * 4, none⟩) hbb).trans d0; have d3' := (hB.cell (p := ⟨bb, oo + i * 4 + 3, none⟩) hbb).trans d3))
          have c9 := row_ne r9 hP.2.2 (by decide)
          have e9 := row_ne r9 hP.2.1 (by decide)
          clear hP0 hP1 r20 r21 r90 hBb hBc
          refine (pFuse_any _ gP gp s.on s.fuse nn hP.1 hP.2.1).mono ?_
          rintro e we ⟨rfl, hpl, be⟩
          have hP : PSide we gP gp gc (bnd n5) (bnd n3) { s with fuse := nn } := ⟨hP.1.only be hnP.1, hpl, hP.2.2.only be hnP.2.2⟩
          have be := Buts.only (S := [gc, gp]) be (by simp)
          have r9 := Row.buts r9 be (by simp; exact ⟨c9, e9⟩)
          have r2 := Row.buts r2 be n2'
          have Be := hB.trans (be.below hS1 hB.size)
          clear c9 e9 hB
          have pf : Rose s { s with fuse := nn } 0 (bnd n5) (bnd n3) := ⟨Int.le_refl _, lessB_self _ _, fun h => absurd rfl h, ⟨m0, fine.1.2.1, fine.1.2.2⟩, fine.2.1, fine.2.2⟩
          have ro : Rose s (({ s with fuse := nn } : St)) (0) (bnd n5) (bnd n3) := pf
          obtain ⟨hlf, hq2, hsame, hfine⟩ := ro
          generalize ({ s with fuse := nn } : St) = s' at *
          generalize s.life = life0 at *
          generalize s.a = a0 at *
          generalize s.b = b0 at *
          generalize s' = s at *
          clear d0 d0' d3 d3' hk hk0 k0 k1 hpl m0 pf
          have hq1 : decide (s.life < life0) = false := by simp; omega
          have hq5 : decide (bnd n5 < s.life) = false := by have := hfine.1.2.2; simp; omega
          have hq6 : decide (bnd n3 < s.b) = false := by have := hfine.2.2; simp; omega
          have hq7 : decide (s.life < s.a) = false := by have := hfine.2.1; simp; omega
          have hev := hide (show decide ((0 : Int) = 0) = !false from rfl)
          clear hsame
          go_wp2_with fail
          rename_i K7 hK7
          refine wp_region_valsS [1, 6, 8] (SA gc g9 life0 a0 b0 0 s) (JF we [1, 6, 8] FNo) (by kernel_rfl) (by kernel_rfl) (by kernel_rfl) (by kernel_rfl) (JF.start _) ?obsSA ?heSA
          case obsSA =>
            refine ⟨?_, ?_, ?_, ?_, ?_, ?_, ?_, ?_, ?_, ?_, ?_, ?_, ?_, ?_, ?_, ?_, ?_, ?_, ?_, ?_, ?_, ?_, ?_, ?_, ?_, ?_, trivial⟩
            · refine .inl ⟨.inl rfl, ?_⟩
              exact .inl ⟨by kernel_rfl, fun L a1 w1 n h => ⟨_, rfl, run_move (.tmp 6) rfl (h.var n 6 (by kernel_rfl))⟩⟩
            · refine .inl ⟨.inl rfl, ?_⟩
              refine .inr fun L a1 w1 n h K hK => ?_
              have e0 : a1.eval (.tmp 62) = ptr gc := h.dep n 0 62 (by kernel_rfl) rfl
              refine JF.call (FNo_mono ) h hK 63 rfl 50 _ _ #[ptr gc] rfl Try.call50 ?_ (life_any w1 gc _ _ _ _ _ _ _ (Row.later hP.2.2 h.inv.1)) ?_
              · simp only [List.map_toArray, List.map_cons, List.map_nil, e0]
              · rintro e w3 ⟨rfl, rfl⟩
                exact ⟨_, rfl, rfl, trivial, (Below.refl _ _)⟩
            · refine .inl ⟨.inl rfl, ?_⟩
              exact .inl ⟨by kernel_rfl, fun L a1 w1 n h => ⟨_, rfl, run_move (.tmp 8) rfl (h.var n 8 (by kernel_rfl))⟩⟩
            · refine .inl ⟨.inl rfl, ?_⟩
              exact .inl ⟨by kernel_rfl, fun L a1 w1 n h => ⟨_, rfl, run_lssI (.tmp 63) (.tmp 64) rfl (h.dep n 1 63 (by kernel_rfl) rfl) (h.dep n 2 64 (by kernel_rfl) rfl) hq1⟩⟩
            · refine .inl ⟨.inl rfl, ?_⟩
              exact .inl ⟨by kernel_rfl, fun L a1 w1 n h => ⟨_, rfl, run_move (.tmp 65) rfl (h.dep n 3 65 (by kernel_rfl) rfl)⟩⟩
            · refine .inl ⟨.inr ⟨4, false, 66, rfl, by kernel_rfl, rfl, by simp, fun v h => h⟩, ?_⟩
              exact .inl ⟨by kernel_rfl, fun L a1 w1 n h => ⟨_, rfl, run_move (.tmp 6) rfl (h.var n 6 (by kernel_rfl))⟩⟩
            · refine .inl ⟨.inr ⟨4, false, 66, rfl, by kernel_rfl, rfl, by simp, fun v h => h⟩, ?_⟩
              refine .inr fun L a1 w1 n h K hK => ?_
              have e0 : a1.eval (.tmp 67) = ptr gc := h.dep n 5 67 (by kernel_rfl) rfl
              refine JF.call (FNo_mono ) h hK 68 rfl 51 _ _ #[ptr gc] rfl Try.call51 ?_ (pin_any w1 gc _ _ _ _ _ _ _ (Row.later hP.2.2 h.inv.1)) ?_
              · simp only [List.map_toArray, List.map_cons, List.map_nil, e0]
              · rintro e w3 ⟨rfl, b9⟩
                exact ⟨_, rfl, rfl, trivial, b9⟩
            · refine .inl ⟨.inr ⟨4, false, 66, rfl, by kernel_rfl, rfl, by simp, fun v h => h⟩, ?_⟩
              exact .inl ⟨by kernel_rfl, fun L a1 w1 n h => ⟨_, rfl, run_loadP 83 (.tmp 9) g9 0 83 [] [.int .i64 a0, .int .i64 b0] [] _ rfl (h.var n 9 (by kernel_rfl)) (Row.later r9 h.inv.1) rfl Try.underlying83 rfl (szPin _ _)⟩⟩
            · refine .inl ⟨.inr ⟨4, false, 66, rfl, by kernel_rfl, rfl, by simp, fun v h => h⟩, ?_⟩
              refine .inr fun L a1 w1 n h K hK => ?_
              have e0 : a1.eval (.tmp 68) = pin s.a s.b := h.dep n 6 68 (by kernel_rfl) rfl
              have e1 : a1.eval (.tmp 69) = pin a0 b0 := h.dep n 7 69 (by kernel_rfl) rfl
              refine JF.call (FNo_mono ) h hK 70 rfl 52 _ _ #[pin s.a s.b, pin a0 b0] rfl Try.call52 ?_ (less_any s.a s.b a0 b0 w1) ?_
              · simp only [List.map_toArray, List.map_cons, List.map_nil, e0, e1]
              · rintro e w3 ⟨rfl, b9⟩
                exact ⟨_, rfl, congrArg Value.bool hq2, trivial, b9⟩
            · refine .inl ⟨.inl rfl, ?_⟩
              exact .inl ⟨by kernel_rfl, fun L a1 w1 n h => ⟨_, rfl, run_pickF (.tmp 66) _ _ rfl (h.dep n 4 66 (by kernel_rfl) rfl) (h.dep n 8 70 (by kernel_rfl) rfl)⟩⟩
            · refine .inl ⟨.inl rfl, ?_⟩
              exact .inl ⟨by kernel_rfl, fun L a1 w1 n h => ⟨_, rfl, run_move (.tmp 71) rfl (h.dep n 9 71 (by kernel_rfl) rfl)⟩⟩
            · refine .inl ⟨.inr ⟨10, false, 72, rfl, by kernel_rfl, rfl, by simp, fun v h => h⟩, ?_⟩
              exact .inl ⟨by kernel_rfl, fun L a1 w1 n h => ⟨_, rfl, run_move (.tmp 10) rfl (h.var n 10 (by kernel_rfl))⟩⟩
            · refine .inl ⟨.inr ⟨10, false, 72, rfl, by kernel_rfl, rfl, by simp, fun v h => h⟩, ?_⟩
              exact .inl ⟨by kernel_rfl, fun L a1 w1 n h => ⟨_, rfl, run_neqI (.tmp 73) (.const (.int .i64 0)) rfl (h.dep n 11 73 (by kernel_rfl) rfl) rfl hev.out⟩⟩
            · refine .inl ⟨.inr ⟨10, false, 72, rfl, by kernel_rfl, rfl, by simp, fun v h => h⟩, ?_⟩
              exact .inl ⟨by kernel_rfl, fun L a1 w1 n h => ⟨_, rfl, run_move (.tmp 74) rfl (h.dep n 12 74 (by kernel_rfl) rfl)⟩⟩
            · exact .inr ⟨⟨13, true, 75, rfl, by kernel_rfl, rfl, by simp, fun v h => by rw [show v = .bool false from h]; first | exact ne_tf | exact ne_ft | exact ne_undef _⟩, by kernel_rfl, rfl⟩
            · exact .inr ⟨⟨13, true, 75, rfl, by kernel_rfl, rfl, by simp, fun v h => by rw [show v = .bool false from h]; first | exact ne_tf | exact ne_ft | exact ne_undef _⟩, by kernel_rfl, rfl⟩
            · exact .inr ⟨⟨13, true, 75, rfl, by kernel_rfl, rfl, by simp, fun v h => by rw [show v = .bool false from h]; first | exact ne_tf | exact ne_ft | exact ne_undef _⟩, by kernel_rfl, rfl⟩
            · exact .inr ⟨⟨13, true, 75, rfl, by kernel_rfl, rfl, by simp, fun v h => by rw [show v = .bool false from h]; first | exact ne_tf | exact ne_ft | exact ne_undef _⟩, by kernel_rfl, rfl⟩
            · exact .inr ⟨⟨13, true, 75, rfl, by kernel_rfl, rfl, by simp, fun v h => by rw [show v = .bool false from h]; first | exact ne_tf | exact ne_ft | exact ne_undef _⟩, by kernel_rfl, rfl⟩
            · exact .inr ⟨⟨18, false, 80, rfl, by kernel_rfl, rfl, by simp, fun v h => by rw [show v = undef from h]; first | exact ne_tf | exact ne_ft | exact ne_undef _⟩, by kernel_rfl, rfl⟩
            · exact .inr ⟨⟨18, false, 80, rfl, by kernel_rfl, rfl, by simp, fun v h => by rw [show v = undef from h]; first | exact ne_tf | exact ne_ft | exact ne_undef _⟩, by kernel_rfl, rfl⟩
            · exact .inr ⟨⟨18, false, 80, rfl, by kernel_rfl, rfl, by simp, fun v h => by rw [show v = undef from h]; first | exact ne_tf | exact ne_ft | exact ne_undef _⟩, by kernel_rfl, rfl⟩
            · exact .inr ⟨⟨18, false, 80, rfl, by kernel_rfl, rfl, by simp, fun v h => by rw [show v = undef from h]; first | exact ne_tf | exact ne_ft | exact ne_undef _⟩, by kernel_rfl, rfl⟩
            · exact .inr ⟨⟨13, true, 75, rfl, by kernel_rfl, rfl, by simp, fun v h => by rw [show v = .bool false from h]; first | exact ne_tf | exact ne_ft | exact ne_undef _⟩, by kernel_rfl, rfl⟩
            · refine .inl ⟨.inr ⟨10, false, 72, rfl, by kernel_rfl, rfl, by simp, fun v h => h⟩, ?_⟩
              exact .inl ⟨by kernel_rfl, fun L a1 w1 n h => ⟨_, rfl, run_pickF (.tmp 75) _ _ rfl (h.dep n 13 75 (by kernel_rfl) rfl) rfl⟩⟩
            · refine .inl ⟨.inl rfl, ?_⟩
              exact .inl ⟨by kernel_rfl, fun L a1 w1 n h => ⟨_, rfl, run_pickF (.tmp 72) _ _ rfl (h.dep n 10 72 (by kernel_rfl) rfl) (h.dep n 24 86 (by kernel_rfl) rfl)⟩⟩
          case heSA =>
            intro V wx hV2 hJ
            have hz : V 25 = .bool false := hV2 25 87 rfl
            have bwx : Below we.heap.size we wx := hJ.1
            have hP := hP.later bwx
            have r2 := Row.later r2 bwx
            clear hV2 hJ
            simp only [putOps, List.setIfInBounds_toArray, List.set_cons_succ, List.set_cons_zero, Nat.reduceAdd]
            rw [hz]
            refine hK7 _ _ ?_
            clear hz
            go_wp2_with fail
            rename_i K8 hK8
            refine wp_region_valsS [1, 4, 8, 12, 17, 20] (SC gc g2 n1 n2 n3 n4 n5 n6 n7 s) (JF wx [1, 4, 8, 12, 17, 20] FNo) (by kernel_rfl) (by kernel_rfl) (by kernel_rfl) (by kernel_rfl) (JF.start _) ?obsSC ?heSC
            case obsSC =>
              refine ⟨?_, ?_, ?_, ?_, ?_, ?_, ?_, ?_, ?_, ?_, ?_, ?_, ?_, ?_, ?_, ?_, ?_, ?_, ?_, ?_, ?_, ?_, ?_, trivial⟩
              · refine .inl ⟨.inl rfl, ?_⟩
                exact .inl ⟨by kernel_rfl, fun L a1 w1 n h => ⟨_, rfl, run_move (.tmp 6) rfl (h.var n 6 (by kernel_rfl))⟩⟩
              · refine .inl ⟨.inl rfl, ?_⟩
                refine .inr fun L a1 w1 n h K hK => ?_
                have e0 : a1.eval (.tmp 88) = ptr gc := h.dep n 0 88 (by kernel_rfl) rfl
                refine JF.call (FNo_mono ) h hK 89 rfl 50 _ _ #[ptr gc] rfl Try.call50 ?_ (life_any w1 gc _ _ _ _ _ _ _ (Row.later hP.2.2 h.inv.1)) ?_
                · simp only [List.map_toArray, List.map_cons, List.map_nil, e0]
                · rintro e w3 ⟨rfl, rfl⟩
                  exact ⟨_, rfl, rfl, trivial, (Below.refl _ _)⟩
              · refine .inl ⟨.inl rfl, ?_⟩
                refine .inl ⟨by kernel_rfl, fun L a1 w1 n h => ⟨.pointer (some ⟨g2, 4, none⟩), rfl, ?_⟩⟩
                have e0 : a1.eval (.tmp 2) = _ := h.var n 2 (by kernel_rfl)
                unfold execOp
                simp only [e0]
                go_simp
              · refine .inl ⟨.inl rfl, ?_⟩
                exact .inl ⟨by kernel_rfl, fun L a1 w1 n h => ⟨_, rfl, run_loadA 3 (.tmp 90) ⟨g2, 4, none⟩ rfl Try.isAgg3 (h.dep n 2 90 (by kernel_rfl) rfl) ((Row.later r2 h.inv.1).cell (j := 4) (v := .int .i64 n5) rfl)⟩⟩
              · refine .inl ⟨.inl rfl, ?_⟩
                refine .inr fun L a1 w1 n h K hK => ?_
                have e0 : a1.eval (.tmp 91) = .int .i64 n5 := h.dep n 3 91 (by kernel_rfl) rfl
                refine JF.call (FNo_mono ) h hK 92 rfl 53 _ _ #[.int .i64 n5] rfl Try.call53 ?_ (bound_any n5 w1) ?_
                · simp only [List.map_toArray, List.map_cons, List.map_nil, e0]
                · rintro e w3 ⟨rfl, rfl⟩
                  exact ⟨_, rfl, rfl, trivial, (Below.refl _ _)⟩
              · refine .inl ⟨.inl rfl, ?_⟩
                exact .inl ⟨by kernel_rfl, fun L a1 w1 n h => ⟨_, rfl, run_gtrI (.tmp 89) (.tmp 92) rfl (h.dep n 1 89 (by kernel_rfl) rfl) (h.dep n 4 92 (by kernel_rfl) rfl) hq5⟩⟩
              · refine .inl ⟨.inl rfl, ?_⟩
                exact .inl ⟨by kernel_rfl, fun L a1 w1 n h => ⟨_, rfl, run_move (.tmp 93) rfl (h.dep n 5 93 (by kernel_rfl) rfl)⟩⟩
              · refine .inl ⟨.inr ⟨6, false, 94, rfl, by kernel_rfl, rfl, by simp, fun v h => h⟩, ?_⟩
                exact .inl ⟨by kernel_rfl, fun L a1 w1 n h => ⟨_, rfl, run_move (.tmp 6) rfl (h.var n 6 (by kernel_rfl))⟩⟩
              · refine .inl ⟨.inr ⟨6, false, 94, rfl, by kernel_rfl, rfl, by simp, fun v h => h⟩, ?_⟩
                refine .inr fun L a1 w1 n h K hK => ?_
                have e0 : a1.eval (.tmp 95) = ptr gc := h.dep n 7 95 (by kernel_rfl) rfl
                refine JF.call (FNo_mono ) h hK 96 rfl 51 _ _ #[ptr gc] rfl Try.call51 ?_ (pin_any w1 gc _ _ _ _ _ _ _ (Row.later hP.2.2 h.inv.1)) ?_
                · simp only [List.map_toArray, List.map_cons, List.map_nil, e0]
                · rintro e w3 ⟨rfl, b9⟩
                  exact ⟨_, rfl, rfl, trivial, b9⟩
              · refine .inl ⟨.inr ⟨6, false, 94, rfl, by kernel_rfl, rfl, by simp, fun v h => h⟩, ?_⟩
                refine .inl ⟨by kernel_rfl, fun L a1 w1 n h => ⟨.int .i64 s.b, rfl, ?_⟩⟩
                have e0 : a1.eval (.tmp 96) = _ := h.dep n 8 96 (by kernel_rfl) rfl
                unfold execOp
                simp only [e0]
                go_simp
                rw [fieldPin1]
                rfl
              · refine .inl ⟨.inr ⟨6, false, 94, rfl, by kernel_rfl, rfl, by simp, fun v h => h⟩, ?_⟩
                refine .inl ⟨by kernel_rfl, fun L a1 w1 n h => ⟨.pointer (some ⟨g2, 2, none⟩), rfl, ?_⟩⟩
                have e0 : a1.eval (.tmp 2) = _ := h.var n 2 (by kernel_rfl)
                unfold execOp
                simp only [e0]
                go_simp
              · refine .inl ⟨.inr ⟨6, false, 94, rfl, by kernel_rfl, rfl, by simp, fun v h => h⟩, ?_⟩
                exact .inl ⟨by kernel_rfl, fun L a1 w1 n h => ⟨_, rfl, run_loadA 3 (.tmp 98) ⟨g2, 2, none⟩ rfl Try.isAgg3 (h.dep n 10 98 (by kernel_rfl) rfl) ((Row.later r2 h.inv.1).cell (j := 2) (v := .int .i64 n3) rfl)⟩⟩
              · refine .inl ⟨.inr ⟨6, false, 94, rfl, by kernel_rfl, rfl, by simp, fun v h => h⟩, ?_⟩
                refine .inr fun L a1 w1 n h K hK => ?_
                have e0 : a1.eval (.tmp 99) = .int .i64 n3 := h.dep n 11 99 (by kernel_rfl) rfl
                refine JF.call (FNo_mono ) h hK 100 rfl 53 _ _ #[.int .i64 n3] rfl Try.call53 ?_ (bound_any n3 w1) ?_
                · simp only [List.map_toArray, List.map_cons, List.map_nil, e0]
                · rintro e w3 ⟨rfl, rfl⟩
                  exact ⟨_, rfl, rfl, trivial, (Below.refl _ _)⟩
              · refine .inl ⟨.inr ⟨6, false, 94, rfl, by kernel_rfl, rfl, by simp, fun v h => h⟩, ?_⟩
                exact .inl ⟨by kernel_rfl, fun L a1 w1 n h => ⟨_, rfl, run_gtrI (.tmp 97) (.tmp 100) rfl (h.dep n 9 97 (by kernel_rfl) rfl) (h.dep n 12 100 (by kernel_rfl) rfl) hq6⟩⟩
              · refine .inl ⟨.inl rfl, ?_⟩
                exact .inl ⟨by kernel_rfl, fun L a1 w1 n h => ⟨_, rfl, run_pickF (.tmp 94) _ _ rfl (h.dep n 6 94 (by kernel_rfl) rfl) (h.dep n 13 101 (by kernel_rfl) rfl)⟩⟩
              · refine .inl ⟨.inl rfl, ?_⟩
                exact .inl ⟨by kernel_rfl, fun L a1 w1 n h => ⟨_, rfl, run_move (.tmp 102) rfl (h.dep n 14 102 (by kernel_rfl) rfl)⟩⟩
              · refine .inl ⟨.inr ⟨15, false, 103, rfl, by kernel_rfl, rfl, by simp, fun v h => h⟩, ?_⟩
                exact .inl ⟨by kernel_rfl, fun L a1 w1 n h => ⟨_, rfl, run_move (.tmp 6) rfl (h.var n 6 (by kernel_rfl))⟩⟩
              · refine .inl ⟨.inr ⟨15, false, 103, rfl, by kernel_rfl, rfl, by simp, fun v h => h⟩, ?_⟩
                refine .inr fun L a1 w1 n h K hK => ?_
                have e0 : a1.eval (.tmp 104) = ptr gc := h.dep n 16 104 (by kernel_rfl) rfl
                refine JF.call (FNo_mono ) h hK 105 rfl 51 _ _ #[ptr gc] rfl Try.call51 ?_ (pin_any w1 gc _ _ _ _ _ _ _ (Row.later hP.2.2 h.inv.1)) ?_
                · simp only [List.map_toArray, List.map_cons, List.map_nil, e0]
                · rintro e w3 ⟨rfl, b9⟩
                  exact ⟨_, rfl, rfl, trivial, b9⟩
              · refine .inl ⟨.inr ⟨15, false, 103, rfl, by kernel_rfl, rfl, by simp, fun v h => h⟩, ?_⟩
                refine .inl ⟨by kernel_rfl, fun L a1 w1 n h => ⟨.int .i64 s.a, rfl, ?_⟩⟩
                have e0 : a1.eval (.tmp 105) = _ := h.dep n 17 105 (by kernel_rfl) rfl
                unfold execOp
                simp only [e0]
                go_simp
                rw [fieldPin0]
                rfl
              · refine .inl ⟨.inr ⟨15, false, 103, rfl, by kernel_rfl, rfl, by simp, fun v h => h⟩, ?_⟩
                exact .inl ⟨by kernel_rfl, fun L a1 w1 n h => ⟨_, rfl, run_move (.tmp 6) rfl (h.var n 6 (by kernel_rfl))⟩⟩
              · refine .inl ⟨.inr ⟨15, false, 103, rfl, by kernel_rfl, rfl, by simp, fun v h => h⟩, ?_⟩
                refine .inr fun L a1 w1 n h K hK => ?_
                have e0 : a1.eval (.tmp 107) = ptr gc := h.dep n 19 107 (by kernel_rfl) rfl
                refine JF.call (FNo_mono ) h hK 108 rfl 50 _ _ #[ptr gc] rfl Try.call50 ?_ (life_any w1 gc _ _ _ _ _ _ _ (Row.later hP.2.2 h.inv.1)) ?_
                · simp only [List.map_toArray, List.map_cons, List.map_nil, e0]
                · rintro e w3 ⟨rfl, rfl⟩
                  exact ⟨_, rfl, rfl, trivial, (Below.refl _ _)⟩
              · refine .inl ⟨.inr ⟨15, false, 103, rfl, by kernel_rfl, rfl, by simp, fun v h => h⟩, ?_⟩
                exact .inl ⟨by kernel_rfl, fun L a1 w1 n h => ⟨_, rfl, run_gtrI (.tmp 106) (.tmp 108) rfl (h.dep n 18 106 (by kernel_rfl) rfl) (h.dep n 20 108 (by kernel_rfl) rfl) hq7⟩⟩
              · refine .inl ⟨.inl rfl, ?_⟩
                exact .inl ⟨by kernel_rfl, fun L a1 w1 n h => ⟨_, rfl, run_pickF (.tmp 103) _ _ rfl (h.dep n 15 103 (by kernel_rfl) rfl) (h.dep n 21 109 (by kernel_rfl) rfl)⟩⟩
            case heSC =>
              intro V wy hV2 hJ
              have hz : V 22 = .bool false := hV2 22 110 rfl
              have bwy : Below wx.heap.size wx wy := hJ.1
              have hP := hP.later bwy
              have r2 := Row.later r2 bwy
              clear hV2 hJ
              simp only [putOps, List.setIfInBounds_toArray, List.set_cons_succ, List.set_cons_zero, Nat.reduceAdd]
              rw [hz]
              refine hK8 _ _ ?_
              clear hz
              have hB9 := (Be.trans ((bwx.trans (bwy.mono bwx.size)).mono Be.size))
              go_wp2
              go_roundw
              case rel => exact ⟨i + 1, s, by omega, by go_num, hP, r2, hfine, hB9⟩
              case measure => simp [intOf]; omega
        · have hk0 : ¬ kd % 5 = 0 := by omega
          have hk3 : ¬ kd % 5 = 3 := by omega
          clear d1 d2 p0 d3 m0
          go_wp2_with fail
          refine (life_any wr gc _ _ _ _ _ _ _ hP.2.2).mono ?_
          rintro e wa' ⟨rfl, rfl⟩
          go_wp2_with fail
          refine (pin_any wr gc _ _ _ _ _ _ _ hP.2.2).mono ?_
          rintro e wb' ⟨rfl, bb2⟩
          have hP0 := hP.later bb2
          have r20 := Row.later r2 bb2
          have hBb := hB.trans (bb2.mono hB.size)
          clear hB hP r2
          go_wp2_with (first
            | ((with_reducible refine wl_alloc rfl 83 _ [.int .i64 0, .int .i64 0] rfl zeroPin rfl ?_); intro g9 wc' r90 p9 l9 bc2; have hP1 := hP0.later bc2; have r21 := Row.later r20 bc2; have hBc := hBb.trans (bc2.mono hBb.size); have p9' := Nat.le_trans hBb.size p9)
            | ((with_reducible refine wl_store_row rfl 83 (.tmp 9) (.tmp 28) g9 83 _ [.int .i64 s.a, .int .i64 s.b] rfl rfl rfl r90 (szPin _ _) rfl (one_pin _ _) ?_); intro wd' r9 o9; have r2 := r21.only o9 (row_ne r21 r90 (by decide)); have hP := hP1.buts (Buts.only (S := [g9]) o9 (by simp)) (by simp; exact row_ne hP1.1 r90 (by decide)) (by simp; exact row_ne hP1.2.1 r90 (by decide)) (by simp; exact row_ne hP1.2.2 r90 (by decide)); have hB := hBc.trans (o9.below p9'); have d0' := (hB.cell (p := ⟨bb, oo + i * 4, none⟩) hbb).trans d0))
          have c9 := row_ne r9 hP.2.2 (by decide)
          have e9 := row_ne r9 hP.2.1 (by decide)
          clear hP0 hP1 r20 r21 r90 hBb hBc
          refine (pMend_any _ gP gp s.on s.fuse hP.1 hP.2.1).mono ?_
          rintro e we ⟨rfl, hpl, be⟩
          have hP : PSide we gP gp gc (bnd n5) (bnd n3) { s with on := true, fuse := -1 } := ⟨hP.1.only be hnP.1, hpl, hP.2.2.only be hnP.2.2⟩
          have be := Buts.only (S := [gc, gp]) be (by simp)
          have r9 := Row.buts r9 be (by simp; exact ⟨c9, e9⟩)
          have r2 := Row.buts r2 be n2'
          have Be := hB.trans (be.below hS1 hB.size)
          clear c9 e9 hB
          have pf : Rose s { s with on := true, fuse := -1 } 0 (bnd n5) (bnd n3) := ⟨Int.le_refl _, lessB_self _ _, fun h => absurd rfl h, ⟨(⟨by omega, by omega⟩ : isI (-1)), fine.1.2.1, fine.1.2.2⟩, fine.2.1, fine.2.2⟩
          have ro : Rose s (({ s with on := true, fuse := -1 } : St)) (0) (bnd n5) (bnd n3) := pf
          obtain ⟨hlf, hq2, hsame, hfine⟩ := ro
          generalize ({ s with on := true, fuse := -1 } : St) = s' at *
          generalize s.life = life0 at *
          generalize s.a = a0 at *
          generalize s.b = b0 at *
          generalize s' = s at *
          clear d0 d0' hk hk0 hk3 k0 k1 hpl pf
          have hq1 : decide (s.life < life0) = false := by simp; omega
          have hq5 : decide (bnd n5 < s.life) = false := by have := hfine.1.2.2; simp; omega
          have hq6 : decide (bnd n3 < s.b) = false := by have := hfine.2.2; simp; omega
          have hq7 : decide (s.life < s.a) = false := by have := hfine.2.1; simp; omega
          have hev := hide (show decide ((0 : Int) = 0) = !false from rfl)
          clear hsame
          go_wp2_with fail
          rename_i K7 hK7
          refine wp_region_valsS [1, 6, 8] (SA gc g9 life0 a0 b0 0 s) (JF we [1, 6, 8] FNo) (by kernel_rfl) (by kernel_rfl) (by kernel_rfl) (by kernel_rfl) (JF.start _) ?obsSA ?heSA
          case obsSA =>
            refine ⟨?_, ?_, ?_, ?_, ?_, ?_, ?_, ?_, ?_, ?_, ?_, ?_, ?_, ?_, ?_, ?_, ?_, ?_, ?_, ?_, ?_, ?_, ?_, ?_, ?_, ?_, trivial⟩
            · refine .inl ⟨.inl rfl, ?_⟩
              exact .inl ⟨by kernel_rfl, fun L a1 w1 n h => ⟨_, rfl, run_move (.tmp 6) rfl (h.var n 6 (by kernel_rfl))⟩⟩
            · refine .inl ⟨.inl rfl, ?_⟩
              refine .inr fun L a1 w1 n h K hK => ?_
              have e0 : a1.eval (.tmp 62) = ptr gc := h.dep n 0 62 (by kernel_rfl) rfl
              refine JF.call (FNo_mono ) h hK 63 rfl 50 _ _ #[ptr gc] rfl Try.call50 ?_ (life_any w1 gc _ _ _ _ _ _ _ (Row.later hP.2.2 h.inv.1)) ?_
              · simp only [List.map_toArray, List.map_cons, List.map_nil, e0]
              · rintro e w3 ⟨rfl, rfl⟩
                exact ⟨_, rfl, rfl, trivial, (Below.refl _ _)⟩
            · refine .inl ⟨.inl rfl, ?_⟩
              exact .inl ⟨by kernel_rfl, fun L a1 w1 n h => ⟨_, rfl, run_move (.tmp 8) rfl (h.var n 8 (by kernel_rfl))⟩⟩
            · refine .inl ⟨.inl rfl, ?_⟩
              exact .inl ⟨by kernel_rfl, fun L a1 w1 n h => ⟨_, rfl, run_lssI (.tmp 63) (.tmp 64) rfl (h.dep n 1 63 (by kernel_rfl) rfl) (h.dep n 2 64 (by kernel_rfl) rfl) hq1⟩⟩
            · refine .inl ⟨.inl rfl, ?_⟩
              exact .inl ⟨by kernel_rfl, fun L a1 w1 n h => ⟨_, rfl, run_move (.tmp 65) rfl (h.dep n 3 65 (by kernel_rfl) rfl)⟩⟩
            · refine .inl ⟨.inr ⟨4, false, 66, rfl, by kernel_rfl, rfl, by simp, fun v h => h⟩, ?_⟩
              exact .inl ⟨by kernel_rfl, fun L a1 w1 n h => ⟨_, rfl, run_move (.tmp 6) rfl (h.var n 6 (by kernel_rfl))⟩⟩
            · refine .inl ⟨.inr ⟨4, false, 66, rfl, by kernel_rfl, rfl, by simp, fun v h => h⟩, ?_⟩
              refine .inr fun L a1 w1 n h K hK => ?_
              have e0 : a1.eval (.tmp 67) = ptr gc := h.dep n 5 67 (by kernel_rfl) rfl
              refine JF.call (FNo_mono ) h hK 68 rfl 51 _ _ #[ptr gc] rfl Try.call51 ?_ (pin_any w1 gc _ _ _ _ _ _ _ (Row.later hP.2.2 h.inv.1)) ?_
              · simp only [List.map_toArray, List.map_cons, List.map_nil, e0]
              · rintro e w3 ⟨rfl, b9⟩
                exact ⟨_, rfl, rfl, trivial, b9⟩
            · refine .inl ⟨.inr ⟨4, false, 66, rfl, by kernel_rfl, rfl, by simp, fun v h => h⟩, ?_⟩
              exact .inl ⟨by kernel_rfl, fun L a1 w1 n h => ⟨_, rfl, run_loadP 83 (.tmp 9) g9 0 83 [] [.int .i64 a0, .int .i64 b0] [] _ rfl (h.var n 9 (by kernel_rfl)) (Row.later r9 h.inv.1) rfl Try.underlying83 rfl (szPin _ _)⟩⟩
            · refine .inl ⟨.inr ⟨4, false, 66, rfl, by kernel_rfl, rfl, by simp, fun v h => h⟩, ?_⟩
              refine .inr fun L a1 w1 n h K hK => ?_
              have e0 : a1.eval (.tmp 68) = pin s.a s.b := h.dep n 6 68 (by kernel_rfl) rfl
              have e1 : a1.eval (.tmp 69) = pin a0 b0 := h.dep n 7 69 (by kernel_rfl) rfl
              refine JF.call (FNo_mono ) h hK 70 rfl 52 _ _ #[pin s.a s.b, pin a0 b0] rfl Try.call52 ?_ (less_any s.a s.b a0 b0 w1) ?_
              · simp only [List.map_toArray, List.map_cons, List.map_nil, e0, e1]
              · rintro e w3 ⟨rfl, b9⟩
                exact ⟨_, rfl, congrArg Value.bool hq2, trivial, b9⟩
            · refine .inl ⟨.inl rfl, ?_⟩
              exact .inl ⟨by kernel_rfl, fun L a1 w1 n h => ⟨_, rfl, run_pickF (.tmp 66) _ _ rfl (h.dep n 4 66 (by kernel_rfl) rfl) (h.dep n 8 70 (by kernel_rfl) rfl)⟩⟩
            · refine .inl ⟨.inl rfl, ?_⟩
              exact .inl ⟨by kernel_rfl, fun L a1 w1 n h => ⟨_, rfl, run_move (.tmp 71) rfl (h.dep n 9 71 (by kernel_rfl) rfl)⟩⟩
            · refine .inl ⟨.inr ⟨10, false, 72, rfl, by kernel_rfl, rfl, by simp, fun v h => h⟩, ?_⟩
              exact .inl ⟨by kernel_rfl, fun L a1 w1 n h => ⟨_, rfl, run_move (.tmp 10) rfl (h.var n 10 (by kernel_rfl))⟩⟩
            · refine .inl ⟨.inr ⟨10, false, 72, rfl, by kernel_rfl, rfl, by simp, fun v h => h⟩, ?_⟩
              exact .inl ⟨by kernel_rfl, fun L a1 w1 n h => ⟨_, rfl, run_neqI (.tmp 73) (.const (.int .i64 0)) rfl (h.dep n 11 73 (by kernel_rfl) rfl) rfl hev.out⟩⟩
            · refine .inl ⟨.inr ⟨10, false, 72, rfl, by kernel_rfl, rfl, by simp, fun v h => h⟩, ?_⟩
              exact .inl ⟨by kernel_rfl, fun L a1 w1 n h => ⟨_, rfl, run_move (.tmp 74) rfl (h.dep n 12 74 (by kernel_rfl) rfl)⟩⟩
            · exact .inr ⟨⟨13, true, 75, rfl, by kernel_rfl, rfl, by simp, fun v h => by rw [show v = .bool false from h]; first | exact ne_tf | exact ne_ft | exact ne_undef _⟩, by kernel_rfl, rfl⟩
            · exact .inr ⟨⟨13, true, 75, rfl, by kernel_rfl, rfl, by simp, fun v h => by rw [show v = .bool false from h]; first | exact ne_tf | exact ne_ft | exact ne_undef _⟩, by kernel_rfl, rfl⟩
            · exact .inr ⟨⟨13, true, 75, rfl, by kernel_rfl, rfl, by simp, fun v h => by rw [show v = .bool false from h]; first | exact ne_tf | exact ne_ft | exact ne_undef _⟩, by kernel_rfl, rfl⟩
            · exact .inr ⟨⟨13, true, 75, rfl, by kernel_rfl, rfl, by simp, fun v h => by rw [show v = .bool false from h]; first | exact ne_tf | exact ne_ft | exact ne_undef _⟩, by kernel_rfl, rfl⟩
            · exact .inr ⟨⟨13, true, 75, rfl, by kernel_rfl, rfl, by simp, fun v h => by rw [show v = .bool false from h]; first | exact ne_tf | exact ne_ft | exact ne_undef _⟩, by kernel_rfl, rfl⟩
            · exact .inr ⟨⟨18, false, 80, rfl, by kernel_rfl, rfl, by simp, fun v h => by rw [show v = undef from h]; first | exact ne_tf | exact ne_ft | exact ne_undef _⟩, by kernel_rfl, rfl⟩
            · exact .inr ⟨⟨18, false, 80, rfl, by kernel_rfl, rfl, by simp, fun v h => by rw [show v = undef from h]; first | exact ne_tf | exact ne_ft | exact ne_undef _⟩, by kernel_rfl, rfl⟩
            · exact .inr ⟨⟨18, false, 80, rfl, by kernel_rfl, rfl, by simp, fun v h => by rw [show v = undef from h]; first | exact ne_tf | exact ne_ft | exact ne_undef _⟩, by kernel_rfl, rfl⟩
            · exact .inr ⟨⟨18, false, 80, rfl, by kernel_rfl, rfl, by simp, fun v h => by rw [show v = undef from h]; first | exact ne_tf | exact ne_ft | exact ne_undef _⟩, by kernel_rfl, rfl⟩
            · exact .inr ⟨⟨13, true, 75, rfl, by kernel_rfl, rfl, by simp, fun v h => by rw [show v = .bool false from h]; first | exact ne_tf | exact ne_ft | exact ne_undef _⟩, by kernel_rfl, rfl⟩
            · refine .inl ⟨.inr ⟨10, false, 72, rfl, by kernel_rfl, rfl, by simp, fun v h => h⟩, ?_⟩
              exact .inl ⟨by kernel_rfl, fun L a1 w1 n h => ⟨_, rfl, run_pickF (.tmp 75) _ _ rfl (h.dep n 13 75 (by kernel_rfl) rfl) rfl⟩⟩
            · refine .inl ⟨.inl rfl, ?_⟩
              exact .inl ⟨by kernel_rfl, fun L a1 w1 n h => ⟨_, rfl, run_pickF (.tmp 72) _ _ rfl (h.dep n 10 72 (by kernel_rfl) rfl) (h.dep n 24 86 (by kernel_rfl) rfl)⟩⟩
          case heSA =>
            intro V wx hV2 hJ
            have hz : V 25 = .bool false := hV2 25 87 rfl
            have bwx : Below we.heap.size we wx := hJ.1
            have hP := hP.later bwx
            have r2 := Row.later r2 bwx
            clear hV2 hJ
            simp only [putOps, List.setIfInBounds_toArray, List.set_cons_succ, List.set_cons_zero, Nat.reduceAdd]
            rw [hz]
            refine hK7 _ _ ?_
            clear hz
            go_wp2_with fail
            rename_i K8 hK8
            refine wp_region_valsS [1, 4, 8, 12, 17, 20] (SC gc g2 n1 n2 n3 n4 n5 n6 n7 s) (JF wx [1, 4, 8, 12, 17, 20] FNo) (by kernel_rfl) (by kernel_rfl) (by kernel_rfl) (by kernel_rfl) (JF.start _) ?obsSC ?heSC
            case obsSC =>
              refine ⟨?_, ?_, ?_, ?_, ?_, ?_, ?_, ?_, ?_, ?_, ?_, ?_, ?_, ?_, ?_, ?_, ?_, ?_, ?_, ?_, ?_, ?_, ?_, trivial⟩
              · refine .inl ⟨.inl rfl, ?_⟩
                exact .inl ⟨by kernel_rfl, fun L a1 w1 n h => ⟨_, rfl, run_move (.tmp 6) rfl (h.var n 6 (by kernel_rfl))⟩⟩
              · refine .inl ⟨.inl rfl, ?_⟩
                refine .inr fun L a1 w1 n h K hK => ?_
                have e0 : a1.eval (.tmp 88) = ptr gc := h.dep n 0 88 (by kernel_rfl) rfl
                refine JF.call (FNo_mono ) h hK 89 rfl 50 _ _ #[ptr gc] rfl Try.call50 ?_ (life_any w1 gc _ _ _ _ _ _ _ (Row.later hP.2.2 h.inv.1)) ?_
                · simp only [List.map_toArray, List.map_cons, List.map_nil, e0]
                · rintro e w3 ⟨rfl, rfl⟩
                  exact ⟨_, rfl, rfl, trivial, (Below.refl _ _)⟩
              · refine .inl ⟨.inl rfl, ?_⟩
                refine .inl ⟨by kernel_rfl, fun L a1 w1 n h => ⟨.pointer (some ⟨g2, 4, none⟩), rfl, ?_⟩⟩
                have e0 : a1.eval (.tmp 2) = _ := h.var n 2 (by kernel_rfl)
                unfold execOp
                simp only [e0]
                go_simp
              · refine .inl ⟨.inl rfl, ?_⟩
                exact .inl ⟨by kernel_rfl, fun L a1 w1 n h => ⟨_, rfl, run_loadA 3 (.tmp 90) ⟨g2, 4, none⟩ rfl Try.isAgg3 (h.dep n 2 90 (by kernel_rfl) rfl) ((Row.later r2 h.inv.1).cell (j := 4) (v := .int .i64 n5) rfl)⟩⟩
              · refine .inl ⟨.inl rfl, ?_⟩
                refine .inr fun L a1 w1 n h K hK => ?_
                have e0 : a1.eval (.tmp 91) = .int .i64 n5 := h.dep n 3 91 (by kernel_rfl) rfl
                refine JF.call (FNo_mono ) h hK 92 rfl 53 _ _ #[.int .i64 n5] rfl Try.call53 ?_ (bound_any n5 w1) ?_
                · simp only [List.map_toArray, List.map_cons, List.map_nil, e0]
                · rintro e w3 ⟨rfl, rfl⟩
                  exact ⟨_, rfl, rfl, trivial, (Below.refl _ _)⟩
              · refine .inl ⟨.inl rfl, ?_⟩
                exact .inl ⟨by kernel_rfl, fun L a1 w1 n h => ⟨_, rfl, run_gtrI (.tmp 89) (.tmp 92) rfl (h.dep n 1 89 (by kernel_rfl) rfl) (h.dep n 4 92 (by kernel_rfl) rfl) hq5⟩⟩
              · refine .inl ⟨.inl rfl, ?_⟩
                exact .inl ⟨by kernel_rfl, fun L a1 w1 n h => ⟨_, rfl, run_move (.tmp 93) rfl (h.dep n 5 93 (by kernel_rfl) rfl)⟩⟩
              · refine .inl ⟨.inr ⟨6, false, 94, rfl, by kernel_rfl, rfl, by simp, fun v h => h⟩, ?_⟩
                exact .inl ⟨by kernel_rfl, fun L a1 w1 n h => ⟨_, rfl, run_move (.tmp 6) rfl (h.var n 6 (by kernel_rfl))⟩⟩
              · refine .inl ⟨.inr ⟨6, false, 94, rfl, by kernel_rfl, rfl, by simp, fun v h => h⟩, ?_⟩
                refine .inr fun L a1 w1 n h K hK => ?_
                have e0 : a1.eval (.tmp 95) = ptr gc := h.dep n 7 95 (by kernel_rfl) rfl
                refine JF.call (FNo_mono ) h hK 96 rfl 51 _ _ #[ptr gc] rfl Try.call51 ?_ (pin_any w1 gc _ _ _ _ _ _ _ (Row.later hP.2.2 h.inv.1)) ?_
                · simp only [List.map_toArray, List.map_cons, List.map_nil, e0]
                · rintro e w3 ⟨rfl, b9⟩
                  exact ⟨_, rfl, rfl, trivial, b9⟩
              · refine .inl ⟨.inr ⟨6, false, 94, rfl, by kernel_rfl, rfl, by simp, fun v h => h⟩, ?_⟩
                refine .inl ⟨by kernel_rfl, fun L a1 w1 n h => ⟨.int .i64 s.b, rfl, ?_⟩⟩
                have e0 : a1.eval (.tmp 96) = _ := h.dep n 8 96 (by kernel_rfl) rfl
                unfold execOp
                simp only [e0]
                go_simp
                rw [fieldPin1]
                rfl
              · refine .inl ⟨.inr ⟨6, false, 94, rfl, by kernel_rfl, rfl, by simp, fun v h => h⟩, ?_⟩
                refine .inl ⟨by kernel_rfl, fun L a1 w1 n h => ⟨.pointer (some ⟨g2, 2, none⟩), rfl, ?_⟩⟩
                have e0 : a1.eval (.tmp 2) = _ := h.var n 2 (by kernel_rfl)
                unfold execOp
                simp only [e0]
                go_simp
              · refine .inl ⟨.inr ⟨6, false, 94, rfl, by kernel_rfl, rfl, by simp, fun v h => h⟩, ?_⟩
                exact .inl ⟨by kernel_rfl, fun L a1 w1 n h => ⟨_, rfl, run_loadA 3 (.tmp 98) ⟨g2, 2, none⟩ rfl Try.isAgg3 (h.dep n 10 98 (by kernel_rfl) rfl) ((Row.later r2 h.inv.1).cell (j := 2) (v := .int .i64 n3) rfl)⟩⟩
              · refine .inl ⟨.inr ⟨6, false, 94, rfl, by kernel_rfl, rfl, by simp, fun v h => h⟩, ?_⟩
                refine .inr fun L a1 w1 n h K hK => ?_
                have e0 : a1.eval (.tmp 99) = .int .i64 n3 := h.dep n 11 99 (by kernel_rfl) rfl
                refine JF.call (FNo_mono ) h hK 100 rfl 53 _ _ #[.int .i64 n3] rfl Try.call53 ?_ (bound_any n3 w1) ?_
                · simp only [List.map_toArray, List.map_cons, List.map_nil, e0]
                · rintro e w3 ⟨rfl, rfl⟩
                  exact ⟨_, rfl, rfl, trivial, (Below.refl _ _)⟩
              · refine .inl ⟨.inr ⟨6, false, 94, rfl, by kernel_rfl, rfl, by simp, fun v h => h⟩, ?_⟩
                exact .inl ⟨by kernel_rfl, fun L a1 w1 n h => ⟨_, rfl, run_gtrI (.tmp 97) (.tmp 100) rfl (h.dep n 9 97 (by kernel_rfl) rfl) (h.dep n 12 100 (by kernel_rfl) rfl) hq6⟩⟩
              · refine .inl ⟨.inl rfl, ?_⟩
                exact .inl ⟨by kernel_rfl, fun L a1 w1 n h => ⟨_, rfl, run_pickF (.tmp 94) _ _ rfl (h.dep n 6 94 (by kernel_rfl) rfl) (h.dep n 13 101 (by kernel_rfl) rfl)⟩⟩
              · refine .inl ⟨.inl rfl, ?_⟩
                exact .inl ⟨by kernel_rfl, fun L a1 w1 n h => ⟨_, rfl, run_move (.tmp 102) rfl (h.dep n 14 102 (by kernel_rfl) rfl)⟩⟩
              · refine .inl ⟨.inr ⟨15, false, 103, rfl, by kernel_rfl, rfl, by simp, fun v h => h⟩, ?_⟩
                exact .inl ⟨by kernel_rfl, fun L a1 w1 n h => ⟨_, rfl, run_move (.tmp 6) rfl (h.var n 6 (by kernel_rfl))⟩⟩
              · refine .inl ⟨.inr ⟨15, false, 103, rfl, by kernel_rfl, rfl, by simp, fun v h => h⟩, ?_⟩
                refine .inr fun L a1 w1 n h K hK => ?_
                have e0 : a1.eval (.tmp 104) = ptr gc := h.dep n 16 104 (by kernel_rfl) rfl
                refine JF.call (FNo_mono ) h hK 105 rfl 51 _ _ #[ptr gc] rfl Try.call51 ?_ (pin_any w1 gc _ _ _ _ _ _ _ (Row.later hP.2.2 h.inv.1)) ?_
                · simp only [List.map_toArray, List.map_cons, List.map_nil, e0]
                · rintro e w3 ⟨rfl, b9⟩
                  exact ⟨_, rfl, rfl, trivial, b9⟩
              · refine .inl ⟨.inr ⟨15, false, 103, rfl, by kernel_rfl, rfl, by simp, fun v h => h⟩, ?_⟩
                refine .inl ⟨by kernel_rfl, fun L a1 w1 n h => ⟨.int .i64 s.a, rfl, ?_⟩⟩
                have e0 : a1.eval (.tmp 105) = _ := h.dep n 17 105 (by kernel_rfl) rfl
                unfold execOp
                simp only [e0]
                go_simp
                rw [fieldPin0]
                rfl
              · refine .inl ⟨.inr ⟨15, false, 103, rfl, by kernel_rfl, rfl, by simp, fun v h => h⟩, ?_⟩
                exact .inl ⟨by kernel_rfl, fun L a1 w1 n h => ⟨_, rfl, run_move (.tmp 6) rfl (h.var n 6 (by kernel_rfl))⟩⟩
              · refine .inl ⟨.inr ⟨15, false, 103, rfl, by kernel_rfl, rfl, by simp, fun v h => h⟩, ?_⟩
                refine .inr fun L a1 w1 n h K hK => ?_
                have e0 : a1.eval (.tmp 107) = ptr gc := h.dep n 19 107 (by kernel_rfl) rfl
                refine JF.call (FNo_mono ) h hK 108 rfl 50 _ _ #[ptr gc] rfl Try.call50 ?_ (life_any w1 gc _ _ _ _ _ _ _ (Row.later hP.2.2 h.inv.1)) ?_
                · simp only [List.map_toArray, List.map_cons, List.map_nil, e0]
                · rintro e w3 ⟨rfl, rfl⟩
                  exact ⟨_, rfl, rfl, trivial, (Below.refl _ _)⟩
              · refine .inl ⟨.inr ⟨15, false, 103, rfl, by kernel_rfl, rfl, by simp, fun v h => h⟩, ?_⟩
                exact .inl ⟨by kernel_rfl, fun L a1 w1 n h => ⟨_, rfl, run_gtrI (.tmp 106) (.tmp 108) rfl (h.dep n 18 106 (by kernel_rfl) rfl) (h.dep n 20 108 (by kernel_rfl) rfl) hq7⟩⟩
              · refine .inl ⟨.inl rfl, ?_⟩
                exact .inl ⟨by kernel_rfl, fun L a1 w1 n h => ⟨_, rfl, run_pickF (.tmp 103) _ _ rfl (h.dep n 15 103 (by kernel_rfl) rfl) (h.dep n 21 109 (by kernel_rfl) rfl)⟩⟩
            case heSC =>
              intro V wy hV2 hJ
              have hz : V 22 = .bool false := hV2 22 110 rfl
              have bwy : Below wx.heap.size wx wy := hJ.1
              have hP := hP.later bwy
              have r2 := Row.later r2 bwy
              clear hV2 hJ
              simp only [putOps, List.setIfInBounds_toArray, List.set_cons_succ, List.set_cons_zero, Nat.reduceAdd]
              rw [hz]
              refine hK8 _ _ ?_
              clear hz
              have hB9 := (Be.trans ((bwx.trans (bwy.mono bwx.size)).mono Be.size))
              go_wp2
              go_roundw
              case rel => exact ⟨i + 1, s, by omega, by go_num, hP, r2, hfine, hB9⟩
              case measure => simp [intOf]; omega
        · obtain ⟨hk0, hk3, hk4⟩ := hk
          have hk0 : ¬ kd % 5 = 0 := hk0
          have hk3 : ¬ kd % 5 = 3 := hk3
          have hk4 : ¬ kd % 5 = 4 := hk4
          clear d3 m0
          go_wp2_with fail
          refine (life_any wr gc _ _ _ _ _ _ _ hP.2.2).mono ?_
          rintro e wa' ⟨rfl, rfl⟩
          go_wp2_with fail
          refine (pin_any wr gc _ _ _ _ _ _ _ hP.2.2).mono ?_
          rintro e wb' ⟨rfl, bb2⟩
          have hP0 := hP.later bb2
          have r20 := Row.later r2 bb2
          have hBb := hB.trans (bb2.mono hB.size)
          clear hB hP r2
          go_wp2_with (first
            | ((with_reducible refine wl_alloc rfl 83 _ [.int .i64 0, .int .i64 0] rfl zeroPin rfl ?_); intro g9 wc' r90 p9 l9 bc2; have hP1 := hP0.later bc2; have r21 := Row.later r20 bc2; have hBc := hBb.trans (bc2.mono hBb.size); have p9' := Nat.le_trans hBb.size p9)
            | ((with_reducible refine wl_store_row rfl 83 (.tmp 9) (.tmp 28) g9 83 _ [.int .i64 s.a, .int .i64 s.b] rfl rfl rfl r90 (szPin _ _) rfl (one_pin _ _) ?_); intro wd' r9 o9; have r2 := r21.only o9 (row_ne r21 r90 (by decide)); have hP := hP1.buts (Buts.only (S := [g9]) o9 (by simp)) (by simp; exact row_ne hP1.1 r90 (by decide)) (by simp; exact row_ne hP1.2.1 r90 (by decide)) (by simp; exact row_ne hP1.2.2 r90 (by decide)); have hB := hBc.trans (o9.below p9'); have d0' := (hB.cell (p := ⟨bb, oo + i * 4, none⟩) hbb).trans d0; have d1' := (hB.cell (p := ⟨bb, oo + i * 4 + 1, none⟩) hbb).trans d1; have d2' := (hB.cell (p := ⟨bb, oo + i * 4 + 2, none⟩) hbb).trans d2; have tc := two_cells d1' d2'; clear d1' d2')
            | (with_reducible refine wl_load_cells rfl 83 (.tmp 39) bb (oo + i * 4 + 1) [.int .i64 p1, .int .i64 p2] _ rfl rfl tc Try.underlying83 rfl (szPin _ _) ?_))
          have c9 := row_ne r9 hP.2.2 (by decide)
          have e9 := row_ne r9 hP.2.1 (by decide)
          clear hP0 hP1 r20 r21 r90 hBb hBc
          refine (pRaise _ gP gp gc (bnd n5) (bnd n3) p1 p2 s hP fine.1 hnP).mono ?_
          rintro e we ⟨rfl, hP, be⟩
          have r9 := Row.buts r9 be (by simp; exact ⟨c9, e9⟩)
          have r2 := Row.buts r2 be n2'
          have Be := hB.trans (be.below hS1 hB.size)
          clear c9 e9 hB
          have ro : Rose s (s.raise (bnd n3) p1 p2) (s.raiseV (bnd n3) p1 p2) (bnd n5) (bnd n3) := rose_raise fine
          obtain ⟨hlf, hq2, hsame, hfine⟩ := ro
          generalize s.raiseV (bnd n3) p1 p2 = ev at *
          generalize s.raise (bnd n3) p1 p2 = s' at *
          generalize s.life = life0 at *
          generalize s.a = a0 at *
          generalize s.b = b0 at *
          generalize s' = s at *
          clear d0 d0' d1 d2 tc hk0 hk3 hk4 k0 k1 p0
          have hq1 : decide (s.life < life0) = false := by simp; omega
          have hq5 : decide (bnd n5 < s.life) = false := by have := hfine.1.2.2; simp; omega
          have hq6 : decide (bnd n3 < s.b) = false := by have := hfine.2.2; simp; omega
          have hq7 : decide (s.life < s.a) = false := by have := hfine.2.1; simp; omega
          by_cases hev0 : ev = 0
          · have hev := hide (show decide (ev = 0) = !false by simp [hev0])
            clear hev0 hsame
            go_wp2_with fail
            rename_i K7 hK7
            refine wp_region_valsS [1, 6, 8] (SA gc g9 life0 a0 b0 ev s) (JF we [1, 6, 8] FNo) (by kernel_rfl) (by kernel_rfl) (by kernel_rfl) (by kernel_rfl) (JF.start _) ?obsSA ?heSA
            case obsSA =>
              refine ⟨?_, ?_, ?_, ?_, ?_, ?_, ?_, ?_, ?_, ?_, ?_, ?_, ?_, ?_, ?_, ?_, ?_, ?_, ?_, ?_, ?_, ?_, ?_, ?_, ?_, ?_, trivial⟩
              · refine .inl ⟨.inl rfl, ?_⟩
                exact .inl ⟨by kernel_rfl, fun L a1 w1 n h => ⟨_, rfl, run_move (.tmp 6) rfl (h.var n 6 (by kernel_rfl))⟩⟩
              · refine .inl ⟨.inl rfl, ?_⟩
                refine .inr fun L a1 w1 n h K hK => ?_
                have e0 : a1.eval (.tmp 62) = ptr gc := h.dep n 0 62 (by kernel_rfl) rfl
                refine JF.call (FNo_mono ) h hK 63 rfl 50 _ _ #[ptr gc] rfl Try.call50 ?_ (life_any w1 gc _ _ _ _ _ _ _ (Row.later hP.2.2 h.inv.1)) ?_
                · simp only [List.map_toArray, List.map_cons, List.map_nil, e0]
                · rintro e w3 ⟨rfl, rfl⟩
                  exact ⟨_, rfl, rfl, trivial, (Below.refl _ _)⟩
              · refine .inl ⟨.inl rfl, ?_⟩
                exact .inl ⟨by kernel_rfl, fun L a1 w1 n h => ⟨_, rfl, run_move (.tmp 8) rfl (h.var n 8 (by kernel_rfl))⟩⟩
              · refine .inl ⟨.inl rfl, ?_⟩
                exact .inl ⟨by kernel_rfl, fun L a1 w1 n h => ⟨_, rfl, run_lssI (.tmp 63) (.tmp 64) rfl (h.dep n 1 63 (by kernel_rfl) rfl) (h.dep n 2 64 (by kernel_rfl) rfl) hq1⟩⟩
              · refine .inl ⟨.inl rfl, ?_⟩
                exact .inl ⟨by kernel_rfl, fun L a1 w1 n h => ⟨_, rfl, run_move (.tmp 65) rfl (h.dep n 3 65 (by kernel_rfl) rfl)⟩⟩
              · refine .inl ⟨.inr ⟨4, false, 66, rfl, by kernel_rfl, rfl, by simp, fun v h => h⟩, ?_⟩
                exact .inl ⟨by kernel_rfl, fun L a1 w1 n h => ⟨_, rfl, run_move (.tmp 6) rfl (h.var n 6 (by kernel_rfl))⟩⟩
              · refine .inl ⟨.inr ⟨4, false, 66, rfl, by kernel_rfl, rfl, by simp, fun v h => h⟩, ?_⟩
                refine .inr fun L a1 w1 n h K hK => ?_
                have e0 : a1.eval (.tmp 67) = ptr gc := h.dep n 5 67 (by kernel_rfl) rfl
                refine JF.call (FNo_mono ) h hK 68 rfl 51 _ _ #[ptr gc] rfl Try.call51 ?_ (pin_any w1 gc _ _ _ _ _ _ _ (Row.later hP.2.2 h.inv.1)) ?_
                · simp only [List.map_toArray, List.map_cons, List.map_nil, e0]
                · rintro e w3 ⟨rfl, b9⟩
                  exact ⟨_, rfl, rfl, trivial, b9⟩
              · refine .inl ⟨.inr ⟨4, false, 66, rfl, by kernel_rfl, rfl, by simp, fun v h => h⟩, ?_⟩
                exact .inl ⟨by kernel_rfl, fun L a1 w1 n h => ⟨_, rfl, run_loadP 83 (.tmp 9) g9 0 83 [] [.int .i64 a0, .int .i64 b0] [] _ rfl (h.var n 9 (by kernel_rfl)) (Row.later r9 h.inv.1) rfl Try.underlying83 rfl (szPin _ _)⟩⟩
              · refine .inl ⟨.inr ⟨4, false, 66, rfl, by kernel_rfl, rfl, by simp, fun v h => h⟩, ?_⟩
                refine .inr fun L a1 w1 n h K hK => ?_
                have e0 : a1.eval (.tmp 68) = pin s.a s.b := h.dep n 6 68 (by kernel_rfl) rfl
                have e1 : a1.eval (.tmp 69) = pin a0 b0 := h.dep n 7 69 (by kernel_rfl) rfl
                refine JF.call (FNo_mono ) h hK 70 rfl 52 _ _ #[pin s.a s.b, pin a0 b0] rfl Try.call52 ?_ (less_any s.a s.b a0 b0 w1) ?_
                · simp only [List.map_toArray, List.map_cons, List.map_nil, e0, e1]
                · rintro e w3 ⟨rfl, b9⟩
                  exact ⟨_, rfl, congrArg Value.bool hq2, trivial, b9⟩
              · refine .inl ⟨.inl rfl, ?_⟩
                exact .inl ⟨by kernel_rfl, fun L a1 w1 n h => ⟨_, rfl, run_pickF (.tmp 66) _ _ rfl (h.dep n 4 66 (by kernel_rfl) rfl) (h.dep n 8 70 (by kernel_rfl) rfl)⟩⟩
              · refine .inl ⟨.inl rfl, ?_⟩
                exact .inl ⟨by kernel_rfl, fun L a1 w1 n h => ⟨_, rfl, run_move (.tmp 71) rfl (h.dep n 9 71 (by kernel_rfl) rfl)⟩⟩
              · refine .inl ⟨.inr ⟨10, false, 72, rfl, by kernel_rfl, rfl, by simp, fun v h => h⟩, ?_⟩
                exact .inl ⟨by kernel_rfl, fun L a1 w1 n h => ⟨_, rfl, run_move (.tmp 10) rfl (h.var n 10 (by kernel_rfl))⟩⟩
              · refine .inl ⟨.inr ⟨10, false, 72, rfl, by kernel_rfl, rfl, by simp, fun v h => h⟩, ?_⟩
                exact .inl ⟨by kernel_rfl, fun L a1 w1 n h => ⟨_, rfl, run_neqI (.tmp 73) (.const (.int .i64 0)) rfl (h.dep n 11 73 (by kernel_rfl) rfl) rfl hev.out⟩⟩
              · refine .inl ⟨.inr ⟨10, false, 72, rfl, by kernel_rfl, rfl, by simp, fun v h => h⟩, ?_⟩
                exact .inl ⟨by kernel_rfl, fun L a1 w1 n h => ⟨_, rfl, run_move (.tmp 74) rfl (h.dep n 12 74 (by kernel_rfl) rfl)⟩⟩
              · exact .inr ⟨⟨13, true, 75, rfl, by kernel_rfl, rfl, by simp, fun v h => by rw [show v = .bool false from h]; first | exact ne_tf | exact ne_ft | exact ne_undef _⟩, by kernel_rfl, rfl⟩
              · exact .inr ⟨⟨13, true, 75, rfl, by kernel_rfl, rfl, by simp, fun v h => by rw [show v = .bool false from h]; first | exact ne_tf | exact ne_ft | exact ne_undef _⟩, by kernel_rfl, rfl⟩
              · exact .inr ⟨⟨13, true, 75, rfl, by kernel_rfl, rfl, by simp, fun v h => by rw [show v = .bool false from h]; first | exact ne_tf | exact ne_ft | exact ne_undef _⟩, by kernel_rfl, rfl⟩
              · exact .inr ⟨⟨13, true, 75, rfl, by kernel_rfl, rfl, by simp, fun v h => by rw [show v = .bool false from h]; first | exact ne_tf | exact ne_ft | exact ne_undef _⟩, by kernel_rfl, rfl⟩
              · exact .inr ⟨⟨13, true, 75, rfl, by kernel_rfl, rfl, by simp, fun v h => by rw [show v = .bool false from h]; first | exact ne_tf | exact ne_ft | exact ne_undef _⟩, by kernel_rfl, rfl⟩
              · exact .inr ⟨⟨18, false, 80, rfl, by kernel_rfl, rfl, by simp, fun v h => by rw [show v = undef from h]; first | exact ne_tf | exact ne_ft | exact ne_undef _⟩, by kernel_rfl, rfl⟩
              · exact .inr ⟨⟨18, false, 80, rfl, by kernel_rfl, rfl, by simp, fun v h => by rw [show v = undef from h]; first | exact ne_tf | exact ne_ft | exact ne_undef _⟩, by kernel_rfl, rfl⟩
              · exact .inr ⟨⟨18, false, 80, rfl, by kernel_rfl, rfl, by simp, fun v h => by rw [show v = undef from h]; first | exact ne_tf | exact ne_ft | exact ne_undef _⟩, by kernel_rfl, rfl⟩
              · exact .inr ⟨⟨18, false, 80, rfl, by kernel_rfl, rfl, by simp, fun v h => by rw [show v = undef from h]; first | exact ne_tf | exact ne_ft | exact ne_undef _⟩, by kernel_rfl, rfl⟩
              · exact .inr ⟨⟨13, true, 75, rfl, by kernel_rfl, rfl, by simp, fun v h => by rw [show v = .bool false from h]; first | exact ne_tf | exact ne_ft | exact ne_undef _⟩, by kernel_rfl, rfl⟩
              · refine .inl ⟨.inr ⟨10, false, 72, rfl, by kernel_rfl, rfl, by simp, fun v h => h⟩, ?_⟩
                exact .inl ⟨by kernel_rfl, fun L a1 w1 n h => ⟨_, rfl, run_pickF (.tmp 75) _ _ rfl (h.dep n 13 75 (by kernel_rfl) rfl) rfl⟩⟩
              · refine .inl ⟨.inl rfl, ?_⟩
                exact .inl ⟨by kernel_rfl, fun L a1 w1 n h => ⟨_, rfl, run_pickF (.tmp 72) _ _ rfl (h.dep n 10 72 (by kernel_rfl) rfl) (h.dep n 24 86 (by kernel_rfl) rfl)⟩⟩
            case heSA =>
              intro V wx hV2 hJ
              have hz : V 25 = .bool false := hV2 25 87 rfl
              have bwx : Below we.heap.size we wx := hJ.1
              have hP := hP.later bwx
              have r2 := Row.later r2 bwx
              clear hV2 hJ
              simp only [putOps, List.setIfInBounds_toArray, List.set_cons_succ, List.set_cons_zero, Nat.reduceAdd]
              rw [hz]
              refine hK7 _ _ ?_
              clear hz
              go_wp2_with fail
              rename_i K8 hK8
              refine wp_region_valsS [1, 4, 8, 12, 17, 20] (SC gc g2 n1 n2 n3 n4 n5 n6 n7 s) (JF wx [1, 4, 8, 12, 17, 20] FNo) (by kernel_rfl) (by kernel_rfl) (by kernel_rfl) (by kernel_rfl) (JF.start _) ?obsSC ?heSC
              case obsSC =>
                refine ⟨?_, ?_, ?_, ?_, ?_, ?_, ?_, ?_, ?_, ?_, ?_, ?_, ?_, ?_, ?_, ?_, ?_, ?_, ?_, ?_, ?_, ?_, ?_, trivial⟩
                · refine .inl ⟨.inl rfl, ?_⟩
                  exact .inl ⟨by kernel_rfl, fun L a1 w1 n h => ⟨_, rfl, run_move (.tmp 6) rfl (h.var n 6 (by kernel_rfl))⟩⟩
                · refine .inl ⟨.inl rfl, ?_⟩
                  refine .inr fun L a1 w1 n h K hK => ?_
                  have e0 : a1.eval (.tmp 88) = ptr gc := h.dep n 0 88 (by kernel_rfl) rfl
                  refine JF.call (FNo_mono ) h hK 89 rfl 50 _ _ #[ptr gc] rfl Try.call50 ?_ (life_any w1 gc _ _ _ _ _ _ _ (Row.later hP.2.2 h.inv.1)) ?_
                  · simp only [List.map_toArray, List.map_cons, List.map_nil, e0]
                  · rintro e w3 ⟨rfl, rfl⟩
                    exact ⟨_, rfl, rfl, trivial, (Below.refl _ _)⟩
                · refine .inl ⟨.inl rfl, ?_⟩
                  refine .inl ⟨by kernel_rfl, fun L a1 w1 n h => ⟨.pointer (some ⟨g2, 4, none⟩), rfl, ?_⟩⟩
                  have e0 : a1.eval (.tmp 2) = _ := h.var n 2 (by kernel_rfl)
                  unfold execOp
                  simp only [e0]
                  go_simp
                · refine .inl ⟨.inl rfl, ?_⟩
                  exact .inl ⟨by kernel_rfl, fun L a1 w1 n h => ⟨_, rfl, run_loadA 3 (.tmp 90) ⟨g2, 4, none⟩ rfl Try.isAgg3 (h.dep n 2 90 (by kernel_rfl) rfl) ((Row.later r2 h.inv.1).cell (j := 4) (v := .int .i64 n5) rfl)⟩⟩
                · refine .inl ⟨.inl rfl, ?_⟩
                  refine .inr fun L a1 w1 n h K hK => ?_
                  have e0 : a1.eval (.tmp 91) = .int .i64 n5 := h.dep n 3 91 (by kernel_rfl) rfl
                  refine JF.call (FNo_mono ) h hK 92 rfl 53 _ _ #[.int .i64 n5] rfl Try.call53 ?_ (bound_any n5 w1) ?_
                  · simp only [List.map_toArray, List.map_cons, List.map_nil, e0]
                  · rintro e w3 ⟨rfl, rfl⟩
                    exact ⟨_, rfl, rfl, trivial, (Below.refl _ _)⟩
                · refine .inl ⟨.inl rfl, ?_⟩
                  exact .inl ⟨by kernel_rfl, fun L a1 w1 n h => ⟨_, rfl, run_gtrI (.tmp 89) (.tmp 92) rfl (h.dep n 1 89 (by kernel_rfl) rfl) (h.dep n 4 92 (by kernel_rfl) rfl) hq5⟩⟩
                · refine .inl ⟨.inl rfl, ?_⟩
                  exact .inl ⟨by kernel_rfl, fun L a1 w1 n h => ⟨_, rfl, run_move (.tmp 93) rfl (h.dep n 5 93 (by kernel_rfl) rfl)⟩⟩
                · refine .inl ⟨.inr ⟨6, false, 94, rfl, by kernel_rfl, rfl, by simp, fun v h => h⟩, ?_⟩
                  exact .inl ⟨by kernel_rfl, fun L a1 w1 n h => ⟨_, rfl, run_move (.tmp 6) rfl (h.var n 6 (by kernel_rfl))⟩⟩
                · refine .inl ⟨.inr ⟨6, false, 94, rfl, by kernel_rfl, rfl, by simp, fun v h => h⟩, ?_⟩
                  refine .inr fun L a1 w1 n h K hK => ?_
                  have e0 : a1.eval (.tmp 95) = ptr gc := h.dep n 7 95 (by kernel_rfl) rfl
                  refine JF.call (FNo_mono ) h hK 96 rfl 51 _ _ #[ptr gc] rfl Try.call51 ?_ (pin_any w1 gc _ _ _ _ _ _ _ (Row.later hP.2.2 h.inv.1)) ?_
                  · simp only [List.map_toArray, List.map_cons, List.map_nil, e0]
                  · rintro e w3 ⟨rfl, b9⟩
                    exact ⟨_, rfl, rfl, trivial, b9⟩
                · refine .inl ⟨.inr ⟨6, false, 94, rfl, by kernel_rfl, rfl, by simp, fun v h => h⟩, ?_⟩
                  refine .inl ⟨by kernel_rfl, fun L a1 w1 n h => ⟨.int .i64 s.b, rfl, ?_⟩⟩
                  have e0 : a1.eval (.tmp 96) = _ := h.dep n 8 96 (by kernel_rfl) rfl
                  unfold execOp
                  simp only [e0]
                  go_simp
                  rw [fieldPin1]
                  rfl
                · refine .inl ⟨.inr ⟨6, false, 94, rfl, by kernel_rfl, rfl, by simp, fun v h => h⟩, ?_⟩
                  refine .inl ⟨by kernel_rfl, fun L a1 w1 n h => ⟨.pointer (some ⟨g2, 2, none⟩), rfl, ?_⟩⟩
                  have e0 : a1.eval (.tmp 2) = _ := h.var n 2 (by kernel_rfl)
                  unfold execOp
                  simp only [e0]
                  go_simp
                · refine .inl ⟨.inr ⟨6, false, 94, rfl, by kernel_rfl, rfl, by simp, fun v h => h⟩, ?_⟩
                  exact .inl ⟨by kernel_rfl, fun L a1 w1 n h => ⟨_, rfl, run_loadA 3 (.tmp 98) ⟨g2, 2, none⟩ rfl Try.isAgg3 (h.dep n 10 98 (by kernel_rfl) rfl) ((Row.later r2 h.inv.1).cell (j := 2) (v := .int .i64 n3) rfl)⟩⟩
                · refine .inl ⟨.inr ⟨6, false, 94, rfl, by kernel_rfl, rfl, by simp, fun v h => h⟩, ?_⟩
                  refine .inr fun L a1 w1 n h K hK => ?_
                  have e0 : a1.eval (.tmp 99) = .int .i64 n3 := h.dep n 11 99 (by kernel_rfl) rfl
                  refine JF.call (FNo_mono ) h hK 100 rfl 53 _ _ #[.int .i64 n3] rfl Try.call53 ?_ (bound_any n3 w1) ?_
                  · simp only [List.map_toArray, List.map_cons, List.map_nil, e0]
                  · rintro e w3 ⟨rfl, rfl⟩
                    exact ⟨_, rfl, rfl, trivial, (Below.refl _ _)⟩
                · refine .inl ⟨.inr ⟨6, false, 94, rfl, by kernel_rfl, rfl, by simp, fun v h => h⟩, ?_⟩
                  exact .inl ⟨by kernel_rfl, fun L a1 w1 n h => ⟨_, rfl, run_gtrI (.tmp 97) (.tmp 100) rfl (h.dep n 9 97 (by kernel_rfl) rfl) (h.dep n 12 100 (by kernel_rfl) rfl) hq6⟩⟩
                · refine .inl ⟨.inl rfl, ?_⟩
                  exact .inl ⟨by kernel_rfl, fun L a1 w1 n h => ⟨_, rfl, run_pickF (.tmp 94) _ _ rfl (h.dep n 6 94 (by kernel_rfl) rfl) (h.dep n 13 101 (by kernel_rfl) rfl)⟩⟩
                · refine .inl ⟨.inl rfl, ?_⟩
                  exact .inl ⟨by kernel_rfl, fun L a1 w1 n h => ⟨_, rfl, run_move (.tmp 102) rfl (h.dep n 14 102 (by kernel_rfl) rfl)⟩⟩
                · refine .inl ⟨.inr ⟨15, false, 103, rfl, by kernel_rfl, rfl, by simp, fun v h => h⟩, ?_⟩
                  exact .inl ⟨by kernel_rfl, fun L a1 w1 n h => ⟨_, rfl, run_move (.tmp 6) rfl (h.var n 6 (by kernel_rfl))⟩⟩
                · refine .inl ⟨.inr ⟨15, false, 103, rfl, by kernel_rfl, rfl, by simp, fun v h => h⟩, ?_⟩
                  refine .inr fun L a1 w1 n h K hK => ?_
                  have e0 : a1.eval (.tmp 104) = ptr gc := h.dep n 16 104 (by kernel_rfl) rfl
                  refine JF.call (FNo_mono ) h hK 105 rfl 51 _ _ #[ptr gc] rfl Try.call51 ?_ (pin_any w1 gc _ _ _ _ _ _ _ (Row.later hP.2.2 h.inv.1)) ?_
                  · simp only [List.map_toArray, List.map_cons, List.map_nil, e0]
                  · rintro e w3 ⟨rfl, b9⟩
                    exact ⟨_, rfl, rfl, trivial, b9⟩
                · refine .inl ⟨.inr ⟨15, false, 103, rfl, by kernel_rfl, rfl, by simp, fun v h => h⟩, ?_⟩
                  refine .inl ⟨by kernel_rfl, fun L a1 w1 n h => ⟨.int .i64 s.a, rfl, ?_⟩⟩
                  have e0 : a1.eval (.tmp 105) = _ := h.dep n 17 105 (by kernel_rfl) rfl
                  unfold execOp
                  simp only [e0]
                  go_simp
                  rw [fieldPin0]
                  rfl
                · refine .inl ⟨.inr ⟨15, false, 103, rfl, by kernel_rfl, rfl, by simp, fun v h => h⟩, ?_⟩
                  exact .inl ⟨by kernel_rfl, fun L a1 w1 n h => ⟨_, rfl, run_move (.tmp 6) rfl (h.var n 6 (by kernel_rfl))⟩⟩
                · refine .inl ⟨.inr ⟨15, false, 103, rfl, by kernel_rfl, rfl, by simp, fun v h => h⟩, ?_⟩
                  refine .inr fun L a1 w1 n h K hK => ?_
                  have e0 : a1.eval (.tmp 107) = ptr gc := h.dep n 19 107 (by kernel_rfl) rfl
                  refine JF.call (FNo_mono ) h hK 108 rfl 50 _ _ #[ptr gc] rfl Try.call50 ?_ (life_any w1 gc _ _ _ _ _ _ _ (Row.later hP.2.2 h.inv.1)) ?_
                  · simp only [List.map_toArray, List.map_cons, List.map_nil, e0]
                  · rintro e w3 ⟨rfl, rfl⟩
                    exact ⟨_, rfl, rfl, trivial, (Below.refl _ _)⟩
                · refine .inl ⟨.inr ⟨15, false, 103, rfl, by kernel_rfl, rfl, by simp, fun v h => h⟩, ?_⟩
                  exact .inl ⟨by kernel_rfl, fun L a1 w1 n h => ⟨_, rfl, run_gtrI (.tmp 106) (.tmp 108) rfl (h.dep n 18 106 (by kernel_rfl) rfl) (h.dep n 20 108 (by kernel_rfl) rfl) hq7⟩⟩
                · refine .inl ⟨.inl rfl, ?_⟩
                  exact .inl ⟨by kernel_rfl, fun L a1 w1 n h => ⟨_, rfl, run_pickF (.tmp 103) _ _ rfl (h.dep n 15 103 (by kernel_rfl) rfl) (h.dep n 21 109 (by kernel_rfl) rfl)⟩⟩
              case heSC =>
                intro V wy hV2 hJ
                have hz : V 22 = .bool false := hV2 22 110 rfl
                have bwy : Below wx.heap.size wx wy := hJ.1
                have hP := hP.later bwy
                have r2 := Row.later r2 bwy
                clear hV2 hJ
                simp only [putOps, List.setIfInBounds_toArray, List.set_cons_succ, List.set_cons_zero, Nat.reduceAdd]
                rw [hz]
                refine hK8 _ _ ?_
                clear hz
                have hB9 := (Be.trans ((bwx.trans (bwy.mono bwx.size)).mono Be.size))
                go_wp2
                go_roundw
                case rel => exact ⟨i + 1, s, by omega, by go_num, hP, r2, hfine, hB9⟩
                case measure => simp [intOf]; omega
          · have hq3 := hide (show decide (s.life = life0) = !false by simp; exact (hsame hev0).1)
            have hq4 := hide (show decide (s.a = a0 ∧ s.b = b0) = true by simp; exact (hsame hev0).2)
            have hev := hide (show decide (ev = 0) = !true by simp [hev0])
            clear hsame hev0
            go_wp2_with fail
            rename_i K7 hK7
            refine wp_region_valsS [1, 6, 8, 15, 20] (SB gc g9 life0 a0 b0 ev s) (JF we [1, 6, 8, 15, 20] FNo) (by kernel_rfl) (by kernel_rfl) (by kernel_rfl) (by kernel_rfl) (JF.start _) ?obsSB ?heSB
            case obsSB =>
              refine ⟨?_, ?_, ?_, ?_, ?_, ?_, ?_, ?_, ?_, ?_, ?_, ?_, ?_, ?_, ?_, ?_, ?_, ?_, ?_, ?_, ?_, ?_, ?_, ?_, ?_, ?_, trivial⟩
              · refine .inl ⟨.inl rfl, ?_⟩
                exact .inl ⟨by kernel_rfl, fun L a1 w1 n h => ⟨_, rfl, run_move (.tmp 6) rfl (h.var n 6 (by kernel_rfl))⟩⟩
              · refine .inl ⟨.inl rfl, ?_⟩
                refine .inr fun L a1 w1 n h K hK => ?_
                have e0 : a1.eval (.tmp 62) = ptr gc := h.dep n 0 62 (by kernel_rfl) rfl
                refine JF.call (FNo_mono ) h hK 63 rfl 50 _ _ #[ptr gc] rfl Try.call50 ?_ (life_any w1 gc _ _ _ _ _ _ _ (Row.later hP.2.2 h.inv.1)) ?_
                · simp only [List.map_toArray, List.map_cons, List.map_nil, e0]
                · rintro e w3 ⟨rfl, rfl⟩
                  exact ⟨_, rfl, rfl, trivial, (Below.refl _ _)⟩
              · refine .inl ⟨.inl rfl, ?_⟩
                exact .inl ⟨by kernel_rfl, fun L a1 w1 n h => ⟨_, rfl, run_move (.tmp 8) rfl (h.var n 8 (by kernel_rfl))⟩⟩
              · refine .inl ⟨.inl rfl, ?_⟩
                exact .inl ⟨by kernel_rfl, fun L a1 w1 n h => ⟨_, rfl, run_lssI (.tmp 63) (.tmp 64) rfl (h.dep n 1 63 (by kernel_rfl) rfl) (h.dep n 2 64 (by kernel_rfl) rfl) hq1⟩⟩
              · refine .inl ⟨.inl rfl, ?_⟩
                exact .inl ⟨by kernel_rfl, fun L a1 w1 n h => ⟨_, rfl, run_move (.tmp 65) rfl (h.dep n 3 65 (by kernel_rfl) rfl)⟩⟩
              · refine .inl ⟨.inr ⟨4, false, 66, rfl, by kernel_rfl, rfl, by simp, fun v h => h⟩, ?_⟩
                exact .inl ⟨by kernel_rfl, fun L a1 w1 n h => ⟨_, rfl, run_move (.tmp 6) rfl (h.var n 6 (by kernel_rfl))⟩⟩
              · refine .inl ⟨.inr ⟨4, false, 66, rfl, by kernel_rfl, rfl, by simp, fun v h => h⟩, ?_⟩
                refine .inr fun L a1 w1 n h K hK => ?_
                have e0 : a1.eval (.tmp 67) = ptr gc := h.dep n 5 67 (by kernel_rfl) rfl
                refine JF.call (FNo_mono ) h hK 68 rfl 51 _ _ #[ptr gc] rfl Try.call51 ?_ (pin_any w1 gc _ _ _ _ _ _ _ (Row.later hP.2.2 h.inv.1)) ?_
                · simp only [List.map_toArray, List.map_cons, List.map_nil, e0]
                · rintro e w3 ⟨rfl, b9⟩
                  exact ⟨_, rfl, rfl, trivial, b9⟩
              · refine .inl ⟨.inr ⟨4, false, 66, rfl, by kernel_rfl, rfl, by simp, fun v h => h⟩, ?_⟩
                exact .inl ⟨by kernel_rfl, fun L a1 w1 n h => ⟨_, rfl, run_loadP 83 (.tmp 9) g9 0 83 [] [.int .i64 a0, .int .i64 b0] [] _ rfl (h.var n 9 (by kernel_rfl)) (Row.later r9 h.inv.1) rfl Try.underlying83 rfl (szPin _ _)⟩⟩
              · refine .inl ⟨.inr ⟨4, false, 66, rfl, by kernel_rfl, rfl, by simp, fun v h => h⟩, ?_⟩
                refine .inr fun L a1 w1 n h K hK => ?_
                have e0 : a1.eval (.tmp 68) = pin s.a s.b := h.dep n 6 68 (by kernel_rfl) rfl
                have e1 : a1.eval (.tmp 69) = pin a0 b0 := h.dep n 7 69 (by kernel_rfl) rfl
                refine JF.call (FNo_mono ) h hK 70 rfl 52 _ _ #[pin s.a s.b, pin a0 b0] rfl Try.call52 ?_ (less_any s.a s.b a0 b0 w1) ?_
                · simp only [List.map_toArray, List.map_cons, List.map_nil, e0, e1]
                · rintro e w3 ⟨rfl, b9⟩
                  exact ⟨_, rfl, congrArg Value.bool hq2, trivial, b9⟩
              · refine .inl ⟨.inl rfl, ?_⟩
                exact .inl ⟨by kernel_rfl, fun L a1 w1 n h => ⟨_, rfl, run_pickF (.tmp 66) _ _ rfl (h.dep n 4 66 (by kernel_rfl) rfl) (h.dep n 8 70 (by kernel_rfl) rfl)⟩⟩
              · refine .inl ⟨.inl rfl, ?_⟩
                exact .inl ⟨by kernel_rfl, fun L a1 w1 n h => ⟨_, rfl, run_move (.tmp 71) rfl (h.dep n 9 71 (by kernel_rfl) rfl)⟩⟩
              · refine .inl ⟨.inr ⟨10, false, 72, rfl, by kernel_rfl, rfl, by simp, fun v h => h⟩, ?_⟩
                exact .inl ⟨by kernel_rfl, fun L a1 w1 n h => ⟨_, rfl, run_move (.tmp 10) rfl (h.var n 10 (by kernel_rfl))⟩⟩
              · refine .inl ⟨.inr ⟨10, false, 72, rfl, by kernel_rfl, rfl, by simp, fun v h => h⟩, ?_⟩
                exact .inl ⟨by kernel_rfl, fun L a1 w1 n h => ⟨_, rfl, run_neqI (.tmp 73) (.const (.int .i64 0)) rfl (h.dep n 11 73 (by kernel_rfl) rfl) rfl hev.out⟩⟩
              · refine .inl ⟨.inr ⟨10, false, 72, rfl, by kernel_rfl, rfl, by simp, fun v h => h⟩, ?_⟩
                exact .inl ⟨by kernel_rfl, fun L a1 w1 n h => ⟨_, rfl, run_move (.tmp 74) rfl (h.dep n 12 74 (by kernel_rfl) rfl)⟩⟩
              · refine .inl ⟨.inr ⟨13, true, 75, rfl, by kernel_rfl, rfl, by simp, fun v h => h⟩, ?_⟩
                exact .inl ⟨by kernel_rfl, fun L a1 w1 n h => ⟨_, rfl, run_move (.tmp 6) rfl (h.var n 6 (by kernel_rfl))⟩⟩
              · refine .inl ⟨.inr ⟨13, true, 75, rfl, by kernel_rfl, rfl, by simp, fun v h => h⟩, ?_⟩
                refine .inr fun L a1 w1 n h K hK => ?_
                have e0 : a1.eval (.tmp 76) = ptr gc := h.dep n 14 76 (by kernel_rfl) rfl
                refine JF.call (FNo_mono ) h hK 77 rfl 50 _ _ #[ptr gc] rfl Try.call50 ?_ (life_any w1 gc _ _ _ _ _ _ _ (Row.later hP.2.2 h.inv.1)) ?_
                · simp only [List.map_toArray, List.map_cons, List.map_nil, e0]
                · rintro e w3 ⟨rfl, rfl⟩
                  exact ⟨_, rfl, rfl, trivial, (Below.refl _ _)⟩
              · refine .inl ⟨.inr ⟨13, true, 75, rfl, by kernel_rfl, rfl, by simp, fun v h => h⟩, ?_⟩
                exact .inl ⟨by kernel_rfl, fun L a1 w1 n h => ⟨_, rfl, run_move (.tmp 8) rfl (h.var n 8 (by kernel_rfl))⟩⟩
              · refine .inl ⟨.inr ⟨13, true, 75, rfl, by kernel_rfl, rfl, by simp, fun v h => h⟩, ?_⟩
                exact .inl ⟨by kernel_rfl, fun L a1 w1 n h => ⟨_, rfl, run_neqI (.tmp 77) (.tmp 78) rfl (h.dep n 15 77 (by kernel_rfl) rfl) (h.dep n 16 78 (by kernel_rfl) rfl) hq3.out⟩⟩
              · refine .inl ⟨.inr ⟨13, true, 75, rfl, by kernel_rfl, rfl, by simp, fun v h => h⟩, ?_⟩
                exact .inl ⟨by kernel_rfl, fun L a1 w1 n h => ⟨_, rfl, run_move (.tmp 79) rfl (h.dep n 17 79 (by kernel_rfl) rfl)⟩⟩
              · refine .inl ⟨.inr ⟨18, false, 80, rfl, by kernel_rfl, rfl, by simp, fun v h => h⟩, ?_⟩
                exact .inl ⟨by kernel_rfl, fun L a1 w1 n h => ⟨_, rfl, run_move (.tmp 6) rfl (h.var n 6 (by kernel_rfl))⟩⟩
              · refine .inl ⟨.inr ⟨18, false, 80, rfl, by kernel_rfl, rfl, by simp, fun v h => h⟩, ?_⟩
                refine .inr fun L a1 w1 n h K hK => ?_
                have e0 : a1.eval (.tmp 81) = ptr gc := h.dep n 19 81 (by kernel_rfl) rfl
                refine JF.call (FNo_mono ) h hK 82 rfl 51 _ _ #[ptr gc] rfl Try.call51 ?_ (pin_any w1 gc _ _ _ _ _ _ _ (Row.later hP.2.2 h.inv.1)) ?_
                · simp only [List.map_toArray, List.map_cons, List.map_nil, e0]
                · rintro e w3 ⟨rfl, b9⟩
                  exact ⟨_, rfl, rfl, trivial, b9⟩
              · refine .inl ⟨.inr ⟨18, false, 80, rfl, by kernel_rfl, rfl, by simp, fun v h => h⟩, ?_⟩
                exact .inl ⟨by kernel_rfl, fun L a1 w1 n h => ⟨_, rfl, run_loadP 83 (.tmp 9) g9 0 83 [] [.int .i64 a0, .int .i64 b0] [] _ rfl (h.var n 9 (by kernel_rfl)) (Row.later r9 h.inv.1) rfl Try.underlying83 rfl (szPin _ _)⟩⟩
              · refine .inl ⟨.inr ⟨18, false, 80, rfl, by kernel_rfl, rfl, by simp, fun v h => h⟩, ?_⟩
                exact .inl ⟨by kernel_rfl, fun L a1 w1 n h => ⟨_, rfl, run_neqS (.tmp 82) (.tmp 83) rfl (fun w => (eqPin _ _ _ _ w).trans (by rw [hq4.out]; rfl)) (h.dep n 20 82 (by kernel_rfl) rfl) (h.dep n 21 83 (by kernel_rfl) rfl) (by kernel_rfl)⟩⟩
              · refine .inl ⟨.inr ⟨13, true, 75, rfl, by kernel_rfl, rfl, by simp, fun v h => h⟩, ?_⟩
                exact .inl ⟨by kernel_rfl, fun L a1 w1 n h => ⟨_, rfl, run_pickF (.tmp 80) _ _ rfl (h.dep n 18 80 (by kernel_rfl) rfl) (h.dep n 22 84 (by kernel_rfl) rfl)⟩⟩
              · refine .inl ⟨.inr ⟨10, false, 72, rfl, by kernel_rfl, rfl, by simp, fun v h => h⟩, ?_⟩
                exact .inl ⟨by kernel_rfl, fun L a1 w1 n h => ⟨_, rfl, run_pickT (.tmp 75) _ _ rfl (h.dep n 13 75 (by kernel_rfl) rfl) (h.dep n 23 85 (by kernel_rfl) rfl)⟩⟩
              · refine .inl ⟨.inl rfl, ?_⟩
                exact .inl ⟨by kernel_rfl, fun L a1 w1 n h => ⟨_, rfl, run_pickF (.tmp 72) _ _ rfl (h.dep n 10 72 (by kernel_rfl) rfl) (h.dep n 24 86 (by kernel_rfl) rfl)⟩⟩
            case heSB =>
              intro V wx hV2 hJ
              have hz : V 25 = .bool false := hV2 25 87 rfl
              have bwx : Below we.heap.size we wx := hJ.1
              have hP := hP.later bwx
              have r2 := Row.later r2 bwx
              clear hV2 hJ
              simp only [putOps, List.setIfInBounds_toArray, List.set_cons_succ, List.set_cons_zero, Nat.reduceAdd]
              rw [hz]
              refine hK7 _ _ ?_
              clear hz
              go_wp2_with fail
              rename_i K8 hK8
              refine wp_region_valsS [1, 4, 8, 12, 17, 20] (SC gc g2 n1 n2 n3 n4 n5 n6 n7 s) (JF wx [1, 4, 8, 12, 17, 20] FNo) (by kernel_rfl) (by kernel_rfl) (by kernel_rfl) (by kernel_rfl) (JF.start _) ?obsSC ?heSC
              case obsSC =>
                refine ⟨?_, ?_, ?_, ?_, ?_, ?_, ?_, ?_, ?_, ?_, ?_, ?_, ?_, ?_, ?_, ?_, ?_, ?_, ?_, ?_, ?_, ?_, ?_, trivial⟩
                · refine .inl ⟨.inl rfl, ?_⟩
                  exact .inl ⟨by kernel_rfl, fun L a1 w1 n h => ⟨_, rfl, run_move (.tmp 6) rfl (h.var n 6 (by kernel_rfl))⟩⟩
                · refine .inl ⟨.inl rfl, ?_⟩
                  refine .inr fun L a1 w1 n h K hK => ?_
                  have e0 : a1.eval (.tmp 88) = ptr gc := h.dep n 0 88 (by kernel_rfl) rfl
                  refine JF.call (FNo_mono ) h hK 89 rfl 50 _ _ #[ptr gc] rfl Try.call50 ?_ (life_any w1 gc _ _ _ _ _ _ _ (Row.later hP.2.2 h.inv.1)) ?_
                  · simp only [List.map_toArray, List.map_cons, List.map_nil, e0]
                  · rintro e w3 ⟨rfl, rfl⟩
                    exact ⟨_, rfl, rfl, trivial, (Below.refl _ _)⟩
                · refine .inl ⟨.inl rfl, ?_⟩
                  refine .inl ⟨by kernel_rfl, fun L a1 w1 n h => ⟨.pointer (some ⟨g2, 4, none⟩), rfl, ?_⟩⟩
                  have e0 : a1.eval (.tmp 2) = _ := h.var n 2 (by kernel_rfl)
                  unfold execOp
                  simp only [e0]
                  go_simp
                · refine .inl ⟨.inl rfl, ?_⟩
                  exact .inl ⟨by kernel_rfl, fun L a1 w1 n h => ⟨_, rfl, run_loadA 3 (.tmp 90) ⟨g2, 4, none⟩ rfl Try.isAgg3 (h.dep n 2 90 (by kernel_rfl) rfl) ((Row.later r2 h.inv.1).cell (j := 4) (v := .int .i64 n5) rfl)⟩⟩
                · refine .inl ⟨.inl rfl, ?_⟩
                  refine .inr fun L a1 w1 n h K hK => ?_
                  have e0 : a1.eval (.tmp 91) = .int .i64 n5 := h.dep n 3 91 (by kernel_rfl) rfl
                  refine JF.call (FNo_mono ) h hK 92 rfl 53 _ _ #[.int .i64 n5] rfl Try.call53 ?_ (bound_any n5 w1) ?_
                  · simp only [List.map_toArray, List.map_cons, List.map_nil, e0]
                  · rintro e w3 ⟨rfl, rfl⟩
                    exact ⟨_, rfl, rfl, trivial, (Below.refl _ _)⟩
                · refine .inl ⟨.inl rfl, ?_⟩
                  exact .inl ⟨by kernel_rfl, fun L a1 w1 n h => ⟨_, rfl, run_gtrI (.tmp 89) (.tmp 92) rfl (h.dep n 1 89 (by kernel_rfl) rfl) (h.dep n 4 92 (by kernel_rfl) rfl) hq5⟩⟩
                · refine .inl ⟨.inl rfl, ?_⟩
                  exact .inl ⟨by kernel_rfl, fun L a1 w1 n h => ⟨_, rfl, run_move (.tmp 93) rfl (h.dep n 5 93 (by kernel_rfl) rfl)⟩⟩
                · refine .inl ⟨.inr ⟨6, false, 94, rfl, by kernel_rfl, rfl, by simp, fun v h => h⟩, ?_⟩
                  exact .inl ⟨by kernel_rfl, fun L a1 w1 n h => ⟨_, rfl, run_move (.tmp 6) rfl (h.var n 6 (by kernel_rfl))⟩⟩
                · refine .inl ⟨.inr ⟨6, false, 94, rfl, by kernel_rfl, rfl, by simp, fun v h => h⟩, ?_⟩
                  refine .inr fun L a1 w1 n h K hK => ?_
                  have e0 : a1.eval (.tmp 95) = ptr gc := h.dep n 7 95 (by kernel_rfl) rfl
                  refine JF.call (FNo_mono ) h hK 96 rfl 51 _ _ #[ptr gc] rfl Try.call51 ?_ (pin_any w1 gc _ _ _ _ _ _ _ (Row.later hP.2.2 h.inv.1)) ?_
                  · simp only [List.map_toArray, List.map_cons, List.map_nil, e0]
                  · rintro e w3 ⟨rfl, b9⟩
                    exact ⟨_, rfl, rfl, trivial, b9⟩
                · refine .inl ⟨.inr ⟨6, false, 94, rfl, by kernel_rfl, rfl, by simp, fun v h => h⟩, ?_⟩
                  refine .inl ⟨by kernel_rfl, fun L a1 w1 n h => ⟨.int .i64 s.b, rfl, ?_⟩⟩
                  have e0 : a1.eval (.tmp 96) = _ := h.dep n 8 96 (by kernel_rfl) rfl
                  unfold execOp
                  simp only [e0]
                  go_simp
                  rw [fieldPin1]
                  rfl
                · refine .inl ⟨.inr ⟨6, false, 94, rfl, by kernel_rfl, rfl, by simp, fun v h => h⟩, ?_⟩
                  refine .inl ⟨by kernel_rfl, fun L a1 w1 n h => ⟨.pointer (some ⟨g2, 2, none⟩), rfl, ?_⟩⟩
                  have e0 : a1.eval (.tmp 2) = _ := h.var n 2 (by kernel_rfl)
                  unfold execOp
                  simp only [e0]
                  go_simp
                · refine .inl ⟨.inr ⟨6, false, 94, rfl, by kernel_rfl, rfl, by simp, fun v h => h⟩, ?_⟩
                  exact .inl ⟨by kernel_rfl, fun L a1 w1 n h => ⟨_, rfl, run_loadA 3 (.tmp 98) ⟨g2, 2, none⟩ rfl Try.isAgg3 (h.dep n 10 98 (by kernel_rfl) rfl) ((Row.later r2 h.inv.1).cell (j := 2) (v := .int .i64 n3) rfl)⟩⟩
                · refine .inl ⟨.inr ⟨6, false, 94, rfl, by kernel_rfl, rfl, by simp, fun v h => h⟩, ?_⟩
                  refine .inr fun L a1 w1 n h K hK => ?_
                  have e0 : a1.eval (.tmp 99) = .int .i64 n3 := h.dep n 11 99 (by kernel_rfl) rfl
                  refine JF.call (FNo_mono ) h hK 100 rfl 53 _ _ #[.int .i64 n3] rfl Try.call53 ?_ (bound_any n3 w1) ?_
                  · simp only [List.map_toArray, List.map_cons, List.map_nil, e0]
                  · rintro e w3 ⟨rfl, rfl⟩
                    exact ⟨_, rfl, rfl, trivial, (Below.refl _ _)⟩
                · refine .inl ⟨.inr ⟨6, false, 94, rfl, by kernel_rfl, rfl, by simp, fun v h => h⟩, ?_⟩
                  exact .inl ⟨by kernel_rfl, fun L a1 w1 n h => ⟨_, rfl, run_gtrI (.tmp 97) (.tmp 100) rfl (h.dep n 9 97 (by kernel_rfl) rfl) (h.dep n 12 100 (by kernel_rfl) rfl) hq6⟩⟩
                · refine .inl ⟨.inl rfl, ?_⟩
                  exact .inl ⟨by kernel_rfl, fun L a1 w1 n h => ⟨_, rfl, run_pickF (.tmp 94) _ _ rfl (h.dep n 6 94 (by kernel_rfl) rfl) (h.dep n 13 101 (by kernel_rfl) rfl)⟩⟩
                · refine .inl ⟨.inl rfl, ?_⟩
                  exact .inl ⟨by kernel_rfl, fun L a1 w1 n h => ⟨_, rfl, run_move (.tmp 102) rfl (h.dep n 14 102 (by kernel_rfl) rfl)⟩⟩
                · refine .inl ⟨.inr ⟨15, false, 103, rfl, by kernel_rfl, rfl, by simp, fun v h => h⟩, ?_⟩
                  exact .inl ⟨by kernel_rfl, fun L a1 w1 n h => ⟨_, rfl, run_move (.tmp 6) rfl (h.var n 6 (by kernel_rfl))⟩⟩
                · refine .inl ⟨.inr ⟨15, false, 103, rfl, by kernel_rfl, rfl, by simp, fun v h => h⟩, ?_⟩
                  refine .inr fun L a1 w1 n h K hK => ?_
                  have e0 : a1.eval (.tmp 104) = ptr gc := h.dep n 16 104 (by kernel_rfl) rfl
                  refine JF.call (FNo_mono ) h hK 105 rfl 51 _ _ #[ptr gc] rfl Try.call51 ?_ (pin_any w1 gc _ _ _ _ _ _ _ (Row.later hP.2.2 h.inv.1)) ?_
                  · simp only [List.map_toArray, List.map_cons, List.map_nil, e0]
                  · rintro e w3 ⟨rfl, b9⟩
                    exact ⟨_, rfl, rfl, trivial, b9⟩
                · refine .inl ⟨.inr ⟨15, false, 103, rfl, by kernel_rfl, rfl, by simp, fun v h => h⟩, ?_⟩
                  refine .inl ⟨by kernel_rfl, fun L a1 w1 n h => ⟨.int .i64 s.a, rfl, ?_⟩⟩
                  have e0 : a1.eval (.tmp 105) = _ := h.dep n 17 105 (by kernel_rfl) rfl
                  unfold execOp
                  simp only [e0]
                  go_simp
                  rw [fieldPin0]
                  rfl
                · refine .inl ⟨.inr ⟨15, false, 103, rfl, by kernel_rfl, rfl, by simp, fun v h => h⟩, ?_⟩
                  exact .inl ⟨by kernel_rfl, fun L a1 w1 n h => ⟨_, rfl, run_move (.tmp 6) rfl (h.var n 6 (by kernel_rfl))⟩⟩
                · refine .inl ⟨.inr ⟨15, false, 103, rfl, by kernel_rfl, rfl, by simp, fun v h => h⟩, ?_⟩
                  refine .inr fun L a1 w1 n h K hK => ?_
                  have e0 : a1.eval (.tmp 107) = ptr gc := h.dep n 19 107 (by kernel_rfl) rfl
                  refine JF.call (FNo_mono ) h hK 108 rfl 50 _ _ #[ptr gc] rfl Try.call50 ?_ (life_any w1 gc _ _ _ _ _ _ _ (Row.later hP.2.2 h.inv.1)) ?_
                  · simp only [List.map_toArray, List.map_cons, List.map_nil, e0]
                  · rintro e w3 ⟨rfl, rfl⟩
                    exact ⟨_, rfl, rfl, trivial, (Below.refl _ _)⟩
                · refine .inl ⟨.inr ⟨15, false, 103, rfl, by kernel_rfl, rfl, by simp, fun v h => h⟩, ?_⟩
                  exact .inl ⟨by kernel_rfl, fun L a1 w1 n h => ⟨_, rfl, run_gtrI (.tmp 106) (.tmp 108) rfl (h.dep n 18 106 (by kernel_rfl) rfl) (h.dep n 20 108 (by kernel_rfl) rfl) hq7⟩⟩
                · refine .inl ⟨.inl rfl, ?_⟩
                  exact .inl ⟨by kernel_rfl, fun L a1 w1 n h => ⟨_, rfl, run_pickF (.tmp 103) _ _ rfl (h.dep n 15 103 (by kernel_rfl) rfl) (h.dep n 21 109 (by kernel_rfl) rfl)⟩⟩
              case heSC =>
                intro V wy hV2 hJ
                have hz : V 22 = .bool false := hV2 22 110 rfl
                have bwy : Below wx.heap.size wx wy := hJ.1
                have hP := hP.later bwy
                have r2 := Row.later r2 bwy
                clear hV2 hJ
                simp only [putOps, List.setIfInBounds_toArray, List.set_cons_succ, List.set_cons_zero, Nat.reduceAdd]
                rw [hz]
                refine hK8 _ _ ?_
                clear hz
                have hB9 := (Be.trans ((bwx.trans (bwy.mono bwx.size)).mono Be.size))
                go_wp2
                go_roundw
                case rel => exact ⟨i + 1, s, by omega, by go_num, hP, r2, hfine, hB9⟩
                case measure => simp [intOf]; omega
      · obtain rfl : i = k := by omega
        go_wp2_with fail
        refine (awake_any wr).mono ?_
        rintro e wz ⟨rfl, bz⟩
        go_wp2_with fail
        go_ret
        exact ⟨rfl, hB.trans (bz.mono hB.size)⟩
end Go.Proofs.Ytlihoijbfffjcaa
