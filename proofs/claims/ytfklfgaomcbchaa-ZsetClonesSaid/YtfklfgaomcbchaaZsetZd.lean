/-
  The law ZsetInverse. Own work.
-/
import Derived.Test.YtfklfgaomcbchaaZsetZa
namespace Go.Proofs.Ytfklfgaomcbchaa
open Go.RowKit Go.Shelf
set_option linter.unusedVariables false
set_option linter.unusedSimpArgs false
/-- What a region keeps whose one call turns memory. -/
def JPut (w0 : World) (P : World → Prop) (bs : List Bool) (vs : List Value) (w : World) : Prop :=
  (bs.getD 0 false = false → Below w0.heap.size w0 w) ∧ (bs.getD 0 false = true → P w)
theorem JPut.start (w0 : World) (P : World → Prop) (vs : List Value) : JPut w0 P [false] vs w0.drew :=
  ⟨fun _ => (Below.refl _ _).drew, fun h => absurd (show false = true from h) (by decide)⟩
theorem scoreOf_at {L : List Sc} (hu : Uniq L) {i : Nat} {a : Sc} (h : L[i]? = some a) : scoreOf L a.m = some a.s := by
  obtain ⟨hi, e⟩ := List.getElem?_eq_some_iff.1 h
  unfold scoreOf
  have : L.find? (fun b => b.m == a.m) = some a := by
    rw [List.find?_eq_some_iff_append]
    refine ⟨by simp, L.take i, L.drop (i + 1), ?_, fun b hb => ?_⟩
    · rw [← e, ← List.drop_eq_getElem_cons hi, List.take_append_drop]
    · obtain ⟨j, hj⟩ := List.getElem?_of_mem hb
      rw [List.getElem?_take] at hj
      by_cases hlt : j < i
      · rw [if_pos hlt] at hj
        obtain ⟨hj2, e2⟩ := List.getElem?_eq_some_iff.1 hj
        have := List.pairwise_iff_getElem.1 hu j i hj2 hi hlt
        rw [e, e2] at this
        simpa using this
      · rw [if_neg hlt] at hj; cases hj
  rw [this]; rfl
def SIv9 (gz b o n c i : Nat) (am : Nm) (as' : Int) (opn : Nat) (v : Value) : Prop :=
  match opn with
  | 0 => v = .pointer (some ⟨gz, 0, none⟩)
  | 1 | 6 => v = .slice (some ⟨b, o, none⟩) n c
  | 2 | 7 => v = .int .i64 (i : Int)
  | 3 | 8 => v = .pointer (some ⟨b, o + i * 3, none⟩)
  | 4 => v = .pointer (some ⟨b, o + i * 3 + 1, none⟩)
  | 5 => v = encStr am
  | 9 => v = .pointer (some ⟨b, o + i * 3 + 2, none⟩)
  | 10 => v = .int .i64 as'
  | _ => True

theorem ButZ.two {S : List Nat} {a b c : World} (h : Below a.heap.size a b) (k : ButZ S b c) : ButZ S a c := (ButZ.of h).trans k
set_option maxRecDepth 100000 in
set_option maxHeartbeats 4000000 in
theorem zsetInverse_any (w : World) (A : Option Addr) (n c : Nat) (f : Nat → ZA) (h : ZActs w w.heap.size A n f) : Calls Try.prog 6 #[.slice A n c] w fun e w' => e = .returned (.bool true) ∧ Below w.heap.size w w' := by
  have HF := few_any w A n c f w.heap.size h
  have HA := awake_any
  go_enter Try.func6, Try.ntmps6
  go_wp2_with fail
  refine HF.mono ?_
  rintro e w1 ⟨⟨b, rfl, hb⟩, rfl⟩
  clear HF
  cases b with
  | false =>
    clear hb
    go_wp2_with fail
    refine (HA w).mono ?_
    rintro e w2 ⟨rfl, b2⟩
    go_wp2_with fail
    go_ret
    exact ⟨rfl, b2⟩
  | true =>
    have hfew := hb rfl
    clear hb
    have hn120 := hfew.1
    have hnI : (n : Int) ≤ 120 := by omega
    go_wp2_with fail
    refine (new_any w).mono ?_
    rintro e w1 ⟨gz, mb, hd, rfl, z1, B1⟩
    go_wp2_with fail
    go_loopw [4] (fun iv wr => ∃ (i : Nat) (Ls : List Nd), i ≤ n ∧ iv = .int .i64 (i : Int) ∧ ZSet wr w.heap.size gz mb hd Ls ∧ Ls.length ≤ i ∧ (∀ a ∈ scs Ls, a.m.length ≤ 100) ∧ Below w.heap.size w wr) (fun iv _ => n - (intOf iv).toNat)
    case atStart => exact ⟨0, [], by omega, rfl, z1, Nat.le_refl _, fun a ha => by simp at ha, B1⟩
    case round =>
      clear z1 B1
      obtain ⟨i, Ls, hi, rfl, hz, hll, hnm, BW⟩ := hrel
      have hwb := BW.size
      by_cases hlt : i < n
      · have hltI : (i : Int) < (n : Int) := by omega
        obtain ⟨b, o, rfl, hB, c0, x1, x2, x3⟩ := (h.below BW).at hlt
        clear x1 x2 x3
        have hm := hide (hfew.2 i hlt)
        have hc1 : ∀ w1, Below wr.heap.size wr w1 → w1.cell? ⟨b, o + i * 3 + 1, none⟩ = some (encStr (f i).m) := fun w1 hb1 => by
          obtain ⟨b', o', e, _, _, c1, _, _⟩ := (h.below (BW.trans (hb1.mono hwb))).at hlt
          injection e with e1
          injection e1 with e2 e3
          subst e2; subst e3; exact c1
        have hc2 : ∀ w1, Below wr.heap.size wr w1 → w1.cell? ⟨b, o + i * 3 + 2, none⟩ = some (.int .i64 (f i).s) := fun w1 hb1 => by
          obtain ⟨b', o', e, _, _, _, c2, _⟩ := (h.below (BW.trans (hb1.mono hwb))).at hlt
          injection e with e1
          injection e1 with e2 e3
          subst e2; subst e3; exact c2
        have c1 := hc1 wr (Below.refl _ _)
        obtain ⟨a, ha⟩ : ∃ a, f i = a := ⟨_, rfl⟩
        rw [ha] at c0 c1 hc1 hc2 hm
        obtain ⟨ad, am, as'⟩ := a
        have hcl1 := hc1
        have hcl2 := hc2
        clear ha hc1 hc2
        replace hlt := hide hlt
        cases ad with
        | true =>
          clear hcl1 hcl2
          go_wp2_with (first
            | (with_reducible refine wl_run (o := ⟨some 25, _, _, _, _, _⟩) rfl (.pointer (some ⟨b, o + i * 3, none⟩)) (run_indexSlN 22 (.tmp 23) (.tmp 24) 43 3 b o n c i rfl Try.underlying22 Try.sizeOf43 rfl rfl hlt.out) ?_)
            | (with_reducible refine wl_run (o := ⟨some 31, _, _, _, _, _⟩) rfl (.pointer (some ⟨b, o + i * 3, none⟩)) (run_indexSlN 22 (.tmp 29) (.tmp 30) 43 3 b o n c i rfl Try.underlying22 Try.sizeOf43 rfl rfl hlt.out) ?_))
          refine (drop_any wr w.heap.size gz mb hd Ls am hz (by simp only [maxLen]; have := hm.out; omega) (by omega)).mono ?_
          rintro e w8 ⟨Ls2, rfl, hz8, hs8, b8, hl8, hin8⟩
          go_wp2_with fail
          go_roundw
          case rel => exact ⟨i + 1, Ls2, by have := hlt.out; omega, by go_num, hz8, by omega, by rw [hs8]; exact fun a ha => hnm a (dropS_mem ha).1, BW.trans (b8.below hz.lo_zB hwb)⟩
          case measure => have := hlt.out; simp [intOf]; omega
        | false =>
          have HP := hide fun w1 (hb1 : Below wr.heap.size wr w1) => put_any w1 w.heap.size gz mb hd Ls am as' (hz.later hb1) (Nat.le_trans (show am.length ≤ 100 from hm.out) (by decide)) (by omega) (Nat.le_trans hwb hb1.size)
          go_wp2_with (first
            | (with_reducible refine wl_run (o := ⟨some 25, _, _, _, _, _⟩) rfl (.pointer (some ⟨b, o + i * 3, none⟩)) (run_indexSlN 22 (.tmp 23) (.tmp 24) 43 3 b o n c i rfl Try.underlying22 Try.sizeOf43 rfl rfl hlt.out) ?_))
          rename_i K9 hK9
          refine wp_region_vals [11] (SIv9 gz b o n c i am as') (JPut wr (fun wz => ∃ Ls2, ZSet wz w.heap.size gz mb hd Ls2 ∧ scs Ls2 = putS (scs Ls) ⟨am, as'⟩ ∧ Below w.heap.size w wz ∧ Ls2.length ≤ Ls.length + 1)) (by kernel_rfl) (by kernel_rfl) (by kernel_rfl) (by kernel_rfl) (by kernel_rfl) (JPut.start _ _ _) ?obs9 ?he9
          case obs9 =>
            refine ⟨?_, ?_, ?_, ?_, ?_, ?_, ?_, ?_, ?_, ?_, ?_, ?_, trivial⟩
            · exact .inl ⟨by kernel_rfl, fun L a1 w1 n' h => ⟨_, rfl, run_move (.tmp 3) rfl (h.var n' 3 (by kernel_rfl))⟩⟩
            · exact .inl ⟨by kernel_rfl, fun L a1 w1 n' h => ⟨_, rfl, run_move (.tmp 0) rfl (h.var n' 0 (by kernel_rfl))⟩⟩
            · exact .inl ⟨by kernel_rfl, fun L a1 w1 n' h => ⟨_, rfl, run_move (.tmp 4) rfl (h.var n' 4 (by kernel_rfl))⟩⟩
            · exact .inl ⟨by kernel_rfl, fun L a1 w1 n' h => ⟨_, rfl, run_indexSlN 22 (.tmp 36) (.tmp 37) 43 3 b o n c i rfl Try.underlying22 Try.sizeOf43 (h.dep n' 1 36 (by kernel_rfl) rfl) (h.dep n' 2 37 (by kernel_rfl) rfl) hlt.out⟩⟩
            · refine .inl ⟨by kernel_rfl, fun L a1 w1 n' h => ⟨.pointer (some ⟨b, o + i * 3 + 1, none⟩), rfl, ?_⟩⟩
              have e0 : a1.eval (.tmp 38) = _ := h.dep n' 3 38 (by kernel_rfl) rfl
              unfold execOp
              simp only [e0]
              go_simp
            · exact .inl ⟨by kernel_rfl, fun L a1 w1 n' h => ⟨_, rfl, run_loadA 9 (.tmp 39) ⟨b, o + i * 3 + 1, none⟩ rfl Try.isAgg9 (h.dep n' 4 39 (by kernel_rfl) rfl) (hcl1 w1 (h.inv.1 ((bits_at rfl).trans (n'.later (by kernel_rfl)))))⟩⟩
            · exact .inl ⟨by kernel_rfl, fun L a1 w1 n' h => ⟨_, rfl, run_move (.tmp 0) rfl (h.var n' 0 (by kernel_rfl))⟩⟩
            · exact .inl ⟨by kernel_rfl, fun L a1 w1 n' h => ⟨_, rfl, run_move (.tmp 4) rfl (h.var n' 4 (by kernel_rfl))⟩⟩
            · exact .inl ⟨by kernel_rfl, fun L a1 w1 n' h => ⟨_, rfl, run_indexSlN 22 (.tmp 41) (.tmp 42) 43 3 b o n c i rfl Try.underlying22 Try.sizeOf43 (h.dep n' 6 41 (by kernel_rfl) rfl) (h.dep n' 7 42 (by kernel_rfl) rfl) hlt.out⟩⟩
            · refine .inl ⟨by kernel_rfl, fun L a1 w1 n' h => ⟨.pointer (some ⟨b, o + i * 3 + 2, none⟩), rfl, ?_⟩⟩
              have e0 : a1.eval (.tmp 43) = _ := h.dep n' 8 43 (by kernel_rfl) rfl
              unfold execOp
              simp only [e0]
              go_simp
            · exact .inl ⟨by kernel_rfl, fun L a1 w1 n' h => ⟨_, rfl, run_loadA 3 (.tmp 44) ⟨b, o + i * 3 + 2, none⟩ rfl Try.isAgg3 (h.dep n' 9 44 (by kernel_rfl) rfl) (hcl2 w1 (h.inv.1 ((bits_at rfl).trans (n'.later (by kernel_rfl)))))⟩⟩
            · refine .inr fun L a1 w1 n' h K hK => ?_
              have no : L.getD 11 false = false := n'.not_yet
              have b9 := h.inv.1 ((bits_at rfl).trans no)
              have y0 : a1.eval (.tmp 35) = ptr gz := h.dep n' 0 35 (by kernel_rfl) rfl
              have y1 : a1.eval (.tmp 40) = encStr am := h.dep n' 5 40 (by kernel_rfl) rfl
              have y2 : a1.eval (.tmp 45) = .int .i64 as' := h.dep n' 10 45 (by kernel_rfl) rfl
              refine st_call 23 _ _ #[ptr gz, encStr am, .int .i64 as'] rfl Try.call23 ?_ (HP.out w1 b9) ?_
              · simp only [List.map_toArray, List.map_cons, List.map_nil, y0, y1, y2]
              · rintro e w3 ⟨Ls2, rfl, p1, p2, p3, p4⟩
                exact ⟨_, rfl, hK _ w3 trivial ⟨fun h0 => absurd (show true = false from h0) (by decide), fun _ => ⟨Ls2, p1, p2, (BW.trans (b9.mono hwb)).trans (p3.below hz.lo_zB (Nat.le_trans hwb b9.size)), p4⟩⟩⟩
          case he9 =>
            intro V w11 hV hJ
            obtain ⟨Ls2, hz8, hs8, B8, hl8⟩ := hJ.2 rfl
            clear hV hJ
            simp only [putOps, List.setIfInBounds_toArray, List.set_cons_succ, List.set_cons_zero, Nat.reduceAdd]
            refine hK9 _ _ ?_
            go_wp2_with fail
            go_roundw
            case rel => exact ⟨i + 1, Ls2, by have := hlt.out; omega, by go_num, hz8, by omega, by rw [hs8]; exact putS_names hnm hm.out, B8⟩
            case measure => have := hlt.out; simp [intOf]; omega
      · obtain rfl : i = n := by omega
        clear hfew h
        go_wp2_with fail
        have hLs : Ls.length ≤ 120 := by omega
        have hLI : (Ls.length : Int) ≤ 120 := by omega
        have hsl : (scs Ls).length = Ls.length := by simp
        obtain ⟨w0, rfl⟩ : ∃ w0, w0 = wr := ⟨wr, rfl⟩
        go_loopw [5] (fun iv wz => ∃ j : Nat, j ≤ Ls.length ∧ iv = .int .i64 (j : Int) ∧ Below w0.heap.size w0 wz) (fun iv _ => Ls.length - (intOf iv).toNat)
        case atStart => exact ⟨0, by omega, rfl, Below.refl _ _⟩
        case round =>
          obtain ⟨j, hj, rfl, Bz⟩ := hrel
          have hzr := hz.later Bz
          have hwz := Bz.size
          have HL := fun w1 (hb1 : Below wr.heap.size wr w1) => len_any w1 w.heap.size gz mb hd Ls (hzr.later hb1)
          by_cases hlt : j < Ls.length
          · have hltI : (j : Int) < (Ls.length : Int) := by omega
            have hj0 : ¬ (j : Int) < 0 := by omega
            obtain ⟨a, ha⟩ : ∃ a, (scs Ls)[j]? = some a := ⟨_, List.getElem?_eq_getElem (by omega)⟩
            have ham : a.m.length ≤ maxLen := Nat.le_trans (hnm a (List.mem_of_getElem? ha)) (by simp [maxLen])
            have HAt := at_yes wr w.heap.size gz mb hd Ls j a hzr (by omega) ha
            have HK := fun w1 (hb1 : Below wr.heap.size wr w1) => rank_yes w1 w.heap.size gz mb hd Ls a.m a.s (hzr.later hb1) ham (by omega) (scoreOf_at hz.uniq ha)
            rw [nAhead_at hz.rise ha] at HK
            by_cases hmore : j + 1 < Ls.length
            · obtain ⟨q, hq⟩ : ∃ q, (scs Ls)[j + 1]? = some q := ⟨_, List.getElem?_eq_getElem (by omega)⟩
              have hmI : (j : Int) + 1 < (Ls.length : Int) := by omega
              have HA2 := fun w1 (hb1 : Below wr.heap.size wr w1) => at_yes w1 w.heap.size gz mb hd Ls (j + 1) q (hzr.later hb1) (by omega) hq
              rw [show ((j + 1 : Nat) : Int) = (j : Int) + 1 by omega] at HA2
              have hless : a.less q = true := by
                obtain ⟨h1, e1⟩ := List.getElem?_eq_some_iff.1 ha
                obtain ⟨h2, e2⟩ := List.getElem?_eq_some_iff.1 hq
                have := List.pairwise_iff_getElem.1 hz.rise j (j + 1) h1 h2 (by omega)
                rw [e1, e2] at this; exact this
              have HLe := fun w1 => less_any w1 a q
              rw [hless] at HLe
              clear hless ha hq
              obtain ⟨am, as'⟩ := a
              obtain ⟨qm, qs⟩ := q
              go_wp2_with fail
              refine (HL wr (Below.refl _ _)).mono ?_
              rintro e w1 ⟨rfl, rfl⟩
              go_wp2_with fail
              refine HAt.mono ?_
              rintro e w2 ⟨rfl, b2⟩
              have hb2 := b2.size
              go_wp2_with (first
                | (with_reducible refine wl_alloc (o := ⟨some 6, _, _, _, _, _⟩) rfl 35 _ [encStr [], .int .i64 0] rfl rfl rfl ?_; intro g6 w4 r4 p4 l4 b4)
                | (with_reducible refine wl_store_row rfl 35 (.tmp 6) (.tmp 57) g6 35 _ [encStr am, .int .i64 as'] rfl rfl rfl r4 (szSc ⟨am, as'⟩) rfl (by simp [Value.oneCell', encStr]) ?_; intro w5 r6 o5; have c60 := r6.cell (j := 0) rfl))
              have b5 : Below wr.heap.size wr w5 := b2.trans ((b4.trans (o5.below p4)).mono hb2)
              have hb5 := b5.size
              clear b4 o5 r4 p4 l4
              refine (HK w5 b5).mono ?_
              rintro e w6 ⟨rfl, b6⟩
              have b7 := b5.trans (b6.mono hb5)
              have hb7 := b7.size
              have r6 := r6.later b6
              clear c60
              go_wp2_with fail
              refine (HA2 w6 b7).mono ?_
              rintro e w8 ⟨rfl, b8⟩
              have b9 := b7.trans (b8.mono hb7)
              have hb9 := b9.size
              have r6 := r6.later b8
              go_wp2_with (first
                | (with_reducible refine wl_alloc (o := ⟨some 10, _, _, _, _, _⟩) rfl 35 _ [encStr [], .int .i64 0] rfl rfl rfl ?_; intro g10 w10 r10 p10 l10 b10)
                | (with_reducible refine wl_store_row rfl 35 (.tmp 10) (.tmp 71) g10 35 _ [encStr qm, .int .i64 qs] rfl rfl rfl r10 (szSc ⟨qm, qs⟩) rfl (by simp [Value.oneCell', encStr]) ?_; intro w11 r11 o11; have b11 : Below w8.heap.size w8 w11 := b10.trans (o11.below p10); have r6z := r6.later b11)
                | (with_reducible refine wg_load_row (o := ⟨some 87, _, _, _, _, _⟩) 13 true 86 rfl rfl rfl 35 (.tmp 6) g6 35 [encStr am, .int .i64 as'] _ rfl rfl r6z Try.underlying35 rfl (szSc ⟨am, as'⟩) ?_)
                | (with_reducible refine wg_load_row (o := ⟨some 88, _, _, _, _, _⟩) 13 true 86 rfl rfl rfl 35 (.tmp 10) g10 35 [encStr qm, .int .i64 qs] _ rfl rfl r11 Try.underlying35 rfl (szSc ⟨qm, qs⟩) ?_))
              have b12 := b9.trans (b11.mono hb9)
              have hb12 := b12.size
              refine (HLe w11).mono ?_
              rintro e w13 ⟨rfl, b13⟩
              have b14 := b12.trans (b13.mono hb12)
              go_wp2_with fail
              refine (HL w13 b14).mono ?_
              rintro e w15 ⟨rfl, rfl⟩
              go_wp2_with fail
              go_roundw
              case rel => exact ⟨j + 1, by omega, by go_num, Bz.trans (b14.mono hwz)⟩
              case measure => simp [intOf]; omega
            · have hmI : ¬ (j : Int) + 1 < (Ls.length : Int) := by omega
              have HA2 := fun w1 (hb1 : Below wr.heap.size wr w1) => at_no w1 w.heap.size gz mb hd Ls ((j : Int) + 1) (hzr.later hb1) (by omega)
              clear ha
              obtain ⟨am, as'⟩ := a
              go_wp2_with fail
              refine (HL wr (Below.refl _ _)).mono ?_
              rintro e w1 ⟨rfl, rfl⟩
              go_wp2_with fail
              refine HAt.mono ?_
              rintro e w2 ⟨rfl, b2⟩
              have hb2 := b2.size
              go_wp2_with (first
                | (with_reducible refine wl_alloc (o := ⟨some 6, _, _, _, _, _⟩) rfl 35 _ [encStr [], .int .i64 0] rfl rfl rfl ?_; intro g6 w4 r4 p4 l4 b4)
                | (with_reducible refine wl_store_row rfl 35 (.tmp 6) (.tmp 57) g6 35 _ [encStr am, .int .i64 as'] rfl rfl rfl r4 (szSc ⟨am, as'⟩) rfl (by simp [Value.oneCell', encStr]) ?_; intro w5 r6 o5; have c60 := r6.cell (j := 0) rfl))
              have b5 : Below wr.heap.size wr w5 := b2.trans ((b4.trans (o5.below p4)).mono hb2)
              have hb5 := b5.size
              clear b4 o5 r4 p4 l4
              refine (HK w5 b5).mono ?_
              rintro e w6 ⟨rfl, b6⟩
              have b7 := b5.trans (b6.mono hb5)
              have hb7 := b7.size
              clear c60 r6
              go_wp2_with fail
              refine (HA2 w6 b7).mono ?_
              rintro e w8 ⟨rfl, b8⟩
              have b9 := b7.trans (b8.mono hb7)
              have hb9 := b9.size
              go_wp2_with (first
                | (with_reducible refine wl_alloc (o := ⟨some 10, _, _, _, _, _⟩) rfl 35 _ [encStr [], .int .i64 0] rfl rfl rfl ?_; intro g10 w10 r10 p10 l10 b10)
                | (with_reducible refine wl_store_row rfl 35 (.tmp 10) (.tmp 71) g10 35 _ [encStr [], .int .i64 0] rfl rfl rfl r10 szSc0 rfl (by simp [Value.oneCell', encStr]) ?_; intro w11 r11 o11; have b11 : Below w8.heap.size w8 w11 := b10.trans (o11.below p10)))
              have b12 := b9.trans (b11.mono hb9)
              refine (HL w11 b12).mono ?_
              rintro e w15 ⟨rfl, rfl⟩
              go_wp2_with fail
              go_roundw
              case rel => exact ⟨j + 1, by omega, by go_num, Bz.trans (b12.mono hwz)⟩
              case measure => simp [intOf]; omega
          · obtain rfl : j = Ls.length := by omega
            go_wp2_with fail
            refine (HL wr (Below.refl _ _)).mono ?_
            rintro e w1 ⟨rfl, rfl⟩
            go_wp2_with fail
            refine (HA _).mono ?_
            rintro e w2 ⟨rfl, b2⟩
            go_wp2_with fail
            go_ret
            exact ⟨rfl, BW.trans ((Bz.trans (b2.mono hwz)).mono hwb)⟩
end Go.Proofs.Ytfklfgaomcbchaa
