/-
  The law DiskFull: contract. Own work.
-/
import Derived.Test.YtlihoijbfffjcaaDiskZ
namespace Go.Proofs.Ytlihoijbfffjcaa
open Go.RowKit Go.Maps Go.ChangeMaps
set_option linter.unusedVariables false
set_option linter.unusedSimpArgs false
/-- The i-th file's name. -/
def nmI (i : Nat) : Nm := [UInt8.ofNat (97 + i / 10), UInt8.ofNat (48 + i % 10)]
theorem nmI_inj : ∀ i : Fin 70, ∀ j : Fin 70, nmI i.val = nmI j.val → i = j := by decide
theorem nmI_ne {i j : Nat} (hi : i < 70) (hj : j < 70) (h : i ≠ j) : nmI i ≠ nmI j := fun e => h (congrArg Fin.val (nmI_inj ⟨i, hi⟩ ⟨j, hj⟩ e))
theorem nm_str (i : Nat) (h : i < 70) : strOfNums [(97 : Int) + (i : Int) / 10, (48 : Int) + (i : Int) % 10] = ⟨(nmI i).toArray⟩ := by
  have e1 : ((97 : Int) + (i : Int) / 10).toNat = 97 + i / 10 := by omega
  have e2 : ((48 : Int) + (i : Int) % 10).toNat = 48 + i % 10 := by omega
  simp [strOfNums, nmI, e1, e2]
/-- The files behind so many rounds. -/
structure Fil (i : Nat) (fs : Fs) : Prop where
  len : fs.length = min i 64
  nm : ∀ p ∈ fs, ∃ j, j < min i 64 ∧ p.1 = nmI j
  one : 0 < i → (atF fs (nmI 0)).isSome = true
theorem Fil.zero : Fil 0 [] := ⟨rfl, fun p hp => absurd hp (by simp), fun h => absurd h (by decide)⟩
theorem Fil.none_ {i : Nat} {fs : Fs} (h : Fil i fs) (hi : i < 70) : (atF fs (nmI i)).isSome = false := by
  cases hq : atF fs (nmI i) with
  | none => rfl
  | some f =>
    obtain ⟨j, hj, e⟩ := h.nm _ (atF_mem hq)
    exact absurd e (nmI_ne hi (by omega) (by omega))
theorem at_some {fs : Fs} {n : Nm} {f : FV} (h : (n, f) ∈ fs) : (atF fs n).isSome = true := by
  unfold atF
  rw [Option.isSome_map, List.find?_isSome]
  exact ⟨_, h, by simp⟩
theorem Fil.more {i : Nat} {fs : Fs} (h : Fil i fs) (hi : i < 64) (f : FV) : Fil (i + 1) (putF fs (nmI i) f) := by
  have hd : delF fs (nmI i) = fs := del_none fun p hp e => by
    obtain ⟨j, hj, e2⟩ := h.nm p hp
    exact absurd (e.symm.trans e2) (nmI_ne (by omega) (by omega) (by omega))
  have hp := put_perm fs (nmI i) f
  rw [hd] at hp
  refine ⟨?_, fun p hm => ?_, fun _ => ?_⟩
  · rw [hp.length_eq, List.length_cons, h.len]
    omega
  · rcases List.mem_cons.1 (hp.mem_iff.1 hm) with e | hm
    · exact ⟨i, by omega, by rw [e]⟩
    · obtain ⟨j, hj, e⟩ := h.nm p hm
      exact ⟨j, by omega, e⟩
  · rcases Nat.eq_zero_or_pos i with h0 | h0
    · subst h0
      exact at_some (hp.mem_iff.2 (List.mem_cons_self ..))
    · obtain ⟨g, hg⟩ := Option.isSome_iff_exists.1 (h.one h0)
      exact at_some (hp.mem_iff.2 (List.mem_cons_of_mem _ (atF_mem hg)))
theorem Fil.same {i : Nat} {fs : Fs} (h : Fil i fs) (hi : 64 ≤ i) : Fil (i + 1) fs :=
  ⟨by rw [h.len]; omega, fun p hp => (h.nm p hp).imp fun j hj => ⟨by omega, hj.2⟩, fun _ => h.one (by omega)⟩
theorem cre_room {i : Nat} {fs : Fs} (h : Fil i fs) (hi : i < 64) : creE fs (nmI i) true = 0 := by
  have hl : decide (64 ≤ fs.length) = false := by
    have := h.len
    simp
    omega
  have hr : refE [nmI i] true = 0 := rfl
  unfold creE
  rw [if_pos hr, hl]
  simp
theorem cre_full {i : Nat} {fs : Fs} (h : Fil i fs) (hi : 64 ≤ i) (h70 : i < 70) : creE fs (nmI i) true = 10 := by
  have hl : decide (64 ≤ fs.length) = true := by
    have := h.len
    simp
    omega
  have hr : refE [nmI i] true = 0 := rfl
  unfold creE
  rw [if_pos hr, hl, h.none_ h70]
  rfl
theorem cre_one {i : Nat} {fs : Fs} (h : Fil i fs) (hi : 0 < i) : creE fs (nmI 0) true = 0 := by
  have hr : refE [nmI 0] true = 0 := rfl
  unfold creE
  rw [if_pos hr, h.one hi]
  simp
theorem len_put_in {fs : Fs} {n : Nm} {f : FV} (hr : riseF fs) (h : (atF fs n).isSome = true) : (putF fs n f).length = fs.length := by
  obtain ⟨g, hg⟩ := Option.isSome_iff_exists.1 h
  obtain ⟨i, hi, he⟩ := List.getElem_of_mem (atF_mem hg)
  rw [put_set fs i n g f hr (by rw [List.getElem?_eq_getElem hi, he]), List.length_set]
theorem Acted.ten {w w' : World} {B gd mb gp : Nat} {fs fs1 : Fs} (h : Acted w w' B gd (ptr gp) mb 10 true (-1) fs fs1) : DiskAt w' B gd (ptr gp) mb fs ∧ PlAt w' (ptr gp) true (-1) ∧ Buts (plB (ptr gp) ++ dblocks gd mb fs) w w' := h
set_option maxRecDepth 100000 in
set_option maxHeartbeats 4000000 in
theorem diskFull_any (a : Int) (w : World) (h0 : 0 ≤ a) (h1 : a < 256) :
    Calls Try.prog 7 #[.int .u8 a] w fun e w' => e = .returned (.bool true) ∧ Below w.heap.size w w' := by
  obtain ⟨k, rfl⟩ : ∃ k : Nat, a = k := ⟨a.toNat, by omega⟩
  obtain ⟨B, hBe⟩ : ∃ B, B = w.heap.size := ⟨_, rfl⟩
  have hBw : B ≤ w.heap.size := Nat.le_of_eq hBe
  go_enter Try.func7, Try.ntmps7
  go_wp2_with fail
  refine (plug_any w).mono ?_
  rintro en w1 ⟨gP, gp, rfl, hPw, hPl, hgP, hgp, hne, b1⟩
  go_wp2_with fail
  refine (new_any w1 gP (some ⟨gp, 0, none⟩) hPw).mono ?_
  rintro en w2 ⟨gd, mb, rfl, hD, b2⟩
  rw [← hBe] at hgP hgp b1
  have hD : DiskAt w2 B gd (ptr gp) mb [] := hD.mono (Nat.le_trans hBw b1.size)
  have hP : PlAt w2 (ptr gp) true (-1) := .inl ⟨gp, rfl, Row.later hPl b2⟩
  have B2 : Below B w w2 := b1.trans (b2.mono (Nat.le_trans hBw b1.size))
  clear hPw hPl hgP hne b1 b2
  go_wp2_with fail
  go_loopw [4] (fun iv wr => ∃ i : Nat, i ≤ k % 70 ∧ iv = .int .i64 i ∧ ∃ fs, Fil i fs ∧ DiskAt wr B gd (ptr gp) mb fs ∧ PlAt wr (ptr gp) true (-1) ∧ Below B w wr) (fun iv _ => k % 70 - (intOf iv).toNat)
  case atStart => exact ⟨0, by omega, rfl, [], Fil.zero, hD, hP, B2⟩
  case round =>
    clear hD hP B2
    obtain ⟨i, hi, rfl, fs, hF, hD, hP, bB⟩ := hrel
    have hBr := Nat.le_trans hBw bB.size
    by_cases hlt : i < k % 70
    · have hs9 := nm_str i (by omega)
      have hcv : (convert 35 9 (.slice (some ⟨wr.heap.size, 0, none⟩) 2 2)).run Try.prog (wr.alloc (.cells #[.int .u8 ((97 : Int) + (i : Int) / 10), .int .u8 ((48 : Int) + (i : Int) % 10)] 5)) = .ok (encStr (nmI i)) (wr.alloc (.cells #[.int .u8 ((97 : Int) + (i : Int) / 10), .int .u8 ((48 : Int) + (i : Int) % 10)] 5)) := by
        have := (Bs.lit' wr 5 (0, 0) [(97 : Int) + (i : Int) / 10, (48 : Int) + (i : Int) % 10] _ 2 _ rfl rfl rfl).convert (P := Try.prog) 2 35 5 9 Try.underlying35 Try.underlying5 Try.underlying9
        rw [hs9] at this
        exact this
      have bl : Below wr.heap.size wr (wr.alloc (.cells #[.int .u8 ((97 : Int) + (i : Int) / 10), .int .u8 ((48 : Int) + (i : Int) % 10)] 5)) := (Below.refl _ _).alloc (Nat.le_refl _) _
      obtain ⟨wq, hwq⟩ : ∃ wq, wq = wr.alloc (.cells #[.int .u8 ((97 : Int) + (i : Int) / 10), .int .u8 ((48 : Int) + (i : Int) % 10)] 5) := ⟨_, rfl⟩
      by_cases h64 : i < 64
      · have hd9 : decide ((64 : Int) ≤ (i : Int)) = false := by simp; omega
        by_cases hp : i % 2 = 0
        · have hd8 : decide ((i : Int) % 2 = 0) = true := by simp; omega
          have hBq := Nat.le_trans hBr bl.size
          have bq : Below B w wq := hwq ▸ bB.trans (bl.mono hBr)
          have hDq : DiskAt wq B gd (ptr gp) mb fs := hwq ▸ hD.later bl
          have hPq : PlAt wq (ptr gp) true (-1) := hwq ▸ hP.later bl
          have HW := hide hwq
          have HF := hide hF
          have HB := hide hBr
          clear hwq hD hP hF bl hBq hBr
          go_wp2_with fail
          rw [← HW.out]
          have hcr : creE fs (nmI i) true = 0 := cre_room HF.out (by omega)
          refine (create_any wq B gd mb (ptr gp) true (-1) fs (nmI i) hDq hPq isI_m1).mono ?_
          rintro en w5 ⟨rfl, hA⟩
          rw [hcr] at hA ⊢
          have hv : dE 0 true (-1) = 0 := rfl
          rw [hv]
          obtain ⟨hD5, hP5, bU⟩ := Acted.ok hA
          have b5 := frame_below bU hDq hgp (Nat.le_trans (Nat.le_of_eq hBe) bq.size)
          clear hA bU hcr hv hDq hPq
          go_wp2_with fail
          go_roundw
          case rel => exact ⟨i + 1, by omega, by go_num, _, HF.out.more h64 _, hD5, hP5, bq.trans b5⟩
          case measure => simp [intOf]; omega
        · have hd8 : decide ((i : Int) % 2 = 0) = false := by simp; omega
          have hd7 : decide ((i : Int) % 2 = 1) = true := by simp; omega
          have hBq := Nat.le_trans hBr bl.size
          have bq : Below B w wq := hwq ▸ bB.trans (bl.mono hBr)
          have hDq : DiskAt wq B gd (ptr gp) mb fs := hwq ▸ hD.later bl
          have hPq : PlAt wq (ptr gp) true (-1) := hwq ▸ hP.later bl
          have HW := hide hwq
          have HF := hide hF
          have HB := hide hBr
          clear hwq hD hP hF bl hBq hBr
          go_wp2_with fail
          rw [← HW.out]
          refine (edit_ok wq B gd mb (ptr gp) fs (nmI i) none 0 0 [] (Nat.le_trans hBw bq.size) hDq Bs.nil_ rfl (by decide) (.inr (by rw [HF.out.len]; omega))).mono ?_
          rintro en w5 ⟨rfl, A5, c5, hD5, bU⟩
          have hP5 := hPq.buts bU (fun k hk hk2 => pl_not hPq hDq k (by simp at hk2; subst hk2; exact mem_dblocks.2 (.inr (.inl rfl))) hk)
          have b5 := bU.below (fun k hk => by simp at hk; subst hk; exact hDq.lo.2) (Nat.le_trans hBw bq.size)
          clear bU hDq hPq
          go_wp2_with fail
          go_roundw
          case rel => exact ⟨i + 1, by omega, by go_num, _, HF.out.more h64 _, hD5, hP5, bq.trans b5⟩
          case measure => simp [intOf]; omega
      · have hd9 : decide ((64 : Int) ≤ (i : Int)) = true := by simp; omega
        by_cases hp : i % 2 = 0
        · have hd8 : decide ((i : Int) % 2 = 0) = true := by simp; omega
          have hBq := Nat.le_trans hBr bl.size
          have bq : Below B w wq := hwq ▸ bB.trans (bl.mono hBr)
          have hDq : DiskAt wq B gd (ptr gp) mb fs := hwq ▸ hD.later bl
          have hPq : PlAt wq (ptr gp) true (-1) := hwq ▸ hP.later bl
          have HW := hide hwq
          have HF := hide hF
          have HB := hide hBr
          clear hwq hD hP hF bl hBq hBr
          go_wp2_with fail
          rw [← HW.out]
          have hcr : creE fs (nmI i) true = 10 := cre_full HF.out (by omega) (by omega)
          refine (create_any wq B gd mb (ptr gp) true (-1) fs (nmI i) hDq hPq isI_m1).mono ?_
          rintro en w5 ⟨rfl, hA⟩
          rw [hcr] at hA ⊢
          have hv : dE 10 true (-1) = 10 := rfl
          rw [hv]
          obtain ⟨hD5, hP5, bU⟩ := Acted.ten hA
          have b5 := frame_below bU hDq hgp (Nat.le_trans (Nat.le_of_eq hBe) bq.size)
          clear hA bU hcr hv hDq hPq
          go_wp2_with fail
          go_roundw
          case rel => exact ⟨i + 1, by omega, by go_num, _, HF.out.same (by omega), hD5, hP5, bq.trans b5⟩
          case measure => simp [intOf]; omega
        · have hd8 : decide ((i : Int) % 2 = 0) = false := by simp; omega
          have hd7 : decide ((i : Int) % 2 = 1) = true := by simp; omega
          have hBq := Nat.le_trans hBr bl.size
          have bq : Below B w wq := hwq ▸ bB.trans (bl.mono hBr)
          have hDq : DiskAt wq B gd (ptr gp) mb fs := hwq ▸ hD.later bl
          have hPq : PlAt wq (ptr gp) true (-1) := hwq ▸ hP.later bl
          have HW := hide hwq
          have HF := hide hF
          have HB := hide hBr
          clear hwq hD hP hF bl hBq hBr
          go_wp2_with fail
          rw [← HW.out]
          refine (edit_full wq gd mb (ptr gp) fs (nmI i) none 0 0 hDq.row hDq.map rfl (by decide) (HF.out.none_ (by omega)) (by rw [HF.out.len]; omega)).mono ?_
          rintro en w5 ⟨rfl, b1⟩
          have hD5 := hDq.later b1
          have hP5 := hPq.later b1
          have b5 := b1.mono (Nat.le_trans hBw bq.size)
          clear b1 hDq hPq
          go_wp2_with fail
          go_roundw
          case rel => exact ⟨i + 1, by omega, by go_num, _, HF.out.same (by omega), hD5, hP5, bq.trans b5⟩
          case measure => simp [intOf]; omega
    · obtain rfl : i = k % 70 := by omega
      have hlen := hF.len
      clear hlt hi
      by_cases hz : k % 70 = 0
      · have dz : decide ((k : Int) % 70 = 0) = true := by simp; omega
        have HNm := names_ent wr gd mb (ptr gp) (ents fs) hD.row hD.map (by rw [ents_len]; exact hD.few)
        rw [ents_len, hlen] at HNm
        have HNm := hide HNm
        go_wp2_with fail
        refine HNm.out.mono ?_
        rintro en w6 ⟨v, rfl, hN, b6⟩
        obtain ⟨A6, c6, rfl⟩ := own_sl hN
        have B6 := bB.trans (b6.mono (Nat.le_trans hBw bB.size))
        clear HNm hN b6 hlen hF
        have hz2 := hide hz
        clear hz
        go_wp2_with fail
        refine (awakeD_any w6).mono ?_
        rintro en w7 ⟨rfl, b7⟩
        go_wp2_with fail
        go_ret
        exact ⟨rfl, hBe ▸ (B6.trans (b7.mono (Nat.le_trans hBw B6.size)))⟩
      · have dz : decide ((k : Int) % 70 = 0) = false := by simp; omega
        go_wp2_with fail
        refine (create_any wr B gd mb (ptr gp) true (-1) fs (nmI 0) hD hP isI_m1).mono ?_
        rintro en w5 ⟨rfl, hA⟩
        rw [cre_one hF (by omega)] at hA ⊢
        have hv : dE 0 true (-1) = 0 := rfl
        rw [hv]
        obtain ⟨hD5, hP5, bU⟩ := Acted.ok hA
        have hl5 : (putF fs (nmI 0) zV).length = min (k % 70) 64 := (len_put_in (FMap.rise hD.map) (hF.one (by omega))).trans hlen
        have b5 := bB.trans (frame_below bU hD hgp hBr)
        clear hA bU hv hD hP
        have HNm := names_ent w5 gd mb (ptr gp) (ents (putF fs (nmI 0) zV)) hD5.row hD5.map (by rw [ents_len]; exact hD5.few)
        rw [ents_len, hl5] at HNm
        have HNm := hide HNm
        go_wp2_with fail
        refine HNm.out.mono ?_
        rintro en w6 ⟨v, rfl, hN, b6⟩
        obtain ⟨A6, c6, rfl⟩ := own_sl hN
        have B6 := b5.trans (b6.mono (Nat.le_trans hBw b5.size))
        clear HNm hN b6
        go_wp2_with fail
        refine (awakeD_any w6).mono ?_
        rintro en w7 ⟨rfl, b7⟩
        go_wp2_with fail
        go_ret
        exact ⟨rfl, hBe ▸ (B6.trans (b7.mono (Nat.le_trans hBw B6.size)))⟩
end Go.Proofs.Ytlihoijbfffjcaa
