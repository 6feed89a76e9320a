/-
  The document's block's numbers at first: a contract. Own work.
-/
import Derived.Test.YtfpemnihknbihaaDoorRefAt
import Derived.Test.YtfpemnihknbihaaDoorTwice
import Derived.IntWalk
namespace Go.Proofs.YtfpemnihknbihaaDoor
open Go.RowKit
set_option linter.unusedVariables false
set_option linter.unusedSimpArgs false
/-- Numbers of four bytes, of which i bytes in all are in. -/
def pw (xs : List Int) (m i : Nat) : List Int := (List.range m).map fun q => leV xs (4 * q) (min 4 (i - 4 * q))
theorem pw_len (xs : List Int) (m i : Nat) : (pw xs m i).length = m := by simp [pw]
theorem pw_get {xs : List Int} {m i q : Nat} (h : q < m) : (pw xs m i).getD q 0 = leV xs (4 * q) (min 4 (i - 4 * q)) := by
  simp [pw, List.getD, h]
theorem pw_zero (xs : List Int) (m : Nat) : pw xs m 0 = List.replicate m 0 := by
  unfold pw
  rw [List.eq_replicate_iff]
  refine ⟨by simp, fun b hb => ?_⟩
  simp only [List.mem_map] at hb
  obtain ⟨q, _, rfl⟩ := hb
  simp [leV]
theorem pw_full (xs : List Int) (m : Nat) : pw xs m (4 * m) = words xs m := by
  unfold pw words
  refine List.map_congr_left fun q hq => ?_
  have := List.mem_range.1 hq
  rw [show min 4 (4 * m - 4 * q) = 4 from by omega]
theorem pw_at {xs : List Int} {m i : Nat} (h : i < 4 * m) : (pw xs m i).getD (i / 4) 0 = leV xs (4 * (i / 4)) (i % 4) := by
  rw [pw_get (by omega), show min 4 (i - 4 * (i / 4)) = i % 4 from by omega]
theorem pw_step {xs : List Int} {m i : Nat} (h : i < 4 * m) : (pw xs m i).set (i / 4) (leV xs (4 * (i / 4)) (i % 4) + xs.getD i 0 * 2 ^ (8 * (i % 4))) = pw xs m (i + 1) := by
  apply List.ext_getElem
  · simp [pw]
  · intro q h1 h2
    rw [pw_len] at h2
    rw [List.getElem_set]
    by_cases hq : i / 4 = q
    · rw [if_pos hq]
      subst hq
      simp only [pw, List.getElem_map, List.getElem_range]
      rw [show min 4 (i + 1 - 4 * (i / 4)) = i % 4 + 1 from by omega]
      simp only [leV]
      rw [show 4 * (i / 4) + i % 4 = i from by omega, pow256_two]
    · rw [if_neg hq]
      simp only [pw, List.getElem_map, List.getElem_range]
      congr 1
      omega
theorem pw_bound {xs : List Int} (hb : IsBy xs) (i : Nat) : 0 ≤ leV xs (4 * (i / 4)) (i % 4) ∧ leV xs (4 * (i / 4)) (i % 4) + xs.getD i 0 * 2 ^ (8 * (i % 4)) < 4294967296 ∧ 0 ≤ xs.getD i 0 * 2 ^ (8 * (i % 4)) := by
  have h1 := leV_bound hb (4 * (i / 4)) (i % 4 + 1)
  have h0 := leV_bound hb (4 * (i / 4)) (i % 4)
  have hx := getD_byte hb i
  simp only [leV] at h1
  rw [show 4 * (i / 4) + i % 4 = i from by omega, pow256_two (i % 4)] at h1
  have h2 : (256 : Int) ^ (i % 4 + 1) ≤ 256 ^ 4 := by
    have h4 : i % 4 = 0 ∨ i % 4 = 1 ∨ i % 4 = 2 ∨ i % 4 = 3 := by omega
    rcases h4 with h | h | h | h <;> rw [h] <;> decide
  have h3 : (256 : Int) ^ 4 = 4294967296 := by decide
  have hp : (0 : Int) < 2 ^ (8 * (i % 4)) := Int.pow_pos (by omega)
  exact ⟨h0.1, by omega, Int.mul_nonneg hx.1 (by omega)⟩
def JS (w0 : World) (T g : Nat) (old new : List Int) (bs : List Bool) (vs : List Value) (w : World) : Prop := Row w T g (vk .u32 (bif bs.getD 0 false then new else old)) ∧ Below g w0 w
theorem JS.old_ {w0 : World} {T g : Nat} {old new : List Int} {bs : List Bool} {vs : List Value} {w : World} (h : JS w0 T g old new bs vs w) (h1 : bs.getD 0 false = false) : Row w T g (vk .u32 old) := by
  have := h.1
  rw [h1] at this
  exact this
theorem at_ks {ks ns : List Int} {c : Int} {i : Nat} (h : i < ks.length) : (atL ks c ns)[0 + i]? = some (.int .u8 (ks.getD i 0)) := by
  unfold atL
  rw [Nat.zero_add, List.getElem?_append_left (by rw [bv_len]; exact h)]
  exact vk_get (kd := .u8) h
theorem at_ns {ks ns : List Int} {c : Int} {i : Nat} (hk : ks.length = 32) (h : i < ns.length) : (atL ks c ns)[33 + i]? = some (.int .u8 (ns.getD i 0)) := by
  unfold atL
  rw [List.getElem?_append_right (by rw [bv_len]; omega), bv_len, hk, List.getElem?_append_right (by simp; omega)]
  rw [show 33 + i - 32 - [Value.int .u32 c].length = i from by simp; omega]
  exact vk_get (kd := .u8) h
def SBa (g1 g3 i : Nat) (X Y Z : Int) (opn : Nat) (v : Value) : Prop :=
  match opn with
  | 0 | 3 | 8 | 13 => v = .int .i64 (i : Int)
  | 1 | 4 => v = .int .i64 ((i / 4 : Nat) : Int)
  | 2 | 5 => v = .int .i64 ((4 + i / 4 : Nat) : Int)
  | 6 | 18 => v = .pointer (some ⟨g3, 4 + i / 4, none⟩)
  | 7 => v = .int .u32 X
  | 9 => v = .pointer (some ⟨g1, 0, none⟩)
  | 10 => v = .pointer (some ⟨g1, 0 + i, none⟩)
  | 11 => v = .int .u8 Y
  | 12 => v = .int .u32 Y
  | 14 => v = .int .i64 ((i % 4 : Nat) : Int)
  | 15 => v = .int .i64 ((8 * (i % 4) : Nat) : Int)
  | 16 => v = .int .u32 Z
  | 17 => v = .int .u32 (X + Z)
  | _ => True
def SBb (g1 g3 i : Nat) (X Y Z : Int) (opn : Nat) (v : Value) : Prop :=
  match opn with
  | 0 | 3 | 8 | 13 => v = .int .i64 (i : Int)
  | 1 | 4 => v = .int .i64 ((i / 4 : Nat) : Int)
  | 2 | 5 => v = .int .i64 ((13 + i / 4 : Nat) : Int)
  | 6 | 18 => v = .pointer (some ⟨g3, 13 + i / 4, none⟩)
  | 7 => v = .int .u32 X
  | 9 => v = .pointer (some ⟨g1, 33, none⟩)
  | 10 => v = .pointer (some ⟨g1, 33 + i, none⟩)
  | 11 => v = .int .u8 Y
  | 12 => v = .int .u32 Y
  | 14 => v = .int .i64 ((i % 4 : Nat) : Int)
  | 15 => v = .int .i64 ((8 * (i % 4) : Nat) : Int)
  | 16 => v = .int .u32 Z
  | 17 => v = .int .u32 (X + Z)
  | _ => True
set_option maxRecDepth 100000 in
set_option maxHeartbeats 2000000 in
theorem begin_any (ks ns : List Int) (c : Nat) (w : World) (hk : ks.length = 32) (hn : ns.length = 12) (hk' : IsBy ks) (hn' : IsBy ns) (hc : c < 4294967296) :
    Calls Tryd.prog 37 #[.agg (atL ks c ns).toArray] w fun e w' => e = .returned (.agg (vk .u32 (begL ks c ns)).toArray) ∧ Below w.heap.size w w' := by
  have h32 := hide (show (bv ks).length = 32 by rw [bv_len, hk])
  have Hk := hide hk
  have Hn := hide hn
  clear hk hn
  go_enter Tryd.func37, Tryd.ntmps37
  go_wp2_with (first
    | (with_reducible refine wl_box rfl 26 (.tmp 0) _ (atL ks c ns) rfl rfl rfl ?_; intro g1 w1 r1 a1 l1 b1)
    | (with_reducible refine wl_alloc (o := ⟨some 2, _, _, _, _, _⟩) rfl 62 _ (vk .u32 (List.replicate 16 0)) rfl zero16' rfl ?_; intro g2 w2 r2 a2 l2 b2)
    | (with_reducible refine wl_alloc (o := ⟨some 3, _, _, _, _, _⟩) rfl 62 _ (vk .u32 (List.replicate 16 0)) rfl zero16' rfl ?_; intro g3 w3 r3 a3 l3 b3)
    | (with_reducible refine wl_store rfl 23 (.tmp 6) _ g3 0 62 _ (.int .u32 1634760805) rfl (by kernel_rfl) rfl rfl r3 (by decide) rfl ?_; intro w4 r4 o4)
    | (with_reducible refine wl_store rfl 23 (.tmp 7) _ g3 1 62 _ (.int .u32 857760878) rfl (by kernel_rfl) rfl rfl r4 (by decide) rfl ?_; intro w5 r5 o5)
    | (with_reducible refine wl_store rfl 23 (.tmp 8) _ g3 2 62 _ (.int .u32 2036477234) rfl (by kernel_rfl) rfl rfl r5 (by decide) rfl ?_; intro w6 r6 o6)
    | (with_reducible refine wl_store rfl 23 (.tmp 9) _ g3 3 62 _ (.int .u32 1797285236) rfl (by kernel_rfl) rfl rfl r6 (by decide) rfl ?_; intro w7 r7 o7))
  have R7 : Row w7 62 g3 (vk .u32 (headL ++ (pw ks 8 0 ++ List.replicate 4 0))) := by rw [pw_zero]; exact r7
  have O7 := ((o4.trans o5).trans o6).trans o7
  have q7 := O7.size
  have g13 : g1 < g3 := by have := b2.size; omega
  have R1 := (((r1.later b2).later b3).only O7 (by omega))
  have R2 := ((r2.later b3).only O7 (by omega))
  have B7 := ((b1.trans (b2.mono b1.size)).trans (b3.mono (Nat.le_trans b1.size b2.size))).trans (O7.below (show w.heap.size ≤ g3 by have := b1.size; have := b2.size; omega))
  have a3' : w.heap.size ≤ g3 := by have := b1.size; have := b2.size; omega
  have g23 : g2 < g3 := by omega
  clear r1 r2 r3 r4 r5 r6 r7 o4 o5 o6 o7 O7 b1 b2 b3
  go_loopw [4] (fun iv wr => ∃ i : Nat, i ≤ 32 ∧ iv = .int .i64 i ∧ Row wr 62 g3 (vk .u32 (headL ++ (pw ks 8 i ++ List.replicate 4 0))) ∧ Below g3 w7 wr) (fun iv _ => 32 - (intOf iv).toNat)
  case atStart => exact ⟨0, by omega, rfl, R7, Below.refl _ _⟩
  case round =>
    clear R7
    obtain ⟨i, hi32, rfl, rx, bx⟩ := hrel
    by_cases hi : i < 32
    · go_wp2_with fail
      obtain ⟨hX0, hXZ, hZ0⟩ := pw_bound hk' i
      have hYb := getD_byte hk' i
      have hg : g1 < g3 := g13
      have hX : (vk .u32 (headL ++ (pw ks 8 i ++ List.replicate 4 0)))[4 + i / 4]? = some (.int .u32 (leV ks (4 * (i / 4)) (i % 4))) := by
        rw [vk_get (by simp [headL, pw_len]; omega), List.getD, List.getElem?_append_right (by simp [headL]), show 4 + i / 4 - headL.length = i / 4 from by simp [headL], List.getElem?_append_left (by rw [pw_len]; omega), ← pw_at (xs := ks) (m := 8) (i := i) (by omega)]
        rfl
      have hY : (atL ks c ns)[0 + i]? = some (.int .u8 (ks.getD i 0)) := at_ks (by rw [Hk.out]; exact hi)
      have hnew : (headL ++ (pw ks 8 i ++ List.replicate 4 0)).set (4 + i / 4) (leV ks (4 * (i / 4)) (i % 4) + ks.getD i 0 * 2 ^ (8 * (i % 4))) = headL ++ (pw ks 8 (i + 1) ++ List.replicate 4 0) := by
        rw [List.set_append_right _ _ (by simp [headL]), show 4 + i / 4 - headL.length = i / 4 from by simp [headL], List.set_append_left _ _ (by rw [pw_len]; omega), pw_step (by omega)]
      have hlen : (headL ++ (pw ks 8 i ++ List.replicate 4 0)).length = 16 := by simp [headL, pw_len]
      have hZe : ks.getD i 0 * 2 ^ (8 * (i % 4)) = ks.getD i 0 * 2 ^ (8 * (i % 4)) := rfl
      have HX := hide hX
      have HY := hide hY
      have HN := hide hnew
      have HL := hide hlen
      clear hX hY hnew hlen hZe
      generalize leV ks (4 * (i / 4)) (i % 4) = X at *
      generalize hYe : ks.getD i 0 = Y at *
      generalize hZe : Y * 2 ^ (8 * (i % 4)) = Z at *
      have HYe := hide hYe
      have HZe := hide hZe
      clear hYe hZe
      rename_i Q1 K1 hK1
      refine wp_region_vals [19] (SBa g1 g3 i X Y Z) (JS w7 62 g3 (headL ++ (pw ks 8 i ++ List.replicate 4 0)) (headL ++ (pw ks 8 (i + 1) ++ List.replicate 4 0))) (by kernel_rfl) (by kernel_rfl) (by kernel_rfl) (by kernel_rfl) (by kernel_rfl) ⟨rx, bx.drew⟩ ?obsA ?heA
      case obsA =>
        have hX := HX.out
        have hY := HY.out
        have hnew := HN.out
        have hlen := HL.out
        have r1 := R1
        have hZe := HZe.out
        refine ⟨?_, ?_, ?_, ?_, ?_, ?_, ?_, ?_, ?_, ?_, ?_, ?_, ?_, ?_, ?_, ?_, ?_, ?_, ?_, ?_, trivial⟩
        · exact .inl ⟨by kernel_rfl, fun L a1 w1 n h => ⟨_, rfl, run_move (.tmp 4) rfl (h.var n 4 (by kernel_rfl))⟩⟩
        · refine .inl ⟨by kernel_rfl, fun L a1 w1 n h => ⟨.int .i64 ((i / 4 : Nat) : Int), rfl, ?_⟩⟩
          have e0 : a1.eval (.tmp 14) = _ := h.dep n 0 14 (by kernel_rfl) rfl
          unfold execOp
          simp only [e0]
          go_simp
          rw [IntWalk.i64_in _ (by omega)]
        · refine .inl ⟨by kernel_rfl, fun L a1 w1 n h => ⟨.int .i64 ((4 + i / 4 : Nat) : Int), rfl, ?_⟩⟩
          have e0 : a1.eval (.tmp 15) = _ := h.dep n 1 15 (by kernel_rfl) rfl
          unfold execOp
          simp only [e0]
          go_simp
          rw [IntWalk.i64_in _ (by omega)]
        · exact .inl ⟨by kernel_rfl, fun L a1 w1 n h => ⟨_, rfl, run_move (.tmp 4) rfl (h.var n 4 (by kernel_rfl))⟩⟩
        · refine .inl ⟨by kernel_rfl, fun L a1 w1 n h => ⟨.int .i64 ((i / 4 : Nat) : Int), rfl, ?_⟩⟩
          have e0 : a1.eval (.tmp 17) = _ := h.dep n 3 17 (by kernel_rfl) rfl
          unfold execOp
          simp only [e0]
          go_simp
          rw [IntWalk.i64_in _ (by omega)]
        · refine .inl ⟨by kernel_rfl, fun L a1 w1 n h => ⟨.int .i64 ((4 + i / 4 : Nat) : Int), rfl, ?_⟩⟩
          have e0 : a1.eval (.tmp 18) = _ := h.dep n 4 18 (by kernel_rfl) rfl
          unfold execOp
          simp only [e0]
          go_simp
          rw [IntWalk.i64_in _ (by omega)]
        · exact .inl ⟨by kernel_rfl, fun L a1 w1 n h => ⟨_, rfl, run_index0 62 (.tmp 3) (.tmp 19) 16 23 g3 (4 + i / 4) rfl Tryd.underlying62 Tryd.sizeOf23 (h.var n 3 (by kernel_rfl)) (h.dep n 5 19 (by kernel_rfl) rfl) (by omega)⟩⟩
        · exact .inl ⟨by kernel_rfl, fun L a1 w1 n h => ⟨_, rfl, run_loadA 23 (.tmp 20) ⟨g3, (4 + i / 4), none⟩ rfl Tryd.isAgg23 (h.dep n 6 20 (by kernel_rfl) rfl) ((JS.old_ h.inv (n.later (j := 19) (by kernel_rfl))).cell hX)⟩⟩
        · exact .inl ⟨by kernel_rfl, fun L a1 w1 n h => ⟨_, rfl, run_move (.tmp 4) rfl (h.var n 4 (by kernel_rfl))⟩⟩
        · refine .inl ⟨by kernel_rfl, fun L a1 w1 n h => ⟨.pointer (some ⟨g1, 0, none⟩), rfl, ?_⟩⟩
          have e0 : a1.eval (.tmp 1) = _ := h.var n 1 (by kernel_rfl)
          unfold execOp
          simp only [e0]
          go_simp
        · exact .inl ⟨by kernel_rfl, fun L a1 w1 n h => ⟨_, rfl, run_indexA 22 (.tmp 23) (.tmp 22) 32 5 g1 0 i rfl Tryd.underlying22 Tryd.sizeOf5 (h.dep n 9 23 (by kernel_rfl) rfl) (h.dep n 8 22 (by kernel_rfl) rfl) hi⟩⟩
        · exact .inl ⟨by kernel_rfl, fun L a1 w1 n h => ⟨_, rfl, run_loadA 5 (.tmp 24) ⟨g1, 0 + i, none⟩ rfl Tryd.isAgg5 (h.dep n 10 24 (by kernel_rfl) rfl) ((r1.below h.inv.2 hg).cell hY)⟩⟩
        · refine .inl ⟨by kernel_rfl, fun L a1 w1 n h => ⟨.int .u32 Y, rfl, ?_⟩⟩
          have e0 : a1.eval (.tmp 25) = _ := h.dep n 11 25 (by kernel_rfl) rfl
          unfold execOp
          simp only [e0]
          go_simp
          rw [IntWalk.u32_in _ (by omega)]
        · exact .inl ⟨by kernel_rfl, fun L a1 w1 n h => ⟨_, rfl, run_move (.tmp 4) rfl (h.var n 4 (by kernel_rfl))⟩⟩
        · refine .inl ⟨by kernel_rfl, fun L a1 w1 n h => ⟨.int .i64 ((i % 4 : Nat) : Int), rfl, ?_⟩⟩
          have e0 : a1.eval (.tmp 27) = _ := h.dep n 13 27 (by kernel_rfl) rfl
          unfold execOp
          simp only [e0]
          go_simp
          rw [Int.tmod_eq_emod_of_nonneg (by omega)]
        · refine .inl ⟨by kernel_rfl, fun L a1 w1 n h => ⟨.int .i64 ((8 * (i % 4) : Nat) : Int), rfl, ?_⟩⟩
          have e0 : a1.eval (.tmp 28) = _ := h.dep n 14 28 (by kernel_rfl) rfl
          unfold execOp
          simp only [e0]
          go_simp
          rw [IntWalk.i64_in _ (by omega)]
        · refine .inl ⟨by kernel_rfl, fun L a1 w1 n h => ⟨.int .u32 Z, rfl, ?_⟩⟩
          have e0 : a1.eval (.tmp 26) = _ := h.dep n 12 26 (by kernel_rfl) rfl
          have e1 : a1.eval (.tmp 29) = _ := h.dep n 15 29 (by kernel_rfl) rfl
          unfold execOp
          simp only [e0, e1]
          go_simp
          rw [show (8 * ((i : Int) % 4)).toNat = 8 * (i % 4) from by omega, hZe, IntWalk.u32_in _ (by omega)]
        · refine .inl ⟨by kernel_rfl, fun L a1 w1 n h => ⟨.int .u32 (X + Z), rfl, ?_⟩⟩
          have e0 : a1.eval (.tmp 21) = _ := h.dep n 7 21 (by kernel_rfl) rfl
          have e1 : a1.eval (.tmp 30) = _ := h.dep n 16 30 (by kernel_rfl) rfl
          unfold execOp
          simp only [e0, e1]
          go_simp
          rw [IntWalk.u32_in _ (by omega)]
        · exact .inl ⟨by kernel_rfl, fun L a1 w1 n h => ⟨_, rfl, run_index0 62 (.tmp 3) (.tmp 16) 16 23 g3 (4 + i / 4) rfl Tryd.underlying62 Tryd.sizeOf23 (h.var n 3 (by kernel_rfl)) (h.dep n 2 16 (by kernel_rfl) rfl) (by omega)⟩⟩
        · refine .inr fun L a1 w1 n h K hK => ?_
          have hold := JS.old_ h.inv n.not_yet
          refine st_store 23 (.tmp 32) (.tmp 31) g3 (4 + i / 4) 62 _ (.int .u32 (X + Z)) rfl (by kernel_rfl) (h.dep n 18 32 (by kernel_rfl) rfl) (h.dep n 17 31 (by kernel_rfl) rfl) hold (by rw [vk_len]; omega) rfl ?_
          intro w3 r3 o3
          rw [vk_set, hnew] at r3
          exact hK undef w3 trivial ⟨r3, h.inv.2.trans (o3.below (Nat.le_refl _))⟩
      case heA =>
        intro V w8 hV hJ
        have hr8 : Row w8 62 g3 (vk .u32 (headL ++ (pw ks 8 (i + 1) ++ List.replicate 4 0))) := hJ.1
        have hb8 : Below g3 w7 w8 := hJ.2
        clear hV hJ
        simp only [putOps, List.setIfInBounds_toArray, List.set_cons_succ, List.set_cons_zero]
        refine hK1 _ _ ?_
        go_wp2
        go_roundw
        case rel => exact ⟨i + 1, by omega, by go_num, hr8, hb8⟩
        case measure => simp [intOf]; omega
    · have rx' : Row wr 62 g3 (vk .u32 (headL ++ (words ks 8 ++ List.replicate 4 0))) := by
        rw [show i = 4 * 8 from by omega, pw_full] at rx; exact rx
      have R1' := R1.below bx g13
      have hlen8 := hide (show (vk .u32 (headL ++ (words ks 8 ++ List.replicate 4 0))).length = 16 by simp [vk_len, headL, words_len])
      clear rx
      go_wp2_with (first
        | (with_reducible refine wl_load rfl 23 (.tmp 33) g1 32 26 _ (.int .u32 (c : Int)) rfl Tryd.isAgg23 rfl R1' (atCtr h32.out) ?_)
        | (with_reducible refine wl_store rfl 23 (.tmp 35) (.tmp 34) g3 12 62 _ (.int .u32 (c : Int)) rfl (by kernel_rfl) rfl rfl rx' (by rw [hlen8.out]; decide) rfl ?_; intro w8 r8 o8))
      have R8 : Row w8 62 g3 (vk .u32 ((headL ++ words ks 8 ++ [(c : Int)]) ++ (pw ns 3 0 ++ []))) := by
        rw [vk_set] at r8
        have e : (headL ++ (words ks 8 ++ List.replicate 4 0)).set 12 (c : Int) = (headL ++ words ks 8 ++ [(c : Int)]) ++ (pw ns 3 0 ++ []) := by
          rw [List.set_append_right _ _ (by simp [headL]), show 12 - headL.length = 8 from rfl, List.set_append_right _ _ (by rw [words_len]; omega), words_len, pw_zero]
          simp [List.replicate_succ]
        rw [← e]; exact r8
      have hi32' : i = 32 := by omega
      generalize Value.int .i64 (i : Int) = s4
      generalize hs11 : Value.bool (decide ((i : Int) < 32)) = s11
      have R18 := R1'.only o8 (by omega)
      have B8 := bx.trans (o8.below (Nat.le_refl g3))
      clear r8 rx' R1' o8 bx hs11 hi hi32 hi32'
      go_loopw [5] (fun iv wr => ∃ i : Nat, i ≤ 12 ∧ iv = .int .i64 i ∧ Row wr 62 g3 (vk .u32 ((headL ++ words ks 8 ++ [(c : Int)]) ++ (pw ns 3 i ++ []))) ∧ Below g3 w8 wr) (fun iv _ => 12 - (intOf iv).toNat)
      case atStart => exact ⟨0, by omega, rfl, R8, Below.refl _ _⟩
      case round =>
        clear R8
        obtain ⟨i, hi32, rfl, rx, bx⟩ := hrel
        by_cases hi : i < 12
        · go_wp2_with fail
          obtain ⟨hX0, hXZ, hZ0⟩ := pw_bound hn' i
          have hYb := getD_byte hn' i
          have hg : g1 < g3 := g13
          have lh : (headL ++ words ks 8 ++ [(c : Int)]).length = 13 := by simp [headL, words_len]
          have hX : (vk .u32 ((headL ++ words ks 8 ++ [(c : Int)]) ++ (pw ns 3 i ++ [])))[13 + i / 4]? = some (.int .u32 (leV ns (4 * (i / 4)) (i % 4))) := by
            rw [vk_get (by rw [List.length_append, lh]; simp [pw_len]; omega), List.getD, List.getElem?_append_right (by omega), lh, show 13 + i / 4 - 13 = i / 4 from by omega, List.append_nil, ← pw_at (xs := ns) (m := 3) (i := i) (by omega)]
            rfl
          have hY : (atL ks c ns)[33 + i]? = some (.int .u8 (ns.getD i 0)) := at_ns Hk.out (by rw [Hn.out]; exact hi)
          have hnew : ((headL ++ words ks 8 ++ [(c : Int)]) ++ (pw ns 3 i ++ [])).set (13 + i / 4) (leV ns (4 * (i / 4)) (i % 4) + ns.getD i 0 * 2 ^ (8 * (i % 4))) = (headL ++ words ks 8 ++ [(c : Int)]) ++ (pw ns 3 (i + 1) ++ []) := by
            rw [List.set_append_right _ _ (by omega), lh, show 13 + i / 4 - 13 = i / 4 from by omega, List.append_nil, pw_step (by omega), List.append_nil]
          have hlen : ((headL ++ words ks 8 ++ [(c : Int)]) ++ (pw ns 3 i ++ [])).length = 16 := by rw [List.length_append, lh]; simp [pw_len]
          have HX := hide hX
          have HY := hide hY
          have HN := hide hnew
          have HL := hide hlen
          clear hX hY hnew hlen lh
          generalize leV ns (4 * (i / 4)) (i % 4) = X at *
          generalize hYe : ns.getD i 0 = Y at *
          generalize hZe : Y * 2 ^ (8 * (i % 4)) = Z at *
          have HYe := hide hYe
          have HZe := hide hZe
          clear hYe hZe
          rename_i Q1 K1 hK1
          refine wp_region_vals [19] (SBb g1 g3 i X Y Z) (JS w8 62 g3 ((headL ++ words ks 8 ++ [(c : Int)]) ++ (pw ns 3 i ++ [])) ((headL ++ words ks 8 ++ [(c : Int)]) ++ (pw ns 3 (i + 1) ++ []))) (by kernel_rfl) (by kernel_rfl) (by kernel_rfl) (by kernel_rfl) (by kernel_rfl) ⟨rx, bx.drew⟩ ?obsB ?heB
          case obsB =>
            have hX := HX.out
            have hY := HY.out
            have hnew := HN.out
            have hlen := HL.out
            have r1 := R18
            have hZe := HZe.out
            refine ⟨?_, ?_, ?_, ?_, ?_, ?_, ?_, ?_, ?_, ?_, ?_, ?_, ?_, ?_, ?_, ?_, ?_, ?_, ?_, ?_, trivial⟩
            · exact .inl ⟨by kernel_rfl, fun L a1 w1 n h => ⟨_, rfl, run_move (.tmp 5) rfl (h.var n 5 (by kernel_rfl))⟩⟩
            · refine .inl ⟨by kernel_rfl, fun L a1 w1 n h => ⟨.int .i64 ((i / 4 : Nat) : Int), rfl, ?_⟩⟩
              have e0 : a1.eval (.tmp 40) = _ := h.dep n 0 40 (by kernel_rfl) rfl
              unfold execOp
              simp only [e0]
              go_simp
              rw [IntWalk.i64_in _ (by omega)]
            · refine .inl ⟨by kernel_rfl, fun L a1 w1 n h => ⟨.int .i64 ((13 + i / 4 : Nat) : Int), rfl, ?_⟩⟩
              have e0 : a1.eval (.tmp 41) = _ := h.dep n 1 41 (by kernel_rfl) rfl
              unfold execOp
              simp only [e0]
              go_simp
              rw [IntWalk.i64_in _ (by omega)]
            · exact .inl ⟨by kernel_rfl, fun L a1 w1 n h => ⟨_, rfl, run_move (.tmp 5) rfl (h.var n 5 (by kernel_rfl))⟩⟩
            · refine .inl ⟨by kernel_rfl, fun L a1 w1 n h => ⟨.int .i64 ((i / 4 : Nat) : Int), rfl, ?_⟩⟩
              have e0 : a1.eval (.tmp 43) = _ := h.dep n 3 43 (by kernel_rfl) rfl
              unfold execOp
              simp only [e0]
              go_simp
              rw [IntWalk.i64_in _ (by omega)]
            · refine .inl ⟨by kernel_rfl, fun L a1 w1 n h => ⟨.int .i64 ((13 + i / 4 : Nat) : Int), rfl, ?_⟩⟩
              have e0 : a1.eval (.tmp 44) = _ := h.dep n 4 44 (by kernel_rfl) rfl
              unfold execOp
              simp only [e0]
              go_simp
              rw [IntWalk.i64_in _ (by omega)]
            · exact .inl ⟨by kernel_rfl, fun L a1 w1 n h => ⟨_, rfl, run_index0 62 (.tmp 3) (.tmp 45) 16 23 g3 (13 + i / 4) rfl Tryd.underlying62 Tryd.sizeOf23 (h.var n 3 (by kernel_rfl)) (h.dep n 5 45 (by kernel_rfl) rfl) (by omega)⟩⟩
            · exact .inl ⟨by kernel_rfl, fun L a1 w1 n h => ⟨_, rfl, run_loadA 23 (.tmp 46) ⟨g3, (13 + i / 4), none⟩ rfl Tryd.isAgg23 (h.dep n 6 46 (by kernel_rfl) rfl) ((JS.old_ h.inv (n.later (j := 19) (by kernel_rfl))).cell hX)⟩⟩
            · exact .inl ⟨by kernel_rfl, fun L a1 w1 n h => ⟨_, rfl, run_move (.tmp 5) rfl (h.var n 5 (by kernel_rfl))⟩⟩
            · refine .inl ⟨by kernel_rfl, fun L a1 w1 n h => ⟨.pointer (some ⟨g1, 33, none⟩), rfl, ?_⟩⟩
              have e0 : a1.eval (.tmp 1) = _ := h.var n 1 (by kernel_rfl)
              unfold execOp
              simp only [e0]
              go_simp
            · exact .inl ⟨by kernel_rfl, fun L a1 w1 n h => ⟨_, rfl, run_indexA 24 (.tmp 49) (.tmp 48) 12 5 g1 33 i rfl Tryd.underlying24 Tryd.sizeOf5 (h.dep n 9 49 (by kernel_rfl) rfl) (h.dep n 8 48 (by kernel_rfl) rfl) hi⟩⟩
            · exact .inl ⟨by kernel_rfl, fun L a1 w1 n h => ⟨_, rfl, run_loadA 5 (.tmp 50) ⟨g1, 33 + i, none⟩ rfl Tryd.isAgg5 (h.dep n 10 50 (by kernel_rfl) rfl) ((r1.below h.inv.2 hg).cell hY)⟩⟩
            · refine .inl ⟨by kernel_rfl, fun L a1 w1 n h => ⟨.int .u32 Y, rfl, ?_⟩⟩
              have e0 : a1.eval (.tmp 51) = _ := h.dep n 11 51 (by kernel_rfl) rfl
              unfold execOp
              simp only [e0]
              go_simp
              rw [IntWalk.u32_in _ (by omega)]
            · exact .inl ⟨by kernel_rfl, fun L a1 w1 n h => ⟨_, rfl, run_move (.tmp 5) rfl (h.var n 5 (by kernel_rfl))⟩⟩
            · refine .inl ⟨by kernel_rfl, fun L a1 w1 n h => ⟨.int .i64 ((i % 4 : Nat) : Int), rfl, ?_⟩⟩
              have e0 : a1.eval (.tmp 53) = _ := h.dep n 13 53 (by kernel_rfl) rfl
              unfold execOp
              simp only [e0]
              go_simp
              rw [Int.tmod_eq_emod_of_nonneg (by omega)]
            · refine .inl ⟨by kernel_rfl, fun L a1 w1 n h => ⟨.int .i64 ((8 * (i % 4) : Nat) : Int), rfl, ?_⟩⟩
              have e0 : a1.eval (.tmp 54) = _ := h.dep n 14 54 (by kernel_rfl) rfl
              unfold execOp
              simp only [e0]
              go_simp
              rw [IntWalk.i64_in _ (by omega)]
            · refine .inl ⟨by kernel_rfl, fun L a1 w1 n h => ⟨.int .u32 Z, rfl, ?_⟩⟩
              have e0 : a1.eval (.tmp 52) = _ := h.dep n 12 52 (by kernel_rfl) rfl
              have e1 : a1.eval (.tmp 55) = _ := h.dep n 15 55 (by kernel_rfl) rfl
              unfold execOp
              simp only [e0, e1]
              go_simp
              rw [show (8 * ((i : Int) % 4)).toNat = 8 * (i % 4) from by omega, hZe, IntWalk.u32_in _ (by omega)]
            · refine .inl ⟨by kernel_rfl, fun L a1 w1 n h => ⟨.int .u32 (X + Z), rfl, ?_⟩⟩
              have e0 : a1.eval (.tmp 47) = _ := h.dep n 7 47 (by kernel_rfl) rfl
              have e1 : a1.eval (.tmp 56) = _ := h.dep n 16 56 (by kernel_rfl) rfl
              unfold execOp
              simp only [e0, e1]
              go_simp
              rw [IntWalk.u32_in _ (by omega)]
            · exact .inl ⟨by kernel_rfl, fun L a1 w1 n h => ⟨_, rfl, run_index0 62 (.tmp 3) (.tmp 42) 16 23 g3 (13 + i / 4) rfl Tryd.underlying62 Tryd.sizeOf23 (h.var n 3 (by kernel_rfl)) (h.dep n 2 42 (by kernel_rfl) rfl) (by omega)⟩⟩
            · refine .inr fun L a1 w1 n h K hK => ?_
              have hold := JS.old_ h.inv n.not_yet
              refine st_store 23 (.tmp 58) (.tmp 57) g3 (13 + i / 4) 62 _ (.int .u32 (X + Z)) rfl (by kernel_rfl) (h.dep n 18 58 (by kernel_rfl) rfl) (h.dep n 17 57 (by kernel_rfl) rfl) hold (by rw [vk_len]; omega) rfl ?_
              intro w3 r3 o3
              rw [vk_set, hnew] at r3
              exact hK undef w3 trivial ⟨r3, h.inv.2.trans (o3.below (Nat.le_refl _))⟩
          case heB =>
            intro V w9 hV hJ
            have hr9 : Row w9 62 g3 (vk .u32 ((headL ++ words ks 8 ++ [(c : Int)]) ++ (pw ns 3 (i + 1) ++ []))) := hJ.1
            have hb9 : Below g3 w8 w9 := hJ.2
            clear hV hJ
            simp only [putOps, List.setIfInBounds_toArray, List.set_cons_succ, List.set_cons_zero]
            refine hK1 _ _ ?_
            go_wp2
            go_roundw
            case rel => exact ⟨i + 1, by omega, by go_num, hr9, hb9⟩
            case measure => simp [intOf]; omega
        · have rL : Row wr 62 g3 (vk .u32 (begL ks c ns)) := by
            rw [show i = 4 * 3 from by omega, pw_full] at rx
            have e : (headL ++ words ks 8 ++ [(c : Int)]) ++ (words ns 3 ++ []) = begL ks c ns := by simp [begL]
            rw [← e]; exact rx
          have z16 := hide (size_k (P := Tryd.prog) (T := 62) (kd := .u32) (n := 16) (by kernel_rfl) (begL_len ks c ns))
          have l16 := hide (show (vk .u32 (List.replicate 16 0)).length = (vk .u32 (begL ks c ns)).length by rw [vk_len, vk_len, begL_len]; rfl)
          have R29 := (R2.below B8 g23).below bx g23
          clear rx
          go_wp2_with (first
            | (with_reducible refine wl_load_row rfl 62 (.tmp 3) g3 62 _ _ rfl rfl rL Tryd.underlying62 rfl z16.out ?_)
            | (with_reducible refine wl_store_row rfl 62 (.tmp 2) (.tmp 59) g2 62 _ _ rfl rfl rfl R29 z16.out l16.out (vk_one' _ _) ?_; intro w9 r9 o9))
          refine bodyPost_ret (v := .agg (vk .u32 (begL ks c ns)).toArray) ?_ rfl ⟨rfl, ?_⟩
          · exact results_cell_row Tryd.results37 _ _ g2 62 _ (0, 0) _ rfl r9 Tryd.underlying62 rfl (by simpa using z16.out)
          · exact ((B7.trans (B8.mono a3')).trans (bx.mono a3')).trans (o9.below (by omega))
end Go.Proofs.YtfpemnihknbihaaDoor
