/-
  The block of the stream: a contract each. Own work.
-/
import Derived.Test.YtfpemnihknbihaaDoorPackD
import Derived.Test.YtfpemnihknbihaaDoorQuarter
import Derived.Test.YtfpemnihknbihaaDoorRow
namespace Go.Proofs.YtfpemnihknbihaaDoor
open Go.RowKit
set_option linter.unusedVariables false
set_option linter.unusedSimpArgs false
def headL : List Int := [1634760805, 857760878, 2036477234, 1797285236]
def quartersL : List Int := [0, 4, 8, 12, 1, 5, 9, 13, 2, 6, 10, 14, 3, 7, 11, 15, 0, 5, 10, 15, 1, 6, 11, 12, 2, 7, 8, 13, 3, 4, 9, 14]
/-- The program's two tables. -/
def Tabs (w : World) : Prop := 2 ≤ w.heap.size ∧ (∀ j, j < 4 → w.cell? ⟨1, j, none⟩ = some (.int .u32 (headL.getD j 0))) ∧ ∀ j, j < 32 → w.cell? ⟨0, j, none⟩ = some (.int .i64 (quartersL.getD j 0))
theorem Tabs.below {w w' : World} {B : Nat} (h : Tabs w) (hb : Below B w w') (h2 : 2 ≤ B) : Tabs w' := by
  refine ⟨Nat.le_trans h.1 hb.size, fun j hj => ?_, fun j hj => ?_⟩
  · rw [hb.cell (by show 1 < B; omega)]; exact h.2.1 j hj
  · rw [hb.cell (by show 0 < B; omega)]; exact h.2.2 j hj
theorem Tabs.later {w w' : World} (h : Tabs w) (hb : Below w.heap.size w w') : Tabs w' := h.below hb h.1
/-- Numbers out of bytes, the lowest byte first. -/
def words (ks : List Int) (k : Nat) : List Int := (List.range k).map fun i => leV ks (4 * i) 4
theorem words_len (ks : List Int) (k : Nat) : (words ks k).length = k := by simp [words]
theorem words_succ (ks : List Int) (k : Nat) : words ks (k + 1) = words ks k ++ [leV ks (4 * k) 4] := by simp [words, List.range_succ]
/-- A block's numbers at first. -/
def begL (ks : List Int) (c : Int) (ns : List Int) : List Int := headL ++ (words ks 8 ++ (c :: words ns 3))
theorem take_succ_getD (l : List Int) (k : Nat) (h : k < l.length) : l.take (k + 1) = l.take k ++ [l.getD k 0] := by
  rw [List.take_add_one]; simp [List.getD, List.getElem?_eq_getElem h]
set_option maxRecDepth 100000 in
set_option maxHeartbeats 1000000 in
theorem first_any (ks ns : List Int) (c : Int) (w : World) (hT : Tabs w) (hk : ks.length = 32) (hn : ns.length = 12) (hk' : IsBy ks) (hn' : IsBy ns) (hc : w32 c) :
    Calls Tryd.prog 34 #[.agg (bv ks).toArray, .int .u32 c, .agg (bv ns).toArray] w fun e w' => e = .returned (.agg (vk .u32 (begL ks c ns)).toArray) ∧ Below w.heap.size w w' := by
  have h32 := hide hk
  have h12 := hide hn
  clear hk hn
  go_enter Tryd.func34, Tryd.ntmps34
  go_wp2_with fail
  generalize hw2 : (w.alloc (Obj.cells (bv ks).toArray 22)).alloc (Obj.cells (bv ns).toArray 24) = w2
  have s2 : w2.heap.size = w.heap.size + 1 + 1 := by rw [← hw2]; simp
  have b2 : Below w.heap.size w w2 := by rw [← hw2]; exact ((Below.refl _ _).alloc (Nat.le_refl _) _).alloc (by simp) _
  have hK : Bs w2 (w.heap.size + 1 + 1) (some ⟨w.heap.size, 0, none⟩) 32 ks := by
    have h1 := (Bs.lit w 22 (0, 0) ks).below ((Below.refl _ _).alloc (by simp) (Obj.cells (bv ns).toArray 24))
    rw [hw2, h32.out] at h1
    exact h1.up (by omega)
  have hN : Bs w2 (w.heap.size + 1 + 1) (some ⟨w.heap.size + 1, 0, none⟩) 12 ns := by
    have h1 := Bs.lit (w.alloc (Obj.cells (bv ks).toArray 22)) 24 (0, 0) ns
    rw [hw2, h12.out] at h1
    simpa using h1
  have hT2 := hT.later b2
  clear hw2
  go_loopw [13] (fun i wr => ∃ k : Nat, k ≤ 4 ∧ i = .int .i64 k ∧ OwnK .u32 wr 62 (w.heap.size + 1 + 1 + 1) ([] ++ (headL.take k ++ (List.replicate (4 - k) 0 ++ (List.replicate 8 0 ++ c :: List.replicate 3 0)))) ∧ OwnK .u32 wr 62 (w.heap.size + 1 + 1) (List.replicate 16 0) ∧ Below (w.heap.size + 1 + 1) w2 wr) (fun i _ => 4 - (intOf i).toNat)
  case atStart => 
    refine ⟨0, by omega, rfl, ?_, ?_, ?_⟩
    · have := OwnK.new (kd := .u32) (w2.alloc (Obj.cells (vk .u32 (List.replicate 16 0)).toArray 62)) _ 62 ([] ++ (headL.take 0 ++ (List.replicate (4 - 0) 0 ++ (List.replicate 8 0 ++ c :: List.replicate 3 0)))) rfl
      have hs : (w2.alloc (Obj.cells (vk .u32 (List.replicate 16 0)).toArray 62)).heap.size = w.heap.size + 1 + 1 + 1 := by simp [s2]
      rw [hs] at this
      exact this
    · have := (OwnK.new (kd := .u32) w2 _ 62 (List.replicate 16 0) rfl).later ((Below.refl _ _).alloc (Nat.le_refl _) (Obj.cells (vk .u32 ([] ++ (headL.take 0 ++ (List.replicate (4 - 0) 0 ++ (List.replicate 8 0 ++ c :: List.replicate 3 0))))).toArray 62))
      rw [s2] at this
      exact this
    · exact ((Below.refl _ _).alloc (by omega) _).alloc (by simp; omega) _
  case round =>
    obtain ⟨k, hk, rfl, hX, hZ, hb⟩ := hrel
    by_cases hlt : k < 4
    · have hh := (hT2.below hb (by have := hT.1; omega)).2.1 k hlt
      have hcell := hX.cell (j := k) (by simp [headL]; omega)
      have hf := hX.frozen k
      have hs := hX.set k (headL.getD k 0)
      have he := set_mid hlt [] (headL.take k) (List.replicate 8 0 ++ c :: List.replicate 3 0) (by simp [headL]; omega) (headL.getD k 0)
      rw [List.length_nil, Nat.zero_add] at he
      rw [he, ← take_succ_getD headL k (by simp [headL]; omega)] at hs
      have HS := hide hs
      clear hs he
      go_wp2
      go_roundw
      case rel => exact ⟨k + 1, by omega, by go_num, HS.out, hZ.other _ _ (by omega), hb.setCell (by simp) _⟩
      case measure => simp [intOf]; omega
    · go_wp2_with fail
      have hk4 : k = 4 := by omega
      rw [hk4] at hX
      generalize Value.int .i64 (k : Int) = s13
      generalize Value.bool (decide ((k : Int) < 4)) = s14
      clear hlt hk hk4
      have hX1 : OwnK .u32 wr 62 (w.heap.size + 1 + 1 + 1) (headL ++ (words ks 0 ++ (List.replicate (8 - 0) 0 ++ c :: List.replicate 3 0))) := hX
      clear hX
      go_loopw [22] (fun i wr => ∃ k : Nat, k ≤ 8 ∧ i = .int .i64 k ∧ OwnK .u32 wr 62 (w.heap.size + 1 + 1 + 1) (headL ++ (words ks k ++ (List.replicate (8 - k) 0 ++ c :: List.replicate 3 0))) ∧ OwnK .u32 wr 62 (w.heap.size + 1 + 1) (List.replicate 16 0) ∧ Below (w.heap.size + 1 + 1) w2 wr) (fun i _ => 8 - (intOf i).toNat)
      case atStart => exact ⟨0, by omega, rfl, hX1, hZ, hb⟩
      case round =>
        clear hX1 hZ hb
        obtain ⟨k, hk, rfl, hX, hZ, hb⟩ := hrel
        by_cases hlt : k < 8
        · have hcell := hX.cell (j := 4 + k) (by simp [headL, words_len]; omega)
          have hf := hX.frozen (4 + k)
          have hs := hX.set (4 + k) (leV ks (4 * k) 4)
          have he := set_mid hlt headL (words ks k) (c :: List.replicate 3 0) (words_len _ _) (leV ks (4 * k) 4)
          rw [show headL.length + k = 4 + k from rfl] at he
          rw [he, ← words_succ] at hs
          have HS := hide hs
          clear hs he
          have hK2 := (hK.below hb).up (show w.heap.size + 1 + 1 ≤ wr.heap.size from by have := hX.lt; omega)
          have hL := le32_any (some ⟨w.heap.size, 0, none⟩) 32 32 (4 * k) ks wr hK2 hk' (by omega) (by omega)
          rw [show ((4 * k : Nat) : Int) = 4 * (k : Int) from by omega] at hL
          go_wp2_with fail
          refine hL.mono ?_
          rintro e w' ⟨rfl, rfl⟩
          go_wp2
          go_roundw
          case rel => exact ⟨k + 1, by omega, by go_num, HS.out, hZ.other _ _ (by omega), hb.setCell (by simp) _⟩
          case measure => simp [intOf]; omega
        · go_wp2_with fail
          have hk8 : k = 8 := by omega
          rw [hk8] at hX
          generalize Value.int .i64 (k : Int) = s22
          generalize Value.bool (decide ((k : Int) < 8)) = s23
          clear hlt hk hk8
          have hX1 : OwnK .u32 wr 62 (w.heap.size + 1 + 1 + 1) ((headL ++ words ks 8 ++ [c]) ++ (words ns 0 ++ (List.replicate (3 - 0) 0 ++ []))) := by
            have e : headL ++ (words ks 8 ++ (List.replicate (8 - 8) 0 ++ c :: List.replicate 3 0)) = (headL ++ words ks 8 ++ [c]) ++ (words ns 0 ++ (List.replicate (3 - 0) 0 ++ [])) := by simp [words]
            rw [← e]; exact hX
          clear hX
          go_loopw [33] (fun i wr => ∃ k : Nat, k ≤ 3 ∧ i = .int .i64 k ∧ OwnK .u32 wr 62 (w.heap.size + 1 + 1 + 1) ((headL ++ words ks 8 ++ [c]) ++ (words ns k ++ (List.replicate (3 - k) 0 ++ []))) ∧ OwnK .u32 wr 62 (w.heap.size + 1 + 1) (List.replicate 16 0) ∧ Below (w.heap.size + 1 + 1) w2 wr) (fun i _ => 3 - (intOf i).toNat)
          case atStart => exact ⟨0, by omega, rfl, hX1, hZ, hb⟩
          case round =>
            clear hX1 hZ hb
            obtain ⟨k, hk, rfl, hX, hZ, hb⟩ := hrel
            by_cases hlt : k < 3
            · have hcell := hX.cell (j := 13 + k) (by simp [headL, words_len]; omega)
              have hf := hX.frozen (13 + k)
              have hs := hX.set (13 + k) (leV ns (4 * k) 4)
              have he := set_mid hlt (headL ++ words ks 8 ++ [c]) (words ns k) [] (words_len _ _) (leV ns (4 * k) 4)
              rw [show (headL ++ words ks 8 ++ [c]).length + k = 13 + k from by simp [headL, words_len]] at he
              rw [he, ← words_succ] at hs
              have HS := hide hs
              clear hs he
              have hN2 := (hN.below hb).up (show w.heap.size + 1 + 1 ≤ wr.heap.size from by have := hX.lt; omega)
              have hL := le32_any (some ⟨w.heap.size + 1, 0, none⟩) 12 12 (4 * k) ns wr hN2 hn' (by omega) (by omega)
              rw [show ((4 * k : Nat) : Int) = 4 * (k : Int) from by omega] at hL
              go_wp2_with fail
              refine hL.mono ?_
              rintro e w' ⟨rfl, rfl⟩
              go_wp2
              go_roundw
              case rel => exact ⟨k + 1, by omega, by go_num, HS.out, hZ.other _ _ (by omega), hb.setCell (by simp) _⟩
              case measure => simp [intOf]; omega
            · have hk3 : k = 3 := by omega
              rw [hk3] at hX
              have heq : (headL ++ words ks 8 ++ [c]) ++ (words ns 3 ++ (List.replicate (3 - 3) 0 ++ [])) = begL ks c ns := by simp [begL]
              rw [heq] at hX
              have hlen : (begL ks c ns).length = 16 := by simp [begL, headL, words_len]
              have hsz : (Tryd.prog.info? 62).map (·.size) = some (vk .u32 (begL ks c ns)).toArray.size := by
                rw [List.size_toArray, vk_len, hlen]; kernel_rfl
              have hzz : (vk .u32 (List.replicate 16 0)).toArray.size = (vk .u32 (begL ks c ns)).toArray.size := by simp [vk_len, hlen]
              clear hk3 heq
              go_wp2_with (first
                | refine wpList_load_row rfl 62 (.tmp 7) rfl (w.heap.size + 1 + 1 + 1) rfl 62 _ (0, 0) _ hX Tryd.underlying62 rfl hsz ?_
                | refine wpList_store_row rfl 62 (.tmp 6) (.tmp 44) rfl (w.heap.size + 1 + 1) _ rfl rfl 62 _ hZ hsz hzz (vk_one _ _) ?_)
              refine bodyPost_ret (v := .agg (vk .u32 (begL ks c ns)).toArray) ?_ rfl ⟨rfl, ?_⟩
              · exact results_cell_row Tryd.results34 _ _ (w.heap.size + 1 + 1) 62 _ (0, 0) _ rfl (setRow_heap _ _ _ _ _ _ hZ) Tryd.underlying62 rfl hsz
              · exact b2.trans (below_setRow (hb.mono (by omega)) (by omega) _)
end Go.Proofs.YtfpemnihknbihaaDoor
