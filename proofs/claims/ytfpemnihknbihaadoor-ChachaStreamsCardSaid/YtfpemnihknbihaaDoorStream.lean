/-
  A stream: a contract each. Own work.
-/
import Derived.Test.YtfpemnihknbihaaDoorKeyMath
import Derived.OwnWalk
namespace Go.Proofs.YtfpemnihknbihaaDoor
open Go.RowKit
set_option linter.unusedVariables false
set_option linter.unusedSimpArgs false
/-- A stream's cells. -/
def strm (ks ns : List Int) (l : Int) : List Value := bv ks ++ (bv ns ++ [.int .u64 l])
theorem strm_len {ks ns : List Int} {l : Int} (hk : ks.length = 32) (hn : ns.length = 12) : (strm ks ns l).length = 45 := by simp [strm, bv_len, hk, hn]
theorem strm_left {ks ns : List Int} {l : Int} (hk : ks.length = 32) (hn : ns.length = 12) : (strm ks ns l)[44]? = some (.int .u64 l) := by
  unfold strm
  rw [List.getElem?_append_right (by rw [bv_len]; omega), bv_len, hk, List.getElem?_append_right (by rw [bv_len]; omega), bv_len, hn]
  rfl
theorem strm_set {ks ns : List Int} {l m : Int} (hk : ks.length = 32) (hn : ns.length = 12) : (strm ks ns l).set 44 (.int .u64 m) = strm ks ns m := by
  unfold strm
  rw [List.set_append_right _ _ (by rw [bv_len]; omega), bv_len, hk, List.set_append_right _ _ (by rw [bv_len]; omega), bv_len, hn]
  rfl
theorem built_strm {ks ns : List Int} {l : Int} (hk : ks.length = 32) (hn : ns.length = 12) : Tryd.prog.built 73 [(0, .agg (bv ks).toArray), (1, .agg (bv ns).toArray), (2, .int .u64 l)] = some (strm ks ns l).toArray := by
  rw [built_struct (P := Tryd.prog) (t := 73) (z := .agg (strm (List.replicate 32 0) (List.replicate 12 0) 0).toArray) (zs := [] ++ (bv (List.replicate 32 0) ++ (bv (List.replicate 12 0) ++ [Value.int .u64 0]))) (places := [(0, 32), (32, 12), (44, 1)]) (by kernel_rfl) rfl Tryd.underlying73 (by kernel_rfl)]
  rw [fill_part (V := bv ks) rfl rfl (by rw [bv_len, hk]) rfl (by simp [bv_len]), List.nil_append, fill_part (V := bv ns) rfl rfl (by rw [bv_len, hn]) (by rw [bv_len, hk]) (by simp [bv_len])]
  rw [show bv ks ++ (bv ns ++ [Value.int .u64 0]) = (bv ks ++ bv ns) ++ ([Value.int .u64 0] ++ []) by simp, fill_part (M := [Value.int .u64 0]) (C := []) (V := [.int .u64 l]) rfl rfl rfl (by simp [bv_len, hk, hn]) rfl]
  unfold Instr.fill strm
  simp
set_option maxRecDepth 100000 in
set_option maxHeartbeats 1000000 in
theorem new_any (ks ns : List Int) (c : Int) (w : World) (hk : ks.length = 32) (hn : ns.length = 12) (hc : w32 c) :
    Calls Tryd.prog 22 #[.agg (bv ks).toArray, .int .u32 c, .agg (bv ns).toArray] w fun e w' =>
      ∃ g, e = .returned (.pointer (some ⟨g, 0, none⟩)) ∧ w.heap.size ≤ g ∧ Row w' 73 g (strm ks ns ((4294967296 - c) * 64)) ∧ Below w.heap.size w w' := by
  obtain ⟨c0, c1⟩ := hc
  have zk := hide (size_b (P := Tryd.prog) (T := 22) (by kernel_rfl) hk)
  have zn := hide (size_b (P := Tryd.prog) (T := 24) (by kernel_rfl) hn)
  have hb := hide (built_strm (ks := ks) (ns := ns) (l := (4294967296 - c) * 64) hk hn)
  clear hk hn
  go_enter Tryd.func22, Tryd.ntmps22
  go_wp2_with (first
    | (with_reducible refine wl_box rfl 22 (.tmp 0) _ (bv ks) rfl rfl rfl ?_; intro g3 w3 r3 a3 l3 b3)
    | (with_reducible refine wl_box rfl 24 (.tmp 2) _ (bv ns) rfl rfl rfl ?_; intro g5 w5 r5 a5 l5 b5)
    | (with_reducible refine wl_load_row rfl 22 (.tmp 3) g3 22 (bv ks) _ rfl rfl (r3.later b5) Tryd.underlying22 rfl zk.out ?_)
    | (with_reducible refine wl_load_row rfl 24 (.tmp 5) g5 24 (bv ns) _ rfl rfl r5 Tryd.underlying24 rfl zn.out ?_)
    | ((with_reducible refine wl_build rfl 73 _ rfl _ ?hv _ hb.out ?hk); case hv => rfl)
    | (with_reducible refine wl_box rfl 73 (.tmp 13) _ (strm ks ns ((4294967296 - c) * 64)) rfl rfl rfl ?_; intro g9 w9 r9 a9 l9 b9))
  go_ret
  exact ⟨g9, rfl, by have := b3.size; have := b5.size; omega, r9, (b3.trans (b5.mono b3.size)).trans (b9.mono (Nat.le_trans b3.size b5.size))⟩
end Go.Proofs.YtfpemnihknbihaaDoor
