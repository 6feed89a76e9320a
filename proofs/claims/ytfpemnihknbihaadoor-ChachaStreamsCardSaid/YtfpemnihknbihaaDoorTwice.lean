/-
  ChachaTwice: the Go text of the law answers true for every input, and writes nothing that was there. Own work.
-/
import Derived.Test.YtfpemnihknbihaaDoorXor
namespace Go.Proofs.YtfpemnihknbihaaDoor
open Go.RowKit
set_option linter.unusedVariables false
set_option linter.unusedSimpArgs false
/-- Where a stream begins: its cells. -/
def atL (ks : List Int) (c : Int) (ns : List Int) : List Value := bv ks ++ ([.int .u32 c] ++ bv ns)
theorem atRowA {w : World} {T g : Nat} {ks ns : List Int} {c : Int} (r : Row w T g (atL ks c ns)) : Row w T g ([] ++ (bv ks ++ ([Value.int .u32 c] ++ bv ns))) := r
theorem atRowC {w : World} {T g : Nat} {ks ns : List Int} {c : Int} (r : Row w T g (atL ks c ns)) : Row w T g ((bv ks ++ [Value.int .u32 c]) ++ (bv ns ++ [])) := by simpa [atL] using r
theorem atCtr {ks ns : List Int} {c : Int} (hk : (bv ks).length = 32) : (atL ks c ns)[32]? = some (.int .u32 c) := by
  unfold atL
  rw [List.getElem?_append_right (by omega), hk]
  rfl
theorem xor_by {x y : Int} (hx : 0 ≤ x ∧ x < 256) (hy : 0 ≤ y ∧ y < 256) : 0 ≤ bits .xor .u8 x y ∧ bits .xor .u8 x y < 256 := by
  rw [u8_xor x y hx.1 hx.2 hy.1 hy.2]
  have := Nat.xor_lt_two_pow (x := x.toNat) (y := y.toNat) (n := 8) (by omega) (by omega)
  omega
theorem xor_back {x y : Int} (hx : 0 ≤ x ∧ x < 256) (hy : 0 ≤ y ∧ y < 256) : bits .xor .u8 (bits .xor .u8 x y) y = x := by
  have h := xor_by hx hy
  rw [u8_xor _ y h.1 h.2 hy.1 hy.2, u8_xor x y hx.1 hx.2 hy.1 hy.2, Int.toNat_natCast, Nat.xor_assoc, Nat.xor_self, Nat.xor_zero]
  omega
theorem outL_by (ks ns xs : List Int) (p : Nat) (h : IsBy xs) : IsBy (outL ks ns p xs) := by
  intro x hx
  simp only [outL, List.mem_map] at hx
  obtain ⟨i, _, rfl⟩ := hx
  exact xor_by (by_getD xs h i) (kbyte_by _ _ _)
theorem outL_twice (ks ns xs : List Int) (p : Nat) (h : IsBy xs) : outL ks ns p (outL ks ns p xs) = xs := by
  apply List.ext_getElem
  · rw [outL_len, outL_len]
  · intro i h1 h2
    have e : (outL ks ns p xs).getD i 0 = bits .xor .u8 (xs.getD i 0) (kbyte ks ns (p + i)) := by simp [outL, List.getD, h2]
    have e2 : (outL ks ns p (outL ks ns p xs))[i] = bits .xor .u8 ((outL ks ns p xs).getD i 0) (kbyte ks ns (p + i)) := by simp only [outL, List.getElem_map, List.getElem_range]
    rw [e2, e, xor_back (by_getD xs h i) (kbyte_by _ _ _)]
    simp [List.getD, h2]
set_option maxRecDepth 100000 in
set_option maxHeartbeats 1000000 in
theorem twice_any (ks ns xs : List Int) (c n cp : Nat) (A : Option Addr) (w : World) (hT : Tabs w) (hk : ks.length = 32) (hn : ns.length = 12) (hk' : IsBy ks) (hn' : IsBy ns) (hc : c < 4294967296)
    (hx : Bs w w.heap.size A n xs) (hby : IsBy xs) (hm : n ≤ maxLen) :
    Calls Tryd.prog 5 #[.agg (atL ks c ns).toArray, .slice A n cp] w fun e w' => e = .returned (.bool true) ∧ Below w.heap.size w w' := by
  have zk := hide (size_b (P := Tryd.prog) (T := 22) (by kernel_rfl) hk)
  have zn := hide (size_b (P := Tryd.prog) (T := 24) (by kernel_rfl) hn)
  have h32 := hide (show (bv ks).length = 32 by rw [bv_len, hk])
  have h33 := hide (show (bv ks ++ [Value.int .u32 c]).length = 33 by rw [List.length_append, bv_len, hk]; rfl)
  have Hk := hide hk
  have Hn := hide hn
  have Hx := hide hx.1
  have hmm := hide hm
  unfold maxLen at hm
  clear hk hn
  by_cases hlen : 2000 < n
  · have hd : decide ((2000 : Int) < (n : Int)) = true := by simp; omega
    go_enter Tryd.func5, Tryd.ntmps5
    go_wp2_with (first
      | (with_reducible refine wl_box rfl 26 (.tmp 0) _ (atL ks c ns) rfl rfl rfl ?_; intro g2 w2 r2 a2 l2 b2)
      | (go_at_call 18; refine (awake_any _).mono ?_; rintro e w' ⟨rfl, rfl⟩))
    go_ret
    exact ⟨rfl, b2⟩
  · have hd : decide ((2000 : Int) < (n : Int)) = false := by simp; omega
    by_cases hfit : n ≤ (4294967296 - c) * 64
    · go_enter Tryd.func5, Tryd.ntmps5
      go_wp2_with (first
        | (with_reducible refine wl_box rfl 26 (.tmp 0) _ (atL ks c ns) rfl rfl rfl ?_; intro g2 w2 r2 a2 l2 b2)
        | (with_reducible refine wl_load_part rfl 22 (.tmp 14) g2 0 26 _ (bv ks) _ _ rfl rfl (atRowA r2) rfl Tryd.underlying22 rfl zk.out ?_)
        | (with_reducible refine wl_load rfl 23 (.tmp 16) g2 32 26 _ (.int .u32 (c : Int)) rfl Tryd.isAgg23 rfl r2 (atCtr h32.out) ?_)
        | (with_reducible refine wl_load_part rfl 24 (.tmp 18) g2 33 26 _ (bv ns) _ _ rfl rfl (atRowC r2) h33.out Tryd.underlying24 rfl zn.out ?_))
      refine (xor_any ks ns xs c n cp A w2 (hT.later b2) Hk.out Hn.out hk' hn' hc (hx.later b2) hby hfit).mono ?_
      rintro e w3 ⟨A3, c3, rfl, hb3, b3, hc3, hm3⟩
      rw [Hx.out] at hb3 hc3
      have r3 := r2.later b3
      have B3 := b2.trans (b3.mono b2.size)
      rw [Hx.out]
      go_wp2_with (first
        | (with_reducible refine wl_load_part rfl 22 (.tmp 33) g2 0 26 _ (bv ks) _ _ rfl rfl (atRowA r3) rfl Tryd.underlying22 rfl zk.out ?_)
        | (with_reducible refine wl_load rfl 23 (.tmp 35) g2 32 26 _ (.int .u32 (c : Int)) rfl Tryd.isAgg23 rfl r3 (atCtr h32.out) ?_)
        | (with_reducible refine wl_load_part rfl 24 (.tmp 37) g2 33 26 _ (bv ns) _ _ rfl rfl (atRowC r3) h33.out Tryd.underlying24 rfl zn.out ?_))
      refine (xor_any ks ns (outL ks ns (64 * c) xs) c n c3 A3 w3 (hT.later B3) Hk.out Hn.out hk' hn' hc hb3 (outL_by _ _ _ _ hby) hfit).mono ?_
      rintro e w4 ⟨A4, c4, rfl, hb4, b4, hc4, hm4⟩
      rw [outL_twice _ _ _ _ hby, outL_len, Hx.out] at hb4
      rw [outL_len, Hx.out]
      have B4 := B3.trans (b4.mono B3.size)
      go_wp2_with fail
      refine (equal_any A4 A n n c4 cp xs xs w4 hb4 ((hx.below B4).up B4.size)).mono ?_
      rintro e w' ⟨rfl, rfl⟩
      rw [equal_self]
      go_wp2_with (go_at_call 18; refine (awake_any _).mono ?_; rintro e w' ⟨rfl, rfl⟩)
      go_ret
      exact ⟨rfl, B4⟩
    · go_enter Tryd.func5, Tryd.ntmps5
      go_wp2_with (first
        | (with_reducible refine wl_box rfl 26 (.tmp 0) _ (atL ks c ns) rfl rfl rfl ?_; intro g2 w2 r2 a2 l2 b2)
        | (with_reducible refine wl_load_part rfl 22 (.tmp 14) g2 0 26 _ (bv ks) _ _ rfl rfl (atRowA r2) rfl Tryd.underlying22 rfl zk.out ?_)
        | (with_reducible refine wl_load rfl 23 (.tmp 16) g2 32 26 _ (.int .u32 (c : Int)) rfl Tryd.isAgg23 rfl r2 (atCtr h32.out) ?_)
        | (with_reducible refine wl_load_part rfl 24 (.tmp 18) g2 33 26 _ (bv ns) _ _ rfl rfl (atRowC r2) h33.out Tryd.underlying24 rfl zn.out ?_))
      refine (xor_long ks ns c n cp A w2 Hk.out Hn.out hc hmm.out (by omega)).mono ?_
      rintro e w3 ⟨rfl, b3⟩
      go_wp2_with (go_at_call 18; refine (awake_any _).mono ?_; rintro e w' ⟨rfl, rfl⟩)
      go_ret
      exact ⟨rfl, b2.trans (b3.mono b2.size)⟩
end Go.Proofs.YtfpemnihknbihaaDoor
