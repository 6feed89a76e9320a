/-
  Xoring with a stream from a counter on; the example. Own work.
-/
import Derived.Test.YtfpemnihknbihaaDoorStream3
namespace Go.Proofs.YtfpemnihknbihaaDoor
open Go.RowKit
set_option linter.unusedVariables false
set_option linter.unusedSimpArgs false
/-- What Xor hands back where the stream is long enough. -/
def RetXorF (ks ns : List Int) (c : Nat) (xs : List Int) (w : World) (e : Ending) (w' : World) : Prop :=
  ∃ A n, e = .returned (.tuple #[.slice A xs.length n, .bool true]) ∧ Bs w' w'.heap.size A xs.length (outL ks ns (64 * c) xs) ∧ Below w.heap.size w w' ∧ xs.length ≤ n ∧ n ≤ maxLen
def RetNo (w : World) (e : Ending) (w' : World) : Prop := e = .returned (.tuple #[.slice none 0 0, .bool false]) ∧ Below w.heap.size w w'
theorem left_cast (c : Nat) (h : c < 4294967296) : (4294967296 - (c : Int)) * 64 = (((4294967296 - c) * 64 : Nat) : Int) := by omega
theorem pos_left (c : Nat) (h : c < 4294967296) : pos ((4294967296 - c) * 64) = 64 * c := by unfold pos; omega
set_option maxRecDepth 100000 in
set_option maxHeartbeats 1000000 in
theorem xor_any (ks ns xs : List Int) (c n cp : Nat) (A : Option Addr) (w : World) (hT : Tabs w) (hk : ks.length = 32) (hn : ns.length = 12) (hk' : IsBy ks) (hn' : IsBy ns) (hc : c < 4294967296)
    (hx : Bs w w.heap.size A n xs) (hby : IsBy xs) (hfit : n ≤ (4294967296 - c) * 64) :
    Calls Tryd.prog 20 #[.agg (bv ks).toArray, .int .u32 (c : Int), .agg (bv ns).toArray, .slice A n cp] w (RetXorF ks ns c xs w) := by
  have zk := hide (size_b (P := Tryd.prog) (T := 22) (by kernel_rfl) hk)
  have zn := hide (size_b (P := Tryd.prog) (T := 24) (by kernel_rfl) hn)
  have hN := fun w => new_any ks ns c w hk hn ⟨by omega, by omega⟩
  have Hk := hide hk
  have Hn := hide hn
  clear hk hn
  go_enter Tryd.func20, Tryd.ntmps20
  go_wp2_with (first
    | (with_reducible refine wl_box rfl 22 (.tmp 0) _ (bv ks) rfl rfl rfl ?_; intro g3 w3 r3 a3 l3 b3)
    | (with_reducible refine wl_box rfl 24 (.tmp 2) _ (bv ns) rfl rfl rfl ?_; intro g5 w5 r5 a5 l5 b5)
    | (with_reducible refine wl_load_row rfl 22 (.tmp 4) g3 22 (bv ks) _ rfl rfl (r3.later b5) Tryd.underlying22 rfl zk.out ?_)
    | (with_reducible refine wl_load_row rfl 24 (.tmp 6) g5 24 (bv ns) _ rfl rfl r5 Tryd.underlying24 rfl zn.out ?_))
  refine (hN _).mono ?_
  rintro e w6 ⟨g, rfl, hg, hr, b6⟩
  rw [left_cast c hc] at hr
  have B6 := (b3.trans (b5.mono b3.size)).trans (b6.mono (Nat.le_trans b3.size b5.size))
  have s3 := b3.size
  have s5 := b5.size
  have hx6 := hx.below B6
  have hpos := hide (pos_left c hc)
  clear hN r3 r5 b3 b5 b6
  go_wp2_with fail
  have hfin : ∀ e w', RetXor ks ns ((4294967296 - c) * 64) g xs w6 e w' → ∃ A n, e = .returned (.tuple #[.slice A xs.length n, .bool true]) ∧ Bs w' w'.heap.size A xs.length (outL ks ns (64 * c) xs) ∧ Hid (Below w.heap.size w w' ∧ xs.length ≤ n ∧ n ≤ maxLen) := by
    rintro e w' ⟨g2, c2, rfl, _, hb, _, hbut, h1, h2⟩
    rw [hpos.out] at hb
    exact ⟨_, c2, rfl, hb, B6.trans (hbut.below (by omega) B6.size), h1, h2⟩
  have Hfin := hide hfin
  clear hfin
  rcases Nat.eq_zero_or_pos n with h0 | h0
  · subst h0
    have hxe : xs = [] := List.eq_nil_of_length_eq_zero hx.1
    subst hxe
    refine (sxor_none ks ns ((4294967296 - c) * 64) g cp A w6 Hk.out Hn.out (by omega) hr).mono ?_
    intro e w' hret
    obtain ⟨A2, c2, rfl, hb, hh⟩ := Hfin.out e w' hret
    clear Hfin hret
    go_wp2
    go_ret2
    exact ⟨A2, c2, rfl, hb, hh.out⟩
  · refine (sxor_any ks ns xs ((4294967296 - c) * 64) g n cp w.heap.size A w6 (hT.later B6) Hk.out Hn.out hk' hn' (by omega) hr (by have := hT.1; omega) hx6 (by omega) hby hfit h0).mono ?_
    intro e w' hret
    obtain ⟨A2, c2, rfl, hb, hh⟩ := Hfin.out e w' hret
    clear Hfin hret
    go_wp2
    go_ret2
    exact ⟨A2, c2, rfl, hb, hh.out⟩
set_option maxRecDepth 100000 in
set_option maxHeartbeats 1000000 in
theorem xor_long (ks ns : List Int) (c n cp : Nat) (A : Option Addr) (w : World) (hk : ks.length = 32) (hn : ns.length = 12) (hc : c < 4294967296) (hm : n ≤ maxLen) (hlong : (4294967296 - c) * 64 < n) :
    Calls Tryd.prog 20 #[.agg (bv ks).toArray, .int .u32 (c : Int), .agg (bv ns).toArray, .slice A n cp] w (RetNo w) := by
  have zk := hide (size_b (P := Tryd.prog) (T := 22) (by kernel_rfl) hk)
  have zn := hide (size_b (P := Tryd.prog) (T := 24) (by kernel_rfl) hn)
  have hN := fun w => new_any ks ns c w hk hn ⟨by omega, by omega⟩
  have Hk := hide hk
  have Hn := hide hn
  clear hk hn
  go_enter Tryd.func20, Tryd.ntmps20
  go_wp2_with (first
    | (with_reducible refine wl_box rfl 22 (.tmp 0) _ (bv ks) rfl rfl rfl ?_; intro g3 w3 r3 a3 l3 b3)
    | (with_reducible refine wl_box rfl 24 (.tmp 2) _ (bv ns) rfl rfl rfl ?_; intro g5 w5 r5 a5 l5 b5)
    | (with_reducible refine wl_load_row rfl 22 (.tmp 4) g3 22 (bv ks) _ rfl rfl (r3.later b5) Tryd.underlying22 rfl zk.out ?_)
    | (with_reducible refine wl_load_row rfl 24 (.tmp 6) g5 24 (bv ns) _ rfl rfl r5 Tryd.underlying24 rfl zn.out ?_))
  refine (hN _).mono ?_
  rintro e w6 ⟨g, rfl, hg, hr, b6⟩
  rw [left_cast c hc] at hr
  have B6 := (b3.trans (b5.mono b3.size)).trans (b6.mono (Nat.le_trans b3.size b5.size))
  clear hN r3 r5 b3 b5 b6
  go_wp2_with fail
  refine (sxor_long ks ns ((4294967296 - c) * 64) g n cp A w6 Hk.out Hn.out (by omega) hr hlong hm).mono ?_
  rintro e w' ⟨rfl, rfl⟩
  go_wp2
  go_ret2
  exact ⟨rfl, B6⟩
set_option maxRecDepth 100000 in
set_option maxHeartbeats 1000000 in
/-- The example. -/
theorem awake_any (w : World) : Calls Tryd.prog 18 #[] w fun e w' => e = .returned (.bool true) ∧ w = w' := by
  have hq : qr 286331153 16909060 2609737539 19088743 = (3928658676, 3407673550, 1166100270, 1484899515) := by decide +kernel
  go_enter Tryd.func18, Tryd.ntmps18
  go_wp2_with fail
  refine (quarter_any _ _ _ _ _ ⟨by omega, by omega⟩ ⟨by omega, by omega⟩ ⟨by omega, by omega⟩ ⟨by omega, by omega⟩).mono ?_
  rintro e w' ⟨x, y, z, t, rfl, hx, _, _, _, _, rfl⟩
  have hx' := hx.out
  rw [hq] at hx'
  simp only [Prod.mk.injEq] at hx'
  obtain ⟨rfl, rfl, rfl, rfl⟩ := hx'
  clear hx hq
  go_wp2
  go_ret
  exact ⟨rfl, rfl⟩
end Go.Proofs.YtfpemnihknbihaaDoor
