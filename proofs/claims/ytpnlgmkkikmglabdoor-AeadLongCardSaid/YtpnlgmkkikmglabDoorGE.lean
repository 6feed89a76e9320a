/-
  Several own texts in one: AeadA, AeadB, AeadC, AeadD, AeadE, AeadF, AeadG, AeadH, AeadI, AeadJ, AeadK, AeadL. Own work.
-/
import Derived.Deep.QuietTactic
import Derived.BigQuiet
import Derived.Test.YtpnlgmkkikmglabDoorGC
import Derived.Test.YtpnlgmkkikmglabDoorGB
import Derived.Test.YtpnlgmkkikmglabDoorGA
import Derived.Test.YtpnlgmkkikmglabDoorGD
set_option linter.unusedVariables false
set_option linter.unusedSimpArgs false
/-
  Aead: a byte at a place: contract. Own work.
-/
namespace Go.Proofs.YtpnlgmkkikmglabDoor
open Go.RowKit
set_option maxRecDepth 100000 in
theorem byteAt_any (A : Option Addr) (m c i : Nat) (xs : List Int) (w : World) (h : Bs w w.heap.size A m xs) :
    Calls Tryd.prog 33 #[.slice A m c, .int .i64 (i : Int)] w fun e w' => e = .returned (.int .u8 (xs.getD i 0)) ∧ w = w' := by
  by_cases hi : i < m
  · obtain ⟨b, o, rfl, hb, hc⟩ := h.at_ hi
    go_enter Tryd.func33, Tryd.ntmps33
    go_wp2
    go_ret
    exact ⟨rfl, rfl⟩
  · have hz : xs.getD i 0 = 0 := by
      have := h.1
      simp [List.getD, List.getElem?_eq_none (show xs.length ≤ i by omega)]
    have HZ := hide hz
    clear hz
    go_enter Tryd.func33, Tryd.ntmps33
    go_wp2
    go_ret
    exact ⟨by rw [HZ.out]; rfl, rfl⟩
end Go.Proofs.YtpnlgmkkikmglabDoor

/-
  Aead: hiding: contract. Own work.
-/
namespace Go.Proofs.YtpnlgmkkikmglabDoor
open Go.RowKit
/-- What hide hands back. -/
def RetHid (ks ns xs : List Int) (w : World) (e : Ending) (w' : World) : Prop :=
  ∃ A c, e = .returned (.slice A xs.length c) ∧ Bs w' w'.heap.size A xs.length (outL ks ns 64 xs) ∧ Below w.heap.size w w' ∧ xs.length ≤ c ∧ c ≤ maxLen
set_option maxRecDepth 100000 in
set_option maxHeartbeats 1000000 in
theorem hide_any (ks ns xs : List Int) (n cp : Nat) (A : Option Addr) (w : World) (hT : Tabs w) (hk : ks.length = 32) (hn : ns.length = 12) (hk' : IsBy ks) (hn' : IsBy ns)
    (hx : Bs w w.heap.size A n xs) (hby : IsBy xs) (hfit : n ≤ 274877906880) :
    Calls Tryd.prog 19 #[.agg (bv ks).toArray, .agg (bv ns).toArray, .slice A n cp] w (RetHid ks ns xs w) := by
  have zk := hide (size_b (P := Tryd.prog) (T := 22) (by kernel_rfl) hk)
  have zn := hide (size_b (P := Tryd.prog) (T := 23) (by kernel_rfl) hn)
  have hX := fun w hT hx => xor_any ks ns xs 1 n cp A w hT hk hn hk' hn' (by omega) hx hby (by omega)
  clear hk hn
  go_enter Tryd.func19, Tryd.ntmps19
  go_wp2_with (first
    | (with_reducible refine wl_box rfl 22 (.tmp 0) _ (bv ks) rfl rfl rfl ?_; intro g3 w3 r3 a3 l3 b3)
    | (with_reducible refine wl_box rfl 23 (.tmp 1) _ (bv ns) rfl rfl rfl ?_; intro g4 w4 r4 a4 l4 b4)
    | (with_reducible refine wl_load_row rfl 22 (.tmp 3) g3 22 (bv ks) _ rfl rfl (r3.later b4) Tryd.underlying22 rfl zk.out ?_)
    | (with_reducible refine wl_load_row rfl 23 (.tmp 4) g4 23 (bv ns) _ rfl rfl r4 Tryd.underlying23 rfl zn.out ?_))
  have s3 := b3.size
  have B4 := b3.trans (b4.mono s3)
  refine (hX _ (hT.later B4) (hx.later B4)).mono ?_
  rintro e w5 ⟨A5, c5, rfl, h5, b5, h6, h7⟩
  have B5 := hide (B4.trans (b5.mono B4.size))
  clear hX b5 b4 b3 r3 r4 hT hx hfit
  go_wp2_with fail
  go_ret
  exact ⟨A5, c5, rfl, h5, B5.out, h6, h7⟩
end Go.Proofs.YtpnlgmkkikmglabDoor

/-
  Aead: whole pieces are taken in: contract. Own work.
-/
namespace Go.Proofs.YtpnlgmkkikmglabDoor
open Go.RowKit
def padN (n : Nat) : Nat := (16 - n % 16) % 16
def padL (xs : List Int) : List Int := xs ++ List.replicate (padN xs.length) 0
theorem padL_by {xs : List Int} (h : IsBy xs) : IsBy (padL xs) := h.app (IsBy.rep _)
theorem run_arrTo {P : Program} (w : World) (T n e : Nat) (hu : P.underlying T = some (.array n e)) (hs : ∀ w, (sizeOf e).run P w = .ok 1 w) (kd : IntKind) (g h : Nat) (hl : h ≤ n) (x : Int) (hx : x = h) :
    (Instr.sliceAt T (.pointer (some ⟨g, 0, none⟩)) none (some (.int kd x)) none).run P w = .ok (.slice (some ⟨g, 0, none⟩) h n) w := by
  subst hx
  have h1 : (0 : Int) ≤ h := by omega
  have h2 : (h : Int) ≤ n := by omega
  have hadd : (⟨g, 0, none⟩ : Addr).add 0 = ⟨g, 0, none⟩ := by unfold Addr.add; split <;> simp_all
  simp [Instr.sliceAt, Instr.slice, underlying, hu, Instr.sliceBounds, Instr.sliceBound, asIntOf, h1, h2, hl, hs, hadd, Instr.sureAddr]
theorem padN_cast (m : Nat) : -((m : Int) % 16) % 16 = (padN m : Int) := by unfold padN; omega
set_option maxRecDepth 100000 in
set_option maxHeartbeats 1000000 in
theorem pieces_any (g R S m c : Nat) (xs ys : List Int) (A : Option Addr) (w : World) (hm : MacAt w g R S xs) (hR : R < 2 ^ 124) (hx : IsBy xs) (hy : IsBy ys) (hb : Bs w w.heap.size A m ys) (ho : Off g m A) (hc : m ≤ c) (hM : m ≤ maxLen) :
    Calls Tryd.prog 25 #[.pointer (some ⟨g, 0, none⟩), .slice A m c] w fun e w' => e = .returned (.tuple #[]) ∧ MacAt w' g R S (xs ++ padL ys) ∧ But g w w' := by
  have hpl : padN m ≤ 16 := by unfold padN; omega
  have hml := hm.lt
  have hW1 := fun w B hm hb hB hBw => write_off g R S m c B xs ys A w hm hR hx hy hb hB hBw hc
  have hW2 := fun g4 w B hm hb hB hBw => write_off g R S (padN m) 16 B (xs ++ ys) (List.replicate (padN m) 0) (some ⟨g4, 0, none⟩) w hm hR (hx.app hy) (IsBy.rep _) hb hB hBw hpl
  have hfin : xs ++ padL ys = (xs ++ ys) ++ List.replicate (padN m) 0 := by unfold padL; rw [hb.1, List.append_assoc]
  have hS := fun w g => run_arrTo (P := Tryd.prog) w 36 16 5 Tryd.underlying36 Tryd.sizeOf5 .i64 g (padN m) hpl _ (padN_cast m)
  have HF := hide hfin
  have h63 : m ≤ 9223372036854775807 := by unfold maxLen at hM; omega
  clear hR hx hy hfin hM
  go_enter Tryd.func25, Tryd.ntmps25
  go_wp2_with (first
    | (with_reducible refine wl_alloc rfl 36 _ (bv (List.replicate 16 0)) rfl zB16 rfl ?_; intro g4 w4 r4 p4 l4 b4))
  have s4 := b4.size
  refine (hW1 w4 w.heap.size (by have : Row w 78 g _ := hm; exact this.later b4) (hb.below b4) ho s4).mono ?_
  rintro e w5 ⟨rfl, m5, b5⟩
  have hne : g4 ≠ g := by omega
  have r5 := r4.but b5 hne
  have s5 := b5.size
  go_wp2_with (first | rw [hS])
  have hb5 : Bs w5 w5.heap.size (some ⟨g4, 0, none⟩) (padN m) (List.replicate (padN m) 0) := by
    have := row_bs_at (n := padN m) (off := 0) r5 (by simp; omega) r5.lt
    rw [List.drop_zero, List.take_replicate, Nat.min_eq_left hpl] at this
    exact this
  have ho5 : Off g (padN m) (some ⟨g4, 0, none⟩) := fun _ x hx => by injection hx with hx; subst hx; exact hne
  refine (hW2 g4 w5 w5.heap.size m5 hb5 ho5 (Nat.le_refl _)).mono ?_
  rintro e w6 ⟨rfl, m6, b6⟩
  rw [← HF.out] at m6
  go_wp2_with fail
  go_end0
  exact ⟨rfl, m6, ((But.of b4 g).trans b5).trans b6⟩
end Go.Proofs.YtpnlgmkkikmglabDoor

/-
  Aead: eight bytes in a block of their own; the mark: contracts. Own work.
-/
namespace Go.Proofs.YtpnlgmkkikmglabDoor
open Go.RowKit
/-- What a call hands back that lies in the next block. -/
def RetNew (out : List Int) (w : World) (e : Ending) (w' : World) : Prop :=
  ∃ n c, e = .returned (.slice (some ⟨w.heap.size, 0, none⟩) n c) ∧ Bs w' w'.heap.size (some ⟨w.heap.size, 0, none⟩) n out ∧ n ≤ c ∧ c ≤ maxLen ∧ Below w.heap.size w w'
theorem ret_new {w w1 : World} {t n c : Nat} {xs ys : List Int} (h : Own w1 t w.heap.size xs) (hb : Below w.heap.size w w1) (he : ys = xs) (hn : xs.length = n) (hc : n ≤ c) (hm : c ≤ maxLen) : RetNew ys w (.returned (.slice (some ⟨w.heap.size, 0, none⟩) n c)) w1 := by
  subst he
  subst hn
  exact ⟨_, c, rfl, h.bs h.lt, hc, hm, hb⟩
set_option maxRecDepth 100000 in
set_option maxHeartbeats 400000 in
theorem lay64_new (A : Option Addr) (m c : Nat) (xs : List Int) (x : Int) (w : World) (h : Bs w w.heap.size A m xs) (hm : m ≤ 1000000) (h0 : 0 ≤ x) (h1 : x < 2 ^ 64) :
    Calls Tryd.prog 43 #[.slice A m c, .int .u64 x, .bool true] w (RetNew (xs ++ lowB x 8) w) := by
  obtain ⟨i0, hi, hz, hsz, hby⟩ := u8_info
  go_enter Tryd.func43, Tryd.ntmps43
  go_wp2_with (first
    | (go_at_call 63; refine (width64_any _).mono ?_; rintro e w' ⟨rfl, rfl⟩)
    | (refine wpList_make_bs rfl _ _ _ rfl 5 i0 Tryd.underlying24 hi hz hsz hby (m + 8) rfl rfl (by omega) ?_; intro w1 hown hs1 hb1)
    | (refine wpList_copy_bs rfl (.tmp 17) (.tmp 18) _ _ rfl 5 Tryd.underlying24 u8_size w.heap.size 0 _ _ m c A rfl rfl _ xs 5 w.heap.size hown (h.below hb1) (by omega) (by rw [List.length_replicate]; omega) w.heap.size w hb1 (Nat.le_refl _) ?_; intro w2 hown2 hb2))
  go_loopw [21] (fun i wr => ∃ k : Nat, k ≤ 8 ∧ i = .int .i64 k ∧ Own wr 5 w.heap.size (xs ++ (lowB x k ++ List.replicate (8 - k) 0)) ∧ Below w.heap.size w wr) (fun i _ => 8 - (intOf i).toNat)
  case atStart => exact ⟨0, Nat.zero_le _, rfl, by simpa [lowB, h.1] using hown2, hb2⟩
  case round =>
    obtain ⟨k, hk, rfl, hown, hb⟩ := hrel
    by_cases hlt : k < 8
    · have hc := hown.cell (j := m + k) (by simp [lowB_length, h.1]; omega)
      have hf := hown.frozen (m + k)
      have hs := hown.set (m + k) (x / 2 ^ (8 * k) % 256)
      have he := set_low hlt (lowB x k) (lowB_length x k) (x / 2 ^ (8 * k) % 256) xs
      rw [h.1] at he
      rw [he, ← pow256_two, ← lowB_snoc, pow256_two] at hs
      have HS := hide hs
      clear hs he
      go_wp2
      go_roundw
      case rel => exact ⟨k + 1, by omega, by go_num, HS.out, hb.setCell (Nat.le_refl _) _⟩
      case measure => simp [intOf]; omega
    · go_wp2
      go_ret
      obtain rfl : k = 8 := by omega
      exact ret_new hown hb (by simp) (by simp [lowB_length, h.1]) (Nat.le_refl _) (by simp only [maxLen]; omega)
set_option maxRecDepth 100000 in
theorem putLe64_new (A : Option Addr) (m c : Nat) (xs : List Int) (x : Int) (w : World) (h : Bs w w.heap.size A m xs) (hm : m ≤ 1000000) (h0 : 0 ≤ x) (h1 : x < 2 ^ 64) :
    Calls Tryd.prog 27 #[.slice A m c, .int .u64 x] w (RetNew (xs ++ lowB x 8) w) := by
  go_enter Tryd.func27, Tryd.ntmps27
  go_wp2_with (go_at_call 43; refine (lay64_new A m c xs x _ h hm h0 h1).mono ?_; rintro e w1 ⟨n1, c1, rfl, hb, hn, hc, hl⟩)
  go_ret
  exact ⟨n1, c1, rfl, hb, hn, hc, hl⟩
def macT (ad hd : List Int) : List Int := ((padL ad ++ padL hd) ++ lowB (ad.length : Int) 8) ++ lowB (hd.length : Int) 8
def markL (ks ns ad hd : List Int) : List Int := pS ((blockL ks 0 ns).take 32) (macT ad hd)
theorem markL_len (ks ns ad hd : List Int) : (markL ks ns ad hd).length = 16 := pS_len _ _
theorem size64 {xs : List Int} (h : xs.length = 64) : (Tryd.prog.info? 47).map (·.size) = some (bv xs).length := by rw [bv_len, h]; kernel_rfl
set_option maxRecDepth 100000 in
set_option maxHeartbeats 2000000 in
theorem mark_any (ks ns ad hd : List Int) (A D : Option Addr) (m c n d : Nat) (w : World) (hT : Tabs w) (hk : ks.length = 32) (hn : ns.length = 12) (hk' : IsBy ks) (hn' : IsBy ns)
    (ha : Bs w w.heap.size A m ad) (hab : IsBy ad) (hac : m ≤ c) (haM : m ≤ maxLen) (hd1 : Bs w w.heap.size D n hd) (hdb : IsBy hd) (hdc : n ≤ d) (hdM : n ≤ maxLen) :
    Calls Tryd.prog 16 #[.agg (bv ks).toArray, .agg (bv ns).toArray, .slice A m c, .slice D n d] w fun e w' => e = .returned (.agg (bv (markL ks ns ad hd)).toArray) ∧ Below w.heap.size w w' := by
  have zk := hide (size_b (P := Tryd.prog) (T := 22) (by kernel_rfl) hk)
  have zn := hide (size_b (P := Tryd.prog) (T := 23) (by kernel_rfl) hn)
  have HB := fun w hT => block_any ks ns 0 w hT hk hn hk' hn' ⟨by omega, by omega⟩
  have lB := blockL_len ks 0 ns
  have z64 := hide (size64 lB)
  have l64 := hide (show (bv (List.replicate 64 0)).length = (bv (blockL ks 0 ns)).length by rw [bv_len, bv_len, lB, List.length_replicate])
  have lK : ((blockL ks 0 ns).take 32).length = 32 := by rw [List.length_take, lB]; rfl
  have z32 := hide (size32 lK)
  have hsp := hide (show bv (blockL ks 0 ns) = [] ++ (bv ((blockL ks 0 ns).take 32) ++ bv ((blockL ks 0 ns).drop 32)) by rw [List.nil_append, ← bv_app, List.take_append_drop])
  have HN := fun w => pnew_any ((blockL ks 0 ns).take 32) w lK ((blockL_by ks 0 ns).take 32)
  have hfin : polyL (clN (leN (((blockL ks 0 ns).take 32).take 16))) (leN (((blockL ks 0 ns).take 32).drop 16)) (macT ad hd) = markL ks ns ad hd := rfl
  have HF := hide hfin
  have hR := clN_lt (leN (((blockL ks 0 ns).take 32).take 16))
  have hS := fun w g => run_arrTo (P := Tryd.prog) w 47 64 5 Tryd.underlying47 Tryd.sizeOf5 .i64 g 32 (by omega) 32 rfl
  have hA : ∀ (w : World) (g : Nat), (Instr.arrayAt 22 (.slice (some ⟨g, 0, none⟩) 32 64)).run Tryd.prog w = .ok (.pointer (some ⟨g, 0, none⟩)) w := fun w g => by simp [Instr.arrayAt, run_underlying Tryd.underlying22]
  have hml := markL_len ks ns ad hd
  have zm := hide (size16 hml)
  have lm := hide (show (bv (List.replicate 16 0)).length = (bv (markL ks ns ad hd)).length by rw [bv_len, bv_len, hml, List.length_replicate])
  clear hk hn lB lK hfin hml hk' hn'
  generalize clN (leN (((blockL ks 0 ns).take 32).take 16)) = R at *
  generalize leN (((blockL ks 0 ns).take 32).drop 16) = S at *
  generalize (blockL ks 0 ns).take 32 = KS at *
  generalize blockL ks 0 ns = BL at *
  go_enter Tryd.func16, Tryd.ntmps16
  go_wp2_with (first
    | (with_reducible refine wl_box rfl 22 (.tmp 0) _ (bv ks) rfl rfl rfl ?_; intro g1 w1 r1 p1 l1 b1)
    | (with_reducible refine wl_box rfl 23 (.tmp 1) _ (bv ns) rfl rfl rfl ?_; intro g2 w2 r2 p2 l2 b2; have r1' := r1.later b2)
    | (with_reducible refine wl_alloc rfl 36 _ (bv (List.replicate 16 0)) rfl zB16 rfl ?_; intro g3 w3 r3 p3 l3 b3; have r1'' := r1'.later b3; have r2' := r2.later b3)
    | (with_reducible refine wl_load_row rfl 22 (.tmp 4) g1 22 (bv ks) _ rfl rfl r1'' Tryd.underlying22 rfl zk.out ?_)
    | (with_reducible refine wl_load_row rfl 23 (.tmp 5) g2 23 (bv ns) _ rfl rfl r2' Tryd.underlying23 rfl zn.out ?_))
  have s1 := b1.size; have s2 := b2.size; have s3 := b3.size
  have B3 := (b1.trans (b2.mono s1)).trans (b3.mono (Nat.le_trans s1 s2))
  refine (HB _ (hT.later B3)).mono ?_
  rintro e w4 ⟨rfl, b4⟩
  have B4 := B3.trans (b4.mono B3.size)
  have r3' := r3.later b4
  clear HB r1 r1' r1'' r2 r2' hT
  go_wp2_with (first
    | (with_reducible refine wl_alloc rfl 47 _ (bv (List.replicate 64 0)) rfl zero64 rfl ?_; intro g5 w5 r5 p5 l5 b5)
    | (with_reducible refine wl_store_row rfl 47 (.tmp 9) (.tmp 13) g5 47 _ (bv BL) rfl rfl rfl r5 z64.out l64.out (bv_one _) ?_; intro w6 r6 o6; rw [hsp.out] at r6)
    | rw [hS]
    | rw [hA]
    | (with_reducible refine wl_load_part rfl 22 (.tmp 15) g5 0 47 [] (bv KS) (bv (BL.drop 32)) _ rfl rfl r6 rfl Tryd.underlying22 rfl z32.out ?_))
  refine (HN _).mono ?_
  rintro e w7 ⟨g, rfl, p7, m7, b7⟩
  have B5 := B4.trans (b5.mono B4.size)
  have B6 := B5.trans (o6.below (Nat.le_trans B4.size p5))
  have B7 := B6.trans (b7.mono B6.size)
  have hg := Nat.le_trans B6.size p7
  have r3a := (r3'.later b5).only o6 (by have := r3'.lt; omega)
  have r3b := r3a.later b7
  have hne3 : g3 ≠ g := by have := r3a.lt; omega
  have h63 : m ≤ 9223372036854775807 := by unfold maxLen at haM; omega
  have n63 : n ≤ 9223372036854775807 := by unfold maxLen at hdM; omega
  clear HN hS hA r5 r6 o6 b1 b2 b3 b4 b5 b7 r3' r3 r3a p1 p2 l1 l2 l3 l5 p5 B3 B4 B5 B6
  go_wp2_with fail
  refine (pieces_any g R S m c [] ad A w7 m7 hR (fun _ h => by simp at h) hab (ha.later B7) (Off.of ha hg) hac haM).mono ?_
  rintro e w8 ⟨rfl, m8, b8⟩
  rw [List.nil_append] at m8
  have B8 := B7.trans (b8.below hg B7.size)
  have r3c := r3b.but b8 hne3
  go_wp2_with fail
  refine (pieces_any g R S n d (padL ad) hd D w8 m8 hR (padL_by hab) hdb (hd1.later B8) (Off.of hd1 hg) hdc hdM).mono ?_
  rintro e w9 ⟨rfl, m9, b9⟩
  have B9 := B8.trans (b9.below hg B8.size)
  have r3d := r3c.but b9 hne3
  have em : ad.length = m := ha.1
  have en : hd.length = n := hd1.1
  have Hem := hide em
  have Hen := hide en
  clear m7 m8 em en r3b r3c b8 b9 ha hd1
  have hxb : IsBy (padL ad ++ padL hd) := (padL_by hab).app (padL_by hdb)
  go_wp2_with fail
  refine (putLe64_new none 0 0 [] (m : Int) w9 Bs.nil_ (by omega) (by omega) (by omega)).mono ?_
  rintro e w10 ⟨n10, c10, rfl, h10, hc10, hM10, b10⟩
  rw [List.nil_append] at h10
  have m10 : MacAt w10 g R S (padL ad ++ padL hd) := by have h : Row w9 78 g _ := m9; exact h.later b10
  have hlt9 : g < w9.heap.size := m9.lt
  have hne9 : Off g n10 (some ⟨w9.heap.size, 0, none⟩) := fun _ x hx => by injection hx with hx; subst hx; exact Nat.ne_of_gt hlt9
  go_wp2_with fail
  refine (write_off g R S n10 c10 w10.heap.size (padL ad ++ padL hd) (lowB (m : Int) 8) _ w10 m10 hR hxb (lowB_by _ _) h10 hne9 (Nat.le_refl _) hc10).mono ?_
  rintro e w11 ⟨rfl, m11, b11⟩
  have B10 := B9.trans (b10.mono B9.size)
  have B11 := B10.trans (b11.below hg B10.size)
  have r3e := (r3d.later b10).but b11 hne3
  have hxc : IsBy ((padL ad ++ padL hd) ++ lowB (m : Int) 8) := hxb.app (lowB_by _ _)
  clear m9 m10 b10 b11 h10 hc10 hM10 hne9 hlt9 r3d B7 B8 B9 B10
  go_wp2_with fail
  refine (putLe64_new none 0 0 [] (n : Int) w11 Bs.nil_ (by omega) (by omega) (by omega)).mono ?_
  rintro e w12 ⟨n12, c12, rfl, h12, hc12, hM12, b12⟩
  rw [List.nil_append] at h12
  have m12 : MacAt w12 g R S ((padL ad ++ padL hd) ++ lowB (m : Int) 8) := by have h : Row w11 78 g _ := m11; exact h.later b12
  have hlt11 : g < w11.heap.size := m11.lt
  have hne11 : Off g n12 (some ⟨w11.heap.size, 0, none⟩) := fun _ x hx => by injection hx with hx; subst hx; exact Nat.ne_of_gt hlt11
  go_wp2_with fail
  refine (write_off g R S n12 c12 w12.heap.size ((padL ad ++ padL hd) ++ lowB (m : Int) 8) (lowB (n : Int) 8) _ w12 m12 hR hxc (lowB_by _ _) h12 hne11 (Nat.le_refl _) hc12).mono ?_
  rintro e w13 ⟨rfl, m13, b13⟩
  have B12 := B11.trans (b12.mono B11.size)
  have B13 := B12.trans (b13.below hg B12.size)
  have r3f := (r3e.later b12).but b13 hne3
  have hT : ((padL ad ++ padL hd) ++ lowB (m : Int) 8) ++ lowB (n : Int) 8 = macT ad hd := by unfold macT; rw [Hem.out, Hen.out]
  have hxd : IsBy (macT ad hd) := by rw [← hT]; exact hxc.app (lowB_by _ _)
  rw [hT] at m13
  clear hT m11 m12 b12 b13 h12 hc12 hM12 hne11 hlt11 r3e B11 B12
  go_wp2_with fail
  refine (sum_any g R S (macT ad hd) w13 m13 hR hxd).mono ?_
  rintro e w14 ⟨rfl, b14⟩
  rw [HF.out]
  have r3g := r3f.later b14
  have B14 := B13.trans (b14.mono B13.size)
  clear m13 r3f B13
  go_wp2_with (first
    | (with_reducible refine wl_store_row rfl 36 (.tmp 8) (.tmp 37) g3 36 _ (bv (markL ks ns ad hd)) rfl rfl rfl r3g zm.out lm.out (bv_one _) ?_; intro w15 r15 o15))
  refine bodyPost_ret (v := .agg (bv (markL ks ns ad hd)).toArray) ?_ rfl ⟨rfl, ?_⟩
  · exact results_cell_row Tryd.results16 _ _ g3 36 _ (0, 0) _ rfl r15 Tryd.underlying36 rfl zm.out
  · exact B14.trans (o15.below (by omega))
end Go.Proofs.YtpnlgmkkikmglabDoor

/-
  Aead: whether two texts have the same bytes: contract. Own work.
-/
namespace Go.Proofs.YtpnlgmkkikmglabDoor
open Go.RowKit
theorem gather {v x y : Int} (hv : 0 ≤ v ∧ v < 256) (hx : 0 ≤ x ∧ x < 256) (hy : 0 ≤ y ∧ y < 256) :
    0 ≤ bits .or .u8 v (bits .xor .u8 x y) ∧ bits .or .u8 v (bits .xor .u8 x y) < 256 ∧ (bits .or .u8 v (bits .xor .u8 x y) = 0 ↔ v = 0 ∧ x = y) := by
  have h := xor_by hx hy
  have hz : bits .xor .u8 x y = 0 ↔ x = y := by
    constructor
    · intro h0
      have := xor_back hx hy
      have hs : bits .xor .u8 y y = 0 := by rw [u8_xor y y hy.1 hy.2 hy.1 hy.2, Nat.xor_self]; rfl
      rw [h0, u8_xor 0 y (by omega) (by omega) hy.1 hy.2] at this
      simp at this
      omega
    · rintro rfl
      rw [u8_xor x x hx.1 hx.2 hx.1 hx.2, Nat.xor_self]; rfl
  generalize bits .xor .u8 x y = z at *
  rw [u8_or v z hv.1 hv.2 h.1 h.2]
  have hl := Nat.or_lt_two_pow (x := v.toNat) (y := z.toNat) (n := 8) (by omega) (by omega)
  refine ⟨by omega, by omega, ?_⟩
  rw [← hz]
  have h0 := Nat.or_eq_zero_iff (n := v.toNat) (m := z.toNat)
  constructor
  · intro e
    have := h0.1 (by omega)
    omega
  · rintro ⟨rfl, rfl⟩
    rfl
theorem same_iff {xs ys : List Int} : xs = ys ↔ xs.length = ys.length ∧ ∀ j, j < max xs.length ys.length → xs.getD j 0 = ys.getD j 0 := by
  constructor
  · rintro rfl; exact ⟨rfl, fun _ _ => rfl⟩
  · rintro ⟨hl, h⟩
    refine List.ext_getElem hl fun j h1 h2 => ?_
    have := h j (by omega)
    simpa [List.getD, List.getElem?_eq_getElem h1, List.getElem?_eq_getElem h2] using this
theorem eqN (m n : Nat) : ((m : Int) == (n : Int)) = decide (m = n) := by
  rw [Bool.eq_iff_iff]; simp; omega
set_option maxRecDepth 100000 in
set_option maxHeartbeats 1000000 in
theorem same_any (A D : Option Addr) (m c n d : Nat) (xs ys : List Int) (w : World) (hx : Bs w w.heap.size A m xs) (hy : Bs w w.heap.size D n ys) (hxb : IsBy xs) (hyb : IsBy ys) (hM : m ≤ maxLen) (hN : n ≤ maxLen) :
    Calls Tryd.prog 18 #[.slice A m c, .slice D n d] w fun e w' => e = .returned (.bool (decide (xs = ys))) ∧ w = w' := by
  have h1 := hx.1
  have h2 := hy.1
  have hA := fun i => byteAt_any A m c i xs w hx
  have hD := fun i => byteAt_any D n d i ys w hy
  have hs := same_iff (xs := xs) (ys := ys)
  rw [h1, h2] at hs
  have hmx : max m n ≤ maxLen := by omega
  have HS := hide hs
  have h63 : m ≤ 9223372036854775807 := by unfold maxLen at hM; omega
  have n63 : n ≤ 9223372036854775807 := by unfold maxLen at hN; omega
  clear hs h1 h2 hx hy
  go_enter Tryd.func18, Tryd.ntmps18
  go_wp2_with fail
  · have hq : max m n = n := by omega
    rw [hq] at HS
    go_loopw [5, 12] (fun v i wr => ∃ (k : Nat) (x : Int), k ≤ n ∧ i = .int .i64 k ∧ v = .int .u8 x ∧ (0 ≤ x ∧ x < 256) ∧ (x = 0 ↔ ∀ j, j < k → xs.getD j 0 = ys.getD j 0) ∧ w = wr) (fun _ i _ => n - (intOf i).toNat)
    case atStart => exact ⟨0, 0, Nat.zero_le _, rfl, rfl, ⟨by omega, by omega⟩, by simp, rfl⟩
    case round =>
      obtain ⟨k, x, hk, rfl, rfl, hx, hxi, rfl⟩ := hrel
      by_cases hlt : k < n
      · have G := gather hx (by_getD xs hxb k) (by_getD ys hyb k)
        have hnext : bits .or .u8 x (bits .xor .u8 (xs.getD k 0) (ys.getD k 0)) = 0 ↔ ∀ j, j < k + 1 → xs.getD j 0 = ys.getD j 0 := by
          rw [G.2.2, hxi]
          constructor
          · rintro ⟨h1, h2⟩ j hj
            by_cases hjk : j = k
            · subst hjk; exact h2
            · exact h1 j (by omega)
          · intro h
            exact ⟨fun j hj => h j (by omega), h k (by omega)⟩
        have GG := hide (And.intro (And.intro G.1 G.2.1) hnext)
        clear G hnext hxi hq
        go_wp2_with fail
        refine (hA k).mono ?_
        rintro e w1 ⟨rfl, rfl⟩
        go_wp2_with fail
        refine (hD k).mono ?_
        rintro e w1 ⟨rfl, rfl⟩
        go_wp2
        go_roundw
        case rel => exact ⟨k + 1, _, by omega, by go_num, rfl, GG.out.1, GG.out.2, trivial⟩
        case measure => simp [intOf]; omega
      · have hkQ : n = k := by omega
        subst hkQ
        have hs := HS.out
        rw [← hxi] at hs
        have hd : decide (xs = ys) = (decide (x = 0) && decide (m = n)) := by
          rw [Bool.eq_iff_iff]
          simp only [decide_eq_true_eq, Bool.and_eq_true]
          rw [hs]
          exact And.comm
        have HDD := hide hd
        clear hd hs hxi HS hq
        go_wp2
        all_goals go_ret
        all_goals (rw [HDD.out])
        · have h0 : x = 0 := by assumption
          refine ⟨congrArg (fun b => Ending.returned (Value.bool b)) ?_, rfl⟩
          rw [decide_eq_true h0, Bool.true_and]
          exact eqN m n
        · have h0 : ¬ x = 0 := by assumption
          refine ⟨congrArg (fun b => Ending.returned (Value.bool b)) ?_, rfl⟩
          rw [decide_eq_false h0, Bool.false_and]
  · have hq : max m n = m := by omega
    rw [hq] at HS
    go_loopw [5, 12] (fun v i wr => ∃ (k : Nat) (x : Int), k ≤ m ∧ i = .int .i64 k ∧ v = .int .u8 x ∧ (0 ≤ x ∧ x < 256) ∧ (x = 0 ↔ ∀ j, j < k → xs.getD j 0 = ys.getD j 0) ∧ w = wr) (fun _ i _ => m - (intOf i).toNat)
    case atStart => exact ⟨0, 0, Nat.zero_le _, rfl, rfl, ⟨by omega, by omega⟩, by simp, rfl⟩
    case round =>
      obtain ⟨k, x, hk, rfl, rfl, hx, hxi, rfl⟩ := hrel
      by_cases hlt : k < m
      · have G := gather hx (by_getD xs hxb k) (by_getD ys hyb k)
        have hnext : bits .or .u8 x (bits .xor .u8 (xs.getD k 0) (ys.getD k 0)) = 0 ↔ ∀ j, j < k + 1 → xs.getD j 0 = ys.getD j 0 := by
          rw [G.2.2, hxi]
          constructor
          · rintro ⟨h1, h2⟩ j hj
            by_cases hjk : j = k
            · subst hjk; exact h2
            · exact h1 j (by omega)
          · intro h
            exact ⟨fun j hj => h j (by omega), h k (by omega)⟩
        have GG := hide (And.intro (And.intro G.1 G.2.1) hnext)
        clear G hnext hxi hq
        go_wp2_with fail
        refine (hA k).mono ?_
        rintro e w1 ⟨rfl, rfl⟩
        go_wp2_with fail
        refine (hD k).mono ?_
        rintro e w1 ⟨rfl, rfl⟩
        go_wp2
        go_roundw
        case rel => exact ⟨k + 1, _, by omega, by go_num, rfl, GG.out.1, GG.out.2, trivial⟩
        case measure => simp [intOf]; omega
      · have hkQ : m = k := by omega
        subst hkQ
        have hs := HS.out
        rw [← hxi] at hs
        have hd : decide (xs = ys) = (decide (x = 0) && decide (m = n)) := by
          rw [Bool.eq_iff_iff]
          simp only [decide_eq_true_eq, Bool.and_eq_true]
          rw [hs]
          exact And.comm
        have HDD := hide hd
        clear hd hs hxi HS hq
        go_wp2
        all_goals go_ret
        all_goals (rw [HDD.out])
        · have h0 : x = 0 := by assumption
          refine ⟨congrArg (fun b => Ending.returned (Value.bool b)) ?_, rfl⟩
          rw [decide_eq_true h0, Bool.true_and]
          exact eqN m n
        · have h0 : ¬ x = 0 := by assumption
          refine ⟨congrArg (fun b => Ending.returned (Value.bool b)) ?_, rfl⟩
          rw [decide_eq_false h0, Bool.false_and]
end Go.Proofs.YtpnlgmkkikmglabDoor

/-
  Aead: sealing: contract. Own work.
-/
namespace Go.Proofs.YtpnlgmkkikmglabDoor
open Go.RowKit
def sealL (ks ns ad xs : List Int) : List Int := outL ks ns 64 xs ++ markL ks ns ad (outL ks ns 64 xs)
/-- What Seal hands back of what is sealed. -/
def RetSeal (ks ns ad xs : List Int) (w : World) (e : Ending) (w' : World) : Prop :=
  ∃ A c, e = .returned (.tuple #[.slice A (xs.length + 16) c, .int .i64 0]) ∧ Bs w' w'.heap.size A (xs.length + 16) (sealL ks ns ad xs) ∧ Below w.heap.size w w' ∧ xs.length + 16 ≤ c ∧ c ≤ maxLen
/-- What Seal and Open hand back of what they refuse. -/
def RetErr (x : Int) (w : World) (e : Ending) (w' : World) : Prop := e = .returned (.tuple #[.slice none 0 0, .int .i64 x]) ∧ Below w.heap.size w w'
set_option maxRecDepth 100000 in
set_option maxHeartbeats 1000000 in
theorem seal_long (ks ns : List Int) (A D : Option Addr) (m c n d : Nat) (w : World) (hM : m ≤ maxLen) (hN : n ≤ maxLen) (hlong : 65536 < n ∨ 65536 < m) :
    Calls Tryd.prog 11 #[.agg (bv ks).toArray, .agg (bv ns).toArray, .slice A m c, .slice D n d] w (RetErr 5 w) := by
  unfold maxLen at hM hN
  go_enter Tryd.func11, Tryd.ntmps11
  by_cases hn : 65536 < n
  · clear hlong
    go_wp2_with (first
      | (with_reducible refine wl_box rfl 22 (.tmp 0) _ (bv ks) rfl rfl rfl ?_; intro g3 w3 r3 a3 l3 b3)
      | (with_reducible refine wl_box rfl 23 (.tmp 1) _ (bv ns) rfl rfl rfl ?_; intro g4 w4 r4 a4 l4 b4))
    go_ret2
    exact ⟨rfl, b3.trans (b4.mono b3.size)⟩
  · have hm : 65536 < m := by omega
    clear hlong
    go_wp2_with (first
      | (with_reducible refine wl_box rfl 22 (.tmp 0) _ (bv ks) rfl rfl rfl ?_; intro g3 w3 r3 a3 l3 b3)
      | (with_reducible refine wl_box rfl 23 (.tmp 1) _ (bv ns) rfl rfl rfl ?_; intro g4 w4 r4 a4 l4 b4))
    go_ret2
    exact ⟨rfl, b3.trans (b4.mono b3.size)⟩
set_option maxRecDepth 100000 in
set_option maxHeartbeats 2000000 in
theorem seal_any (ks ns ad xs : List Int) (A D : Option Addr) (m c n d : Nat) (w : World) (hT : Tabs w) (hk : ks.length = 32) (hn : ns.length = 12) (hk' : IsBy ks) (hn' : IsBy ns)
    (ha : Bs w w.heap.size A m ad) (hab : IsBy ad) (hac : m ≤ c) (hx : Bs w w.heap.size D n xs) (hxb : IsBy xs) (hxc : n ≤ d) (hm : m ≤ 65536) (hN : n ≤ 65536) :
    Calls Tryd.prog 11 #[.agg (bv ks).toArray, .agg (bv ns).toArray, .slice A m c, .slice D n d] w (RetSeal ks ns ad xs w) := by
  have zk := hide (size_b (P := Tryd.prog) (T := 22) (by kernel_rfl) hk)
  have zn := hide (size_b (P := Tryd.prog) (T := 23) (by kernel_rfl) hn)
  have hH := fun w hT hx => hide_any ks ns xs n d D w hT hk hn hk' hn' hx hxb (by omega)
  have hob := outL_by ks ns xs 64 hxb
  have hlen := hx.1
  have hMk := fun A5 c5 w hT ha h5 h6 => mark_any ks ns ad (outL ks ns 64 xs) A A5 m c xs.length c5 w hT hk hn hk' hn' ha hab hac (by unfold maxLen; omega) h5 hob h6 (by unfold maxLen; omega)
  have hml := markL_len ks ns ad (outL ks ns 64 xs)
  have hmb : IsBy (markL ks ns ad (outL ks ns 64 xs)) := pS_by _ _
  have hdef : sealL ks ns ad xs = [outL ks ns 64 xs, markL ks ns ad (outL ks ns 64 xs)].flatten := by unfold sealL; simp
  have HDf := hide hdef
  have zm := hide (size16 hml)
  have lm := hide (show (bv (List.replicate 16 0)).length = (bv (markL ks ns ad (outL ks ns 64 xs))).length by rw [bv_len, bv_len, hml, List.length_replicate])
  have Hml := hide hml
  have Hlen := hide hlen
  obtain ⟨i1, hi1, hz1, hs1⟩ := slB_info
  clear hk hn hk' hn' hdef hml hlen
  generalize markL ks ns ad (outL ks ns 64 xs) = mk at *
  go_enter Tryd.func11, Tryd.ntmps11
  go_wp2_with (first
    | (with_reducible refine wl_box rfl 22 (.tmp 0) _ (bv ks) rfl rfl rfl ?_; intro g3 w3 r3 a3 l3 b3)
    | (with_reducible refine wl_box rfl 23 (.tmp 1) _ (bv ns) rfl rfl rfl ?_; intro g4 w4 r4 a4 l4 b4; have r3' := r3.later b4)
    | (with_reducible refine wl_load_row rfl 22 (.tmp 4) g3 22 (bv ks) _ rfl rfl r3' Tryd.underlying22 rfl zk.out ?_)
    | (with_reducible refine wl_load_row rfl 23 (.tmp 5) g4 23 (bv ns) _ rfl rfl r4 Tryd.underlying23 rfl zn.out ?_))
  have s3 := b3.size
  have B4 := b3.trans (b4.mono s3)
  refine (hH _ (hT.later B4) (hx.later B4)).mono ?_
  rintro e w5 ⟨A5, c5, rfl, h5, b5, h6, h7⟩
  have B5 := B4.trans (b5.mono B4.size)
  have r3a := r3'.later b5
  have r4a := r4.later b5
  clear hH r3 r3' r4 b3 b4
  go_wp2_with (first
    | (with_reducible refine wl_load_row rfl 22 (.tmp 4) g3 22 (bv ks) _ rfl rfl r3a Tryd.underlying22 rfl zk.out ?_)
    | (with_reducible refine wl_load_row rfl 23 (.tmp 5) g4 23 (bv ns) _ rfl rfl r4a Tryd.underlying23 rfl zn.out ?_))
  refine (hMk A5 c5 w5 (hT.later B5) (ha.later B5) h5 h6).mono ?_
  rintro e w6 ⟨rfl, b6⟩
  have B6 := B5.trans (b6.mono B5.size)
  have h5' := h5.later b6
  clear hMk r3a r4a b5 b6 h5
  go_wp2_with (first
    | (with_reducible refine wl_alloc rfl 36 _ (bv (List.replicate 16 0)) rfl zB16 rfl ?_; intro g7 w7 r7 a7 l7 b7)
    | (with_reducible refine wl_store_row rfl 36 (.tmp 11) (.tmp 28) g7 36 _ (bv mk) rfl rfl rfl r7 zm.out lm.out (bv_one _) ?_; intro w8 r8 o8)
    | (refine wpList_plain rfl fun K hK => st_build2 61 (.tmp 29) (.tmp 30) rfl 24 i1 _ (.slice A5 xs.length c5) (.slice (some ⟨g7, 0, none⟩) 16 16) Tryd.underlying61 hi1 hz1 hs1 rfl rfl rfl rfl rfl (hK _ _ ?_)))
  have b68 := b7.trans (o8.below a7)
  have B8 := B6.trans (b68.mono B6.size)
  have h5a := h5'.later b68
  have hol := h5a.1
  have h16 := Hml.out
  have hmkb : Bs w8 w8.heap.size (some ⟨g7, 0, none⟩) 16 mk := by
    have := row_bs_at (n := 16) (off := 0) r8 (by omega) r8.lt
    rw [List.drop_zero, List.take_of_length_le (by omega)] at this
    exact this
  have hl := Bss.lit w8 24 [(A5, xs.length, c5, outL ks ns 64 xs), (some ⟨g7, 0, none⟩, 16, 16, mk)] (by
    intro x hx
    simp only [List.mem_cons, List.not_mem_nil, or_false] at hx
    rcases hx with rfl | rfl
    · exact h5a
    · exact hmkb)
  have b9 : Below w8.heap.size w8 (w8.alloc (.cells #[.slice A5 xs.length c5, .slice (some ⟨g7, 0, none⟩) 16 16] 24)) := (Below.refl _ _).alloc (Nat.le_refl _) _
  have B9 := B8.trans (b9.mono B8.size)
  have hsl : sumLen [outL ks ns 64 xs, mk] 2 = xs.length + 16 := by unfold sumLen; simp [hol, h16]
  have hfl : [outL ks ns 64 xs, mk].flatten.length = xs.length + 16 := by simp [hol, h16]
  have hxl := Hlen.out
  refine (join_any (some ⟨w8.heap.size, 0, none⟩) 2 2 [outL ks ns 64 xs, mk] _ (hl.up (by simp)) (by omega) (by rw [hsl]; omega)).mono ?_
  rintro e w10 ⟨A10, n10, c10, rfl, h10, h11, h12, b10⟩
  have hn10 : n10 = xs.length + 16 := by rw [← h10.1, hfl]
  subst hn10
  have B10 := B9.trans (b10.mono B9.size)
  rw [← HDf.out] at h10
  have HH := hide (And.intro h10 (And.intro B10 (And.intro h11 h12)))
  clear h10 B10 h11 h12 b10 hfl hsl B9 b9 hl hmkb h16 hol h5a B8 b68 B6 B5 B4 hxl
  go_wp2_with fail
  go_ret2
  exact ⟨A10, c10, rfl, HH.out⟩
end Go.Proofs.YtpnlgmkkikmglabDoor

/-
  Aead: opening: contract. Own work.
-/
namespace Go.Proofs.YtpnlgmkkikmglabDoor
open Go.RowKit
set_option maxRecDepth 100000 in
set_option maxHeartbeats 1000000 in
theorem open_short (ks ns : List Int) (A D : Option Addr) (m c n d : Nat) (w : World) (hn : n < 16) :
    Calls Tryd.prog 14 #[.agg (bv ks).toArray, .agg (bv ns).toArray, .slice A m c, .slice D n d] w (RetErr 4 w) := by
  go_enter Tryd.func14, Tryd.ntmps14
  go_wp2_with (first
    | (with_reducible refine wl_box rfl 22 (.tmp 0) _ (bv ks) rfl rfl rfl ?_; intro g3 w3 r3 a3 l3 b3)
    | (with_reducible refine wl_box rfl 23 (.tmp 1) _ (bv ns) rfl rfl rfl ?_; intro g4 w4 r4 a4 l4 b4))
  go_ret2
  exact ⟨rfl, b3.trans (b4.mono b3.size)⟩
set_option maxRecDepth 100000 in
set_option maxHeartbeats 1000000 in
theorem open_long (ks ns : List Int) (A D : Option Addr) (m c n d : Nat) (w : World) (hM : m ≤ maxLen) (hN : n ≤ maxLen) (hn : 16 ≤ n) (hlong : 65536 < m ∨ 65552 < n) :
    Calls Tryd.prog 14 #[.agg (bv ks).toArray, .agg (bv ns).toArray, .slice A m c, .slice D n d] w (RetErr 5 w) := by
  unfold maxLen at hM hN
  go_enter Tryd.func14, Tryd.ntmps14
  by_cases hm : 65536 < m
  · clear hlong
    go_wp2_with (first
      | (with_reducible refine wl_box rfl 22 (.tmp 0) _ (bv ks) rfl rfl rfl ?_; intro g3 w3 r3 a3 l3 b3)
      | (with_reducible refine wl_box rfl 23 (.tmp 1) _ (bv ns) rfl rfl rfl ?_; intro g4 w4 r4 a4 l4 b4))
    go_ret2
    exact ⟨rfl, b3.trans (b4.mono b3.size)⟩
  · have hn2 : 65552 < n := by omega
    clear hlong hn
    have hn3 : 16 ≤ n := by omega
    go_wp2_with (first
      | (with_reducible refine wl_box rfl 22 (.tmp 0) _ (bv ks) rfl rfl rfl ?_; intro g3 w3 r3 a3 l3 b3)
      | (with_reducible refine wl_box rfl 23 (.tmp 1) _ (bv ns) rfl rfl rfl ?_; intro g4 w4 r4 a4 l4 b4))
    go_ret2
    exact ⟨rfl, b3.trans (b4.mono b3.size)⟩
/-- What Open hands back of what it opens. -/
def RetOpen (ks ns xs : List Int) (w : World) (e : Ending) (w' : World) : Prop :=
  ∃ A c, e = .returned (.tuple #[.slice A xs.length c, .int .i64 0]) ∧ Bs w' w'.heap.size A xs.length (outL ks ns 64 xs) ∧ Below w.heap.size w w' ∧ xs.length ≤ c ∧ c ≤ maxLen
set_option maxRecDepth 100000 in
set_option maxHeartbeats 2000000 in
theorem open_any (ks ns ad xs : List Int) (A D : Option Addr) (m c n d : Nat) (w : World) (hT : Tabs w) (hk : ks.length = 32) (hn : ns.length = 12) (hk' : IsBy ks) (hn' : IsBy ns)
    (ha : Bs w w.heap.size A m ad) (hab : IsBy ad) (hac : m ≤ c) (hx : Bs w w.heap.size D n xs) (hxb : IsBy xs) (hxc : n ≤ d) (hm : m ≤ 65536) (hN : n ≤ 65552) (h16 : 16 ≤ n) :
    Calls Tryd.prog 14 #[.agg (bv ks).toArray, .agg (bv ns).toArray, .slice A m c, .slice D n d] w fun e w' =>
      if markL ks ns ad (xs.take (n - 16)) = xs.drop (n - 16) then RetOpen ks ns (xs.take (n - 16)) w e w' else RetErr 6 w e w' := by
  have zk := hide (size_b (P := Tryd.prog) (T := 22) (by kernel_rfl) hk)
  have zn := hide (size_b (P := Tryd.prog) (T := 23) (by kernel_rfl) hn)
  obtain ⟨q, hq⟩ : ∃ q, n = q + 16 := ⟨n - 16, by omega⟩
  subst hq
  rw [Nat.add_sub_cancel]
  have hq63 : q ≤ 65536 := by omega
  have hfr := hx.take (k := q) (by omega)
  have hbk : Bs w w.heap.size (Option.map (fun x => x.add q) D) 16 (xs.drop q) := by
    have h := hx.sub (I := q) (K := q + 16) (by omega) (Nat.le_refl _) hxc
    unfold subA at h
    rw [if_neg (by omega), Nat.add_sub_cancel_left, List.take_of_length_le (by rw [List.length_drop, hx.1]; omega)] at h
    exact h
  have hfb := hxb.take q
  have hbb := hxb.drop q
  have hMk := fun w hT ha h => mark_any ks ns ad (xs.take q) A D m c q d w hT hk hn hk' hn' ha hab hac (by unfold maxLen; omega) h hfb (by omega) (by unfold maxLen; omega)
  have hH := fun w hT hx => hide_any ks ns (xs.take q) q d D w hT hk hn hk' hn' hx hfb (by omega)
  have hSm := fun g w h1 h2 hmb => same_any (some ⟨g, 0, none⟩) (Option.map (fun x => x.add q) D) 16 16 16 (d - q) (markL ks ns ad (xs.take q)) (xs.drop q) w h1 h2 hmb hbb (by unfold maxLen; omega) (by unfold maxLen; omega)
  have hml := markL_len ks ns ad (xs.take q)
  have hmb : IsBy (markL ks ns ad (xs.take q)) := pS_by _ _
  have zm := hide (size16 hml)
  have lm := hide (show (bv (List.replicate 16 0)).length = (bv (markL ks ns ad (xs.take q))).length by rw [bv_len, bv_len, hml, List.length_replicate])
  have hlq : (xs.take q).length = q := by rw [List.length_take, hx.1]; omega
  have Hml := hide hml
  clear hk hn hk' hn' hml hx hxb hfb hbb
  generalize markL ks ns ad (xs.take q) = mk at *
  generalize xs.take q = fr at *
  generalize xs.drop q = bk at *
  go_enter Tryd.func14, Tryd.ntmps14
  go_wp2_with (first
    | (with_reducible refine wl_box rfl 22 (.tmp 0) _ (bv ks) rfl rfl rfl ?_; intro g3 w3 r3 a3 l3 b3)
    | (with_reducible refine wl_box rfl 23 (.tmp 1) _ (bv ns) rfl rfl rfl ?_; intro g4 w4 r4 a4 l4 b4; have r3' := r3.later b4))
  go_quiet (fail)
  have s3 := b3.size
  have B4 := b3.trans (b4.mono s3)
  have B5 : Below w.heap.size w (w4.drewN nq) := below_drewn B4 nq
  have r3a := r3'.drewN nq
  have r4a := r4.drewN nq
  clear r3 r3' r4 b3 b4 B4
  generalize w4.drewN nq = w5 at *
  generalize Option.map (fun x => x.add q) D = E at *
  go_wp2_with (first
    | (with_reducible refine wl_load_row rfl 22 (.tmp 4) g3 22 (bv ks) _ rfl rfl r3a Tryd.underlying22 rfl zk.out ?_)
    | (with_reducible refine wl_load_row rfl 23 (.tmp 5) g4 23 (bv ns) _ rfl rfl r4a Tryd.underlying23 rfl zn.out ?_))
  refine (hMk w5 (hT.later B5) (ha.later B5) (hfr.later B5)).mono ?_
  rintro e w6 ⟨rfl, b6⟩
  have B6 := B5.trans (b6.mono B5.size)
  have r3b := r3a.later b6
  have r4b := r4a.later b6
  clear hMk b6
  go_wp2_with (first
    | (with_reducible refine wl_alloc rfl 36 _ (bv (List.replicate 16 0)) rfl zB16 rfl ?_; intro g7 w7 r7 a7 l7 b7)
    | (with_reducible refine wl_store_row rfl 36 (.tmp 12) (.tmp 38) g7 36 _ (bv mk) rfl rfl rfl r7 zm.out lm.out (bv_one _) ?_; intro w8 r8 o8))
  have b68 := b7.trans (o8.below a7)
  have B8 := B6.trans (b68.mono B6.size)
  have r3c := r3b.later b68
  have r4c := r4b.later b68
  have h16' := Hml.out
  have hmkb : Bs w8 w8.heap.size (some ⟨g7, 0, none⟩) 16 mk := by
    have := row_bs_at (n := 16) (off := 0) r8 (by omega) r8.lt
    rw [List.drop_zero, List.take_of_length_le (by omega)] at this
    exact this
  have hbk8 := hbk.later B8
  have hfr8 := hfr.later B8
  have hT8 := hT.later B8
  clear b68 o8 b7 B6 B5 hbk hfr hT r3a r3b r4a r4b r7 ha
  by_cases heq : mk = bk
  · have hd : decide (mk = bk) = true := decide_eq_true heq
    have HEQ := hide heq
    rw [hd] at hSm
    clear heq hd
    refine (hSm g7 w8 hmkb hbk8 hmb).mono ?_
    rintro e w9 ⟨rfl, rfl⟩
    go_wp2_with (first
      | (with_reducible refine wl_load_row rfl 22 (.tmp 4) g3 22 (bv ks) _ rfl rfl r3c Tryd.underlying22 rfl zk.out ?_)
      | (with_reducible refine wl_load_row rfl 23 (.tmp 5) g4 23 (bv ns) _ rfl rfl r4c Tryd.underlying23 rfl zn.out ?_))
    refine (hH w8 hT8 hfr8).mono ?_
    rintro e w10 ⟨A10, c10, rfl, h10, b10, h11, h12⟩
    have B10 := hide (B8.trans (b10.mono B8.size))
    clear hSm hH hmkb hbk8 hfr8 hT8 B8 b10
    go_wp2_with fail
    go_ret2
    try rw [if_pos HEQ.out]
    have hlq2 := hlq
    exact ⟨A10, c10, by rw [hlq2]; rfl, h10, B10.out, h11, h12⟩
  · have hd : decide (mk = bk) = false := decide_eq_false heq
    have HEQ := hide heq
    rw [hd] at hSm
    clear heq hd
    refine (hSm g7 w8 hmkb hbk8 hmb).mono ?_
    rintro e w9 ⟨rfl, rfl⟩
    go_wp2_with fail
    go_ret2
    try rw [if_neg HEQ.out]
    exact ⟨rfl, B8⟩
end Go.Proofs.YtpnlgmkkikmglabDoor

/-
  Aead: the document's answers: bytes in new memory, and what fills them: contracts. Own work.
-/
namespace Go.Proofs.YtpnlgmkkikmglabDoor
open Go.RowKit
set_option maxRecDepth 100000 in
theorem both_own (A B : Option Addr) (n m c d : Nat) (xs ys : List Int) (w : World) (h1 : Bs w w.heap.size A n xs) (h2 : Bs w w.heap.size B m ys) (hn : n + m ≤ 140737488355328) :
    Calls Tryd.prog 22 #[.slice A n c, .slice B m d] w fun e w' => ∃ v, e = .returned v ∧ w'.ownsRow w.heap.size 5 1 v (n + m) (bv (xs ++ ys)) ∧ Below w.heap.size w w' := by
  obtain ⟨i0, hi, hz, hsz, hby⟩ := u8_info
  have hown0 := World.ownsRow_nil w w.heap.size 5 1
  go_enter Tryd.func22, Tryd.ntmps22
  go_wp2_with (first
    | (at_builtin
       refine wpList_append_bs rfl (.tmp 6) (.tmp 7) _ rfl w.heap.size 5 i0 Tryd.underlying24 hi hz hsz hby (.slice none 0 0) 0 [] rfl hown0 w.heap.size A n c xs rfl h1 (by omega) (by simp) ?_
       intro v1 w1 hown1 hg1
       have hb1 := grown_below (Below.refl _ _) hown0 (Nat.le_refl _) hg1
       have hz1 := hb1.size)
    | (at_builtin
       refine wpList_append_bs rfl (.tmp 9) (.tmp 10) _ rfl w.heap.size 5 i0 Tryd.underlying24 hi hz hsz hby v1 (0 + n) ([] ++ xs) rfl hown1 w.heap.size B m d ys rfl (h2.below hb1) (by omega) hz1 ?_
       intro v2 w2 hown2 hg2))
  go_ret
  exact ⟨v2, rfl, by simpa using hown2, grown_below hb1 hown1 (Nat.le_refl _) hg2⟩
theorem both_any (A B : Option Addr) (n m c d : Nat) (xs ys : List Int) (w : World) (h1 : Bs w w.heap.size A n xs) (h2 : Bs w w.heap.size B m ys) (hn : n + m ≤ 140737488355328) :
    Calls Tryd.prog 22 #[.slice A n c, .slice B m d] w (RetBs (xs ++ ys) w) := by
  refine (both_own A B n m c d xs ys w h1 h2 hn).mono ?_
  rintro e w' ⟨v, rfl, ho, hb⟩
  exact ret_owns ho hb rfl
theorem padN_lt (m : Nat) : padN m ≤ 15 := by unfold padN; omega
set_option maxRecDepth 100000 in
set_option maxHeartbeats 1000000 in
theorem filled_any (A : Option Addr) (m c : Nat) (xs : List Int) (w : World) (h : Bs w w.heap.size A m xs) (hm : m ≤ 1000000) :
    Calls Tryd.prog 30 #[.slice A m c] w (RetBs (padL xs) w) := by
  obtain ⟨i0, hi, hz, hsz, hby⟩ := u8_info
  have hB := fun w h => both_own none A 0 m 0 c [] xs w Bs.nil_ h (by omega)
  have hpad : padL xs = xs ++ List.replicate (padN m) 0 := by unfold padL; rw [h.1]
  have hpl := padN_lt m
  have hmod : (m + padN m) % 16 = 0 := by unfold padN; omega
  have hpre : ∀ k, k < padN m → (m + k) % 16 ≠ 0 := by unfold padN; intro k hk; omega
  have HP := hide hpad
  have HM := hide hmod
  have HQ := hide hpre
  clear hpad hmod hpre
  generalize padN m = q at *
  go_enter Tryd.func30, Tryd.ntmps30
  go_wp2_with fail
  refine (hB _ h).mono ?_
  rintro e w1 ⟨v1, rfl, o1, b1⟩
  rw [List.nil_append, Nat.zero_add] at o1
  clear hB h
  go_wp2_with fail
  go_loopw [3, 4] (fun v i wr => ∃ k : Nat, k ≤ q ∧ i = .int .i64 k ∧ wr.ownsRow w.heap.size 5 1 v (m + k) (bv (xs ++ List.replicate k 0)) ∧ Below w.heap.size w wr) (fun _ i _ => q - (intOf i).toNat)
  case atStart => exact ⟨0, Nat.zero_le _, rfl, by simpa using o1, b1⟩
  case round =>
    obtain ⟨k, hk, rfl, hown, hb⟩ := hrel
    obtain ⟨A', c', rfl, hb', hc1, hc2⟩ := ownsRow_bs hown
    have hk16 : (k : Int) < 16 := by omega
    by_cases hlt : k < q
    · have h1 := HQ.out k hlt
      have hne : ¬ (((m + k : Nat) : Int) % 16 = 0) := by omega
      have hl : wr.heap.size ≤ (wr.alloc (.cells #[.int .u8 0] 5)).heap.size := by simp
      go_wp2_with (at_builtin; refine wpList_append_bs rfl (.tmp 17) (.tmp 18) _ rfl w.heap.size 5 i0 Tryd.underlying24 hi hz hsz hby _ (m + k) (xs ++ List.replicate k 0) rfl (hown.alloc _) _ _ 1 1 [0] rfl (Bs.new1 wr _ _) (by omega) (by have := hb.size; simp; omega) ?_; intro v1 w1 hown1 hg1)
      have hb1 := (hb.alloc hb.size _).grown hg1 (by have := hb.size; simp; omega) (fun j hj => (hown.lt j hj).1)
      have hrep : (xs ++ List.replicate k (0 : Int)) ++ [0] = xs ++ List.replicate (k + 1) 0 := by rw [List.append_assoc, List.replicate_succ']
      rw [hrep] at hown1
      clear hown hg1 hrep
      go_wp2
      go_roundw
      case rel => exact ⟨k + 1, by omega, by go_num, hown1, hb1⟩
      case measure => simp [intOf]; omega
    · obtain rfl : k = q := by omega
      have h1 := HM.out
      have he : ((m + k : Nat) : Int) % 16 = 0 := by omega
      go_wp2
      go_ret
      exact ⟨_, _, _, rfl, by rw [HP.out]; exact hb', hc1, hc2, hb⟩
end Go.Proofs.YtpnlgmkkikmglabDoor

/-
  Aead: the document's mark: contract. Own work.
-/
namespace Go.Proofs.YtpnlgmkkikmglabDoor
open Go.RowKit
theorem built_at0 {ks ns : List Int} (hk : ks.length = 32) (hn : ns.length = 12) : Tryd.prog.built 45 [(0, .agg (bv ks).toArray), (2, .agg (bv ns).toArray)] = some (atL ks 0 ns).toArray := by
  rw [built_struct (P := Tryd.prog) (t := 45) (z := .agg (atL (List.replicate 32 0) 0 (List.replicate 12 0)).toArray) (zs := [] ++ (bv (List.replicate 32 0) ++ ([Value.int .u32 0] ++ bv (List.replicate 12 0)))) (places := [(0, 32), (32, 1), (33, 12)]) (by kernel_rfl) rfl Tryd.underlying45 (by kernel_rfl)]
  rw [fill_part (V := bv ks) rfl rfl (by rw [bv_len, hk]) rfl (by simp [bv_len]), List.nil_append]
  rw [show bv ks ++ ([Value.int .u32 0] ++ bv (List.replicate 12 0)) = (bv ks ++ [Value.int .u32 0]) ++ (bv (List.replicate 12 0) ++ []) by simp, fill_part (V := bv ns) rfl rfl (by rw [bv_len, hn]) (by simp [bv_len, hk]) (by simp [bv_len])]
  unfold Instr.fill atL
  simp
theorem built_at1 {ks ns : List Int} (c : Int) (hk : ks.length = 32) (hn : ns.length = 12) : Tryd.prog.built 45 [(0, .agg (bv ks).toArray), (1, .int .u32 c), (2, .agg (bv ns).toArray)] = some (atL ks c ns).toArray := by
  rw [built_struct (P := Tryd.prog) (t := 45) (z := .agg (atL (List.replicate 32 0) 0 (List.replicate 12 0)).toArray) (zs := [] ++ (bv (List.replicate 32 0) ++ ([Value.int .u32 0] ++ bv (List.replicate 12 0)))) (places := [(0, 32), (32, 1), (33, 12)]) (by kernel_rfl) rfl Tryd.underlying45 (by kernel_rfl)]
  rw [fill_part (V := bv ks) rfl rfl (by rw [bv_len, hk]) rfl (by simp [bv_len]), List.nil_append]
  rw [fill_part (M := [Value.int .u32 0]) (V := [.int .u32 c]) rfl rfl rfl (by simp [bv_len, hk]) rfl]
  rw [show bv ks ++ ([Value.int .u32 c] ++ bv (List.replicate 12 0)) = (bv ks ++ [Value.int .u32 c]) ++ (bv (List.replicate 12 0) ++ []) by simp, fill_part (V := bv ns) rfl rfl (by rw [bv_len, hn]) (by simp [bv_len, hk]) (by simp [bv_len])]
  unfold Instr.fill atL
  simp
theorem padL_len (xs : List Int) : (padL xs).length ≤ xs.length + 15 := by
  have := padN_lt xs.length
  unfold padL; rw [List.length_append, List.length_replicate]; omega
set_option maxRecDepth 100000 in
set_option maxHeartbeats 4000000 in
theorem refMark_any (ks ns ad hd : List Int) (A D : Option Addr) (m c n d : Nat) (w : World) (hk : ks.length = 32) (hn : ns.length = 12) (hk' : IsBy ks) (hn' : IsBy ns)
    (ha : Bs w w.heap.size A m ad) (hab : IsBy ad) (hm : m ≤ 100000) (hd1 : Bs w w.heap.size D n hd) (hdb : IsBy hd) (hN : n ≤ 100000) :
    Calls Tryd.prog 17 #[.agg (bv ks).toArray, .agg (bv ns).toArray, .slice A m c, .slice D n d] w fun e w' => e = .returned (.agg (bv (markL ks ns ad hd)).toArray) ∧ Below w.heap.size w w' := by
  have zk := hide (size_b (P := Tryd.prog) (T := 22) (by kernel_rfl) hk)
  have zn := hide (size_b (P := Tryd.prog) (T := 23) (by kernel_rfl) hn)
  have HB := fun w => refBlock_any ks ns 0 w hk hn hk' hn' (by omega)
  have hbA := built_at0 hk hn
  have lB := blockL_len ks 0 ns
  have bB := blockL_by ks 0 ns
  have lK : ((blockL ks 0 ns).take 32).length = 32 := by rw [List.length_take, lB]; rfl
  have z32 := hide (size32 lK)
  have hml := markL_len ks ns ad hd
  have zm := hide (size16 hml)
  have lm := hide (show (bv (List.replicate 16 0)).length = (bv (markL ks ns ad hd)).length by rw [bv_len, bv_len, hml, List.length_replicate])
  have hfin : pS ((blockL ks 0 ns).take 32) (macT ad hd) = markL ks ns ad hd := rfl
  have HF := hide hfin
  have lTa := padL_len ad
  have lTd := padL_len hd
  have HS := fun A m c w h1 h2 h3 hxd => refSum_any ((blockL ks 0 ns).take 32) (macT ad hd) A m c w lK (bB.take 32) hxd h1 h2 h3
  have HlB := hide lB
  have h0m := hide (show macT ad hd = ((padL ad ++ padL hd) ++ lowB (ad.length : Int) 8) ++ lowB (hd.length : Int) 8 from rfl)
  clear hk hn lB lK hfin hml hk' hn'
  rw [ha.1] at lTa h0m
  rw [hd1.1] at lTd h0m
  have hTb : IsBy (macT ad hd) := by rw [h0m.out]; exact ((((padL_by hab).app (padL_by hdb)).app (lowB_by _ _)).app (lowB_by _ _))
  generalize macT ad hd = T at *
  generalize markL ks ns ad hd = mk at *
  generalize blockL ks 0 ns = BL at *
  go_enter Tryd.func17, Tryd.ntmps17
  go_wp2_with (first
    | (with_reducible refine wl_box rfl 22 (.tmp 0) _ (bv ks) rfl rfl rfl ?_; intro g1 w1 r1 p1 l1 b1)
    | (with_reducible refine wl_box rfl 23 (.tmp 1) _ (bv ns) rfl rfl rfl ?_; intro g2 w2 r2 p2 l2 b2; have r1' := r1.later b2)
    | (with_reducible refine wl_alloc rfl 36 _ (bv (List.replicate 16 0)) rfl zB16 rfl ?_; intro g3 w3 r3 p3 l3 b3; have r1'' := r1'.later b3; have r2' := r2.later b3)
    | (with_reducible refine wl_load_row rfl 22 (.tmp 4) g1 22 (bv ks) _ rfl rfl r1'' Tryd.underlying22 rfl zk.out ?_)
    | (with_reducible refine wl_load_row rfl 23 (.tmp 5) g2 23 (bv ns) _ rfl rfl r2' Tryd.underlying23 rfl zn.out ?_)
    | ((with_reducible refine wl_build rfl 45 [(0, .tmp 13), (2, .tmp 14)] rfl _ ?hv _ hbA ?hk); case hv => rfl))
  have s1 := b1.size; have s2 := b2.size; have s3 := b3.size
  have B3 := (b1.trans (b2.mono s1)).trans (b3.mono (Nat.le_trans s1 s2))
  refine (HB _).mono ?_
  rintro e w4 ⟨A4, n4, c4, rfl, h4, hc4, hM4, b4⟩
  obtain rfl : n4 = 64 := by rw [← h4.1, HlB.out]
  have B4 := B3.trans (b4.mono B3.size)
  have r3' := r3.later b4
  clear HB r1 r1' r1'' r2 r2' b1 b2 b3 b4
  go_wp2_with (first
    | (with_reducible refine wl_alloc rfl 22 _ (bv (List.replicate 32 0)) rfl zero32 rfl ?_; intro g5 w5 r5 p5 l5 b5))
  have B5 := B4.trans (b5.mono B4.size)
  have h4' := h4.later b5
  have r3a := r3'.later b5
  have q5 : w.heap.size ≤ g5 := Nat.le_trans B4.size p5
  have hne : g3 ≠ g5 := by have := r3'.lt; omega
  have h45 : w4.heap.size ≤ w5.heap.size := b5.size
  go_loopw [11] (fun iv wr => ∃ i : Nat, i ≤ 32 ∧ iv = .int .i64 i ∧ Row wr 22 g5 (bv (BL.take i ++ List.replicate (32 - i) 0)) ∧ But g5 w5 wr) (fun iv _ => 32 - (intOf iv).toNat)
  case atStart => exact ⟨0, Nat.zero_le _, rfl, by simpa using r5, But.refl _ _⟩
  case round =>
    clear r5
    obtain ⟨i, hi, rfl, rr, br⟩ := hrel
    have h4b : Bs wr w4.heap.size A4 64 BL := (h4.below b5).below (br.below p5 h45)
    by_cases hlt : i < 32
    · obtain ⟨b, o, rfl, hb', hc'⟩ := h4b.at_ (k := i) (by omega)
      obtain ⟨y0, y1⟩ := getD_byte bB i
      have hset := fill_at (xs := BL) (zs := []) (i := i) (n := 32) (v := BL.getD i 0) hlt (by rw [HlB.out]; decide) rfl 32 (Nat.le_refl _)
      have HSt := hide hset
      have hln : i < (bv (BL.take i ++ List.replicate (32 - i) 0)).length := by rw [bv_len, List.length_append, List.length_replicate, List.length_take, HlB.out]; omega
      clear hset
      generalize BL.getD i 0 = y at *
      have hlt64 : i < 64 := by omega
      go_wp2_with (first
        | (with_reducible refine wl_store rfl 5 (.tmp 26) (.tmp 25) g5 i 22 _ (.int .u8 y) rfl (by kernel_rfl) rfl rfl rr hln rfl ?_; intro w6 r6 o6; rw [bv_set, HSt.out] at r6))
      go_roundw
      case rel => exact ⟨i + 1, by omega, by go_num, r6, br.trans (But.only o6)⟩
      case measure => simp [intOf]; omega
    · obtain rfl : i = 32 := by omega
      have r5 : Row wr 22 g5 (bv (BL.take 32)) := by simpa using rr
      have B6 : Below w.heap.size w wr := B5.trans (br.below q5 B5.size)
      have r3b := r3a.but br hne
      have ham := ha.later B6
      have hdm := hd1.later B6
      clear rr br r3a r3' h4b h4' h4 B5 B4 B3 b5 ha hd1
      go_wp2_with fail
      refine (filled_any A m c ad wr ham (by omega)).mono ?_
      rintro e w7 ⟨A7, n7, c7, rfl, h7, hc7, _, b7⟩
      have hn7 : n7 ≤ m + 15 := by rw [← h7.1]; exact lTa
      have B7 := B6.trans (b7.mono B6.size)
      have hdm7 := hdm.later b7
      have r5a := r5.later b7
      have r3c := r3b.later b7
      go_wp2_with fail
      refine (filled_any D n d hd w7 hdm7 (by omega)).mono ?_
      rintro e w8 ⟨A8, n8, c8, rfl, h8, hc8, _, b8⟩
      have hn8 : n8 ≤ n + 15 := by rw [← h8.1]; exact lTd
      have B8 := B7.trans (b8.mono B7.size)
      have r5b := r5a.later b8
      have r3d := r3c.later b8
      have h7' := h7.later b8
      clear h7 b7 b8 r5 r5a r3b r3c hdm hdm7 ham
      go_wp2_with fail
      refine (both_any A7 A8 n7 n8 c7 c8 _ _ w8 h7' h8 (by omega)).mono ?_
      rintro e w9 ⟨A9, n9, c9, rfl, h9, hc9, _, b9⟩
      have hn9 : n9 ≤ m + n + 30 := by rw [← h9.1, List.length_append, h7'.1, h8.1]; omega
      have B9 := B8.trans (b9.mono B8.size)
      have r5c := r5b.later b9
      have r3e := r3d.later b9
      clear h7' h8 b9 r5b r3d hn7 hn8
      go_wp2_with fail
      refine (low_any (m : Int) 8 w9 (by omega) (by omega) (Nat.le_refl _)).mono ?_
      rintro e w10 ⟨A10, n10, c10, rfl, h10, hc10, _, b10⟩
      obtain rfl : n10 = 8 := by rw [← h10.1, lowB_length]
      have B10 := B9.trans (b10.mono B9.size)
      have h9' := h9.later b10
      have r5d := r5c.later b10
      have r3f := r3e.later b10
      go_wp2_with fail
      refine (both_any A9 A10 n9 8 c9 c10 _ _ w10 h9' h10 (by omega)).mono ?_
      rintro e w11 ⟨A11, n11, c11, rfl, h11, hc11, _, b11⟩
      have hn11 : n11 ≤ m + n + 38 := by rw [← h11.1, List.length_append, h9'.1, h10.1]; omega
      have B11 := B10.trans (b11.mono B10.size)
      have r5e := r5d.later b11
      have r3g := r3f.later b11
      clear h9 h9' h10 b10 b11 r5c r5d r3e r3f hn9
      go_wp2_with fail
      refine (low_any (n : Int) 8 w11 (by omega) (by omega) (Nat.le_refl _)).mono ?_
      rintro e w12 ⟨A12, n12, c12, rfl, h12, hc12, _, b12⟩
      obtain rfl : n12 = 8 := by rw [← h12.1, lowB_length]
      have B12 := B11.trans (b12.mono B11.size)
      have h11' := h11.later b12
      have r5f := r5e.later b12
      have r3h := r3g.later b12
      go_wp2_with fail
      refine (both_any A11 A12 n11 8 c11 c12 _ _ w12 h11' h12 (by omega)).mono ?_
      rintro e w13 ⟨A13, n13, c13, rfl, h13, hc13, _, b13⟩
      have hn13 : n13 ≤ m + n + 46 := by rw [← h13.1, List.length_append, h11'.1, h12.1]; omega
      have B13 := B12.trans (b13.mono B12.size)
      have r5g := r5f.later b13
      have r3i := r3h.later b13
      rw [← h0m.out] at h13
      clear h11 h11' h12 b12 b13 r5e r5f r3g r3h hn11
      go_wp2_with (first
        | (with_reducible refine wl_load_row rfl 22 (.tmp 10) g5 22 _ _ rfl rfl r5g Tryd.underlying22 rfl z32.out ?_))
      refine (HS A13 n13 c13 w13 h13 hc13 (by omega) hTb).mono ?_
      rintro e w14 ⟨rfl, b14⟩
      rw [HF.out]
      have r3j := r3i.later b14
      have B14 := B13.trans (b14.mono B13.size)
      have hg3 : w.heap.size ≤ g3 := by omega
      go_wp2_with (first
        | (with_reducible refine wl_store_row rfl 36 (.tmp 8) (.tmp 46) g3 36 _ (bv mk) rfl rfl rfl r3j zm.out lm.out (bv_one _) ?_; intro w15 r15 o15))
      refine bodyPost_ret (v := .agg (bv mk).toArray) ?_ rfl ⟨rfl, ?_⟩
      · exact results_cell_row Tryd.results17 _ _ g3 36 _ (0, 0) _ rfl r15 Tryd.underlying36 rfl zm.out
      · exact B14.trans (o15.below hg3)
end Go.Proofs.YtpnlgmkkikmglabDoor

/-
  Aead: the document's sealing and opening: contracts. Own work.
-/
namespace Go.Proofs.YtpnlgmkkikmglabDoor
open Go.RowKit
set_option maxRecDepth 100000 in
set_option maxHeartbeats 2000000 in
theorem refSeal_any (ks ns ad xs : List Int) (A D : Option Addr) (m c n d : Nat) (w : World) (hk : ks.length = 32) (hn : ns.length = 12) (hk' : IsBy ks) (hn' : IsBy ns)
    (ha : Bs w w.heap.size A m ad) (hab : IsBy ad) (hx : Bs w w.heap.size D n xs) (hxb : IsBy xs) (hm : m ≤ 65536) (hN : n ≤ 65536) :
    Calls Tryd.prog 12 #[.agg (bv ks).toArray, .agg (bv ns).toArray, .slice A m c, .slice D n d] w (RetSeal ks ns ad xs w) := by
  have zk := hide (size_b (P := Tryd.prog) (T := 22) (by kernel_rfl) hk)
  have zn := hide (size_b (P := Tryd.prog) (T := 23) (by kernel_rfl) hn)
  have hbA := built_at1 1 hk hn
  have hX := fun w hx => refXor_any ks ns xs 1 n d D w hk hn hk' hn' (by omega) (by omega) hx hxb (by omega)
  have hlen := hx.1
  have hob := outL_by ks ns xs 64 hxb
  have hMk := fun A5 c5 w ha h5 => refMark_any ks ns ad (outL ks ns 64 xs) A A5 m c xs.length c5 w hk hn hk' hn' ha hab (by omega) h5 hob (by omega)
  have hml := markL_len ks ns ad (outL ks ns 64 xs)
  have zm := hide (size16 hml)
  have lm := hide (show (bv (List.replicate 16 0)).length = (bv (markL ks ns ad (outL ks ns 64 xs))).length by rw [bv_len, bv_len, hml, List.length_replicate])
  have Hml := hide hml
  have Hlen := hide hlen
  have hdef : outL ks ns 64 xs ++ markL ks ns ad (outL ks ns 64 xs) = sealL ks ns ad xs := rfl
  have HDf := hide hdef
  have hfin : ∀ w e w', RetBs (sealL ks ns ad xs) w e w' → ∃ A c, e = .returned (.slice A (xs.length + 16) c) ∧ Hid (Bs w' w'.heap.size A (xs.length + 16) (sealL ks ns ad xs) ∧ Below w.heap.size w w' ∧ xs.length + 16 ≤ c ∧ c ≤ maxLen) := by
    rintro w e w' ⟨A, n, c, rfl, hb, h1, h2, h3⟩
    obtain rfl : n = xs.length + 16 := by rw [← hb.1]; unfold sealL; rw [List.length_append, hml, outL_len]
    exact ⟨A, c, rfl, hb, h3, h1, h2⟩
  have HFin := hide hfin
  clear hk hn hk' hn' hdef hml hlen hfin
  generalize markL ks ns ad (outL ks ns 64 xs) = mk at *
  go_enter Tryd.func12, Tryd.ntmps12
  go_wp2_with (first
    | (with_reducible refine wl_box rfl 22 (.tmp 0) _ (bv ks) rfl rfl rfl ?_; intro g3 w3 r3 a3 l3 b3)
    | (with_reducible refine wl_box rfl 23 (.tmp 1) _ (bv ns) rfl rfl rfl ?_; intro g4 w4 r4 a4 l4 b4; have r3' := r3.later b4)
    | (with_reducible refine wl_load_row rfl 22 (.tmp 4) g3 22 (bv ks) _ rfl rfl r3' Tryd.underlying22 rfl zk.out ?_)
    | (with_reducible refine wl_load_row rfl 23 (.tmp 5) g4 23 (bv ns) _ rfl rfl r4 Tryd.underlying23 rfl zn.out ?_)
    | ((with_reducible refine wl_build rfl 45 [(0, .tmp 22), (1, .const (.int .u32 1)), (2, .tmp 23)] rfl _ ?hv _ hbA ?hk); case hv => rfl))
  have s3 := b3.size
  have B4 := b3.trans (b4.mono s3)
  refine (hX _ (hx.later B4)).mono ?_
  rintro e w5 ⟨A5, c5, rfl, h5, b5, h6, h7⟩
  have B5 := B4.trans (b5.mono B4.size)
  have r3a := r3'.later b5
  have r4a := r4.later b5
  clear hX r3 r3' r4 b3 b4
  go_wp2_with (first
    | (with_reducible refine wl_load_row rfl 22 (.tmp 4) g3 22 (bv ks) _ rfl rfl r3a Tryd.underlying22 rfl zk.out ?_)
    | (with_reducible refine wl_load_row rfl 23 (.tmp 5) g4 23 (bv ns) _ rfl rfl r4a Tryd.underlying23 rfl zn.out ?_))
  refine (hMk A5 c5 w5 (ha.later B5) h5).mono ?_
  rintro e w6 ⟨rfl, b6⟩
  have B6 := B5.trans (b6.mono B5.size)
  have h5' := h5.later b6
  clear hMk r3a r4a b5 b6 h5
  go_wp2_with (first
    | (with_reducible refine wl_alloc rfl 36 _ (bv (List.replicate 16 0)) rfl zB16 rfl ?_; intro g7 w7 r7 a7 l7 b7)
    | (with_reducible refine wl_store_row rfl 36 (.tmp 12) (.tmp 33) g7 36 _ (bv mk) rfl rfl rfl r7 zm.out lm.out (bv_one _) ?_; intro w8 r8 o8))
  have b68 := b7.trans (o8.below a7)
  have B8 := B6.trans (b68.mono B6.size)
  have h5a := h5'.later b68
  have h16 := Hml.out
  have hmkb : Bs w8 w8.heap.size (some ⟨g7, 0, none⟩) 16 mk := by
    have := row_bs_at (n := 16) (off := 0) r8 (by omega) r8.lt
    rw [List.drop_zero, List.take_of_length_le (by omega)] at this
    exact this
  clear h16
  have hxl := Hlen.out
  have hx16 : xs.length + 16 ≤ 140737488355328 := by omega
  refine (both_any A5 (some ⟨g7, 0, none⟩) xs.length 16 c5 16 (outL ks ns 64 xs) mk w8 h5a hmkb hx16).mono ?_
  rw [HDf.out]
  rintro e w10 hr
  obtain ⟨A10, c10, rfl, HH⟩ := HFin.out _ _ _ hr
  have HH2 := hide (And.intro HH.out.1 (And.intro (B8.trans (HH.out.2.1.mono B8.size)) HH.out.2.2))
  clear hr HH hmkb h5a B8 b68 B6 B5 B4 hxl
  go_wp2_with fail
  go_ret2
  exact ⟨A10, c10, rfl, HH2.out⟩
end Go.Proofs.YtpnlgmkkikmglabDoor

/-
  Aead: the document's opening: contract. Own work.
-/
namespace Go.Proofs.YtpnlgmkkikmglabDoor
open Go.RowKit
set_option maxRecDepth 100000 in
theorem refOpen_short (ks ns : List Int) (A D : Option Addr) (m c n d : Nat) (w : World) (hn : n < 16) :
    Calls Tryd.prog 15 #[.agg (bv ks).toArray, .agg (bv ns).toArray, .slice A m c, .slice D n d] w (RetErr 4 w) := by
  have h1 : (n : Int) - 16 < 0 := by omega
  go_enter Tryd.func15, Tryd.ntmps15
  go_wp2_with (first
    | (with_reducible refine wl_box rfl 22 (.tmp 0) _ (bv ks) rfl rfl rfl ?_; intro g3 w3 r3 a3 l3 b3)
    | (with_reducible refine wl_box rfl 23 (.tmp 1) _ (bv ns) rfl rfl rfl ?_; intro g4 w4 r4 a4 l4 b4))
  go_ret2
  exact ⟨rfl, b3.trans (b4.mono b3.size)⟩
def SO6 (ks ns mk : List Int) (A D : Option Addr) (g3 g4 m c q d : Nat) (opn : Nat) (v : Value) : Prop :=
  match opn with
  | 0 => v = .agg (bv ks).toArray
  | 1 => v = .agg (bv ns).toArray
  | 2 => v = .slice A m c
  | 3 => v = .slice D (q + 16) d
  | 4 => v = .int .i64 (q : Int)
  | 5 => v = .slice D q d
  | 6 => v = .agg (bv mk).toArray
  | _ => True

def SO12 (ks ns : List Int) (D : Option Addr) (g3 g4 q d : Nat) (opn : Nat) (v : Value) : Prop :=
  match opn with
  | 0 => v = .agg (bv ks).toArray
  | 1 => v = .agg (bv ns).toArray
  | 2 => v = .agg (atL ks 1 ns).toArray
  | 3 => v = .slice D (q + 16) d
  | 4 => v = .int .i64 (q : Int)
  | 5 => v = .slice D q d
  | _ => True

def FO (ks ns fr : List Int) (q : Nat) (opn : Nat) (v : Value) (w : World) : Prop :=
  match opn with
  | 6 => PrF (.bool true) (outL ks ns 64 fr) v w
  | 7 => PrF (.bool true) (outL ks ns 64 fr) v w
  | 8 => SlF (outL ks ns 64 fr) v w
  | 9 => IsF (.bool true) v w
  | 10 => SlF (outL ks ns 64 fr) v w
  | 11 => IsF (.bool true) v w
  | _ => True
theorem FO_mono (ks ns fr : List Int) (q : Nat) : ∀ j v w w', FO ks ns fr q j v w → Below w.heap.size w w' → FO ks ns fr q j v w' := by
  intro j v w w' h hb
  unfold FO at h ⊢
  split at h
  · exact h.later hb
  · exact h.later hb
  · exact h.later hb
  · exact h.later hb
  · exact h.later hb
  · exact h.later hb
  · trivial

set_option maxRecDepth 100000 in
set_option maxHeartbeats 4000000 in
theorem refOpen_any (ks ns ad xs : List Int) (A D : Option Addr) (m c n d : Nat) (w : World) (hk : ks.length = 32) (hn : ns.length = 12) (hk' : IsBy ks) (hn' : IsBy ns)
    (ha : Bs w w.heap.size A m ad) (hab : IsBy ad) (hx : Bs w w.heap.size D n xs) (hxb : IsBy xs) (hxc : n ≤ d) (hm : m ≤ 65536) (hN : n ≤ 65552) (h16 : 16 ≤ n) :
    Calls Tryd.prog 15 #[.agg (bv ks).toArray, .agg (bv ns).toArray, .slice A m c, .slice D n d] w fun e w' =>
      if markL ks ns ad (xs.take (n - 16)) = xs.drop (n - 16) then RetOpen ks ns (xs.take (n - 16)) w e w' else RetErr 6 w e w' := by
  have zk := hide (size_b (P := Tryd.prog) (T := 22) (by kernel_rfl) hk)
  have zn := hide (size_b (P := Tryd.prog) (T := 23) (by kernel_rfl) hn)
  have hbA := built_at1 1 hk hn
  obtain ⟨q, hq⟩ : ∃ q, n = q + 16 := ⟨n - 16, by omega⟩
  subst hq
  rw [Nat.add_sub_cancel]
  have hq63 : q ≤ 65536 := by omega
  have hfr := hx.take (k := q) (by omega)
  have hfb := hxb.take q
  have hbb := hxb.drop q
  have hlx := hx.1
  have hMk := fun w ha h => refMark_any ks ns ad (xs.take q) A D m c q d w hk hn hk' hn' ha hab (by omega) h hfb (by omega)
  have hX := fun w hx => refXor_any ks ns (xs.take q) 1 q d D w hk hn hk' hn' (by omega) (by omega) hx hfb (by omega)
  have hml := markL_len ks ns ad (xs.take q)
  have hmb : IsBy (markL ks ns ad (xs.take q)) := pS_by _ _
  have zm := hide (size16 hml)
  have lm := hide (show (bv (List.replicate 16 0)).length = (bv (markL ks ns ad (xs.take q))).length by rw [bv_len, bv_len, hml, List.length_replicate])
  have hlq : (xs.take q).length = q := by rw [List.length_take, hx.1]; omega
  have hldr : (xs.drop q).length = 16 := by rw [List.length_drop, hx.1]; omega
  have hdr : ∀ j, (xs.drop q).getD j 0 = xs.getD (q + j) 0 := fun j => by simp [List.getD, List.getElem?_drop]
  have hiff := same_iff (xs := markL ks ns ad (xs.take q)) (ys := xs.drop q)
  rw [hml, hldr] at hiff
  have HI := hide hiff
  have Hml := hide hml
  have Hlq := hide hlq
  have Hdr := hide hdr
  have hS1 := fun w => run_sliceTo (P := Tryd.prog) w 24 5 1 Tryd.underlying24 Tryd.sizeOf5 D (q + 16) d .i64 (q : Int) q rfl (by omega)
  clear hk hn hk' hn' hml hlx hiff hldr hdr hlq
  generalize markL ks ns ad (xs.take q) = mk at *
  generalize xs.take q = fr at *
  generalize xs.drop q = bk at *
  have hc1 : ¬ ((q : Int) < 0) := by omega
  go_enter Tryd.func15, Tryd.ntmps15
  go_wp2_with (first
    | (with_reducible refine wl_box rfl 22 (.tmp 0) _ (bv ks) rfl rfl rfl ?_; intro g3 w3 r3 a3 l3 b3)
    | (with_reducible refine wl_box rfl 23 (.tmp 1) _ (bv ns) rfl rfl rfl ?_; intro g4 w4 r4 a4 l4 b4; have r3' := r3.later b4))
  have B4 := b3.trans (b4.mono b3.size)
  clear r3 b3 b4
  have r3 := r3'
  replace hx := hx.later B4
  replace hfr := hfr.later B4
  replace ha := ha.later B4
  clear r3'
  rename_i Q1 K1 hK1
  refine wp_region_vals [6, 7, 8] (SO6 ks ns mk A D g3 g4 m c q d) (JA w4 36 (bv (List.replicate 16 0)) (bv mk) 1 2) (by kernel_rfl) (by kernel_rfl) (by kernel_rfl) (by kernel_rfl) (by kernel_rfl) ⟨(Below.refl _ _).drew, fun h => by cases h⟩ ?obs ?he
  case obs =>
    refine ⟨?_, ?_, ?_, ?_, ?_, ?_, ?_, ?_, ?_, trivial⟩
    · exact .inl ⟨by kernel_rfl, fun L a1 w1 n h => ⟨_, rfl, run_loadRow 22 (.tmp 4) g3 22 _ _ rfl (h.var n 4 (by kernel_rfl)) (r3.later h.inv.1) Tryd.underlying22 rfl (zk.out)⟩⟩
    · exact .inl ⟨by kernel_rfl, fun L a1 w1 n h => ⟨_, rfl, run_loadRow 23 (.tmp 5) g4 23 _ _ rfl (h.var n 5 (by kernel_rfl)) (r4.later h.inv.1) Tryd.underlying23 rfl (zn.out)⟩⟩
    · exact .inl ⟨by kernel_rfl, fun L a1 w1 n h => ⟨_, rfl, run_move (.tmp 2) rfl (h.var n 2 (by kernel_rfl))⟩⟩
    · exact .inl ⟨by kernel_rfl, fun L a1 w1 n h => ⟨_, rfl, run_move (.tmp 3) rfl (h.var n 3 (by kernel_rfl))⟩⟩
    · exact .inl ⟨by kernel_rfl, fun L a1 w1 n h => ⟨_, rfl, run_move (.tmp 10) rfl (h.var n 10 (by kernel_rfl))⟩⟩
    · refine .inl ⟨by kernel_rfl, fun L a1 w1 n h => ⟨.slice D q d, rfl, ?_⟩⟩
      have e0 : a1.eval (.tmp 30) = _ := h.dep n 3 30 (by kernel_rfl) rfl
      have e1 : a1.eval (.tmp 31) = _ := h.dep n 4 31 (by kernel_rfl) rfl
      unfold execOp
      simp only [e0, e1, Option.map_some, Option.map_none, Sem.run_bind, hS1, Result.andThen_ok, Sem.run_pure]
    · refine .inr fun L a1 w1 n h K hK => ?_
      have e0 : a1.eval (.tmp 27) = .agg (bv ks).toArray := h.dep n 0 27 (by kernel_rfl) rfl
      have e1 : a1.eval (.tmp 28) = .agg (bv ns).toArray := h.dep n 1 28 (by kernel_rfl) rfl
      have e2 : a1.eval (.tmp 29) = .slice A m c := h.dep n 2 29 (by kernel_rfl) rfl
      have e3 : a1.eval (.tmp 32) = .slice D q d := h.dep n 5 32 (by kernel_rfl) rfl
      refine st_call 17 _ _ #[.agg (bv ks).toArray, .agg (bv ns).toArray, .slice A m c, .slice D q d] rfl Tryd.call17 ?_ (hMk w1 (ha.later h.inv.1) (hfr.later h.inv.1)) ?_
      · simp only [List.map_toArray, List.map_cons, List.map_nil, e0, e1, e2, e3]
      · rintro e w3 ⟨rfl, b9⟩
        exact ⟨_, rfl, hK _ w3 rfl (JA.grow h.inv b9 rfl rfl rfl)⟩
    · refine .inr fun L a1 w1 n h K hK => ?_
      have no : L.getD 8 false = false := n.later (by kernel_rfl)
      refine st_alloc 36 _ _ rfl zB16 rfl ?_
      intro g7 w3 r7 a7 l7 b7
      exact hK _ _ trivial (JA.made h.inv b7 r7 a7 rfl no)
    · refine .inr fun L a1 w1 n h K hK => ?_
      have yes : L.getD 7 false = true := n.dep (by kernel_rfl)
      have no : L.getD 8 false = false := n.not_yet
      obtain ⟨g7, p7, n7, r7⟩ := h.inv.2 yes
      have r7' : Row w1 36 g7 (bif L.getD 8 false then bv mk else _) := r7
      rw [no, cond_false] at r7'
      refine st_store_row 36 (.tmp 11) (.tmp 33) g7 36 _ (bv mk) rfl p7 (h.dep n 6 33 (by kernel_rfl) rfl) r7' (zm.out) (lm.out) (bv_one _) ?_
      intro w3 r3 o3
      exact hK undef w3 trivial (JA.filled h.inv o3 n7 r3 p7 rfl)
  case he =>
    intro V w5 hV hJ
    obtain ⟨hb5, hJ2⟩ := hJ
    obtain ⟨g7, p7, n7, r7⟩ := hJ2 rfl
    have hp : V 7 = .pointer (some ⟨g7, 0, none⟩) := p7
    have r7' : Row w5 36 g7 (bv mk) := r7
    clear hJ2 p7 r7 hV
    simp only [putOps, List.setIfInBounds_toArray, List.set_cons_succ, List.set_cons_zero]
    rw [hp]
    refine hK1 _ _ ?_
    clear hK1 hp
    replace hx := hx.later hb5
    replace hfr := hfr.later hb5
    replace r3 := r3.later hb5
    replace r4 := r4.later hb5
    have B5 := B4.trans (hb5.mono B4.size)
    go_wp2_with fail
    go_loopw [12] (fun iv wr => ∃ i : Nat, i ≤ 16 ∧ iv = .int .i64 i ∧ (∀ j, j < i → mk.getD j 0 = bk.getD j 0) ∧ Below w5.heap.size w5 wr) (fun iv _ => 16 - (intOf iv).toNat)
    case atStart => exact ⟨0, Nat.zero_le _, rfl, fun j hj => absurd hj (by omega), Below.refl _ _⟩
    case round =>
      obtain ⟨i, hi, rfl, hall, br⟩ := hrel
      by_cases hlt : i < 16
      · have hx' := hx.later br
        obtain ⟨b, o, rfl, lD, cD⟩ := hx'.2 (by omega)
        have c1 := cD (q + i) (by omega)
        rw [← Hdr.out i] at c1
        have c2 := (r7'.later br).cell (vk_get (kd := .u8) (xs := mk) (j := i) (by rw [Hml.out]; exact hlt))
        by_cases heq : mk.getD i 0 = bk.getD i 0
        · have hnext : ∀ j, j < i + 1 → mk.getD j 0 = bk.getD j 0 := fun j hj => by
            by_cases hji : j = i
            · subst hji; exact heq
            · exact hall j (by omega)
          rw [← heq] at c1
          have HN := hide hnext
          clear hnext hall heq cD
          generalize mk.getD i 0 = y at *
          go_wp2_with fail
          go_quiet (fail)
          have bq := below_drewn br nq
          go_wp2
          go_roundw
          case rel => exact ⟨i + 1, by omega, by go_num, HN.out, bq⟩
          case measure => simp [intOf]; omega
        · have hne : ¬ mk = bk := fun h => heq (by rw [h])
          have HN := hide hne
          clear hne hall cD
          generalize mk.getD i 0 = y at *
          generalize bk.getD i 0 = z at *
          go_wp2_with fail
          go_quiet (fail)
          have bq := below_drewn br nq
          go_wp2
          go_ret2
          try rw [if_neg HN.out]
          first | exact ⟨rfl, B5.trans (bq.mono B5.size)⟩ | exact ⟨trivial, B5.trans (bq.mono B5.size)⟩
      · obtain rfl : i = 16 := by omega
        have heq : mk = bk := HI.out.2 ⟨by first | rfl | trivial, fun j hj => hall j (by simpa using hj)⟩
        have HN := hide heq
        clear heq hall r7'
        replace hfr := hfr.later br
        replace r3 := r3.later br
        replace r4 := r4.later br
        have B6 := B5.trans (br.mono B5.size)
        clear hx hb5 br B5 B4
        go_wp2_with fail
        rename_i Q1 K1 hK1
        refine wp_region_vals [6, 7, 8, 9, 10, 11] (SO12 ks ns D g3 g4 q d) (JF wr [6, 7, 8, 9, 10, 11] (FO ks ns fr q)) (by kernel_rfl) (by kernel_rfl) (by kernel_rfl) (by kernel_rfl) (by kernel_rfl) (JF.start _) ?obs ?he
        case obs =>
          refine ⟨?_, ?_, ?_, ?_, ?_, ?_, ?_, ?_, ?_, ?_, ?_, ?_, trivial⟩
          · exact .inl ⟨by kernel_rfl, fun L a1 w1 n h => ⟨_, rfl, run_loadRow 22 (.tmp 4) g3 22 _ _ rfl (h.var n 4 (by kernel_rfl)) (r3.later h.inv.1) Tryd.underlying22 rfl (zk.out)⟩⟩
          · exact .inl ⟨by kernel_rfl, fun L a1 w1 n h => ⟨_, rfl, run_loadRow 23 (.tmp 5) g4 23 _ _ rfl (h.var n 5 (by kernel_rfl)) (r4.later h.inv.1) Tryd.underlying23 rfl (zn.out)⟩⟩
          · refine .inl ⟨by kernel_rfl, fun L a1 w1 n h => ⟨.agg (atL ks 1 ns).toArray, rfl, ?_⟩⟩
            have e0 : a1.eval (.tmp 49) = _ := h.dep n 0 49 (by kernel_rfl) rfl
            have e1 : a1.eval (.tmp 50) = _ := h.dep n 1 50 (by kernel_rfl) rfl
            exact run_buildX 45 [(0, .tmp 49), (1, .const (.int .u32 1)), (2, .tmp 50)] rfl _ (by simp only [List.map_cons, List.map_nil, e0, e1]; rfl) _ hbA
          · exact .inl ⟨by kernel_rfl, fun L a1 w1 n h => ⟨_, rfl, run_move (.tmp 3) rfl (h.var n 3 (by kernel_rfl))⟩⟩
          · exact .inl ⟨by kernel_rfl, fun L a1 w1 n h => ⟨_, rfl, run_move (.tmp 10) rfl (h.var n 10 (by kernel_rfl))⟩⟩
          · refine .inl ⟨by kernel_rfl, fun L a1 w1 n h => ⟨.slice D q d, rfl, ?_⟩⟩
            have e0 : a1.eval (.tmp 52) = _ := h.dep n 3 52 (by kernel_rfl) rfl
            have e1 : a1.eval (.tmp 53) = _ := h.dep n 4 53 (by kernel_rfl) rfl
            unfold execOp
            simp only [e0, e1, Option.map_some, Option.map_none, Sem.run_bind, hS1, Result.andThen_ok, Sem.run_pure]
          · refine .inr fun L a1 w1 n h K hK => ?_
            have e0 : a1.eval (.tmp 51) = .agg (atL ks 1 ns).toArray := h.dep n 2 51 (by kernel_rfl) rfl
            have e1 : a1.eval (.tmp 54) = .slice D q d := h.dep n 5 54 (by kernel_rfl) rfl
            refine JF.call (FO_mono ks ns fr q) h hK 55 rfl 21 _ _ #[.agg (atL ks 1 ns).toArray, .slice D q d] rfl Tryd.call21 ?_ (hX w1 (hfr.later h.inv.1)) ?_
            · simp only [List.map_toArray, List.map_cons, List.map_nil, e0, e1]
            · rintro e w3 ⟨A9, c9, rfl, h9, b9, l9, m9⟩
              exact ⟨_, rfl, trivial, ⟨A9, c9, by rw [outL_len], by rw [outL_len]; exact h9, by rw [outL_len]; exact l9, m9⟩, b9⟩
          · refine .inr fun L a1 w1 n h K hK => ?_
            obtain ⟨A9, c9, v9, h9⟩ := JF.get h n 6 55 (by kernel_rfl) (by kernel_rfl) rfl
            exact JF.run (FO_mono ks ns fr q) h hK 48 rfl (.tuple #[.slice A9 (outL ks ns 64 fr).length c9, .bool true]) (run_move (.tmp 55) rfl v9) trivial ⟨A9, c9, rfl, h9⟩
          · refine .inr fun L a1 w1 n h K hK => ?_
            obtain ⟨A9, c9, v9, h9⟩ := JF.get h n 7 48 (by kernel_rfl) (by kernel_rfl) rfl
            exact JF.run (FO_mono ks ns fr q) h hK 56 rfl (.slice A9 (outL ks ns 64 fr).length c9) (run_extractA (v := .slice A9 (outL ks ns 64 fr).length c9) (.tmp 48) 0 _ rfl v9 rfl) trivial ⟨A9, c9, rfl, h9⟩
          · refine .inr fun L a1 w1 n h K hK => ?_
            obtain ⟨A9, c9, v9, h9⟩ := JF.get h n 7 48 (by kernel_rfl) (by kernel_rfl) rfl
            exact JF.run (FO_mono ks ns fr q) h hK 57 rfl (.bool true) (run_extractA (v := .bool true) (.tmp 48) 1 _ rfl v9 rfl) trivial rfl
          · refine .inr fun L a1 w1 n h K hK => ?_
            obtain ⟨A9, c9, v9, h9⟩ := JF.get h n 8 56 (by kernel_rfl) (by kernel_rfl) rfl
            exact JF.run (FO_mono ks ns fr q) h hK 13 rfl (.slice A9 (outL ks ns 64 fr).length c9) (run_assign (.tmp 56) rfl v9) trivial ⟨A9, c9, rfl, h9⟩
          · refine .inr fun L a1 w1 n h K hK => ?_
            obtain v9 := JF.get h n 9 57 (by kernel_rfl) (by kernel_rfl) rfl
            exact JF.run (FO_mono ks ns fr q) h hK 14 rfl (.bool true) (run_assign (.tmp 57) rfl v9) trivial rfl
        case he =>
          intro V w7 hV hJ
          obtain ⟨A9, c9, v9, h9, l9, m9⟩ := JF.last hJ 10 13 rfl rfl
          have hb7 := hJ.1
          clear hV hJ
          simp only [putOps, List.setIfInBounds_toArray, List.set_cons_succ, List.set_cons_zero]
          rw [v9]
          refine hK1 _ _ ?_
          clear hK1 v9
          have B7 := hide (B6.trans (hb7.mono B6.size))
          clear hb7 B6
          go_wp2_with fail
          go_ret2
          try rw [if_pos HN.out]
          rw [outL_len] at h9 l9
          exact ⟨A9, c9, by first | rfl | (rw [outL_len]; rfl), h9, B7.out, l9, m9⟩
end Go.Proofs.YtpnlgmkkikmglabDoor

/-
  Aead: what was sealed is opened; the laws' own 'awake': contracts. Own work.
-/
namespace Go.Proofs.YtpnlgmkkikmglabDoor
open Go.RowKit
theorem sealL_len (ks ns ad xs : List Int) : (sealL ks ns ad xs).length = xs.length + 16 := by unfold sealL; rw [List.length_append, outL_len, markL_len]
theorem sealL_by (ks ns ad xs : List Int) (h : IsBy xs) : IsBy (sealL ks ns ad xs) := (outL_by ks ns xs 64 h).app (pS_by _ _)
theorem sealL_take (ks ns ad xs : List Int) : (sealL ks ns ad xs).take xs.length = outL ks ns 64 xs := by
  unfold sealL
  rw [List.take_append_of_le_length (by rw [outL_len]; exact Nat.le_refl _), List.take_of_length_le (by rw [outL_len]; exact Nat.le_refl _)]
theorem sealL_drop (ks ns ad xs : List Int) : (sealL ks ns ad xs).drop xs.length = markL ks ns ad (outL ks ns 64 xs) := by
  unfold sealL
  have := outL_len ks ns 64 xs
  rw [← this, List.drop_left]
/-- What Open hands back of what was sealed. -/
def RetBack (xs : List Int) (w : World) (e : Ending) (w' : World) : Prop :=
  ∃ A c, e = .returned (.tuple #[.slice A xs.length c, .int .i64 0]) ∧ Bs w' w'.heap.size A xs.length xs ∧ Below w.heap.size w w'
set_option maxRecDepth 100000 in
theorem open_back (ks ns ad xs : List Int) (A D : Option Addr) (m c d : Nat) (w : World) (hT : Tabs w) (hk : ks.length = 32) (hn : ns.length = 12) (hk' : IsBy ks) (hn' : IsBy ns)
    (ha : Bs w w.heap.size A m ad) (hab : IsBy ad) (hac : m ≤ c) (hx : Bs w w.heap.size D (xs.length + 16) (sealL ks ns ad xs)) (hxb : IsBy xs) (hxc : xs.length + 16 ≤ d) (hm : m ≤ 65536) (hN : xs.length ≤ 65536) :
    Calls Tryd.prog 14 #[.agg (bv ks).toArray, .agg (bv ns).toArray, .slice A m c, .slice D (xs.length + 16) d] w (RetBack xs w) := by
  refine (open_any ks ns ad (sealL ks ns ad xs) A D m c (xs.length + 16) d w hT hk hn hk' hn' ha hab hac hx (sealL_by ks ns ad xs hxb) hxc hm (by omega) (by omega)).mono ?_
  intro e w' h
  rw [Nat.add_sub_cancel, sealL_take, sealL_drop, if_pos rfl] at h
  obtain ⟨A', c', he, hb, hbel, _, _⟩ := h
  rw [outL_twice _ _ _ _ hxb, outL_len] at hb
  rw [outL_len] at he
  exact ⟨A', c', he, hb, hbel⟩
def akey : List Int := 1 :: List.replicate 31 0
def anon : List Int := 2 :: List.replicate 11 0
theorem bKy : Tryd.prog.built 22 [(0, .int .u8 1)] = some (bv akey).toArray := by kernel_rfl
theorem bNo : Tryd.prog.built 23 [(0, .int .u8 2)] = some (bv anon).toArray := by kernel_rfl
set_option maxRecDepth 100000 in
set_option maxHeartbeats 2000000 in
theorem awake_any (w : World) (hT : Tabs w) : Calls Tryd.prog 9 #[] w fun e w' => e = .returned (.bool true) ∧ Below w.heap.size w w' := by
  have hk : akey.length = 32 := rfl
  have hn : anon.length = 12 := rfl
  have hkb : IsBy akey := by_of_all (by decide)
  have hnb : IsBy anon := by_of_all (by decide)
  have bk1 := bKy
  have bn1 := bNo
  have P1 := fun A D w hT ha hx => seal_any akey anon [97, 100] [104, 101, 108, 108, 111] A D 2 2 5 5 w hT hk hn hkb hnb ha (by_of_all (by decide)) (Nat.le_refl _) hx (by_of_all (by decide)) (Nat.le_refl _) (by decide) (by decide)
  have P2 := fun A D d w hT ha hx hd => open_back akey anon [97, 100] [104, 101, 108, 108, 111] A D 2 2 d w hT hk hn hkb hnb ha (by_of_all (by decide)) (Nat.le_refl _) hx (by_of_all (by decide)) hd (by decide) (by decide)
  have P3 := fun A w => open_short akey anon A none 2 2 0 0 w (by decide)
  have hcv : ∀ (w : World) (A : Option Addr) (c : Nat), Bs w w.heap.size A 5 [104, 101, 108, 108, 111] → (convert 24 9 (.slice A 5 c)).run Tryd.prog w = .ok (.string ⟨#[104, 101, 108, 108, 111]⟩) w := fun w A c h => by
    rw [h.convert c 24 5 9 Tryd.underlying24 Tryd.underlying5 Tryd.underlying9]
    congr 1
  generalize akey = K at *
  generalize anon = N at *
  clear hk hn hkb hnb
  have kc := fun (w : World) (C : Array Value) (n c : Nat) => Lib.run_convert_bytes_const (P := Tryd.prog) w 24 5 C n c Tryd.underlying24 Tryd.underlying5
  have kc2 : ∀ (w : World) (o : Obj) (C : Array Value) (n c : Nat), (convert 24 24 (.slice (some ⟨w.heap.size + 1, 0, none⟩) n c)).run Tryd.prog ((w.alloc o).alloc (.cells C 5)) = .ok (.slice (some ⟨w.heap.size + 1, 0, none⟩) n c) ((w.alloc o).alloc (.cells C 5 (C.size, C.size + 1))) := fun w o C n c => by
    have := kc (w.alloc o) C n c
    rwa [show (w.alloc o).heap.size = w.heap.size + 1 by simp] at this
  go_enter Tryd.func9, Tryd.ntmps9
  go_wp2_with (first
    | ((with_reducible refine wl_build rfl 22 [(0, .const (.int .u8 1))] rfl _ ?hv _ bk1 ?hk); case hv => rfl)
    | ((with_reducible refine wl_build rfl 23 [(0, .const (.int .u8 2))] rfl _ ?hv2 _ bn1 ?hk2); case hv2 => rfl))
  have hb1 : Below w.heap.size w ((w.alloc (.cells #[.int .u8 97, .int .u8 100] 5 (2, 3))).alloc (.cells #[.int .u8 104, .int .u8 101, .int .u8 108, .int .u8 108, .int .u8 111] 5 (5, 6))) := ((Below.refl _ _).alloc (Nat.le_refl _) _).alloc (by simp) _
  have hx1 := Bs.lit' w 5 (2, 3) [97, 100] #[.int .u8 97, .int .u8 100] 2 _ rfl rfl rfl
  have hx1' := hx1.new (.cells #[.int .u8 104, .int .u8 101, .int .u8 108, .int .u8 108, .int .u8 111] 5 (5, 6))
  have hx2 := Bs.lit' (w.alloc (.cells #[.int .u8 97, .int .u8 100] 5 (2, 3))) 5 (5, 6) [104, 101, 108, 108, 111] #[.int .u8 104, .int .u8 101, .int .u8 108, .int .u8 108, .int .u8 111] 5 (w.heap.size + 1) (by simp) rfl rfl
  refine (P1 _ _ _ (hT.later hb1) hx1' hx2).mono ?_
  rintro e w5 ⟨A5, c5, rfl, h5, b5, l5, m5⟩
  have B5 := hb1.trans (b5.mono hb1.size)
  have T5 := hT.later B5
  clear hb1 b5 hx1 hx1' hx2 P1
  go_wp2_with (first
    | ((with_reducible refine wl_build rfl 22 [(0, .const (.int .u8 1))] rfl _ ?hv3 _ bk1 ?hk3); case hv3 => rfl)
    | ((with_reducible refine wl_build rfl 23 [(0, .const (.int .u8 2))] rfl _ ?hv4 _ bn1 ?hk4); case hv4 => rfl))
  have hb6 : Below w5.heap.size w5 (w5.alloc (.cells #[.int .u8 97, .int .u8 100] 5 (2, 3))) := (Below.refl _ _).alloc (Nat.le_refl _) _
  have hx6 := Bs.lit' w5 5 (2, 3) [97, 100] #[.int .u8 97, .int .u8 100] 2 _ rfl rfl rfl
  refine (P2 _ A5 c5 _ (T5.later hb6) hx6 (h5.later hb6) l5).mono ?_
  rintro e w7 ⟨A7, c7, rfl, h7, b7⟩
  have B6 := B5.trans (hb6.mono B5.size)
  have B7 := B6.trans (b7.mono B6.size)
  clear hb6 hx6 h5 P2 b7 B6 B5 T5
  go_wp2_with (first
    | ((with_reducible refine wl_build rfl 22 [(0, .const (.int .u8 1))] rfl _ ?hv5 _ bk1 ?hk5); case hv5 => rfl)
    | ((with_reducible refine wl_build rfl 23 [(0, .const (.int .u8 2))] rfl _ ?hv6 _ bn1 ?hk6); case hv6 => rfl))
  refine (P3 _ _).mono ?_
  rintro e w8 ⟨rfl, b8⟩
  have hb8 : Below w7.heap.size w7 (w7.alloc (.cells #[.int .u8 97, .int .u8 98] 5 (2, 3))) := (Below.refl _ _).alloc (Nat.le_refl _) _
  have h8 := (h7.later hb8).later b8
  have hcv8 := hcv w8 A7 c7 h8
  have B8 := B7.trans (hb8.mono B7.size)
  have B9 := B8.trans (b8.mono B8.size)
  clear hb8 b8 h7 P3 B7 B8 h8 hcv kc kc2
  go_wp2_with (first | rw [hcv8])
  go_ret
  exact ⟨rfl, B9⟩
end Go.Proofs.YtpnlgmkkikmglabDoor
