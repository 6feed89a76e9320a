/-
  Several own texts in one: ZStream3, ZXor, AeadB, PolyB, PolyC, PolyD, PolyE, PolyF, PolyG, PolyH, PolyI, PolyJ, PolyK, Pack64, PolyL, PolyO, AeadC, PolyP0, AeadD, AeadE, AeadG. Own work.
-/
import Derived.Laws.Externs
import Derived.Shelf.Bits.Mul64
import Derived.Laws.Bits64b
import Derived.Laws.BitsAllLaws
import Derived.Deep.QuietTactic
import Derived.BigQuiet
import Derived.Test.YtooooncmjhcdbaaGreatDoorGC
import Derived.Test.YtooooncmjhcdbaaGreatDoorGA
set_option linter.unusedVariables false
set_option linter.unusedSimpArgs false
/-
  A stream, last part: xoring. Own work.
-/
namespace Go.Proofs.YtooooncmjhcdbaaGreatDoor
open Go.RowKit
set_option maxRecDepth 100000 in
set_option maxHeartbeats 2000000 in
theorem sxor_any (ks ns xs : List Int) (l g n c B : Nat) (A : Option Addr) (w : World) (hT : Tabs w) (hk : ks.length = 32) (hn : ns.length = 12) (hk' : IsBy ks) (hn' : IsBy ns) (hl : l ≤ 274877906944)
    (hr : Row w 132 g (strm ks ns l)) (h2 : max 2 1 + 1 ≤ g) (hx : Bs w B A n xs) (hB : B ≤ g) (hby : IsBy xs) (hfit : n ≤ l) (hn0 : 0 < n) :
    Calls Tryz.prog 53 #[.pointer (some ⟨g, 0, none⟩), .slice A n c] w (RetXor ks ns l g xs w) := by
  obtain ⟨bA, oA, rfl, hbA, hxc⟩ := hx.2 hn0
  clear hxc
  obtain ⟨i0, hi, hz, hsz, hbys⟩ := u8_info
  have hln : i0.bytes * n ≤ 281474976710656 := by rw [hbys]; omega
  have h63 : n ≤ 9223372036854775807 := by omega
  have hg := hr.lt
  have Hx := hide hx.1
  have hd : decide (l < n) = false := by simp; omega
  go_enter Tryz.func53, Tryz.ntmps53
  go_wp2_with (first
    | (go_at_call 66; refine (sleft_any ks ns l g _ hk hn hr).mono ?_; rintro e w' ⟨rfl, rfl⟩)
    | ((with_reducible refine wl_make rfl 25 _ _ rfl 5 i0 (Value.int IntKind.u8 0) Tryz.underlying25 hi hz hsz zc0 IntKind.i64 IntKind.i64 0 n _ _ rfl rfl zI rfl (Nat.zero_le _) hln h63 ?_); intro go w6 r6 a6 l6 b6))
  have r6' : Row w6 5 go (bv (outP ks ns (pos l) xs 0 ++ List.replicate (n - 0) 0)) := by simpa [outP, bv] using r6
  have hr6 := hr.later b6
  have B6 := But.of b6 g
  clear r6 b6
  go_loopw [6] (fun o wr => ∃ j : Nat, j ≤ n ∧ o = .slice (some ⟨go, 0, none⟩) j n ∧ Row wr 5 go (bv (outP ks ns (pos l) xs j ++ List.replicate (n - j) 0)) ∧ Row wr 132 g (strm ks ns ((l - j : Nat) : Int)) ∧ But g w wr) (fun o _ => n - lenV o)
  case atStart => exact ⟨0, by omega, rfl, r6', hr6, B6⟩
  case round =>
    clear r6' hr6 B6 l6
    obtain ⟨j, hj, rfl, ro, rg, bw⟩ := hrel
    by_cases hlt : j < n
    · have hsz2 := bw.size
      have hTr := hT.below (bw.below h2 hT.1) (Nat.le_refl _)
      have hnx := next_any ks ns (l - j) (n - j) g wr hTr hk hn hk' hn' (by omega) (by omega) (by omega) (by omega) rg h2
      rw [show ((n - j : Nat) : Int) = (n : Int) - (j : Int) from by omega] at hnx
      have Hnx := hide hnx
      clear hnx
      go_wp2_with fail
      refine Hnx.out.mono ?_
      rintro e w8 ⟨b, o, m, cm, rfl, hb8, hm8, hs8, rg8, bw8⟩
      clear Hnx rg
      have hgo : go < wr.heap.size := ro.lt
      have hm1 : 0 < m := by omega
      have hm2 : j + m ≤ n := by omega
      have ro8 := ro.but bw8 (by omega)
      have bw9 := bw.trans bw8
      rw [show l - j - m = l - (j + m) from by omega] at rg8
      rw [pos_sub (show j ≤ l by omega) hl] at hs8
      clear bw bw8 ro hm8
      go_wp2_with fail
      go_loopw [6, 31] (fun ov i wr => ∃ q : Nat, q ≤ m ∧ i = .int .i64 q ∧ ov = .slice (some ⟨go, 0, none⟩) (j + q) n ∧ Row wr 5 go (bv (outP ks ns (pos l) xs (j + q) ++ List.replicate (n - (j + q)) 0)) ∧ Row wr 132 g (strm ks ns ((l - (j + m) : Nat) : Int)) ∧ Bs wr wr.heap.size (some ⟨b, o, none⟩) m (ksl ks ns (pos l + j) m) ∧ But g w wr) (fun _ i _ => m - (intOf i).toNat)
      case atStart => exact ⟨0, by omega, rfl, rfl, ro8, rg8, hs8, bw9⟩
      case round =>
        clear ro8 rg8 hs8 bw9
        obtain ⟨q, hq, rfl, rfl, ro, rg, hs, bw⟩ := hrel
        by_cases hlq : q < m
        · have hjq : j + q < n := by omega
          have hxw := hx.below (bw.below (show B ≤ g from hB) (by omega)) 
          obtain ⟨b', o', e1, _, hcd⟩ := hxw.at_ hjq
          injection e1 with e1
          injection e1 with e1 e2 e3
          subst e1
          subst e2
          obtain ⟨b', o', e1, _, hck⟩ := hs.at_ hlq
          injection e1 with e1
          injection e1 with e1 e2 e3
          subst e1
          subst e2
          rw [ksl_get hlq] at hck
          have hX := by_getD xs hby (j + q)
          have hK := kbyte_by ks ns (pos l + j + q)
          have hv := hide (show bits .xor .u8 (xs.getD (j + q) 0) (kbyte ks ns (pos l + j + q)) = bits .xor .u8 (xs.getD (j + q) 0) (kbyte ks ns (pos l + (j + q))) by rw [Nat.add_assoc])
          rw [fillHead hjq] at ro
          generalize hXx : xs.getD (j + q) 0 = X at *
          generalize hKx : kbyte ks ns (pos l + j + q) = Y at *
          have hXx' := hide hXx
          clear hXx hKx
          go_wp2_with (first
            | ((with_reducible refine wl_build1 rfl 25 (.tmp 42) rfl 5 i0 (Value.int IntKind.u8 0) (Value.int IntKind.u8 (bits .xor .u8 X Y)) Tryz.underlying25 hi hz hsz zc0 rfl rfl ?_); intro gn w9 r9 a9 l9 b9)
            | ((with_reducible refine wl_append rfl (.tmp 35) (.tmp 43) 25 rfl 5 i0 Tryz.underlying25 hi hsz go (j + q) n 1 1 ⟨gn, 0, none⟩ rfl rfl _ _ _ [Value.int IntKind.u8 (bits .xor .u8 X Y)] (ro.later b9) (by rw [bv_len, outP_len]) rfl rfl (src_one r9) (one_int _ _) (Nat.succ_le_of_lt hjq) ?_); intro w10 r10 o10))
          rw [fillStep hjq _ (by rw [hv.out, hXx'.out])] at r10
          have hsz10 : w10.heap.size = w9.heap.size := o10.size
          have hs10 := (hs.later b9).keepAt (w' := w10) (o10.block b (by omega))
          rw [← hsz10] at hs10
          have rg10 := (rg.later b9).only o10 (by omega)
          have bw10 := (bw.later b9).new o10 (by omega)
          go_roundw
          case rel => exact ⟨q + 1, by omega, by go_num, rfl, r10, rg10, hs10, bw10⟩
          case measure => simp [intOf]; omega
        · go_wp2_with fail
          obtain rfl : q = m := by omega
          go_roundw
          case rel => exact ⟨j + q, hm2, rfl, ro, rg, bw⟩
          case measure => simp [lenV]; omega
    · go_wp2_with fail
      go_ret2
      obtain rfl : j = n := by omega
      have e := Hx.out
      rw [Nat.sub_self, List.replicate_zero, List.append_nil] at ro
      subst e
      refine ⟨_, _, rfl, a6, bs_mid (q := 0) ro (by rw [List.drop_zero, List.take_of_length_le (by rw [outP_len]; exact Nat.le_refl _), outP_all]) (by rw [outP_len]; omega), rg, bw, Nat.le_refl _, by simp only [maxLen]; omega⟩
theorem sxor_all (ks ns xs : List Int) (l g n c B : Nat) (A : Option Addr) (w : World) (hT : Tabs w) (hk : ks.length = 32) (hn : ns.length = 12) (hk' : IsBy ks) (hn' : IsBy ns) (hl : l ≤ 274877906944)
    (hr : Row w 132 g (strm ks ns l)) (h2 : max 2 1 + 1 ≤ g) (hx : Bs w B A n xs) (hB : B ≤ g) (hby : IsBy xs) (hfit : n ≤ l) :
    Calls Tryz.prog 53 #[.pointer (some ⟨g, 0, none⟩), .slice A n c] w (RetXor ks ns l g xs w) := by
  rcases Nat.eq_zero_or_pos n with h0 | h0
  · subst h0
    obtain rfl : xs = [] := List.eq_nil_of_length_eq_zero hx.1
    exact sxor_none ks ns l g c A w hk hn hl hr
  · exact sxor_any ks ns xs l g n c B A w hT hk hn hk' hn' hl hr h2 hx hB hby hfit h0
end Go.Proofs.YtooooncmjhcdbaaGreatDoor


/-
  Xoring with a stream from a counter on; the example. Own work.
-/
namespace Go.Proofs.YtooooncmjhcdbaaGreatDoor
open Go.RowKit
set_option maxRecDepth 100000 in
set_option maxHeartbeats 1000000 in
theorem xor_any (ks ns xs : List Int) (c n cp : Nat) (A : Option Addr) (w : World) (hT : Tabs w) (hk : ks.length = 32) (hn : ns.length = 12) (hk' : IsBy ks) (hn' : IsBy ns) (hc : c < 4294967296)
    (hx : Bs w w.heap.size A n xs) (hby : IsBy xs) (hfit : n ≤ (4294967296 - c) * 64) :
    Calls Tryz.prog 41 #[.agg (bv ks).toArray, .int .u32 (c : Int), .agg (bv ns).toArray, .slice A n cp] w (RetXorF ks ns c xs w) := by
  have zk := hide (size_b (P := Tryz.prog) (T := 42) (by kernel_rfl) hk)
  have zn := hide (size_b (P := Tryz.prog) (T := 45) (by kernel_rfl) hn)
  have hN := fun w => new_any ks ns c w hk hn ⟨by omega, by omega⟩
  have Hk := hide hk
  have Hn := hide hn
  clear hk hn
  go_enter Tryz.func41, Tryz.ntmps41
  go_wp2_with (first
    | (with_reducible refine wl_box rfl 42 (.tmp 0) _ (bv ks) rfl rfl rfl ?_; intro g3 w3 r3 a3 l3 b3)
    | (with_reducible refine wl_box rfl 45 (.tmp 2) _ (bv ns) rfl rfl rfl ?_; intro g5 w5 r5 a5 l5 b5)
    | (with_reducible refine wl_load_row rfl 42 (.tmp 4) g3 42 (bv ks) _ rfl rfl (r3.later b5) Tryz.underlying42 rfl zk.out ?_)
    | (with_reducible refine wl_load_row rfl 45 (.tmp 6) g5 45 (bv ns) _ rfl rfl r5 Tryz.underlying45 rfl zn.out ?_))
  refine (hN _).mono ?_
  rintro e w6 ⟨g, rfl, hg, hr, b6⟩
  rw [left_cast c hc] at hr
  have B6 := (b3.trans (b5.mono b3.size)).trans (b6.mono (Nat.le_trans b3.size b5.size))
  have s3 := b3.size
  have s5 := b5.size
  have hx6 := hx.below B6
  have hpos := hide (pos_left c hc)
  clear hN r3 r5 b3 b5 b6
  go_wp2_with fail
  have hfin : ∀ e w', RetXor ks ns ((4294967296 - c) * 64) g xs w6 e w' → ∃ A n, e = .returned (.tuple #[.slice A xs.length n, .bool true]) ∧ Bs w' w'.heap.size A xs.length (outL ks ns (64 * c) xs) ∧ Hid (Below w.heap.size w w' ∧ xs.length ≤ n ∧ n ≤ maxLen) := by
    rintro e w' ⟨g2, c2, rfl, _, hb, _, hbut, h1, h2⟩
    rw [hpos.out] at hb
    exact ⟨_, c2, rfl, hb, B6.trans (hbut.below (by omega) B6.size), h1, h2⟩
  have Hfin := hide hfin
  clear hfin
  rcases Nat.eq_zero_or_pos n with h0 | h0
  · subst h0
    have hxe : xs = [] := List.eq_nil_of_length_eq_zero hx.1
    subst hxe
    refine (sxor_none ks ns ((4294967296 - c) * 64) g cp A w6 Hk.out Hn.out (by omega) hr).mono ?_
    intro e w' hret
    obtain ⟨A2, c2, rfl, hb, hh⟩ := Hfin.out e w' hret
    clear Hfin hret
    go_wp2
    go_ret2
    exact ⟨A2, c2, rfl, hb, hh.out⟩
  · refine (sxor_any ks ns xs ((4294967296 - c) * 64) g n cp w.heap.size A w6 (hT.later B6) Hk.out Hn.out hk' hn' (by omega) hr (by have := hT.1; omega) hx6 (by omega) hby hfit h0).mono ?_
    intro e w' hret
    obtain ⟨A2, c2, rfl, hb, hh⟩ := Hfin.out e w' hret
    clear Hfin hret
    go_wp2
    go_ret2
    exact ⟨A2, c2, rfl, hb, hh.out⟩
end Go.Proofs.YtooooncmjhcdbaaGreatDoor


/-
  Aead: hiding: contract. Own work.
-/
namespace Go.Proofs.YtooooncmjhcdbaaGreatDoor.Pa
open Go.Proofs.YtooooncmjhcdbaaGreatDoor
open Go.RowKit
/-- What hide hands back. -/
def RetHid (ks ns xs : List Int) (w : World) (e : Ending) (w' : World) : Prop :=
  ∃ A c, e = .returned (.slice A xs.length c) ∧ Bs w' w'.heap.size A xs.length (outL ks ns 64 xs) ∧ Below w.heap.size w w' ∧ xs.length ≤ c ∧ c ≤ maxLen
set_option maxRecDepth 100000 in
set_option maxHeartbeats 1000000 in
theorem hide_any (ks ns xs : List Int) (n cp : Nat) (A : Option Addr) (w : World) (hT : Tabs w) (hk : ks.length = 32) (hn : ns.length = 12) (hk' : IsBy ks) (hn' : IsBy ns)
    (hx : Bs w w.heap.size A n xs) (hby : IsBy xs) (hfit : n ≤ 274877906880) :
    Calls Tryz.prog 31 #[.agg (bv ks).toArray, .agg (bv ns).toArray, .slice A n cp] w (RetHid ks ns xs w) := by
  have zk := hide (size_b (P := Tryz.prog) (T := 42) (by kernel_rfl) hk)
  have zn := hide (size_b (P := Tryz.prog) (T := 45) (by kernel_rfl) hn)
  have hX := fun w hT hx => xor_any ks ns xs 1 n cp A w hT hk hn hk' hn' (by omega) hx hby (by omega)
  clear hk hn
  go_enter Tryz.func31, Tryz.ntmps31
  go_wp2_with (first
    | (with_reducible refine wl_box rfl 42 (.tmp 0) _ (bv ks) rfl rfl rfl ?_; intro g3 w3 r3 a3 l3 b3)
    | (with_reducible refine wl_box rfl 45 (.tmp 1) _ (bv ns) rfl rfl rfl ?_; intro g4 w4 r4 a4 l4 b4)
    | (with_reducible refine wl_load_row rfl 42 (.tmp 3) g3 42 (bv ks) _ rfl rfl (r3.later b4) Tryz.underlying42 rfl zk.out ?_)
    | (with_reducible refine wl_load_row rfl 45 (.tmp 4) g4 45 (bv ns) _ rfl rfl r4 Tryz.underlying45 rfl zn.out ?_))
  have s3 := b3.size
  have B4 := b3.trans (b4.mono s3)
  refine (hX _ (hT.later B4) (hx.later B4)).mono ?_
  rintro e w5 ⟨A5, c5, rfl, h5, b5, h6, h7⟩
  have B5 := hide (B4.trans (b5.mono B4.size))
  clear hX b5 b4 b3 r3 r4 hT hx hfit
  go_wp2_with fail
  go_ret
  exact ⟨A5, c5, rfl, h5, B5.out, h6, h7⟩
end Go.Proofs.YtooooncmjhcdbaaGreatDoor.Pa

/-
  Poly: words with a carry: contracts. Own work.
-/
namespace Go.Proofs.YtooooncmjhcdbaaGreatDoor.Pa
open Go.Proofs.YtooooncmjhcdbaaGreatDoor
open Go.RowKit
/-- 'bits.Add64' stands for the model's own. -/
theorem add64_run (x y c : Nat) (hc : c ≤ 1) (w : World) :
    (callFunc 74 #[.int .u64 x, .int .u64 y, .int .u64 c]).run Tryz.prog w =
      .ok (.value (.tuple #[.int .u64 (((x + y + c) % 18446744073709551616 : Nat) : Int), .int .u64 (((x + y + c) / 18446744073709551616 : Nat) : Int)])) w := by
  rw [run_callFunc_extern Tryz.func74 (by kernel_rfl) (by kernel_rfl) (by kernel_rfl) (e := add64Entry) (by kernel_rfl), run_add64 x y c (by omega) (by omega) (by omega) (by omega)]
  simp only [Result.andThen]
  congr 5 <;> omega
set_option maxRecDepth 100000 in
set_option maxHeartbeats 1000000 in
theorem mul64_any (x y : Nat) (hx : x < 18446744073709551616) (hy : y < 18446744073709551616) (w : World) :
    Calls Tryz.prog 90 #[.int .u64 x, .int .u64 y] w fun e w' => e = .returned (.tuple #[.int .u64 ((x * y / 18446744073709551616 : Nat) : Int), .int .u64 ((x * y % 18446744073709551616 : Nat) : Int)]) ∧ w' = w := by
  obtain ⟨p0, p1, p2, hhi⟩ := Lib.mul64_hi x y hx hy
  have q1 := Lib.half_mul_le (a := x / 4294967296) (b := y / 4294967296) (by omega) (by omega)
  have q2 := Lib.half_mul_le (a := x / 4294967296) (b := y % 4294967296) (by omega) (by omega)
  have q3 := Lib.half_mul_le (a := x % 4294967296) (b := y / 4294967296) (by omega) (by omega)
  have s1 : x / 4294967296 * (y / 4294967296) < 18446744073709551616 := by omega
  have s2 : x / 4294967296 * (y % 4294967296) < 18446744073709551616 := by omega
  have s3 : x % 4294967296 * (y / 4294967296) < 18446744073709551616 := by omega
  have s4 : x / 4294967296 * (y / 4294967296) + (x / 4294967296 * (y % 4294967296) + x % 4294967296 * (y % 4294967296) / 4294967296) / 4294967296 < 18446744073709551616 := by omega
  have s5 : x / 4294967296 * (y / 4294967296) + (x / 4294967296 * (y % 4294967296) + x % 4294967296 * (y % 4294967296) / 4294967296) / 4294967296 + ((x / 4294967296 * (y % 4294967296) + x % 4294967296 * (y % 4294967296) / 4294967296) % 4294967296 + x % 4294967296 * (y / 4294967296)) / 4294967296 < 18446744073709551616 := by omega
  go_enter Tryz.func90, Tryz.ntmps90
  go_wp2
  simp only [Mul64.maskN x hx, Mul64.maskN y hy, Mul64.divN, Mul64.mulN, Mul64.addN, Mul64.wrapN _ p0, Mul64.wrapN _ s2, Mul64.wrapN _ p1, Mul64.maskN _ p1, Mul64.wrapN _ s3, Mul64.wrapN _ p2, Mul64.wrapN _ s1, Mul64.wrapN _ s4, Mul64.wrapN _ s5, Mul64.wrapM (x * y)]
  rw [hhi]
  go_ret2
  exact ⟨rfl, rfl⟩
end Go.Proofs.YtooooncmjhcdbaaGreatDoor.Pa

/-
  Poly: a product and two words more: contract. Own work.
-/
namespace Go.Proofs.YtooooncmjhcdbaaGreatDoor.Pa
open Go.Proofs.YtooooncmjhcdbaaGreatDoor
open Go.RowKit
theorem add64_z (x y : Nat) (w : World) :
    (callFunc 74 #[.int .u64 x, .int .u64 y, .int .u64 0]).run Tryz.prog w =
      .ok (.value (.tuple #[.int .u64 (((x + y) % 18446744073709551616 : Nat) : Int), .int .u64 (((x + y) / 18446744073709551616 : Nat) : Int)])) w := add64_run x y 0 (by omega) w
/-- A sum of two words: what stays, what is carried. -/
theorem carry_lt {x y : Nat} (hx : x < 18446744073709551616) (hy : y < 18446744073709551616) : ∃ s k : Nat, (x + y) % 18446744073709551616 = s ∧ (x + y) / 18446744073709551616 = k ∧ s < 18446744073709551616 ∧ k ≤ 1 ∧ k * 18446744073709551616 + s = x + y := ⟨_, _, rfl, rfl, by omega, by omega, by omega⟩
theorem add64_s {x y : Nat} (hx : x < 18446744073709551616) (hy : y < 18446744073709551616) : ∃ s k : Nat, s < 18446744073709551616 ∧ k ≤ 1 ∧ Hid (k * 18446744073709551616 + s = x + y) ∧ ∀ w, (callFunc 74 #[.int .u64 x, .int .u64 y, .int .u64 0]).run Tryz.prog w = .ok (.value (.tuple #[.int .u64 (s : Int), .int .u64 (k : Int)])) w := by
  obtain ⟨s, k, rfl, rfl, h1, h2, h3⟩ := carry_lt hx hy
  exact ⟨_, _, h1, h2, h3, add64_z x y⟩
theorem mulAdd_sum {M h0 l0 p k1 s1 a k2 s2 b : Nat} (h1 : h0 * M + l0 = p) (h2 : k1 * M + s1 = l0 + a) (h3 : k2 * M + s2 = s1 + b) : (h0 + k1 + k2) * M + s2 = p + a + b := by
  rw [Nat.add_mul, Nat.add_mul]
  generalize h0 * M = x at *
  generalize k1 * M = y at *
  generalize k2 * M = z at *
  omega
set_option maxRecDepth 100000 in
set_option maxHeartbeats 1000000 in
theorem mulAdd_any (x y a b : Nat) (hx : x < 18446744073709551616) (hy : y < 18446744073709551616) (ha : a < 18446744073709551616) (hb : b < 18446744073709551616) (w : World) :
    Calls Tryz.prog 86 #[.int .u64 x, .int .u64 y, .int .u64 a, .int .u64 b] w fun e w' => (∃ H L : Nat, e = .returned (.tuple #[.int .u64 (H : Int), .int .u64 (L : Int)]) ∧ H * 18446744073709551616 + L = x * y + a + b ∧ H < 18446744073709551616 ∧ L < 18446744073709551616) ∧ w' = w := by
  have hP : x * y ≤ 18446744073709551615 * 18446744073709551615 := Nat.mul_le_mul (by omega) (by omega)
  obtain ⟨h0, hh0⟩ : ∃ h0, h0 = x * y / 18446744073709551616 := ⟨_, rfl⟩
  obtain ⟨l0, hl0⟩ : ∃ l0, l0 = x * y % 18446744073709551616 := ⟨_, rfl⟩
  have b0 : h0 ≤ 18446744073709551614 := by omega
  have b1 : l0 < 18446744073709551616 := by omega
  have E0 := hide (show h0 * 18446744073709551616 + l0 = x * y by omega)
  have HM := mul64_any x y hx hy w
  rw [← hh0, ← hl0] at HM
  obtain ⟨s1, k1, c1, d1, E1, R1⟩ := add64_s b1 ha
  obtain ⟨s2, k2, c2, d2, E2, R2⟩ := add64_s c1 hb
  have T1 : h0 + k1 < 18446744073709551616 := by omega
  have T2 : h0 + k1 + k2 < 18446744073709551616 := by
    have := E0.out; have := E1.out; have := E2.out; omega
  clear hh0 hl0 hP
  have HM' := HM
  clear HM
  go_enter Tryz.func86, Tryz.ntmps86
  go_wp2_with fail
  refine HM'.mono ?_
  rintro e w' ⟨rfl, rfl⟩
  clear HM'
  go_wp2_with (first | rw [R1] | rw [R2])
  rw [show (h0 : Int) + (k1 : Int) + (k2 : Int) = ((h0 + k1 + k2 : Nat) : Int) from by omega]
  go_ret2
  exact ⟨⟨h0 + k1 + k2, s2, rfl, mulAdd_sum E0.out E1.out E2.out, T2, c2⟩, rfl⟩
end Go.Proofs.YtooooncmjhcdbaaGreatDoor.Pa

/-
  Poly: a sum of numbers of three words: contract. Own work.
-/
namespace Go.Proofs.YtooooncmjhcdbaaGreatDoor.Pa
open Go.Proofs.YtooooncmjhcdbaaGreatDoor
open Go.RowKit
theorem run_callX {P : Program} {o : Oper} {a : Act} {w : World} {v : Value} (f : FuncId) (args : Array Operand) (ats : Array TypeId) (vals : Array Value) (ho : o.op = .call { callee := .value (.func f), args := args, argTypes := ats }) (hv : args.map a.eval = vals)
    (hr : (callFunc f vals).run P w = .ok (.value v) w) : (execOp a.eval o).run P w = .ok (.value v) w := by
  unfold execOp
  simp only [ho, resolve, hv]
  go_simp
/-- What is carried to place p. -/
def cr (p X Y : Nat) : Nat := (X % p + Y % p) / p
theorem wd_lt {M p X : Nat} (hM : 0 < M) : wd M p X < M := Nat.mod_lt _ hM
theorem cr_le {p X Y : Nat} (hp : 0 < p) : cr p X Y ≤ 1 := by
  have h1 := Nat.mod_lt X hp
  have h2 := Nat.mod_lt Y hp
  unfold cr
  have : X % p + Y % p < p * 2 := by omega
  have := Nat.div_lt_of_lt_mul this
  omega
theorem add_split {p X Y : Nat} (hp : 0 < p) : (X + Y) / p = X / p + Y / p + cr p X Y := by
  have hx := Nat.div_add_mod X p
  have hy := Nat.div_add_mod Y p
  have e : X + Y = p * (X / p + Y / p) + (X % p + Y % p) := by rw [Nat.mul_add]; omega
  unfold cr
  conv => lhs; rw [e]
  rw [Nat.mul_add_div hp]
theorem wd_add {M p X Y : Nat} (hp : 0 < p) : (wd M p X + wd M p Y + cr p X Y) % M = wd M p (X + Y) := by
  unfold wd
  rw [add_split hp]
  simp [Nat.add_mod]
theorem cr_next {M p X Y : Nat} (hp : 0 < p) (hM : 0 < M) : (wd M p X + wd M p Y + cr p X Y) / M = cr (p * M) X Y := by
  have e1 : X % (p * M) = X % p + p * wd M p X := Nat.mod_mul
  have e2 : Y % (p * M) = Y % p + p * wd M p Y := Nat.mod_mul
  unfold cr
  rw [← Nat.div_div_eq_div_mul, e1, e2]
  congr 1
  rw [show X % p + p * wd M p X + (Y % p + p * wd M p Y) = p * (wd M p X + wd M p Y) + (X % p + Y % p) from by rw [Nat.mul_add]; omega, Nat.mul_add_div hp]
def nb (X : Nat) : List Value := [.int .u64 (nW X 0 : Int), .int .u64 (nW X 1 : Int), .int .u64 (nW X 2 : Int)]
/-- A sum's first i words, and the first number's others. -/
def nbP (X Y i : Nat) : List Value := (List.range 3).map fun j => .int .u64 ((if j < i then nW (X + Y) j else nW X j : Nat) : Int)
theorem nbP_0 (X Y : Nat) : nbP X Y 0 = nb X := rfl
theorem nbP_3 (X Y : Nat) : nbP X Y 3 = nb (X + Y) := rfl
theorem nbP_get {X Y i : Nat} (hi : i < 3) : (nbP X Y i)[i]? = some (.int .u64 (nW X i : Int)) := by
  have : i = 0 ∨ i = 1 ∨ i = 2 := by omega
  rcases this with rfl | rfl | rfl <;> rfl
theorem nb_get {X i : Nat} (hi : i < 3) : (nb X)[i]? = some (.int .u64 (nW X i : Int)) := by
  have : i = 0 ∨ i = 1 ∨ i = 2 := by omega
  rcases this with rfl | rfl | rfl <;> rfl
theorem nbP_set {X Y i : Nat} (hi : i < 3) : (nbP X Y i).set i (.int .u64 (nW (X + Y) i : Int)) = nbP X Y (i + 1) := by
  have : i = 0 ∨ i = 1 ∨ i = 2 := by omega
  rcases this with rfl | rfl | rfl <;> rfl
def cN (X Y i : Nat) : Nat := cr (18446744073709551616 ^ i) X Y
theorem cN_0 (X Y : Nat) : cN X Y 0 = 0 := by simp [cN, cr, Nat.mod_one]
theorem cN_le (X Y i : Nat) : cN X Y i ≤ 1 := cr_le (Nat.pow_pos (by decide))
theorem nW_add (X Y i : Nat) : (nW X i + nW Y i + cN X Y i) % 18446744073709551616 = nW (X + Y) i := wd_add (Nat.pow_pos (by decide))
theorem cN_next (X Y i : Nat) : (nW X i + nW Y i + cN X Y i) / 18446744073709551616 = cN X Y (i + 1) := by
  unfold cN
  rw [Nat.pow_succ]
  exact cr_next (Nat.pow_pos (by decide)) (by decide)
theorem sizeNb (X : Nat) : (Tryz.prog.info? 120).map (·.size) = some (nb X).length := by kernel_rfl
theorem oneNb (X : Nat) : ∀ u ∈ nb X, u.oneCell' = true := by
  intro u hu
  simp only [nb, List.mem_cons, List.not_mem_nil, or_false] at hu
  rcases hu with rfl | rfl | rfl <;> rfl
def JPl (w0 : World) (g : Nat) (cur new : List Value) (bs : List Bool) (vs : List Value) (w : World) : Prop :=
  (bs.getD 0 false = false → Row w 120 g cur) ∧ (bs.getD 0 false = true → Row w 120 g new) ∧ But g w0 w
def SPl (g2 g3 i x y c s k : Nat) (opn : Nat) (v : Value) : Prop :=
  match opn with
  | 0 | 1 | 4 => v = .int .i64 (i : Int)
  | 2 | 12 => v = .pointer (some ⟨g2, i, none⟩)
  | 3 => v = .int .u64 (x : Int)
  | 5 => v = .pointer (some ⟨g3, i, none⟩)
  | 6 => v = .int .u64 (y : Int)
  | 7 => v = .int .u64 (c : Int)
  | 8 | 9 => v = .tuple #[.int .u64 (s : Int), .int .u64 (k : Int)]
  | 10 => v = .int .u64 (s : Int)
  | 11 | 14 => v = .int .u64 (k : Int)
  | _ => True
set_option maxRecDepth 100000 in
set_option maxHeartbeats 2000000 in
theorem plus_any (X Y : Nat) (w : World) :
    Calls Tryz.prog 63 #[.agg (nb X).toArray, .agg (nb Y).toArray] w fun e w' => e = .returned (.agg (nb (X + Y)).toArray) ∧ Below w.heap.size w w' := by
  go_enter Tryz.func63, Tryz.ntmps63
  go_wp2_with (first
    | (with_reducible refine wl_box rfl 120 (.tmp 0) _ (nb X) rfl rfl rfl ?_; intro g2 w1 r1 a1 l1 b1)
    | (with_reducible refine wl_box rfl 120 (.tmp 1) _ (nb Y) rfl rfl rfl ?_; intro g3 w2 r2 a2 l2 b2)
    | (with_reducible refine wl_alloc rfl 120 _ (n3 0 0 0) rfl zeroN3 rfl ?_; intro g4 w3 r3 a3 l3 b3))
  have R1 := (r1.later b2).later b3
  have R2 := r2.later b3
  have hne : g3 ≠ g2 := by omega
  have hne4 : g4 ≠ g2 := by have := b2.size; omega
  have B3 := (b1.trans (b2.mono b1.size)).trans (b3.mono (Nat.le_trans b1.size b2.size))
  have hgw : w.heap.size ≤ g2 := a1
  have hgw4 : w.heap.size ≤ g4 := by have := b2.size; have := b1.size; omega
  clear r1 r2 b1 b2 b3 a1 a2 a3 l1 l2 l3
  go_loopw [5, 7] (fun cv iv wr => ∃ i : Nat, i ≤ 3 ∧ iv = .int .i64 i ∧ cv = .int .u64 (cN X Y i : Int) ∧ Row wr 120 g2 (nbP X Y i) ∧ But g2 w3 wr) (fun _ iv _ => 3 - (intOf iv).toNat)
  case atStart => exact ⟨0, by omega, rfl, by rw [cN_0]; rfl, R1, But.refl _ _⟩
  case round =>
    clear R1
    obtain ⟨i, hi3, rfl, rfl, rr, bx⟩ := hrel
    by_cases hi : i < 3
    · go_wp2_with fail
      have rY := R2.but bx hne
      have cX := nbP_get (X := X) (Y := Y) hi
      have cY := nb_get (X := Y) hi
      have hset := nbP_set (X := X) (Y := Y) hi
      have RA := add64_run (nW X i) (nW Y i) (cN X Y i) (cN_le X Y i)
      rw [nW_add, cN_next] at RA
      have hcl : i < (nbP X Y i).length := hi
      generalize hx : nW X i = x at *
      generalize hy : nW Y i = y at *
      generalize hs : nW (X + Y) i = s at *
      generalize hc : cN X Y i = c at *
      generalize hk : cN X Y (i + 1) = k at *
      generalize nbP X Y i = cur at *
      rename_i Q1 K1 hK1
      refine wp_region_vals [13] (SPl g2 g3 i x y c s k) (JPl wr g2 cur (nbP X Y (i + 1))) (by kernel_rfl) (by kernel_rfl) (by kernel_rfl) (by kernel_rfl) (by kernel_rfl) ⟨fun _ => rr, fun h => absurd h (by decide), (But.refl _ _).drew⟩ ?obs ?he
      case obs =>
        refine ⟨?_, ?_, ?_, ?_, ?_, ?_, ?_, ?_, ?_, ?_, ?_, ?_, ?_, ?_, ?_, trivial⟩
        · exact .inl ⟨by kernel_rfl, fun L a1 w1 n h => ⟨_, rfl, run_move (.tmp 6) rfl (h.var n 6 (by kernel_rfl))⟩⟩
        · exact .inl ⟨by kernel_rfl, fun L a1 w1 n h => ⟨_, rfl, run_move (.tmp 6) rfl (h.var n 6 (by kernel_rfl))⟩⟩
        · exact .inl ⟨by kernel_rfl, fun L a1 w1 n h => ⟨_, rfl, run_index0 120 (.tmp 2) (.tmp 12) 3 95 g2 i rfl Tryz.underlying120 Tryz.sizeOf95 (h.var n 2 (by kernel_rfl)) (h.dep n 1 12 (by kernel_rfl) rfl) hi⟩⟩
        · exact .inl ⟨by kernel_rfl, fun L a1 w1 n h => ⟨_, rfl, run_loadA 95 (.tmp 13) ⟨g2, i, none⟩ rfl Tryz.isAgg95 (h.dep n 2 13 (by kernel_rfl) rfl) ((h.inv.1 (n.later (by kernel_rfl))).cell cX)⟩⟩
        · exact .inl ⟨by kernel_rfl, fun L a1 w1 n h => ⟨_, rfl, run_move (.tmp 6) rfl (h.var n 6 (by kernel_rfl))⟩⟩
        · exact .inl ⟨by kernel_rfl, fun L a1 w1 n h => ⟨_, rfl, run_index0 120 (.tmp 3) (.tmp 15) 3 95 g3 i rfl Tryz.underlying120 Tryz.sizeOf95 (h.var n 3 (by kernel_rfl)) (h.dep n 4 15 (by kernel_rfl) rfl) hi⟩⟩
        · exact .inl ⟨by kernel_rfl, fun L a1 w1 n h => ⟨_, rfl, run_loadA 95 (.tmp 16) ⟨g3, i, none⟩ rfl Tryz.isAgg95 (h.dep n 5 16 (by kernel_rfl) rfl) ((rY.but h.inv.2.2 hne).cell cY)⟩⟩
        · exact .inl ⟨by kernel_rfl, fun L a1 w1 n h => ⟨_, rfl, run_move (.tmp 5) rfl (h.var n 5 (by kernel_rfl))⟩⟩
        · refine .inl ⟨by kernel_rfl, fun L a1 w1 n h => ⟨_, rfl, ?_⟩⟩
          refine run_callX 74 _ _ #[.int .u64 (x : Int), .int .u64 (y : Int), .int .u64 (c : Int)] rfl ?_ (RA w1)
          have e0 : a1.eval (.tmp 14) = _ := h.dep n 3 14 (by kernel_rfl) rfl
          have e1 : a1.eval (.tmp 17) = _ := h.dep n 6 17 (by kernel_rfl) rfl
          have e2 : a1.eval (.tmp 18) = _ := h.dep n 7 18 (by kernel_rfl) rfl
          simp only [List.map_toArray, List.map_cons, List.map_nil, e0, e1, e2]
        · exact .inl ⟨by kernel_rfl, fun L a1 w1 n h => ⟨_, rfl, run_move (.tmp 19) rfl (h.dep n 8 19 (by kernel_rfl) rfl)⟩⟩
        · exact .inl ⟨by kernel_rfl, fun L a1 w1 n h => ⟨_, rfl, run_extractA (.tmp 10) 0 _ rfl (h.dep n 9 10 (by kernel_rfl) rfl) rfl⟩⟩
        · exact .inl ⟨by kernel_rfl, fun L a1 w1 n h => ⟨_, rfl, run_extractA (.tmp 10) 1 _ rfl (h.dep n 9 10 (by kernel_rfl) rfl) rfl⟩⟩
        · exact .inl ⟨by kernel_rfl, fun L a1 w1 n h => ⟨_, rfl, run_index0 120 (.tmp 2) (.tmp 11) 3 95 g2 i rfl Tryz.underlying120 Tryz.sizeOf95 (h.var n 2 (by kernel_rfl)) (h.dep n 0 11 (by kernel_rfl) rfl) hi⟩⟩
        · refine .inr fun L a1 w1 n h K hK => ?_
          have no : L.getD 13 false = false := n.not_yet
          refine st_store 95 (.tmp 22) (.tmp 20) g2 i 120 cur (.int .u64 (s : Int)) rfl (by kernel_rfl) (h.dep n 12 22 (by kernel_rfl) rfl) (h.dep n 10 20 (by kernel_rfl) rfl) (h.inv.1 no) hcl rfl ?_
          intro w3 r3 o3
          rw [hset] at r3
          exact hK undef w3 trivial ⟨fun h1 => absurd (show true = false from h1) (by decide), fun _ => r3, h.inv.2.2.trans (But.only o3)⟩
        · exact .inl ⟨by kernel_rfl, fun L a1 w1 n h => ⟨_, rfl, run_assign (.tmp 21) rfl (h.dep n 11 21 (by kernel_rfl) rfl)⟩⟩
      case he =>
        intro V w5 hV hJ
        have r5 := hJ.2.1 rfl
        have bx5 := bx.trans hJ.2.2
        have h14 : V 14 = .int .u64 (k : Int) := hV 14 5 rfl
        clear hV hJ
        simp only [putOps, List.setIfInBounds_toArray, List.set_cons_succ, List.set_cons_zero]
        rw [h14]
        refine hK1 _ _ ?_
        go_wp2
        go_roundw
        case rel => exact ⟨i + 1, by omega, by go_num, by rw [hk], r5, bx5⟩
        case measure => simp [intOf]; omega
    · have rE : Row wr 120 g2 (nb (X + Y)) := by rw [show i = 3 from by omega] at rr; exact rr
      have r4 := r3.but bx hne4
      go_wp2_with (first
        | (with_reducible refine wl_load_row rfl 120 (.tmp 2) g2 120 _ _ rfl rfl rE Tryz.underlying120 rfl (sizeNb _) ?_)
        | (with_reducible refine wl_store_row rfl 120 (.tmp 4) (.tmp 24) g4 120 _ (nb (X + Y)) rfl rfl rfl r4 (sizeNb _) rfl (oneNb _) ?_; intro w5 r5 o5))
      refine bodyPost_ret (v := .agg (nb (X + Y)).toArray) ?_ rfl ⟨rfl, ?_⟩
      · exact results_cell_row Tryz.results63 _ _ g4 120 _ (0, 0) _ rfl r5 Tryz.underlying120 rfl (by simpa using sizeNb (X + Y))
      · exact (B3.trans (bx.below hgw B3.size)).trans (o5.below hgw4)
end Go.Proofs.YtooooncmjhcdbaaGreatDoor.Pa

/-
  Poly: what a part tells: contracts. Own work.
-/
namespace Go.Proofs.YtooooncmjhcdbaaGreatDoor.Pa
open Go.Proofs.YtooooncmjhcdbaaGreatDoor
open Go.RowKit
set_option maxRecDepth 100000 in
theorem full_any (g t n : Nat) (vs : List Value) (w : World) (hr : Row w t g vs) (hv : vs[16]? = some (.int .i64 (n : Int))) :
    Calls Tryz.prog 59 #[.pointer (some ⟨g, 0, none⟩)] w fun e w' => e = .returned (.bool ((n : Int) == 16)) ∧ w = w' := by
  have hc := hr.cell hv
  clear hr hv
  go_enter Tryz.func59, Tryz.ntmps59
  go_wp2
  go_ret
  exact ⟨rfl, rfl⟩
set_option maxRecDepth 100000 in
theorem begun_any (g t n : Nat) (vs : List Value) (w : World) (hr : Row w t g vs) (hv : vs[16]? = some (.int .i64 (n : Int))) :
    Calls Tryz.prog 61 #[.pointer (some ⟨g, 0, none⟩)] w fun e w' => e = .returned (.bool (decide ((0 : Int) < n))) ∧ w = w' := by
  have hc := hr.cell hv
  clear hr hv
  go_enter Tryz.func61, Tryz.ntmps61
  go_wp2
  go_ret
  exact ⟨by simp, rfl⟩
end Go.Proofs.YtooooncmjhcdbaaGreatDoor.Pa

/-
  Poly: a product, whole: contract. Own work.
-/
namespace Go.Proofs.YtooooncmjhcdbaaGreatDoor.Pa
open Go.Proofs.YtooooncmjhcdbaaGreatDoor
open Go.RowKit
theorem mulAdd_det (x y a b : Nat) (hx : x < 18446744073709551616) (hy : y < 18446744073709551616) (ha : a < 18446744073709551616) (hb : b < 18446744073709551616) :
    ∃ H L : Nat, H * 18446744073709551616 + L = x * y + a + b ∧ H < 18446744073709551616 ∧ L < 18446744073709551616 ∧ ∀ w, Calls Tryz.prog 86 #[.int .u64 x, .int .u64 y, .int .u64 a, .int .u64 b] w fun e w' => e = .returned (.tuple #[.int .u64 (H : Int), .int .u64 (L : Int)]) ∧ w' = w := by
  generalize hS : x * y + a + b = S
  have hP : x * y ≤ 18446744073709551615 * 18446744073709551615 := Nat.mul_le_mul (by omega) (by omega)
  refine ⟨S / 18446744073709551616, S % 18446744073709551616, by omega, by omega, by omega, fun w => (mulAdd_any x y a b hx hy ha hb w).mono ?_⟩
  rintro e w' ⟨⟨H, L, rfl, h1, h2, h3⟩, rfl⟩
  rw [hS] at h1
  have e1 : H = S / 18446744073709551616 := by omega
  have e2 : L = S % 18446744073709551616 := by omega
  exact ⟨by rw [← e1, ← e2], rfl⟩
/-- The number of a list of words. -/
def vl (M : Nat) : List Nat → Nat
  | [] => 0
  | x :: xs => x + M * vl M xs
theorem vl_set (M : Nat) : ∀ (ws : List Nat) (k l : Nat), k < ws.length → vl M (ws.set k l) + ws.getD k 0 * M ^ k = vl M ws + l * M ^ k
  | [], k, l, h => absurd h (by simp)
  | x :: xs, 0, l, h => by simp [vl]; omega
  | x :: xs, k + 1, l, h => by
    have := vl_set M xs k l (by simpa using h)
    have e : ∀ z : Nat, z * M ^ (k + 1) = M * (z * M ^ k) := fun z => by rw [Nat.pow_succ, Nat.mul_comm (M ^ k) M, Nat.mul_left_comm]
    simp only [List.set_cons_succ, vl, List.getD_cons_succ, e, Nat.add_assoc, ← Nat.mul_add, this]
theorem vl_digit (M : Nat) (hM : 0 < M) : ∀ (ws : List Nat) (k : Nat), (∀ x ∈ ws, x < M) → k < ws.length → vl M ws / M ^ k % M = ws.getD k 0
  | [], k, _, h => absurd h (by simp)
  | x :: xs, 0, hb, h => by
    have := hb x (by simp)
    simp [vl, Nat.mod_eq_of_lt this]
  | x :: xs, k + 1, hb, h => by
    have hx := hb x (by simp)
    have := vl_digit M hM xs k (fun y hy => hb y (by simp [hy])) (by simpa using h)
    rw [Nat.pow_succ, Nat.mul_comm, ← Nat.div_div_eq_div_mul]
    simp only [vl, List.getD_cons_succ]
    rw [Nat.add_mul_div_left _ _ hM, Nat.div_eq_of_lt hx, Nat.zero_add, this]
def uL (ws : List Nat) : List Value := ws.map fun (x : Nat) => .int .u64 (x : Int)
theorem uL_len (ws : List Nat) : (uL ws).length = ws.length := by simp [uL]
theorem uL_get {ws : List Nat} {k : Nat} (h : k < ws.length) : (uL ws)[k]? = some (.int .u64 ((ws.getD k 0 : Nat) : Int)) := by
  simp [uL, List.getD, List.getElem?_eq_getElem h]
theorem uL_set (ws : List Nat) (k l : Nat) : (uL ws).set k (.int .u64 (l : Int)) = uL (ws.set k l) := by simp [uL, List.map_set]
/-- One step of the school method: A, what stood; x, the word of the one number; y, of the other; p = b q, the place. -/
theorem step_sum {M p q b x y o c H l V V' A B : Nat} (h1 : H * M + l = x * y + o + c) (h2 : V' + o * p = V + l * p) (h3 : V + c * p = A + x * B * q) (hp : p = b * q) : V' + H * (p * M) = A + x * (B + b * y) * q := by
  have e1 : (H * M + l) * p = (x * y + o + c) * p := by rw [h1]
  rw [Nat.add_mul, Nat.add_mul, Nat.add_mul] at e1
  have e2 : H * (p * M) = H * M * p := by rw [Nat.mul_comm p M, Nat.mul_assoc]
  have e3 : x * (B + b * y) * q = x * B * q + x * y * p := by
    rw [hp, Nat.mul_add, Nat.add_mul, Nat.mul_comm b y, ← Nat.mul_assoc x y b, Nat.mul_assoc (x * y) b q]
  rw [e2, e3]
  omega
def Out (M X R i : Nat) (ws : List Nat) : Prop := ws.length = 5 ∧ (∀ x ∈ ws, x < M) ∧ vl M ws = (X % M ^ i) * R ∧ ∀ k, i + 2 ≤ k → ws.getD k 0 = 0
def In (M X R i j c : Nat) (ws : List Nat) : Prop := ws.length = 5 ∧ (∀ x ∈ ws, x < M) ∧ vl M ws + c * M ^ (i + j) = (X % M ^ i) * R + wd M (M ^ i) X * (R % M ^ j) * M ^ i ∧ c < M ∧ ∀ k, i + 2 ≤ k → ws.getD k 0 = 0
theorem In.start {M X R i : Nat} {ws : List Nat} (hM : 0 < M) (h : Out M X R i ws) : In M X R i 0 0 ws := ⟨h.1, h.2.1, by rw [h.2.2.1]; simp [Nat.mod_one], hM, h.2.2.2⟩
theorem set_ok {M k l : Nat} {ws : List Nat} (h : ∀ x ∈ ws, x < M) (hl : l < M) : ∀ x ∈ ws.set k l, x < M := by
  intro x hx
  rcases List.mem_or_eq_of_mem_set hx with h1 | rfl
  · exact h x h1
  · exact hl
theorem getD_set_other {ws : List Nat} {k m l : Nat} (h : m ≠ k) : (ws.set m l).getD k 0 = ws.getD k 0 := by
  simp [List.getD, List.getElem?_set_ne h]
theorem In.step {M X R i j c H l : Nat} {ws : List Nat} (h : In M X R i j c ws) (hi : i < 3) (hj : j < 2) (h1 : H * M + l = wd M (M ^ i) X * wd M (M ^ j) R + ws.getD (i + j) 0 + c) (hH : H < M) (hl : l < M) : In M X R i (j + 1) H (ws.set (i + j) l) := by
  obtain ⟨h5, hb, hs, hc, hz⟩ := h
  refine ⟨by rw [List.length_set, h5], set_ok hb hl, ?_, hH, fun k hk => by rw [getD_set_other (by omega), hz k hk]⟩
  have := step_sum h1 (vl_set M ws (i + j) l (by omega)) hs (show M ^ (i + j) = M ^ j * M ^ i by rw [Nat.pow_add, Nat.mul_comm])
  rw [show M ^ (i + (j + 1)) = M ^ (i + j) * M from by rw [← Nat.add_assoc, Nat.pow_succ], this, show R % M ^ (j + 1) = R % M ^ j + M ^ j * wd M (M ^ j) R from by rw [Nat.pow_succ]; exact Nat.mod_mul]
theorem In.done {M X R i c : Nat} {ws : List Nat} (h : In M X R i 2 c ws) (hi : i < 3) (hR : R < M ^ 2) : Out M X R (i + 1) (ws.set (i + 2) c) := by
  obtain ⟨h5, hb, hs, hc, hz⟩ := h
  refine ⟨by rw [List.length_set, h5], set_ok hb hc, ?_, fun k hk => by rw [getD_set_other (by omega), hz k (by omega)]⟩
  have e := vl_set M ws (i + 2) c (by omega)
  rw [hz (i + 2) (Nat.le_refl _), Nat.zero_mul, Nat.add_zero, hs, Nat.mod_eq_of_lt hR] at e
  rw [e, show X % M ^ (i + 1) = X % M ^ i + M ^ i * wd M (M ^ i) X from by rw [Nat.pow_succ]; exact Nat.mod_mul, Nat.add_mul, Nat.mul_comm (M ^ i) (wd M (M ^ i) X), Nat.mul_right_comm]
def fb (R : Nat) : List Value := [.int .u64 (nW R 0 : Int), .int .u64 (nW R 1 : Int)]
theorem fb_get {R j : Nat} (hj : j < 2) : (fb R)[j]? = some (.int .u64 (nW R j : Int)) := by
  have : j = 0 ∨ j = 1 := by omega
  rcases this with rfl | rfl <;> rfl
theorem nW_lt (X i : Nat) : nW X i < 18446744073709551616 := Nat.mod_lt _ (by decide)
theorem zero5 : (Tryz.prog.info? 149).map (fun i => i.zero) = some (some (.agg (uL [0, 0, 0, 0, 0]).toArray)) := by kernel_rfl
theorem size5 {ws : List Nat} (h : ws.length = 5) : (Tryz.prog.info? 149).map (·.size) = some (uL ws).length := by rw [uL_len, h]; kernel_rfl
theorem oneU (ws : List Nat) : ∀ u ∈ uL ws, u.oneCell' = true := by
  intro u hu
  simp only [uL, List.mem_map] at hu
  obtain ⟨x, _, rfl⟩ := hu
  rfl
def JPr (w0 : World) (g : Nat) (cur new : List Value) (bs : List Bool) (vs : List Value) (w : World) : Prop :=
  (bs.getD 1 false = false → Row w 149 g cur) ∧ (bs.getD 1 false = true → Row w 149 g new) ∧ But g w0 w
def SPr (g2 g3 g5 i j x y o c H l : Nat) (opn : Nat) (v : Value) : Prop :=
  match opn with
  | 0 | 3 | 9 => v = .int .i64 (i : Int)
  | 1 | 6 | 10 => v = .int .i64 (j : Int)
  | 2 | 11 => v = .int .i64 ((i + j : Nat) : Int)
  | 4 => v = .pointer (some ⟨g2, i, none⟩)
  | 5 => v = .int .u64 (x : Int)
  | 7 => v = .pointer (some ⟨g3, j, none⟩)
  | 8 => v = .int .u64 (y : Int)
  | 12 | 20 => v = .pointer (some ⟨g5, (i + j), none⟩)
  | 13 => v = .int .u64 (o : Int)
  | 14 => v = .int .u64 (c : Int)
  | 15 | 16 => v = .tuple #[.int .u64 (H : Int), .int .u64 (l : Int)]
  | 17 | 19 => v = .int .u64 (H : Int)
  | 18 => v = .int .u64 (l : Int)
  | _ => True
set_option maxRecDepth 100000 in
set_option maxHeartbeats 3000000 in
theorem product_any (X R : Nat) (w : World) (hX : X < 18446744073709551616 ^ 3) (hR : R < 18446744073709551616 ^ 2) :
    Calls Tryz.prog 82 #[.agg (nb X).toArray, .agg (fb R).toArray] w fun e w' => (∃ ws, e = .returned (.agg (uL ws).toArray) ∧ ws.length = 5 ∧ (∀ x ∈ ws, x < 18446744073709551616) ∧ vl 18446744073709551616 ws = X * R) ∧ Below w.heap.size w w' := by
  have HX := hide hX
  have HR := hide hR
  have hO0 : Out 18446744073709551616 X R 0 [0, 0, 0, 0, 0] := ⟨rfl, by simp, by simp [vl, Nat.mod_one], fun k _ => by
    rcases Nat.lt_or_ge k 5 with h | h
    · have : k = 0 ∨ k = 1 ∨ k = 2 ∨ k = 3 ∨ k = 4 := by omega
      rcases this with rfl | rfl | rfl | rfl | rfl <;> rfl
    · simp [List.getD, List.getElem?_eq_none (show [0, 0, 0, 0, 0].length ≤ k from h)]⟩
  have HO0 := hide hO0
  clear hX hR hO0
  go_enter Tryz.func82, Tryz.ntmps82
  go_wp2_with (first
    | (with_reducible refine wl_box rfl 120 (.tmp 0) _ (nb X) rfl rfl rfl ?_; intro g2 w1 r1 a1 l1 b1)
    | (with_reducible refine wl_box rfl 123 (.tmp 1) _ (fb R) rfl rfl rfl ?_; intro g3 w2 r2 a2 l2 b2)
    | (with_reducible refine wl_alloc (o := ⟨some 4, _, _, _, _, _⟩) rfl 149 _ (uL [0, 0, 0, 0, 0]) rfl zero5 rfl ?_; intro g4 w3 r3 a3 l3 b3)
    | (with_reducible refine wl_alloc (o := ⟨some 5, _, _, _, _, _⟩) rfl 149 _ (uL [0, 0, 0, 0, 0]) rfl zero5 rfl ?_; intro g5 w4 r4 a4 l4 b4))
  have R1 := ((r1.later b2).later b3).later b4
  have R2 := (r2.later b3).later b4
  have R3 := r3.later b4
  have s1 := b1.size
  have s2 := b2.size
  have s3 := b3.size
  have hne2 : g2 ≠ g5 := by omega
  have hne3 : g3 ≠ g5 := by omega
  have hne4 : g4 ≠ g5 := by omega
  have B4 := ((b1.trans (b2.mono s1)).trans (b3.mono (Nat.le_trans s1 s2))).trans (b4.mono (by omega))
  have hg5 : w.heap.size ≤ g5 := by omega
  have hg4 : w.heap.size ≤ g4 := by omega
  clear r1 r2 r3 b1 b2 b3 b4 s1 s2 s3 a1 a2 a3 a4 l1 l2 l3 l4
  go_loopw [9] (fun iv wr => ∃ (i : Nat) (ws : List Nat), i ≤ 3 ∧ iv = .int .i64 i ∧ Out 18446744073709551616 X R i ws ∧ Row wr 149 g5 (uL ws) ∧ But g5 w4 wr) (fun iv _ => 3 - (intOf iv).toNat)
  case atStart => exact ⟨0, _, by omega, rfl, HO0.out, r4, But.refl _ _⟩
  case round =>
    clear r4
    obtain ⟨i, ws, hi3, rfl, ho, rr, bx⟩ := hrel
    by_cases hi : i < 3
    · have hdi : decide ((i : Int) < 3) = true := by simp; omega
      go_wp2_with fail
      go_loopw [7, 12] (fun cv jv wr' => ∃ (j c : Nat) (ws : List Nat), j ≤ 2 ∧ jv = .int .i64 j ∧ cv = .int .u64 c ∧ In 18446744073709551616 X R i j c ws ∧ Row wr' 149 g5 (uL ws) ∧ But g5 w4 wr') (fun _ jv _ => 2 - (intOf jv).toNat)
      case atStart => exact ⟨0, 0, ws, by omega, rfl, rfl, In.start (by decide) ho, rr, bx⟩
      case round =>
        clear rr bx ho
        obtain ⟨j, c, ws, hj2, rfl, rfl, hin, rr, bx⟩ := hrel
        by_cases hj : j < 2
        · go_wp2_with fail
          have hij : i + j < 5 := by omega
          have rX := R1.but bx hne2
          have rY := R2.but bx hne3
          have cX := nb_get (X := X) hi
          have cY := fb_get (R := R) hj
          have h5 : ws.length = 5 := hin.1
          have cO := uL_get (ws := ws) (k := i + j) (by omega)
          have ol : ws.getD (i + j) 0 < 18446744073709551616 := by
            have hk : i + j < ws.length := by omega
            rw [show ws.getD (i + j) 0 = ws[i + j] by simp [List.getD, hk]]
            exact hin.2.1 _ (List.getElem_mem _)
          obtain ⟨H, l, hHl, hH, hl, RM⟩ := mulAdd_det (nW X i) (nW R j) (ws.getD (i + j) 0) c (nW_lt _ _) (nW_lt _ _) ol hin.2.2.2.1
          have hin' := In.step hin hi hj hHl hH hl
          have hcl : i + j < (uL ws).length := by rw [uL_len]; omega
          have hset := uL_set ws (i + j) l
          clear hHl ol hin hH hl
          generalize nW X i = x at cX RM
          generalize nW R j = y at cY RM
          generalize ws.getD (i + j) 0 = o at cO RM
          rename_i Q1 K1 hK1
          refine wp_region_vals [15, 21] (SPr g2 g3 g5 i j x y o c H l) (JPr wr g5 (uL ws) (uL (ws.set (i + j) l))) (by kernel_rfl) (by kernel_rfl) (by kernel_rfl) (by kernel_rfl) (by kernel_rfl) ⟨fun _ => rr, fun h => absurd h (by decide), (But.refl _ _).drew⟩ ?obs ?he
          case obs =>
            refine ⟨?_, ?_, ?_, ?_, ?_, ?_, ?_, ?_, ?_, ?_, ?_, ?_, ?_, ?_, ?_, ?_, ?_, ?_, ?_, ?_, ?_, ?_, trivial⟩
            · exact .inl ⟨by kernel_rfl, fun L a1 w1 n h => ⟨_, rfl, run_move (.tmp 6) rfl (h.var n 6 (by kernel_rfl))⟩⟩
            · exact .inl ⟨by kernel_rfl, fun L a1 w1 n h => ⟨_, rfl, run_move (.tmp 8) rfl (h.var n 8 (by kernel_rfl))⟩⟩
            · refine .inl ⟨by kernel_rfl, fun L a1 w1 n h => ⟨.int .i64 ((i + j : Nat) : Int), rfl, ?_⟩⟩
              have e0 : a1.eval (.tmp 16) = _ := h.dep n 0 16 (by kernel_rfl) rfl
              have e1 : a1.eval (.tmp 17) = _ := h.dep n 1 17 (by kernel_rfl) rfl
              unfold execOp
              simp only [e0, e1]
              go_simp
              rw [IntWalk.i64_in _ (by omega)]
            · exact .inl ⟨by kernel_rfl, fun L a1 w1 n h => ⟨_, rfl, run_move (.tmp 6) rfl (h.var n 6 (by kernel_rfl))⟩⟩
            · exact .inl ⟨by kernel_rfl, fun L a1 w1 n h => ⟨_, rfl, run_index0 120 (.tmp 2) (.tmp 19) 3 95 g2 i rfl Tryz.underlying120 Tryz.sizeOf95 (h.var n 2 (by kernel_rfl)) (h.dep n 3 19 (by kernel_rfl) rfl) hi⟩⟩
            · exact .inl ⟨by kernel_rfl, fun L a1 w1 n h => ⟨_, rfl, run_loadA 95 (.tmp 20) ⟨g2, i, none⟩ rfl Tryz.isAgg95 (h.dep n 4 20 (by kernel_rfl) rfl) ((rX.but h.inv.2.2 hne2).cell cX)⟩⟩
            · exact .inl ⟨by kernel_rfl, fun L a1 w1 n h => ⟨_, rfl, run_move (.tmp 8) rfl (h.var n 8 (by kernel_rfl))⟩⟩
            · exact .inl ⟨by kernel_rfl, fun L a1 w1 n h => ⟨_, rfl, run_index0 123 (.tmp 3) (.tmp 22) 2 95 g3 j rfl Tryz.underlying123 Tryz.sizeOf95 (h.var n 3 (by kernel_rfl)) (h.dep n 6 22 (by kernel_rfl) rfl) hj⟩⟩
            · exact .inl ⟨by kernel_rfl, fun L a1 w1 n h => ⟨_, rfl, run_loadA 95 (.tmp 23) ⟨g3, j, none⟩ rfl Tryz.isAgg95 (h.dep n 7 23 (by kernel_rfl) rfl) ((rY.but h.inv.2.2 hne3).cell cY)⟩⟩
            · exact .inl ⟨by kernel_rfl, fun L a1 w1 n h => ⟨_, rfl, run_move (.tmp 6) rfl (h.var n 6 (by kernel_rfl))⟩⟩
            · exact .inl ⟨by kernel_rfl, fun L a1 w1 n h => ⟨_, rfl, run_move (.tmp 8) rfl (h.var n 8 (by kernel_rfl))⟩⟩
            · refine .inl ⟨by kernel_rfl, fun L a1 w1 n h => ⟨.int .i64 ((i + j : Nat) : Int), rfl, ?_⟩⟩
              have e0 : a1.eval (.tmp 25) = _ := h.dep n 9 25 (by kernel_rfl) rfl
              have e1 : a1.eval (.tmp 26) = _ := h.dep n 10 26 (by kernel_rfl) rfl
              unfold execOp
              simp only [e0, e1]
              go_simp
              rw [IntWalk.i64_in _ (by omega)]
            · exact .inl ⟨by kernel_rfl, fun L a1 w1 n h => ⟨_, rfl, run_index0 149 (.tmp 5) (.tmp 27) 5 95 g5 (i + j) rfl Tryz.underlying149 Tryz.sizeOf95 (h.var n 5 (by kernel_rfl)) (h.dep n 11 27 (by kernel_rfl) rfl) hij⟩⟩
            · exact .inl ⟨by kernel_rfl, fun L a1 w1 n h => ⟨_, rfl, run_loadA 95 (.tmp 28) ⟨g5, (i + j), none⟩ rfl Tryz.isAgg95 (h.dep n 12 28 (by kernel_rfl) rfl) ((h.inv.1 (n.later (by kernel_rfl))).cell cO)⟩⟩
            · exact .inl ⟨by kernel_rfl, fun L a1 w1 n h => ⟨_, rfl, run_move (.tmp 7) rfl (h.var n 7 (by kernel_rfl))⟩⟩
            · refine .inr fun L a1 w1 n h K hK => ?_
              have e0 : a1.eval (.tmp 21) = _ := h.dep n 5 21 (by kernel_rfl) rfl
              have e1 : a1.eval (.tmp 24) = _ := h.dep n 8 24 (by kernel_rfl) rfl
              have e2 : a1.eval (.tmp 29) = _ := h.dep n 13 29 (by kernel_rfl) rfl
              have e3 : a1.eval (.tmp 30) = _ := h.dep n 14 30 (by kernel_rfl) rfl
              refine st_call 86 _ _ #[.int .u64 (x : Int), .int .u64 (y : Int), .int .u64 (o : Int), .int .u64 (c : Int)] rfl Tryz.call86 ?_ (RM w1) ?_
              · simp only [List.map_toArray, List.map_cons, List.map_nil, e0, e1, e2, e3]
              · rintro e w3 ⟨rfl, rfl⟩
                exact ⟨_, rfl, hK _ _ rfl h.inv⟩
            · exact .inl ⟨by kernel_rfl, fun L a1 w1 n h => ⟨_, rfl, run_move (.tmp 31) rfl (h.dep n 15 31 (by kernel_rfl) rfl)⟩⟩
            · exact .inl ⟨by kernel_rfl, fun L a1 w1 n h => ⟨_, rfl, run_extractA (.tmp 15) 0 _ rfl (h.dep n 16 15 (by kernel_rfl) rfl) rfl⟩⟩
            · exact .inl ⟨by kernel_rfl, fun L a1 w1 n h => ⟨_, rfl, run_extractA (.tmp 15) 1 _ rfl (h.dep n 16 15 (by kernel_rfl) rfl) rfl⟩⟩
            · exact .inl ⟨by kernel_rfl, fun L a1 w1 n h => ⟨_, rfl, run_assign (.tmp 32) rfl (h.dep n 17 32 (by kernel_rfl) rfl)⟩⟩
            · exact .inl ⟨by kernel_rfl, fun L a1 w1 n h => ⟨_, rfl, run_index0 149 (.tmp 5) (.tmp 18) 5 95 g5 (i + j) rfl Tryz.underlying149 Tryz.sizeOf95 (h.var n 5 (by kernel_rfl)) (h.dep n 2 18 (by kernel_rfl) rfl) hij⟩⟩
            · refine .inr fun L a1 w1 n h K hK => ?_
              have no : L.getD 21 false = false := n.not_yet
              refine st_store 95 (.tmp 34) (.tmp 33) g5 (i + j) 149 (uL ws) (.int .u64 (l : Int)) rfl (by kernel_rfl) (h.dep n 20 34 (by kernel_rfl) rfl) (h.dep n 18 33 (by kernel_rfl) rfl) (h.inv.1 no) hcl rfl ?_
              intro w3 r3 o3
              rw [hset] at r3
              exact hK undef w3 trivial ⟨fun h1 => absurd (show true = false from h1) (by decide), fun _ => r3, h.inv.2.2.trans (But.only o3)⟩
          case he =>
            intro V w5 hV hJ
            have r5 := hJ.2.1 rfl
            have bx5 := bx.trans hJ.2.2
            have h19 : V 19 = .int .u64 (H : Int) := hV 19 7 rfl
            clear hV hJ
            simp only [putOps, List.setIfInBounds_toArray, List.set_cons_succ, List.set_cons_zero]
            rw [h19]
            refine hK1 _ _ ?_
            go_wp2
            go_roundw
            case rel => exact ⟨j + 1, H, _, by omega, by go_num, rfl, hin', r5, bx5⟩
            case measure => simp [intOf]; omega
        · have hj' : j = 2 := by omega
          rw [hj'] at hin
          have h5 : ws.length = 5 := hin.1
          have hout := In.done hin hi HR.out
          have hcl : i + 2 < (uL ws).length := by rw [uL_len]; omega
          go_wp2_with (first
            | (with_reducible refine wl_store rfl 95 (.tmp 39) (.tmp 38) g5 (i + 2) 149 _ (.int .u64 (c : Int)) rfl (by kernel_rfl) rfl rfl rr hcl rfl ?_; intro w6 r6 o6; rw [uL_set] at r6))
          go_roundw
          case rel => exact ⟨i + 1, _, by omega, by go_num, hout, r6, bx.trans (But.only o6)⟩
          case measure => simp [intOf]; omega
    · have hi' : i = 3 := by omega
      rw [hi'] at ho
      obtain ⟨h5, hb, hv, _⟩ := ho
      rw [Nat.mod_eq_of_lt HX.out] at hv
      have z5 := hide (size5 h5)
      have l5 := hide (show (uL [0, 0, 0, 0, 0]).length = (uL ws).length by rw [uL_len ws, h5]; rfl)
      have R4 := R3.but bx hne4
      go_wp2_with (first
        | (with_reducible refine wl_load_row rfl 149 (.tmp 5) g5 149 _ _ rfl rfl rr Tryz.underlying149 rfl z5.out ?_)
        | (with_reducible refine wl_store_row rfl 149 (.tmp 4) (.tmp 41) g4 149 _ (uL ws) rfl rfl rfl R4 z5.out l5.out (oneU _) ?_; intro w6 r6 o6))
      refine bodyPost_ret (v := .agg (uL ws).toArray) ?_ rfl ⟨⟨ws, rfl, h5, hb, hv⟩, ?_⟩
      · exact results_cell_row Tryz.results82 _ _ g4 149 _ (0, 0) _ rfl r6 Tryz.underlying149 rfl (by simpa using z5.out)
      · exact (B4.trans (bx.below hg5 B4.size)).trans (o6.below hg4)
end Go.Proofs.YtooooncmjhcdbaaGreatDoor.Pa

/-
  Poly: a product modulo 2^130 - 5, folded once; a number reduced: contracts. Own work.
-/
namespace Go.Proofs.YtooooncmjhcdbaaGreatDoor.Pa
open Go.Proofs.YtooooncmjhcdbaaGreatDoor
open Go.RowKit
theorem nb_uL {a b c X : Nat} (ha : a < 18446744073709551616) (hb : b < 18446744073709551616) (hc : c < 18446744073709551616) (h : X = a + 18446744073709551616 * b + 340282366920938463463374607431768211456 * c) : uL [a, b, c] = nb X := by
  subst h
  have h1 := vl_digit 18446744073709551616 (by decide) [a, b, c]
  have hv : vl 18446744073709551616 [a, b, c] = a + 18446744073709551616 * b + 340282366920938463463374607431768211456 * c := by simp only [vl]; omega
  have hm : ∀ x ∈ [a, b, c], x < 18446744073709551616 := by intro x hx; simp at hx; omega
  rw [hv] at h1
  have g0 := h1 0 hm (by simp)
  have g1 := h1 1 hm (by simp)
  have g2 := h1 2 hm (by simp)
  simp only [uL, nb, nW, wd, List.map_cons, List.map_nil]
  rw [g0, g1, g2]
  rfl
theorem words_times {p0 p1 p2 p3 Z : Nat} (h0 : p0 < 18446744073709551616) (h1 : p1 < 18446744073709551616) (h2 : p2 < 18446744073709551616) (h3 : p3 < 18446744073709551616) (hZ : Z = p0 + 18446744073709551616 * (p1 + 18446744073709551616 * (p2 + 18446744073709551616 * p3))) :
    uL [p0, p1, p2 % 4] = nb (Z % 1361129467683753853853498429727072845824) ∧ uL [p2 - p2 % 4, p3, 0] = nb (4 * (Z / 1361129467683753853853498429727072845824)) ∧ uL [p2 / 4 + p3 % 4 * 4611686018427387904, p3 / 4, 0] = nb (Z / 1361129467683753853853498429727072845824) := by
  refine ⟨nb_uL h0 h1 (by omega) (by omega), nb_uL (by omega) h3 (by omega) (by omega), nb_uL (by omega) (by omega) (by omega) (by omega)⟩
theorem and3 (x : Nat) (h : x < 18446744073709551616) : bits .and .u64 (x : Int) 3 = ((x % 4 : Nat) : Int) := by
  have := bits_and_u64_nat x 3 h (by decide)
  rw [show (3 : Nat) = 2 ^ 2 - 1 from rfl, Nat.and_two_pow_sub_one_eq_mod] at this
  exact this
theorem built3 (a b c : Nat) : Tryz.prog.built 120 [(0, .int .u64 (a : Int)), (1, .int .u64 (b : Int)), (2, .int .u64 (c : Int))] = some (uL [a, b, c]).toArray := by kernel_rfl
theorem built2 (a b : Nat) : Tryz.prog.built 120 [(0, .int .u64 (a : Int)), (1, .int .u64 (b : Int))] = some (uL [a, b, 0]).toArray := by kernel_rfl
theorem size3 (a b c : Nat) : (Tryz.prog.info? 120).map (·.size) = some (uL [a, b, c]).length := by kernel_rfl
theorem andNot3 (x : Nat) (h : x < 18446744073709551616) : bits .andNot .u64 (x : Int) 3 = ((x - x % 4 : Nat) : Int) := by
  have h1 := u64_andNot_nat x 3 h (by decide)
  rw [show ((3 : Nat) : Int) = 3 from rfl] at h1
  rw [h1]
  congr 1
  have e : x = 4 * (x / 4) + x % 4 := by omega
  have e2 : (x &&& (18446744073709551615 - 3)) % 4 = 0 := by
    rw [show (4 : Nat) = 2 ^ 2 from rfl, ← Nat.and_two_pow_sub_one_eq_mod, Nat.and_assoc]
    simp
  have e3 : (x &&& (18446744073709551615 - 3)) / 4 = x / 4 := by
    rw [show (4 : Nat) = 2 ^ 2 from rfl, ← Nat.shiftRight_eq_div_pow, ← Nat.shiftRight_eq_div_pow, Nat.shiftRight_and_distrib]
    rw [show (18446744073709551615 - 3) >>> 2 = 2 ^ 62 - 1 from by decide, Nat.and_two_pow_sub_one_eq_mod, Nat.shiftRight_eq_div_pow]
    omega
  omega
theorem orT (p2 p3 : Nat) (h2 : p2 < 18446744073709551616) (h3 : p3 < 18446744073709551616) : bits .or .u64 ((p2 : Int) / 4) (IntKind.u64.wrap ((p3 : Int) * 4611686018427387904)) = ((p2 / 4 + p3 % 4 * 4611686018427387904 : Nat) : Int) := by
  have e : IntKind.u64.wrap ((p3 : Int) * 4611686018427387904) = ((p3 % 4 : Nat) : Int) * 2 ^ 62 := by
    rw [IntKind.wrap_u64]
    omega
  rw [e, bits_join_low .u64 64 (by decide) wraps_u64 62 ((p2 : Int) / 4) (((p3 % 4 : Nat) : Int) * 2 ^ 62) (by omega) (by omega) (by omega) (by omega) (Int.mul_emod_left _ _) (by omega)]
  omega
theorem times_facts {p0 p1 p2 p3 Z : Nat} (h0 : p0 < 18446744073709551616) (h1 : p1 < 18446744073709551616) (h2 : p2 < 18446744073709551616) (h3 : p3 < 18446744073709551616) (hZ : Z = p0 + 18446744073709551616 * (p1 + 18446744073709551616 * (p2 + 18446744073709551616 * p3))) :
    ∃ A B C u v s t : Nat, Hid (A + B + C = fold1 Z) ∧ Hid (uL [p0, p1, u] = nb A) ∧ Hid (uL [v, p3, 0] = nb B) ∧ Hid (uL [s, t, 0] = nb C) ∧ bits .and .u64 (p2 : Int) 3 = (u : Int) ∧ bits .andNot .u64 (p2 : Int) 3 = (v : Int) ∧ bits .or .u64 ((p2 : Int) / 4) (IntKind.u64.wrap ((p3 : Int) * 4611686018427387904)) = (s : Int) ∧ (p3 : Int) / 4 = (t : Int) := by
  obtain ⟨m1, m2, m3⟩ := words_times h0 h1 h2 h3 hZ
  refine ⟨_, _, _, _, _, _, _, hide ?_, hide m1, hide m2, hide m3, and3 p2 h2, andNot3 p2 h2, orT p2 p3 h2 h3, by omega⟩
  unfold fold1
  omega
def STi (g4 g6 g7 g8 A B C : Nat) (opn : Nat) (v : Value) : Prop :=
  match opn with
  | 0 => v = .agg (nb A).toArray
  | 1 => v = .agg (nb B).toArray
  | 2 => v = .agg (nb (A + B)).toArray
  | 3 => v = .agg (nb C).toArray
  | 4 => v = .agg (nb (A + B + C)).toArray
  | _ => True

set_option maxRecDepth 100000 in
set_option maxHeartbeats 2000000 in
theorem times_any (X R : Nat) (w : World) (hX : X < 2 ^ 131) (hR : R < 2 ^ 124) :
    Calls Tryz.prog 72 #[.agg (nb X).toArray, .agg (fb R).toArray] w fun e w' => e = .returned (.agg (nb (fold1 (X * R))).toArray) ∧ Below w.heap.size w w' := by
  have HP := fun w => product_any X R w (by omega) (by omega)
  have HZ := hide (mul_lt hX hR)
  have hX' := hide hX
  have hR' := hide hR
  clear hX hR
  go_enter Tryz.func72, Tryz.ntmps72
  go_wp2_with (first
    | (with_reducible refine wl_box rfl 120 (.tmp 0) _ (nb X) rfl rfl rfl ?_; intro g2 w1 r1 a1 l1 b1)
    | (with_reducible refine wl_box rfl 123 (.tmp 1) _ (fb R) rfl rfl rfl ?_; intro g3 w2 r2 a2 l2 b2; have r1' := r1.later b2)
    | (with_reducible refine wl_alloc (o := ⟨some 4, _, _, _, _, _⟩) rfl 120 _ (n3 0 0 0) rfl zeroN3 rfl ?_; intro g4 w3 r3 a3 l3 b3; have r1'' := r1'.later b3; have r2' := r2.later b3)
    | (with_reducible refine wl_load_row rfl 120 (.tmp 2) g2 120 _ _ rfl rfl r1'' Tryz.underlying120 rfl (sizeNb _) ?_)
    | (with_reducible refine wl_load_row rfl 123 (.tmp 3) g3 123 _ _ rfl rfl r2' Tryz.underlying123 rfl (by kernel_rfl) ?_))
  refine (HP _).mono ?_
  rintro e w4 ⟨⟨ws, rfl, h5, hb, hv⟩, b4⟩
  obtain ⟨p0, p1, p2, p3, p4, rfl⟩ : ∃ p0 p1 p2 p3 p4, ws = [p0, p1, p2, p3, p4] := by
    match ws, h5 with
    | [p0, p1, p2, p3, p4], _ => exact ⟨p0, p1, p2, p3, p4, rfl⟩
  have q0 := hb p0 (by simp)
  have q1 := hb p1 (by simp)
  have q2 := hb p2 (by simp)
  have q3 := hb p3 (by simp)
  simp only [vl] at hv
  have hz := HZ.out
  rw [← hv] at hz
  have q4 : p4 = 0 := by omega
  subst q4
  obtain ⟨A, B, C, u, v, s, t, hf, M1, M2, M3, B1, B2, B3, B4⟩ := times_facts q0 q1 q2 q3 (Z := X * R) (by rw [← hv]; omega)
  clear hv hz HZ hb h5
  go_wp2_with (first
    | (with_reducible refine wl_alloc (o := ⟨some 5, _, _, _, _, _⟩) rfl 149 _ (uL [0, 0, 0, 0, 0]) rfl zero5 rfl ?_; intro g5 w5 r5 a5 l5 b5)
    | (with_reducible refine wl_store_row rfl 149 (.tmp 5) (.tmp 11) g5 149 _ (uL [p0, p1, p2, p3, 0]) rfl rfl rfl r5 (size5 rfl) rfl (oneU _) ?_; intro w6 r6 o6; have c0 := r6.cell (j := 0) rfl; have c1 := r6.cell (j := 1) rfl; have c2 := r6.cell (j := 2) rfl; have c3 := r6.cell (j := 3) rfl)
    | ((with_reducible refine wl_build rfl 120 _ rfl _ ?hv _ (built3 p0 p1 u) ?hk); case hv => rfl)
    | (with_reducible refine wl_alloc (o := ⟨some 6, _, _, _, _, _⟩) rfl 120 _ (n3 0 0 0) rfl zeroN3 rfl ?_; intro g6 w7 r7 a7 l7 b7)
    | (with_reducible refine wl_store_row rfl 120 (.tmp 6) (.tmp 19) g6 120 _ (uL [p0, p1, u]) rfl rfl rfl r7 (size3 _ _ _) rfl (oneU _) ?_; intro w8 r8 o8; have r6b := (r6.later b7).only o8 (Nat.ne_of_lt (Nat.lt_of_lt_of_le r6.lt a7)); have c2' := r6b.cell (j := 2) rfl; have c3' := r6b.cell (j := 3) rfl)
    | ((with_reducible refine wl_build rfl 120 _ rfl _ ?hv _ (built2 v p3) ?hk); case hv => rfl)
    | (with_reducible refine wl_alloc (o := ⟨some 7, _, _, _, _, _⟩) rfl 120 _ (n3 0 0 0) rfl zeroN3 rfl ?_; intro g7 w9 r9 a9 l9 b9)
    | (with_reducible refine wl_store_row rfl 120 (.tmp 7) (.tmp 25) g7 120 _ (uL [v, p3, 0]) rfl rfl rfl r9 (size3 _ _ _) rfl (oneU _) ?_; intro w10 r10 o10; have r6c := (r6b.later b9).only o10 (Nat.ne_of_lt (Nat.lt_of_lt_of_le r6b.lt a9)); have c2'' := r6c.cell (j := 2) rfl; have c3'' := r6c.cell (j := 3) rfl)
    | ((with_reducible refine wl_build rfl 120 _ rfl _ ?hv _ (built2 s t) ?hk); case hv => rfl)
    | (with_reducible refine wl_alloc (o := ⟨some 8, _, _, _, _, _⟩) rfl 120 _ (n3 0 0 0) rfl zeroN3 rfl ?_; intro g8 w11 r11 a11 l11 b11)
    | (with_reducible refine wl_store_row rfl 120 (.tmp 8) (.tmp 36) g8 120 _ (uL [s, t, 0]) rfl rfl rfl r11 (size3 _ _ _) rfl (oneU _) ?_; intro w12 r12 o12))
  have S1 := b1.size; have S2 := b2.size; have S3 := b3.size; have S4 := b4.size; have S5 := b5.size; have S6 := o6.size; have S7 := b7.size; have S8 := o8.size; have S9 := b9.size; have S10 := o10.size; have S11 := b11.size; have S12 := o12.size
  have h64 : g6 ≠ g4 := by omega
  have h74 : g7 ≠ g4 := by omega
  have h84 : g8 ≠ g4 := by omega
  have hg4 : w.heap.size ≤ g4 := by omega
  rw [M1.out] at r8
  rw [M2.out] at r10
  rw [M3.out] at r12
  have rA := ((((r8.later b9).only o10 (by omega)).later b11).only o12 (by omega))
  have rB := ((r10.later b11).only o12 (by omega))
  have rC := r12
  have BW : Below w.heap.size w w12 := (((((((((((b1.trans (b2.mono (by omega))).trans (b3.mono (by omega))).trans (b4.mono (by omega))).trans (b5.mono (by omega))).trans (o6.below (by omega))).trans (b7.mono (by omega))).trans (o8.below (by omega))).trans (b9.mono (by omega))).trans (o10.below (by omega))).trans (b11.mono (by omega))).trans (o12.below (by omega)))
  have r4 : Row w12 120 g4 (n3 0 0 0) := (((((((((r3.later b4).later b5).only o6 (by omega)).later b7).only o8 (by omega)).later b9).only o10 (by omega)).later b11).only o12 (by omega))
  clear c0 c1 c2 c3 c2' c3' c2'' c3'' r6 r6b r6c r8 r10 r12 M1 M2 M3 r1 r1' r1'' r2 r2' r3 r5 r7 r9 r11
  rename_i K1 hK1
  refine wp_region_vals [2, 4, 5] (STi g4 g6 g7 g8 A B C) (JB g4 120 w12 2 (n3 0 0 0) (nb (A + B + C))) (by kernel_rfl) (by kernel_rfl) (by kernel_rfl) (by kernel_rfl) (by kernel_rfl) (JB.start r4 rfl) ?obs ?he
  case obs =>
    refine ⟨?_, ?_, ?_, ?_, ?_, ?_, trivial⟩
    · exact .inl ⟨by kernel_rfl, fun L a1 w1 n h => ⟨_, rfl, run_loadRow 120 (.tmp 6) g6 120 _ _ rfl (h.var n 6 (by kernel_rfl)) (rA.but h.inv.2.2 h64) Tryz.underlying120 rfl (sizeNb _)⟩⟩
    · exact .inl ⟨by kernel_rfl, fun L a1 w1 n h => ⟨_, rfl, run_loadRow 120 (.tmp 7) g7 120 _ _ rfl (h.var n 7 (by kernel_rfl)) (rB.but h.inv.2.2 h74) Tryz.underlying120 rfl (sizeNb _)⟩⟩
    · refine .inr fun L a1 w1 n h K hK => ?_
      have e0 : a1.eval (.tmp 37) = .agg (nb A).toArray := h.dep n 0 37 (by kernel_rfl) rfl
      have e1 : a1.eval (.tmp 38) = .agg (nb B).toArray := h.dep n 1 38 (by kernel_rfl) rfl
      refine st_call 63 _ _ #[.agg (nb A).toArray, .agg (nb B).toArray] rfl Tryz.call63 ?_ (plus_any A B w1) ?_
      · simp only [List.map_toArray, List.map_cons, List.map_nil, e0, e1]
      · rintro e w3 ⟨rfl, b9⟩
        exact ⟨_, rfl, hK _ w3 rfl (h.inv.call (us := []) b9)⟩
    · exact .inl ⟨by kernel_rfl, fun L a1 w1 n h => ⟨_, rfl, run_loadRow 120 (.tmp 8) g8 120 _ _ rfl (h.var n 8 (by kernel_rfl)) (rC.but h.inv.2.2 h84) Tryz.underlying120 rfl (sizeNb _)⟩⟩
    · refine .inr fun L a1 w1 n h K hK => ?_
      have e0 : a1.eval (.tmp 39) = .agg (nb (A + B)).toArray := h.dep n 2 39 (by kernel_rfl) rfl
      have e1 : a1.eval (.tmp 40) = .agg (nb C).toArray := h.dep n 3 40 (by kernel_rfl) rfl
      refine st_call 63 _ _ #[.agg (nb (A + B)).toArray, .agg (nb C).toArray] rfl Tryz.call63 ?_ (plus_any (A + B) C w1) ?_
      · simp only [List.map_toArray, List.map_cons, List.map_nil, e0, e1]
      · rintro e w3 ⟨rfl, b9⟩
        exact ⟨_, rfl, hK _ w3 rfl (h.inv.call (us := []) b9)⟩
    · refine .inr fun L a1 w1 n h K hK => ?_
      have no : L.getD 5 false = false := n.not_yet
      refine st_store_row 120 (.tmp 4) (.tmp 41) g4 120 (n3 0 0 0) (nb (A + B + C)) rfl (h.var n 4 (by kernel_rfl)) (h.dep n 4 41 (by kernel_rfl) rfl) (h.inv.1 no) (sizeNb _) rfl (oneNb _) ?_
      intro w3 r3 o3
      exact hK undef w3 trivial (h.inv.store (us := []) o3 r3 rfl)
  case he =>
    intro V w5 hV hJ
    have r5 := hJ.2.1 rfl
    have bx := hJ.2.2
    clear hV hJ
    simp only [putOps, List.setIfInBounds_toArray, List.set_cons_succ, List.set_cons_zero]
    refine hK1 _ _ ?_
    go_wp2
    refine bodyPost_ret (v := .agg (nb (A + B + C)).toArray) ?_ rfl ⟨by rw [hf.out], ?_⟩
    · exact results_cell_row Tryz.results72 _ _ g4 120 _ (0, 0) _ rfl r5 Tryz.underlying120 rfl (by simpa using sizeNb (A + B + C))
    · exact BW.trans (bx.below hg4 BW.size)
end Go.Proofs.YtooooncmjhcdbaaGreatDoor.Pa

/-
  Poly: a number reduced; a part that is filled: contracts. Own work.
-/
namespace Go.Proofs.YtooooncmjhcdbaaGreatDoor.Pa
open Go.Proofs.YtooooncmjhcdbaaGreatDoor
open Go.RowKit
theorem built1 (a : Nat) : Tryz.prog.built 120 [(0, .int .u64 (a : Int))] = some (uL [a, 0, 0]).toArray := by kernel_rfl
theorem run_indexV {P : Program} (w : World) (T elem len : Nat) (cs : Array Value) (i : Nat) (v : Value) (hu : P.underlying T = some (.array len elem)) (ha : ∀ w, (isAgg elem).run P w = .ok false w) (hs : ∀ w, (sizeOf elem).run P w = .ok 1 w) (hi : i < len) (hv : cs[i]? = some v) :
    (Instr.index T (.agg cs) (.int .i64 i)).run P w = .ok v w := by
  have h2 : ((0 : Int) ≤ i ∧ (i : Int) < len) := by omega
  have h3 : ¬ len ≤ i := by omega
  simp [Instr.index, asIntOf, underlying, hu, part, ha, hs, h2, h3, hv]
theorem red_facts {X : Nat} (h : X < 2 ^ 132) : ∃ o f r : Nat, nW (X + 5) 2 < 18446744073709551616 ∧ (nW (X + 5) 2 : Int) / 4 = (o : Int) ∧ IntKind.u64.wrap (5 * (o : Int)) = (f : Int) ∧ Hid (uL [f, 0, 0] = nb f) ∧ Hid (nb 5 = uL [5, 0, 0]) ∧ bits .and .u64 (nW (X + f) 2 : Int) 3 = (r : Int) ∧ Hid ((nb (X + f)).set 2 (.int .u64 (r : Int)) = nb (red X)) ∧ r < 18446744073709551616 := by
  have hx : X < 5444517870735015415413993718908291383296 := h
  have e2 : nW (X + 5) 2 = (X + 5) / 340282366920938463463374607431768211456 % 18446744073709551616 := rfl
  have hl : nW (X + 5) 2 < 18446744073709551616 := nW_lt _ _
  have hs : (X + 5) / 340282366920938463463374607431768211456 < 18446744073709551616 := by omega
  rw [Nat.mod_eq_of_lt hs] at e2
  have ho : nW (X + 5) 2 / 4 = (X + 5) / 1361129467683753853853498429727072845824 := by rw [e2, Nat.div_div_eq_div_mul]
  have ho4 : (X + 5) / 1361129467683753853853498429727072845824 ≤ 4 := by omega
  obtain ⟨o, hoo⟩ : ∃ o, (X + 5) / 1361129467683753853853498429727072845824 = o := ⟨_, rfl⟩
  rw [hoo] at ho ho4
  have hr : red X = (X + 5 * o) % 1361129467683753853853498429727072845824 := by unfold red; rw [hoo]
  obtain ⟨f, hf⟩ : ∃ f, 5 * o = f := ⟨_, rfl⟩
  rw [hf] at hr
  have hf5 : f ≤ 20 := by omega
  refine ⟨o, f, nW (X + f) 2 % 4, hl, by omega, by rw [IntKind.wrap_u64]; omega, hide (nb_uL (by omega) (by decide) (by decide) (by omega)), hide (nb_uL (by decide) (by decide) (by decide) (by decide)).symm, and3 _ (nW_lt _ _), hide ?_, by omega⟩
  rw [hr]
  have e3 : nW (X + f) 2 = (X + f) / 340282366920938463463374607431768211456 % 18446744073709551616 := rfl
  have e0 : nW (X + f) 0 = (X + f) % 18446744073709551616 := by show (X + f) / 1 % _ = _; rw [Nat.div_one]
  have e1 : nW (X + f) 1 = (X + f) / 18446744073709551616 % 18446744073709551616 := rfl
  show uL [nW (X + f) 0, nW (X + f) 1, nW (X + f) 2 % 4] = _
  refine nb_uL (nW_lt _ _) (nW_lt _ _) (by omega) ?_
  rw [e3, e0, e1]
  have hY : X + f < 10889035741470030830827987437816582766592 := by omega
  clear e0 e1 e2 e3 hr hl ho
  generalize X + f = Y at *
  have d1 : Y / 340282366920938463463374607431768211456 = Y / 18446744073709551616 / 18446744073709551616 := by rw [Nat.div_div_eq_div_mul]
  have d2 : Y / 1361129467683753853853498429727072845824 = Y / 18446744073709551616 / 18446744073709551616 / 4 := by rw [Nat.div_div_eq_div_mul, Nat.div_div_eq_div_mul]
  have d3 : Y % 1361129467683753853853498429727072845824 = Y - 1361129467683753853853498429727072845824 * (Y / 1361129467683753853853498429727072845824) := by omega
  rw [d3, d1, d2]
  omega
set_option maxRecDepth 100000 in
set_option maxHeartbeats 2000000 in
theorem reduced_any (X : Nat) (w : World) (hX : X < 2 ^ 132) :
    Calls Tryz.prog 62 #[.agg (nb X).toArray] w fun e w' => e = .returned (.agg (nb (red X)).toArray) ∧ Below w.heap.size w w' := by
  obtain ⟨o, f, r, hl, hdiv, hmul, M1, M5, hand, MR, hr⟩ := red_facts hX
  have HP : ∀ w, Calls Tryz.prog 63 #[.agg (nb X).toArray, .agg (nb 5).toArray] w fun e w' => e = .returned (.agg #[.int .u64 (nW (X + 5) 0 : Int), .int .u64 (nW (X + 5) 1 : Int), .int .u64 (nW (X + 5) 2 : Int)]) ∧ Below w.heap.size w w' := fun w => plus_any X 5 w
  generalize nW (X + 5) 2 = y2 at *
  have HQ : ∀ w, Calls Tryz.prog 63 #[.agg (nb X).toArray, .agg #[.int .u64 (f : Int), .int .u64 0, .int .u64 0]] w fun e w' => e = .returned (.agg (nb (X + f)).toArray) ∧ Below w.heap.size w w' := fun w => by
    have := plus_any X f w
    rw [← M1.out] at this
    exact this
  clear hX
  have HI : ∀ (w : World) (a b : Value), (Instr.index 120 (.agg #[a, b, .int .u64 (y2 : Int)]) (.int .i64 2)).run Tryz.prog w = .ok (.int .u64 (y2 : Int)) w := fun w a b => run_indexV w 120 95 3 #[a, b, .int .u64 (y2 : Int)] 2 _ Tryz.underlying120 Tryz.isAgg95 Tryz.sizeOf95 (by decide) rfl
  go_enter Tryz.func62, Tryz.ntmps62
  go_wp2_with (first
    | (with_reducible refine wl_box rfl 120 (.tmp 0) _ (nb X) rfl rfl rfl ?_; intro g1 w1 r1 a1 l1 b1)
    | (with_reducible refine wl_alloc rfl 120 _ (n3 0 0 0) rfl zeroN3 rfl ?_; intro g3 w3 r3 a3 l3 b3; have r1' := r1.later b3)
    | (with_reducible refine wl_load_row rfl 120 (.tmp 1) g1 120 _ _ rfl rfl r1' Tryz.underlying120 rfl (sizeNb _) ?_)
    | ((with_reducible refine wl_build rfl 120 _ rfl _ ?hv _ (built1 5) ?hk); case hv => rfl))
  rw [← M5.out]
  refine (HP _).mono ?_
  rintro e w4 ⟨rfl, b4⟩
  have s1 := b1.size; have s3 := b3.size; have s4 := b4.size
  have r4 := r1'.later b4
  go_wp2_with (first
    | (with_reducible refine wl_load_row rfl 120 (.tmp 1) g1 120 _ _ rfl rfl r4 Tryz.underlying120 rfl (sizeNb _) ?_)
    | rw [HI])
  refine (HQ _).mono ?_
  rintro e w5 ⟨rfl, b5⟩
  have s5 := b5.size
  have r5 := r4.later b5
  have cx := nb_get (X := X + f) (i := 2) (by decide)
  generalize nW (X + f) 2 = z2 at *
  have hrr := MR.out
  have hl2 : 2 < (nb (X + f)).length := by show 2 < 3; decide
  have zr := hide (oneNb (X + f))
  have r3' := (r3.later b4).later b5
  go_wp2_with (first
    | (with_reducible refine wl_store_row rfl 120 (.tmp 1) (.tmp 13) g1 120 _ (nb (X + f)) rfl rfl rfl r5 (sizeNb _) rfl zr.out ?_; intro w6 r6 o6; have c6 := r6.cell cx)
    | (with_reducible refine wl_store rfl 95 (.tmp 17) (.tmp 16) g1 2 120 _ (.int .u64 (r : Int)) rfl (by kernel_rfl) rfl rfl r6 hl2 rfl ?_; intro w7 r7 o7; rw [hrr] at r7)
    | (with_reducible refine wl_load_row rfl 120 (.tmp 1) g1 120 _ _ rfl rfl r7 Tryz.underlying120 rfl (sizeNb _) ?_)
    | (with_reducible refine wl_store_row rfl 120 (.tmp 2) (.tmp 18) g3 120 _ (nb (red X)) rfl rfl rfl ((r3'.only o6 (by omega)).only o7 (by omega)) (sizeNb _) rfl (oneNb _) ?_; intro w8 r8 o8))
  have s6 := o6.size; have s7 := o7.size
  refine bodyPost_ret (v := .agg (nb (red X)).toArray) ?_ rfl ⟨rfl, ?_⟩
  · exact results_cell_row Tryz.results62 _ _ g3 120 _ (0, 0) _ rfl r8 Tryz.underlying120 rfl (by simpa using sizeNb (red X))
  · exact ((((((b1.trans (b3.mono (by omega))).trans (b4.mono (by omega))).trans (b5.mono (by omega))).trans (o6.below (by omega))).trans (o7.below (by omega))).trans (o8.below (by omega)))
end Go.Proofs.YtooooncmjhcdbaaGreatDoor.Pa

/-
  Poly: bytes that fill a part; the part's number: contracts. Own work.
-/
namespace Go.Proofs.YtooooncmjhcdbaaGreatDoor.Pa
open Go.Proofs.YtooooncmjhcdbaaGreatDoor
open Go.RowKit
def SFi (g n m c k : Nat) (A : Option Addr) (opn : Nat) (v : Value) : Prop :=
  match opn with
  | 0 | 1 | 2 | 3 | 4 => v = .pointer (some ⟨g, 0, none⟩)
  | 5 => v = .pointer (some ⟨g, 16, none⟩)
  | 6 => v = .int .i64 (n : Int)
  | 7 => v = .slice (some ⟨g, n, none⟩) (16 - n) (16 - n)
  | 8 => v = .slice A m c
  | 9 | 10 => v = .int .i64 (k : Int)
  | _ => True

set_option maxRecDepth 100000 in
set_option maxHeartbeats 1000000 in
theorem fill_any (g t n m c B k : Nat) (held xs : List Int) (rest : List Value) (A : Option Addr) (w : World) (hr : Row w t g (bv held ++ (.int .i64 (n : Int) :: rest))) (hh : held.length = 16) (hn : n < 16) (hx : Bs w B A m xs) (hB : Off g m A) (hBw : B ≤ w.heap.size) (hm : 0 < m) (hk : k = min m (16 - n)) (hc : m ≤ c) :
    Calls Tryz.prog 58 #[.pointer (some ⟨g, 0, none⟩), .slice A m c] w fun e w' => e = .returned (.slice (subA A c k) (m - k) (c - k)) ∧ Row w' t g (bv (held.take n ++ (xs.take k ++ held.drop (n + k))) ++ (.int .i64 ((n + k : Nat) : Int) :: rest)) ∧ But g w w' := by
  have hpos : 0 < k := by omega
  have hnk : n + k ≤ 16 := by omega
  have hkm : k ≤ m := by omega
  have hlen : (bv held).length = 16 := by rw [bv_len, hh]
  have hS := fun w => run_sliceFrom (P := Tryz.prog) w 25 5 Tryz.underlying25 Tryz.sizeOf5 A m c .i64 k hkm
  have c16 : (bv held ++ (.int .i64 (n : Int) :: rest))[16]? = some (.int .i64 (n : Int)) := by rw [List.getElem?_append_right (by omega), hlen]; rfl
  have hnew : (bv held ++ (.int .i64 (n : Int) :: rest)).take n ++ (bv (xs.take k) ++ (bv held ++ (.int .i64 (n : Int) :: rest)).drop (n + k)) = bv (held.take n ++ (xs.take k ++ held.drop (n + k))) ++ (.int .i64 (n : Int) :: rest) := by
    rw [List.take_append_of_le_length (by omega), List.drop_append_of_le_length (by omega)]
    simp [bv]
  have hset : (bv (held.take n ++ (xs.take k ++ held.drop (n + k))) ++ (.int .i64 (n : Int) :: rest)).set 16 (.int .i64 ((n + k : Nat) : Int)) = bv (held.take n ++ (xs.take k ++ held.drop (n + k))) ++ (.int .i64 ((n + k : Nat) : Int) :: rest) := by
    have hl : (bv (held.take n ++ (xs.take k ++ held.drop (n + k)))).length = 16 := by
      have := hx.1
      simp [bv_len, hh]
      omega
    rw [List.set_append_right _ _ (by omega), hl]
    rfl
  have c16' : (bv (held.take n ++ (xs.take k ++ held.drop (n + k))) ++ (.int .i64 (n : Int) :: rest))[16]? = some (.int .i64 (n : Int)) := by
    have hl : (bv (held.take n ++ (xs.take k ++ held.drop (n + k)))).length = 16 := by
      have := hx.1
      simp [bv_len, hh]
      omega
    rw [List.getElem?_append_right (by omega), hl]; rfl
  have hfit : n + k ≤ (bv held ++ (.int .i64 (n : Int) :: rest)).length := by rw [List.length_append, hlen]; omega
  have hl16 : 16 < (bv (held.take n ++ (xs.take k ++ held.drop (n + k))) ++ (.int .i64 (n : Int) :: rest)).length := by
    have := (List.getElem?_eq_some_iff.1 c16').1
    exact this
  generalize bv held ++ (.int .i64 (n : Int) :: rest) = cur at *
  generalize bv (held.take n ++ (xs.take k ++ held.drop (n + k))) ++ (.int .i64 (n : Int) :: rest) = mid at *
  generalize bv (held.take n ++ (xs.take k ++ held.drop (n + k))) ++ (.int .i64 ((n + k : Nat) : Int) :: rest) = fin at *
  have HN := hide hnew
  have HS := hide hset
  have HK := hide hk
  clear hnew hset hlen hh hk
  go_enter Tryz.func58, Tryz.ntmps58
  go_wp2_with fail
  rename_i K1 hK1
  refine wp_region_vals [9] (SFi g n m c k A) (JB g t w 0 cur mid) (by kernel_rfl) (by kernel_rfl) (by kernel_rfl) (by kernel_rfl) (by kernel_rfl) (JB.start hr rfl) ?obs ?he
  case obs =>
    refine ⟨?_, ?_, ?_, ?_, ?_, ?_, ?_, ?_, ?_, ?_, ?_, trivial⟩
    · exact .inl ⟨by kernel_rfl, fun L a1 w1 n' h => ⟨_, rfl, run_move (.tmp 0) rfl (h.var n' 0 (by kernel_rfl))⟩⟩
    · refine .inl ⟨by kernel_rfl, fun L a1 w1 n' h => ⟨.pointer (some ⟨g, 0, none⟩), rfl, ?_⟩⟩
      have e0 : a1.eval (.tmp 6) = _ := h.dep n' 0 6 (by kernel_rfl) rfl
      unfold execOp
      simp only [e0]
      go_simp
    · refine .inl ⟨by kernel_rfl, fun L a1 w1 n' h => ⟨.pointer (some ⟨g, 0, none⟩), rfl, ?_⟩⟩
      have e0 : a1.eval (.tmp 7) = _ := h.dep n' 1 7 (by kernel_rfl) rfl
      unfold execOp
      simp only [e0]
      go_simp
    · exact .inl ⟨by kernel_rfl, fun L a1 w1 n' h => ⟨_, rfl, run_move (.tmp 0) rfl (h.var n' 0 (by kernel_rfl))⟩⟩
    · refine .inl ⟨by kernel_rfl, fun L a1 w1 n' h => ⟨.pointer (some ⟨g, 0, none⟩), rfl, ?_⟩⟩
      have e0 : a1.eval (.tmp 9) = _ := h.dep n' 3 9 (by kernel_rfl) rfl
      unfold execOp
      simp only [e0]
      go_simp
    · refine .inl ⟨by kernel_rfl, fun L a1 w1 n' h => ⟨.pointer (some ⟨g, 16, none⟩), rfl, ?_⟩⟩
      have e0 : a1.eval (.tmp 10) = _ := h.dep n' 4 10 (by kernel_rfl) rfl
      unfold execOp
      simp only [e0]
      go_simp
    · exact .inl ⟨by kernel_rfl, fun L a1 w1 n' h => ⟨_, rfl, run_loadA 3 (.tmp 11) ⟨g, 16, none⟩ rfl Tryz.isAgg3 (h.dep n' 5 11 (by kernel_rfl) rfl) ((h.inv.1 (n'.later (by kernel_rfl))).cell c16)⟩⟩
    · exact .inl ⟨by kernel_rfl, fun L a1 w1 n' h => ⟨_, rfl, run_sliceLo 85 (.tmp 8) (.tmp 12) 16 5 g n rfl Tryz.underlying85 Tryz.sizeOf5 (h.dep n' 2 8 (by kernel_rfl) rfl) (h.dep n' 6 12 (by kernel_rfl) rfl) hn⟩⟩
    · exact .inl ⟨by kernel_rfl, fun L a1 w1 n' h => ⟨_, rfl, run_move (.tmp 1) rfl (h.var n' 1 (by kernel_rfl))⟩⟩
    · refine .inr fun L a1 w1 n' h K hK => ?_
      have no : L.getD 9 false = false := n'.not_yet
      refine st_copy_take (.tmp 13) (.tmp 14) _ _ rfl 5 Tryz.underlying25 u8_size g n (16 - n) (16 - n) m c t B A (h.dep n' 7 13 (by kernel_rfl) rfl) (h.dep n' 8 14 (by kernel_rfl) rfl) cur xs k (h.inv.1 no) (hx.keepOff h.inv.2.2 hB hBw) HK.out hpos hfit ?_
      intro w3 r3 o3
      exact hK _ w3 rfl (h.inv.store (us := []) o3 (by rw [← HN.out]; exact r3) rfl)
    · exact .inl ⟨by kernel_rfl, fun L a1 w1 n' h => ⟨_, rfl, run_assign (.tmp 15) rfl (h.dep n' 9 15 (by kernel_rfl) rfl)⟩⟩
  case he =>
    intro V w5 hV hJ
    have r5 := hJ.2.1 rfl
    have bx := hJ.2.2
    have h10 : V 10 = .int .i64 (k : Int) := hV 10 5 rfl
    clear hV hJ
    simp only [putOps, List.setIfInBounds_toArray, List.set_cons_succ, List.set_cons_zero]
    rw [h10]
    refine hK1 _ _ ?_
    have c5 := r5.cell c16'
    go_wp2_with (first
      | (with_reducible refine wl_store rfl 3 (.tmp 23) (.tmp 21) g 16 t _ (.int .i64 ((n : Int) + (k : Int))) rfl (by kernel_rfl) rfl rfl r5 hl16 rfl ?_; intro w7 r7 o7)
      | rw [hS])
    go_ret
    rw [show ((n : Int) + (k : Int)) = ((n + k : Nat) : Int) from by omega, HS.out] at r7
    exact ⟨rfl, r7, bx.trans (But.only o7)⟩
end Go.Proofs.YtooooncmjhcdbaaGreatDoor.Pa

/-
  Poly: a part's number, the sum behind it: contracts. Own work.
-/
namespace Go.Proofs.YtooooncmjhcdbaaGreatDoor.Pa
open Go.Proofs.YtooooncmjhcdbaaGreatDoor
open Go.RowKit
theorem bv_app (xs ys : List Int) : bv (xs ++ ys) = bv xs ++ bv ys := by simp [bv]
theorem bv_drop (xs : List Int) (n : Nat) : bv (xs.drop n) = (bv xs).drop n := by simp [bv, List.map_drop]
theorem bv_take (xs : List Int) (n : Nat) : bv (xs.take n) = (bv xs).take n := by simp [bv, List.map_take]
theorem n3_nb {xs : List Int} (h : IsBy xs) : n3 (leV xs 0 8) (leV xs 8 8) (leV xs 16 8) = nb (leN xs) := by
  simp only [n3, nb, nW_leN h]
/-- 'x[:h]' of an array. -/
theorem run_sliceHi {P : Program} {o : Oper} {a : Act} {w : World} (t : TypeId) (x y : Operand) (n e : Nat) (g h : Nat) (ho : o.op = .slice t x none (some y) none) (hu : P.underlying t = some (.array n e)) (hs : ∀ w, (sizeOf e).run P w = .ok 1 w)
    (hx : a.eval x = .pointer (some ⟨g, 0, none⟩)) (hy : a.eval y = .int .i64 h) (hl : h ≤ n) : (execOp a.eval o).run P w = .ok (.value (.slice (some ⟨g, 0, none⟩) h n)) w := by
  have h1 : (0 : Int) ≤ h := by omega
  have h2 : (h : Int) ≤ n := by omega
  have hadd : (⟨g, 0, none⟩ : Addr).add 0 = ⟨g, 0, none⟩ := by unfold Addr.add; split <;> simp_all
  unfold execOp
  simp only [ho, hx, hy, Option.map_some, Option.map_none]
  simp [Instr.sliceAt, underlying, hu, Instr.sureAddr, Instr.sliceBounds, Instr.sliceBound, asIntOf, hs, h1, h2, hadd, hl]
/-- A Mac's cells. -/
def macL (held : List Int) (n R S T : Nat) : List Value := bv held ++ (.int .i64 (n : Int) :: (fb R ++ (nb S ++ nb T)))
theorem mac16 {held : List Int} (h : held.length = 16) (n R S T : Nat) : (macL held n R S T)[16]? = some (.int .i64 (n : Int)) := by
  unfold macL
  rw [List.getElem?_append_right (by rw [bv_len]; omega), bv_len, h]; rfl
theorem macLen {held : List Int} (h : held.length = 16) (n R S T : Nat) : (macL held n R S T).length = 25 := by simp [macL, bv_len, h, fb, nb]
theorem zero17 : (Tryz.prog.info? 151).map (fun i => i.zero) = some (some (.agg (bv (List.replicate 17 0)).toArray)) := by kernel_rfl
def SPc (g g3 n : Nat) (opn : Nat) (v : Value) : Prop :=
  match opn with
  | 0 => v = .slice (some ⟨g3, 0, none⟩) 17 17
  | 1 | 2 | 3 | 4 | 5 => v = .pointer (some ⟨g, 0, none⟩)
  | 6 => v = .pointer (some ⟨g, 16, none⟩)
  | 7 | 9 => v = .int .i64 (n : Int)
  | 8 => v = .slice (some ⟨g, 0, none⟩) n 16
  | _ => True

set_option maxRecDepth 100000 in
set_option maxHeartbeats 1000000 in
theorem piece_any (g n R S T : Nat) (held : List Int) (w : World) (hr : Row w 127 g (macL held n R S T)) (hh : held.length = 16) (hb : IsBy held) (hpos : 0 < n) (hn : n ≤ 16) :
    Calls Tryz.prog 73 #[.pointer (some ⟨g, 0, none⟩)] w fun e w' => e = .returned (.agg (nb (leN (held.take n ++ [1]))).toArray) ∧ Below w.heap.size w w' := by
  have c16 := mac16 hh n R S T
  have hbn : IsBy (held.take n ++ (1 :: List.replicate (16 - n) 0)) := (hb.take n).app fun x hx => by
    simp only [List.mem_cons, List.mem_replicate] at hx
    rcases hx with rfl | ⟨_, rfl⟩ <;> omega
  have hlen : (held.take n ++ (1 :: List.replicate (16 - n) 0)).length = 17 := by simp [hh]; omega
  have hval : leN (held.take n ++ (1 :: List.replicate (16 - n) 0)) = leN (held.take n ++ [1]) := by
    rw [leN_append, leN_append]
    simp [leN, leN_zeros]
  have HB : ∀ w', Row w' 127 g (macL held n R S T) → Bs w' (g + 1) (some ⟨g, 0, none⟩) n (held.take n) := fun w' h => by
    have e : macL held n R S T = [] ++ (bv (held.take n) ++ (bv (held.drop n) ++ (.int .i64 (n : Int) :: (fb R ++ (nb S ++ nb T))))) := by
      unfold macL
      rw [List.nil_append, ← List.append_assoc (bv (held.take n)), ← bv_app, List.take_append_drop]
    rw [e] at h
    have := h.bs (B := g + 1) rfl (by omega)
    rwa [List.length_take, Nat.min_eq_left (by omega)] at this
  have hmid : (bv (List.replicate 17 0)).take 0 ++ (bv (held.take n) ++ (bv (List.replicate 17 0)).drop (0 + n)) = bv (held.take n ++ List.replicate (17 - n) 0) := by
    rw [List.take_zero, List.nil_append, Nat.zero_add, bv_app, ← bv_drop, List.drop_replicate]
  have hset : (bv (held.take n ++ List.replicate (17 - n) 0)).set n (.int .u8 1) = bv (held.take n ++ (1 :: List.replicate (16 - n) 0)) := by
    rw [bv_set]
    congr 1
    rw [List.set_append_right _ _ (by rw [List.length_take]; omega), List.length_take, Nat.min_eq_left (by omega), Nat.sub_self, show 17 - n = (16 - n) + 1 by omega, List.replicate_succ]
    rfl
  have hln : n < (bv (held.take n ++ List.replicate (17 - n) 0)).length := by rw [bv_len]; simp [hh]; omega
  have HV := hide hval
  have HL := hide hlen
  have HS := hide hset
  have HM := hide hmid
  have hn3 := n3_nb hbn
  have hF := fun A m c w h => fromBytes_any A m c _ w h hbn
  clear hval hlen hset
  generalize hys : held.take n ++ (1 :: List.replicate (16 - n) 0) = ys at *
  clear hys
  rw [hn3] at hF
  go_enter Tryz.func73, Tryz.ntmps73
  go_wp2_with (first
    | (with_reducible refine wl_alloc rfl 120 _ (n3 0 0 0) rfl zeroN3 rfl ?_; intro g2 w1 r1 a1 l1 b1; have hr1 := hr.later b1)
    | (with_reducible refine wl_alloc rfl 151 _ (bv (List.replicate 17 0)) rfl zero17 rfl ?_; intro g3 w2 r2 a2 l2 b2; have hr3 := hr1.later b2))
  have hne : g ≠ g3 := by have := hr1.lt; omega
  have s1 := b1.size; have s2 := b2.size
  rename_i K1 hK1
  refine wp_region_vals [9] (SPc g g3 n) (JB g3 151 w2 0 (bv (List.replicate 17 0)) (bv (held.take n ++ List.replicate (17 - n) 0))) (by kernel_rfl) (by kernel_rfl) (by kernel_rfl) (by kernel_rfl) (by kernel_rfl) (JB.start r2 rfl) ?obs ?he
  case obs =>
    refine ⟨?_, ?_, ?_, ?_, ?_, ?_, ?_, ?_, ?_, ?_, trivial⟩
    · exact .inl ⟨by kernel_rfl, fun L a1 w1 n' h => ⟨_, rfl, run_sliceAll 151 (.tmp 3) 17 5 g3 rfl Tryz.underlying151 Tryz.sizeOf5 (h.var n' 3 (by kernel_rfl))⟩⟩
    · exact .inl ⟨by kernel_rfl, fun L a1 w1 n' h => ⟨_, rfl, run_move (.tmp 0) rfl (h.var n' 0 (by kernel_rfl))⟩⟩
    · refine .inl ⟨by kernel_rfl, fun L a1 w1 n' h => ⟨.pointer (some ⟨g, 0, none⟩), rfl, ?_⟩⟩
      have e0 : a1.eval (.tmp 5) = _ := h.dep n' 1 5 (by kernel_rfl) rfl
      unfold execOp
      simp only [e0]
      go_simp
    · refine .inl ⟨by kernel_rfl, fun L a1 w1 n' h => ⟨.pointer (some ⟨g, 0, none⟩), rfl, ?_⟩⟩
      have e0 : a1.eval (.tmp 6) = _ := h.dep n' 2 6 (by kernel_rfl) rfl
      unfold execOp
      simp only [e0]
      go_simp
    · exact .inl ⟨by kernel_rfl, fun L a1 w1 n' h => ⟨_, rfl, run_move (.tmp 0) rfl (h.var n' 0 (by kernel_rfl))⟩⟩
    · refine .inl ⟨by kernel_rfl, fun L a1 w1 n' h => ⟨.pointer (some ⟨g, 0, none⟩), rfl, ?_⟩⟩
      have e0 : a1.eval (.tmp 8) = _ := h.dep n' 4 8 (by kernel_rfl) rfl
      unfold execOp
      simp only [e0]
      go_simp
    · refine .inl ⟨by kernel_rfl, fun L a1 w1 n' h => ⟨.pointer (some ⟨g, 16, none⟩), rfl, ?_⟩⟩
      have e0 : a1.eval (.tmp 9) = _ := h.dep n' 5 9 (by kernel_rfl) rfl
      unfold execOp
      simp only [e0]
      go_simp
    · exact .inl ⟨by kernel_rfl, fun L a1 w1 n' h => ⟨_, rfl, run_loadA 3 (.tmp 10) ⟨g, 16, none⟩ rfl Tryz.isAgg3 (h.dep n' 6 10 (by kernel_rfl) rfl) ((hr3.but h.inv.2.2 hne).cell c16)⟩⟩
    · exact .inl ⟨by kernel_rfl, fun L a1 w1 n' h => ⟨_, rfl, run_sliceHi 85 (.tmp 7) (.tmp 11) 16 5 g n rfl Tryz.underlying85 Tryz.sizeOf5 (h.dep n' 3 7 (by kernel_rfl) rfl) (h.dep n' 7 11 (by kernel_rfl) rfl) hn⟩⟩
    · refine .inr fun L a1 w1 n' h K hK => ?_
      have no : L.getD 9 false = false := n'.not_yet
      refine st_copy (.tmp 4) (.tmp 12) _ _ rfl 5 Tryz.underlying25 u8_size g3 0 17 17 n 16 151 (g + 1) (some ⟨g, 0, none⟩) (h.dep n' 0 4 (by kernel_rfl) rfl) (h.dep n' 8 12 (by kernel_rfl) rfl) (bv (List.replicate 17 0)) (held.take n) (h.inv.1 no) (HB _ (hr3.but h.inv.2.2 hne)) (by omega) hpos (by rw [bv_len, List.length_replicate]; omega) ?_
      intro w3 r3 o3
      rw [hmid] at r3
      exact hK _ w3 rfl (h.inv.store (us := []) o3 r3 rfl)
  case he =>
    intro V w5 hV hJ
    have r5 := hJ.2.1 rfl
    have bx := hJ.2.2
    clear hV hJ
    simp only [putOps, List.setIfInBounds_toArray, List.set_cons_succ, List.set_cons_zero]
    refine hK1 _ _ ?_
    have hr5 := hr3.but bx hne
    have c5 := hr5.cell c16
    go_wp2_with (first
      | (with_reducible refine wl_store rfl 5 (.tmp 18) (.const (.int .u8 1)) g3 n 151 _ (.int .u8 1) rfl (by kernel_rfl) rfl rfl r5 hln rfl ?_; intro w7 r7 o7; rw [HS.out] at r7))
    have hbs := (Row.toOwn r7).bs (B := w7.heap.size) r7.lt
    rw [HL.out] at hbs
    refine (hF _ _ 17 _ hbs (by omega)).mono ?_
    rintro e w8 ⟨rfl, b8⟩
    have s5 := bx.size; have s7 := o7.size
    have hne2 : g2 ≠ g3 := by omega
    have r1' := (((r1.later b2).but bx hne2).only o7 hne2).later b8
    go_wp2_with (first
      | (with_reducible refine wl_store_row rfl 120 (.tmp 2) (.tmp 20) g2 120 _ (nb (leN ys)) rfl rfl rfl r1' (sizeNb _) rfl (oneNb _) ?_; intro w9 r9 o9))
    refine bodyPost_ret (v := .agg (nb (leN ys)).toArray) ?_ rfl ⟨by rw [HV.out], ?_⟩
    · exact results_cell_row Tryz.results73 _ _ g2 120 _ (0, 0) _ rfl r9 Tryz.underlying120 rfl (by simpa using sizeNb (leN ys))
    · exact (((((b1.trans (b2.mono (by omega))).trans (bx.below (by omega) (by omega))).trans (o7.below (by omega))).trans (b8.mono (by omega))).trans (o9.below (by omega)))
/-! ### The sum behind it -/
def SNx (g g2 n R S T : Nat) (held : List Int) (opn : Nat) (v : Value) : Prop :=
  match opn with
  | 0 | 1 | 4 | 5 | 6 | 9 | 10 => v = .pointer (some ⟨g, 0, none⟩)
  | 2 => v = .pointer (some ⟨g, 22, none⟩)
  | 3 => v = .agg (nb T).toArray
  | 7 => v = .agg (nb (leN (held.take n ++ [1]))).toArray
  | 8 => v = .agg (nb (T + leN (held.take n ++ [1]))).toArray
  | 11 => v = .pointer (some ⟨g, 17, none⟩)
  | 12 => v = .agg (fb R).toArray
  | 13 => v = .agg (nb (fold1 ((T + leN (held.take n ++ [1])) * R))).toArray
  | _ => True

set_option maxRecDepth 100000 in
set_option maxHeartbeats 2000000 in
theorem pnext_any (g n R S T : Nat) (held : List Int) (w : World) (hr0 : Row w 127 g (macL held n R S T)) (hh : held.length = 16) (hb : IsBy held) (hpos : 0 < n) (hn : n ≤ 16) (hR : R < 2 ^ 124) (hT : T < 1361129467683753853853498429727072845824 + 340282366920938463463374607431768211456) :
    Calls Tryz.prog 60 #[.pointer (some ⟨g, 0, none⟩)] w fun e w' => e = .returned (.agg (nb (stepI R T (held.take n))).toArray) ∧ Below w.heap.size w w' := by
  have hp := piece_lt (hb.take n) (by rw [List.length_take]; omega)
  have hX : T + leN (held.take n ++ [1]) < 2 ^ 131 := by omega
  clear hp hT
  unfold stepI
  go_enter Tryz.func60, Tryz.ntmps60
  go_wp2_with (first
    | (with_reducible refine wl_alloc rfl 120 _ (n3 0 0 0) rfl zeroN3 rfl ?_; intro g2 w1 r1 a1 l1 b1; have hr := hr0.later b1))
  have hne : g ≠ g2 := by have := hr0.lt; omega
  rename_i K1 hK1
  refine wp_region_vals [7, 8, 13, 14] (SNx g g2 n R S T held) (JB g2 120 w1 3 (n3 0 0 0) (nb (fold1 ((T + leN (held.take n ++ [1])) * R)))) (by kernel_rfl) (by kernel_rfl) (by kernel_rfl) (by kernel_rfl) (by kernel_rfl) (JB.start r1 rfl) ?obs ?he
  case obs =>
    refine ⟨?_, ?_, ?_, ?_, ?_, ?_, ?_, ?_, ?_, ?_, ?_, ?_, ?_, ?_, ?_, trivial⟩
    · exact .inl ⟨by kernel_rfl, fun L a1 w1 n' h => ⟨_, rfl, run_move (.tmp 0) rfl (h.var n' 0 (by kernel_rfl))⟩⟩
    · refine .inl ⟨by kernel_rfl, fun L a1 w1 n' h => ⟨.pointer (some ⟨g, 0, none⟩), rfl, ?_⟩⟩
      have e0 : a1.eval (.tmp 3) = _ := h.dep n' 0 3 (by kernel_rfl) rfl
      unfold execOp
      simp only [e0]
      go_simp
    · refine .inl ⟨by kernel_rfl, fun L a1 w1 n' h => ⟨.pointer (some ⟨g, 22, none⟩), rfl, ?_⟩⟩
      have e0 : a1.eval (.tmp 4) = _ := h.dep n' 1 4 (by kernel_rfl) rfl
      unfold execOp
      simp only [e0]
      go_simp
    · exact .inl ⟨by kernel_rfl, fun L a1 w1 n' h => ⟨_, rfl, run_loadP 120 (.tmp 5) g 22 127 (bv held ++ (.int .i64 (n : Int) :: (fb R ++ nb S))) (nb T) ([]) _ rfl (h.dep n' 2 5 (by kernel_rfl) rfl) (by have := hr.but h.inv.2.2 hne; simpa [macL] using this) (by simp [bv_len, fb, nb, hh]) Tryz.underlying120 rfl (sizeNb _)⟩⟩
    · exact .inl ⟨by kernel_rfl, fun L a1 w1 n' h => ⟨_, rfl, run_move (.tmp 0) rfl (h.var n' 0 (by kernel_rfl))⟩⟩
    · refine .inl ⟨by kernel_rfl, fun L a1 w1 n' h => ⟨.pointer (some ⟨g, 0, none⟩), rfl, ?_⟩⟩
      have e0 : a1.eval (.tmp 7) = _ := h.dep n' 4 7 (by kernel_rfl) rfl
      unfold execOp
      simp only [e0]
      go_simp
    · refine .inl ⟨by kernel_rfl, fun L a1 w1 n' h => ⟨.pointer (some ⟨g, 0, none⟩), rfl, ?_⟩⟩
      have e0 : a1.eval (.tmp 8) = _ := h.dep n' 5 8 (by kernel_rfl) rfl
      unfold execOp
      simp only [e0]
      go_simp
    · refine .inr fun L a1 w1 n' h K hK => ?_
      have e0 : a1.eval (.tmp 9) = .pointer (some ⟨g, 0, none⟩) := h.dep n' 6 9 (by kernel_rfl) rfl
      refine st_call 73 _ _ #[.pointer (some ⟨g, 0, none⟩)] rfl Tryz.call73 ?_ (piece_any g n R S T held w1 (hr.but h.inv.2.2 hne) hh hb hpos hn) ?_
      · simp only [List.map_toArray, List.map_cons, List.map_nil, e0]
      · rintro e w3 ⟨rfl, b9⟩
        exact ⟨_, rfl, hK _ w3 rfl (h.inv.call (us := []) b9)⟩
    · refine .inr fun L a1 w1 n' h K hK => ?_
      have e0 : a1.eval (.tmp 6) = .agg (nb T).toArray := h.dep n' 3 6 (by kernel_rfl) rfl
      have e1 : a1.eval (.tmp 10) = .agg (nb (leN (held.take n ++ [1]))).toArray := h.dep n' 7 10 (by kernel_rfl) rfl
      refine st_call 63 _ _ #[.agg (nb T).toArray, .agg (nb (leN (held.take n ++ [1]))).toArray] rfl Tryz.call63 ?_ (plus_any T (leN (held.take n ++ [1])) w1) ?_
      · simp only [List.map_toArray, List.map_cons, List.map_nil, e0, e1]
      · rintro e w3 ⟨rfl, b9⟩
        exact ⟨_, rfl, hK _ w3 rfl (h.inv.call (us := []) b9)⟩
    · exact .inl ⟨by kernel_rfl, fun L a1 w1 n' h => ⟨_, rfl, run_move (.tmp 0) rfl (h.var n' 0 (by kernel_rfl))⟩⟩
    · refine .inl ⟨by kernel_rfl, fun L a1 w1 n' h => ⟨.pointer (some ⟨g, 0, none⟩), rfl, ?_⟩⟩
      have e0 : a1.eval (.tmp 12) = _ := h.dep n' 9 12 (by kernel_rfl) rfl
      unfold execOp
      simp only [e0]
      go_simp
    · refine .inl ⟨by kernel_rfl, fun L a1 w1 n' h => ⟨.pointer (some ⟨g, 17, none⟩), rfl, ?_⟩⟩
      have e0 : a1.eval (.tmp 13) = _ := h.dep n' 10 13 (by kernel_rfl) rfl
      unfold execOp
      simp only [e0]
      go_simp
    · exact .inl ⟨by kernel_rfl, fun L a1 w1 n' h => ⟨_, rfl, run_loadP 123 (.tmp 14) g 17 127 (bv held ++ [.int .i64 (n : Int)]) (fb R) (nb S ++ nb T) _ rfl (h.dep n' 11 14 (by kernel_rfl) rfl) (by have := hr.but h.inv.2.2 hne; simpa [macL] using this) (by simp [bv_len, fb, nb, hh]) Tryz.underlying123 rfl (by kernel_rfl)⟩⟩
    · refine .inr fun L a1 w1 n' h K hK => ?_
      have e0 : a1.eval (.tmp 11) = .agg (nb (T + leN (held.take n ++ [1]))).toArray := h.dep n' 8 11 (by kernel_rfl) rfl
      have e1 : a1.eval (.tmp 15) = .agg (fb R).toArray := h.dep n' 12 15 (by kernel_rfl) rfl
      refine st_call 72 _ _ #[.agg (nb (T + leN (held.take n ++ [1]))).toArray, .agg (fb R).toArray] rfl Tryz.call72 ?_ (times_any (T + leN (held.take n ++ [1])) R w1 hX hR) ?_
      · simp only [List.map_toArray, List.map_cons, List.map_nil, e0, e1]
      · rintro e w3 ⟨rfl, b9⟩
        exact ⟨_, rfl, hK _ w3 rfl (h.inv.call (us := []) b9)⟩
    · refine .inr fun L a1 w1 n' h K hK => ?_
      have no : L.getD 14 false = false := n'.not_yet
      refine st_store_row 120 (.tmp 2) (.tmp 16) g2 120 (n3 0 0 0) (nb (fold1 ((T + leN (held.take n ++ [1])) * R))) rfl (h.var n' 2 (by kernel_rfl)) (h.dep n' 13 16 (by kernel_rfl) rfl) (h.inv.1 no) (sizeNb _) rfl (oneNb _) ?_
      intro w3 r3 o3
      exact hK undef w3 trivial (h.inv.store (us := []) o3 r3 rfl)
  case he =>
    intro V w5 hV hJ
    have r5 := hJ.2.1 rfl
    have bx := hJ.2.2
    clear hV hJ
    simp only [putOps, List.setIfInBounds_toArray, List.set_cons_succ, List.set_cons_zero]
    refine hK1 _ _ ?_
    go_wp2
    refine bodyPost_ret (v := .agg (nb (fold1 ((T + leN (held.take n ++ [1])) * R))).toArray) ?_ rfl ⟨rfl, ?_⟩
    · exact results_cell_row Tryz.results60 _ _ g2 120 _ (0, 0) _ rfl r5 Tryz.underlying120 rfl (by simpa using sizeNb (fold1 ((T + leN (held.take n ++ [1])) * R)))
    · exact b1.trans (bx.below a1 b1.size)
end Go.Proofs.YtooooncmjhcdbaaGreatDoor.Pa

/-
  Poly: what is written: contract. Own work.
-/
namespace Go.Proofs.YtooooncmjhcdbaaGreatDoor.Pa
open Go.Proofs.YtooooncmjhcdbaaGreatDoor
open Go.RowKit
/-- The bytes that are no piece yet. -/
def restL (xs : List Int) : List Int := xs.drop (16 * (xs.length / 16))
/-- These, in sixteen places. -/
def heldL (xs : List Int) : List Int := restL xs ++ List.replicate (16 - xs.length % 16) 0
theorem restL_len (xs : List Int) : (restL xs).length = xs.length % 16 := by simp [restL]; omega
theorem heldL_len (xs : List Int) : (heldL xs).length = 16 := by simp [heldL, restL_len]; omega
theorem heldL_take (xs : List Int) : (heldL xs).take (xs.length % 16) = restL xs := by
  rw [heldL, List.take_append_of_le_length (by rw [restL_len]; omega), List.take_of_length_le (by rw [restL_len]; omega)]
theorem _root_.Go.Proofs.YtooooncmjhcdbaaGreatDoor.IsBy.rep (n : Nat) : IsBy (List.replicate n 0) := fun x hx => by
  obtain ⟨_, rfl⟩ := List.mem_replicate.1 hx; omega
theorem heldL_by {xs : List Int} (h : IsBy xs) : IsBy (heldL xs) := (h.drop _).app (IsBy.rep _)
theorem filled_eq (xs zs : List Int) (h : xs.length % 16 + zs.length ≤ 16) : (heldL xs).take (xs.length % 16) ++ (zs ++ (heldL xs).drop (xs.length % 16 + zs.length)) = restL xs ++ (zs ++ List.replicate (16 - (xs.length % 16 + zs.length)) 0) := by
  rw [heldL_take]
  congr 2
  rw [heldL, List.drop_append, List.drop_eq_nil_of_le (by rw [restL_len]; omega), restL_len, List.nil_append, List.drop_replicate]
  congr 1
  omega
/-- Memory holds a Mac that has taken in xs. -/
def MacAt (w : World) (g R S : Nat) (xs : List Int) : Prop := Row w 127 g (macL (heldL xs) (xs.length % 16) R S (totI R xs (xs.length / 16)))
theorem fill_short {xs zs : List Int} (h : xs.length % 16 + zs.length < 16) (R S : Nat) :
    macL (restL xs ++ (zs ++ List.replicate (16 - (xs.length % 16 + zs.length)) 0)) (xs.length % 16 + zs.length) R S (totI R xs (xs.length / 16)) = macL (heldL (xs ++ zs)) ((xs ++ zs).length % 16) R S (totI R (xs ++ zs) ((xs ++ zs).length / 16)) := by
  have e1 : (xs ++ zs).length / 16 = xs.length / 16 := by rw [List.length_append]; omega
  have e2 : (xs ++ zs).length % 16 = xs.length % 16 + zs.length := by rw [List.length_append]; omega
  have e3 : restL (xs ++ zs) = restL xs ++ zs := by
    unfold restL
    rw [e1, List.drop_append_of_le_length (by omega)]
  rw [e1, e2, totI_append _ _ _ _ (by omega), heldL, e3, e2, List.append_assoc]
theorem fill_full {xs zs : List Int} (h : xs.length % 16 + zs.length = 16) (R : Nat) :
    stepI R (totI R xs (xs.length / 16)) ((restL xs ++ (zs ++ List.replicate (16 - (xs.length % 16 + zs.length)) 0)).take 16) = totI R (xs ++ zs) ((xs ++ zs).length / 16) ∧ heldL (xs ++ zs) = List.replicate 16 0 ∧ (xs ++ zs).length % 16 = 0 := by
  have e1 : (xs ++ zs).length / 16 = xs.length / 16 + 1 := by rw [List.length_append]; omega
  have e2 : (xs ++ zs).length % 16 = 0 := by rw [List.length_append]; omega
  refine ⟨?_, ?_, e2⟩
  · rw [e1]
    simp only [totI]
    rw [totI_append _ _ _ _ (by omega)]
    congr 1
    rw [List.drop_append_of_le_length (by omega), restL, h]
    simp
  · have : restL (xs ++ zs) = [] := List.eq_nil_of_length_eq_zero (by rw [restL_len, e2])
    rw [heldL, this, e2]
    rfl
def lenOf : Value → Nat
  | .slice _ n _ => n
  | _ => 0
theorem builtPart : Tryz.prog.built 125 [] = some (bv (List.replicate 16 0) ++ [Value.int .i64 0]).toArray := by kernel_rfl
theorem sizePart : (Tryz.prog.info? 125).map (·.size) = some (bv (List.replicate 16 0) ++ [Value.int .i64 0]).length := by kernel_rfl
theorem onePart : ∀ u ∈ bv (List.replicate 16 0) ++ [Value.int .i64 0], u.oneCell' = true := by
  intro u hu
  rcases List.mem_append.1 hu with h | h
  · exact bv_one _ u h
  · exact one_int _ _ u h
set_option maxRecDepth 100000 in
set_option maxHeartbeats 2000000 in
theorem write_off (g R S m c B : Nat) (xs ys : List Int) (A : Option Addr) (w : World) (hm : MacAt w g R S xs) (hR : R < 2 ^ 124) (hx : IsBy xs) (hy : IsBy ys) (hb : Bs w B A m ys) (hB : Off g m A) (hBw : B ≤ w.heap.size) (hc : m ≤ c) :
    Calls Tryz.prog 45 #[.pointer (some ⟨g, 0, none⟩), .slice A m c] w fun e w' => e = .returned (.tuple #[]) ∧ MacAt w' g R S (xs ++ ys) ∧ But g w w' := by
  have HR := hide hR
  clear hR
  go_enter Tryz.func45, Tryz.ntmps45
  go_wp2_with fail
  go_loopw [1] (fun v wr => ∃ (j c' : Nat) (A' : Option Addr), j ≤ m ∧ v = .slice A' (m - j) c' ∧ m - j ≤ c' ∧ Bs wr B A' (m - j) (ys.drop j) ∧ Off g (m - j) A' ∧ MacAt wr g R S (xs ++ ys.take j) ∧ But g w wr) (fun v _ => lenOf v)
  case atStart => exact ⟨0, c, A, Nat.zero_le _, rfl, hc, by simpa using hb, by simpa using hB, by simpa using hm, But.refl _ _⟩
  case round =>
    obtain ⟨j, c', A', hj, rfl, hc', hbs, hof, hma, hbt⟩ := hrel
    have hBr := Nat.le_trans hBw hbt.size
    by_cases hlt : j < m
    · have hdec : decide ((0 : Int) < ((m - j : Nat) : Int)) = true := by simp; omega
      have hxj : IsBy (xs ++ ys.take j) := hx.app (hy.take j)
      have hzl : ((ys.drop j).take (min (m - j) (16 - (xs ++ ys.take j).length % 16))).length = min (m - j) (16 - (xs ++ ys.take j).length % 16) := by
        rw [List.length_take, List.length_drop, hb.1]; omega
      have hzb : IsBy ((ys.drop j).take (min (m - j) (16 - (xs ++ ys.take j).length % 16))) := (hy.drop j).take _
      have hcat : (xs ++ ys.take j) ++ (ys.drop j).take (min (m - j) (16 - (xs ++ ys.take j).length % 16)) = xs ++ ys.take (j + min (m - j) (16 - (xs ++ ys.take j).length % 16)) := by
        rw [List.append_assoc, List.take_add]
      have hn : (xs ++ ys.take j).length % 16 < 16 := Nat.mod_lt _ (by decide)
      generalize hk0 : min (m - j) (16 - (xs ++ ys.take j).length % 16) = k at *
      have hkp : 0 < k := by omega
      have hkm : k ≤ m - j := by omega
      have hkn : (xs ++ ys.take j).length % 16 + k ≤ 16 := by omega
      have HK := hide hk0.symm
      have hfe := filled_eq (xs ++ ys.take j) ((ys.drop j).take k) (by rw [hzl]; exact hkn)
      have hsh : (xs ++ ys.take j).length % 16 + k < 16 → _ := fun h => fill_short (xs := xs ++ ys.take j) (zs := (ys.drop j).take k) (by rw [hzl]; exact h) R S
      have hfu : (xs ++ ys.take j).length % 16 + k = 16 → _ := fun h => fill_full (xs := xs ++ ys.take j) (zs := (ys.drop j).take k) (by rw [hzl]; exact h) R
      have hFL := fill_any g 127 ((xs ++ ys.take j).length % 16) (m - j) c' B k (heldL (xs ++ ys.take j)) (ys.drop j) (fb R ++ (nb S ++ nb (totI R (xs ++ ys.take j) ((xs ++ ys.take j).length / 16)))) A' wr hma (heldL_len _) hn hbs hof hBr (by omega) HK.out hc'
      have hhb : IsBy (restL (xs ++ ys.take j) ++ ((ys.drop j).take k ++ List.replicate (16 - ((xs ++ ys.take j).length % 16 + k)) 0)) := (hxj.drop _).app (hzb.app (IsBy.rep _))
      have hhl : (restL (xs ++ ys.take j) ++ ((ys.drop j).take k ++ List.replicate (16 - ((xs ++ ys.take j).length % 16 + k)) 0)).length = 16 := by
        rw [List.length_append, List.length_append, restL_len, hzl, List.length_replicate]; omega
      have hTl := totI_lt HR.out hxj ((xs ++ ys.take j).length / 16)
      rw [hzl] at hfe hsh hfu
      rw [hfe] at hFL
      rw [hcat] at hsh hfu
      have hbs' : ∀ w', But g wr w' → Bs w' B (subA A' c' k) (m - (j + k)) (ys.drop (j + k)) := fun w' hw => by
        have h1 := (hbs.keepOff hw hof hBr).sub (I := k) (K := m - j) hkm (Nat.le_refl _) hc'
        rw [List.drop_drop, List.take_of_length_le (by rw [List.length_drop, hb.1]; omega), Nat.sub_sub] at h1
        exact h1
      have hof' : Off g (m - (j + k)) (subA A' c' k) := by rw [← Nat.sub_sub]; exact hof.sub c' k
      have HOF := hide hof'
      clear hof'
      have HSH := hide hsh
      have HFU := hide hfu
      have hmj := Nat.sub_sub m j k
      have HMJ := hide hmj
      clear hk0 hfe hsh hfu hcat hzl hzb hmj
      generalize (xs ++ ys.take j).length % 16 = n at *
      generalize totI R (xs ++ ys.take j) ((xs ++ ys.take j).length / 16) = T at *
      generalize restL (xs ++ ys.take j) ++ ((ys.drop j).take k ++ List.replicate (16 - (n + k)) 0) = held at *
      go_wp2_with fail
      refine hFL.mono ?_
      rintro e w1 ⟨rfl, r1, b1⟩
      go_wp2_with fail
      refine (full_any g 127 (n + k) _ w1 r1 (mac16 hhl (n + k) R S T)).mono ?_
      rintro e w2 ⟨rfl, rfl⟩
      by_cases h16 : n + k = 16
      · have hbt' : (((n + k : Nat) : Int) == 16) = true := beq_iff_eq.2 (by omega)
        rw [hbt']
        obtain ⟨f1, f2, f3⟩ := HFU.out h16
        have hN := pnext_any g 16 R S T held w1 (by rw [← h16]; exact r1) hhl hhb (by decide) (by decide) HR.out hTl
        rw [h16] at r1
        rw [show held.take 16 = held from List.take_of_length_le (by omega)] at hN
        have hfin : stepI R T held = totI R (xs ++ ys.take (j + k)) ((xs ++ ys.take (j + k)).length / 16) := by
          rw [← f1, List.take_of_length_le (by omega)]
        have HFI := hide hfin
        clear hfin f1
        generalize stepI R T held = T' at *
        go_wp2_with fail
        refine hN.mono ?_
        rintro e w2 ⟨rfl, b2⟩
        have r2 : Row w2 127 g ((bv held ++ (.int .i64 16 :: (fb R ++ nb S))) ++ (nb T ++ [])) := by
          have := r1.later b2
          simpa using this
        have l22 : (bv held ++ (Value.int .i64 16 :: (fb R ++ nb S))).length = 22 := by simp [bv_len, hhl, fb, nb]
        have hsh : (bv held ++ (Value.int .i64 16 :: (fb R ++ nb S))) ++ (nb T' ++ []) = [] ++ ((bv held ++ [Value.int .i64 16]) ++ (fb R ++ (nb S ++ nb T'))) := by simp
        have l17 : (bv held ++ [Value.int .i64 16]).length = (bv (List.replicate 16 0) ++ [Value.int .i64 0]).length := by simp [bv_len, hhl]
        go_wp2_with (first
          | (with_reducible refine wl_store_part rfl 120 (.tmp 22) (.tmp 20) g 22 127 _ (nb T) [] (nb T') rfl rfl rfl r2 l22 rfl (sizeNb _) (oneNb _) ?_; intro w3 r3 o3; rw [hsh] at r3)
          | ((with_reducible refine wl_build rfl 125 [] rfl [] ?hv _ builtPart ?hk); case hv => rfl)
          | (with_reducible refine wl_store_part rfl 125 (.tmp 26) (.tmp 24) g 0 127 [] (bv held ++ [Value.int .i64 16]) (fb R ++ (nb S ++ nb T')) (bv (List.replicate 16 0) ++ [Value.int .i64 0]) rfl rfl rfl r3 rfl l17 sizePart onePart ?_; intro w4 r4 o4))
        have s2 := b2.size
        simp only [Act.put]
        go_roundw
        case rel =>
          refine ⟨j + k, c' - k, _, by omega, by rw [HMJ.out], by omega, hbs' _ ?_, HOF.out, ?_, ?_⟩
          · exact ((b1.trans (But.of b2 g)).trans (But.only o3)).trans (But.only o4)
          · unfold MacAt
            rw [f2, f3, ← HFI.out]
            simpa [macL] using r4
          · exact hbt.trans (((b1.trans (But.of b2 g)).trans (But.only o3)).trans (But.only o4))
        case measure => simp [lenOf]; omega
      · have hbf : (((n + k : Nat) : Int) == 16) = false := beq_eq_false_iff_ne.2 (by omega)
        have r2 := HSH.out (by omega)
        rw [hbf]
        go_wp2
        refine ⟨⟨j + k, c' - k, _, by omega, by rw [HMJ.out], by omega, hbs' _ b1, HOF.out, ?_, hbt.trans b1⟩, by simp [lenOf]; omega⟩
        unfold MacAt
        rw [← r2]
        exact r1
    · have : j = m := by omega
      subst this
      go_wp2
      go_end0
      refine ⟨rfl, ?_, hbt⟩
      rw [List.take_of_length_le (Nat.le_of_eq hb.1)] at hma
      exact hma
theorem write_any (g R S m c B : Nat) (xs ys : List Int) (A : Option Addr) (w : World) (hm : MacAt w g R S xs) (hR : R < 2 ^ 124) (hx : IsBy xs) (hy : IsBy ys) (hb : Bs w B A m ys) (hB : B ≤ g) (hc : m ≤ c) :
    Calls Tryz.prog 45 #[.pointer (some ⟨g, 0, none⟩), .slice A m c] w fun e w' => e = .returned (.tuple #[]) ∧ MacAt w' g R S (xs ++ ys) ∧ But g w w' :=
  write_off g R S m c B xs ys A w hm hR hx hy hb (Off.of hb hB) (Nat.le_trans hB (Nat.le_of_lt hm.lt)) hc
end Go.Proofs.YtooooncmjhcdbaaGreatDoor.Pa

/-
  Pack: eight bytes behind others, and what is joined: a contract each. Own work.
-/
namespace Go.Proofs.YtooooncmjhcdbaaGreatDoor.Pa
open Go.Proofs.YtooooncmjhcdbaaGreatDoor
open Go.RowKit
set_option maxRecDepth 100000 in
set_option maxHeartbeats 400000 in
theorem lay64_low (A : Option Addr) (m c : Nat) (xs : List Int) (x : Int) (w : World) (h : Bs w w.heap.size A m xs) (hm : m ≤ 1000000) (h0 : 0 ≤ x) (h1 : x < 2 ^ 64) :
    Calls Tryz.prog 51 #[.slice A m c, .int .u64 x, .bool true] w (RetBs (xs ++ lowB x 8) w) := by
  obtain ⟨i0, hi, hz, hsz, hby⟩ := u8_info
  go_enter Tryz.func51, Tryz.ntmps51
  go_wp2_with (first
    | (go_at_call 65; refine (pwidth64_any _).mono ?_; rintro e w' ⟨rfl, rfl⟩)
    | (refine wpList_make_bs rfl _ _ _ rfl 5 i0 Tryz.underlying25 hi hz hsz hby (m + 8) rfl rfl (by omega) ?_; intro w1 hown hs1 hb1)
    | (refine wpList_copy_bs rfl (.tmp 17) (.tmp 18) _ _ rfl 5 Tryz.underlying25 u8_size w.heap.size 0 _ _ m c A rfl rfl _ xs 5 w.heap.size hown (h.below hb1) (by omega) (by rw [List.length_replicate]; omega) w.heap.size w hb1 (Nat.le_refl _) ?_; intro w2 hown2 hb2))
  go_loopw [21] (fun i wr => ∃ k : Nat, k ≤ 8 ∧ i = .int .i64 k ∧ Own wr 5 w.heap.size (xs ++ (lowB x k ++ List.replicate (8 - k) 0)) ∧ Below w.heap.size w wr) (fun i _ => 8 - (intOf i).toNat)
  case atStart => exact ⟨0, Nat.zero_le _, rfl, by simpa [lowB, h.1] using hown2, hb2⟩
  case round =>
    obtain ⟨k, hk, rfl, hown, hb⟩ := hrel
    by_cases hlt : k < 8
    · have hc := hown.cell (j := m + k) (by simp [lowB_length, h.1]; omega)
      have hf := hown.frozen (m + k)
      have hs := hown.set (m + k) (x / 2 ^ (8 * k) % 256)
      have he := set_low hlt (lowB x k) (lowB_length x k) (x / 2 ^ (8 * k) % 256) xs
      rw [h.1] at he
      rw [he, ← pow256_two, ← lowB_snoc, pow256_two] at hs
      have HS := hide hs
      clear hs he
      go_wp2
      go_roundw
      case rel => exact ⟨k + 1, by omega, by go_num, HS.out, hb.setCell (Nat.le_refl _) _⟩
      case measure => simp [intOf]; omega
    · go_wp2
      go_ret
      obtain rfl : k = 8 := by omega
      exact ret_own hown hb (by simp) (by simp [lowB_length, h.1]) (Nat.le_refl _) (by simp only [maxLen]; omega)
set_option maxRecDepth 100000 in
theorem putLe64_any (A : Option Addr) (m c : Nat) (xs : List Int) (x : Int) (w : World) (h : Bs w w.heap.size A m xs) (hm : m ≤ 1000000) (h0 : 0 ≤ x) (h1 : x < 2 ^ 64) :
    Calls Tryz.prog 46 #[.slice A m c, .int .u64 x] w (RetBs (xs ++ lowB x 8) w) := by
  go_enter Tryz.func46, Tryz.ntmps46
  go_wp2_with (go_at_call 51; refine (lay64_low A m c xs x _ h hm h0 h1).mono ?_; rintro e w1 ⟨A1, n1, c1, rfl, hb, hn, hc, hl⟩)
  go_ret
  exact ⟨A1, n1, c1, rfl, hb, hn, hc, hl⟩
set_option maxRecDepth 100000 in
set_option maxHeartbeats 800000 in
theorem join_any (A : Option Addr) (m c : Nat) (xss : List (List Int)) (w : World) (h : Bss w w.heap.size A m xss) (hm : m ≤ 1000000) (hs : sumLen xss m ≤ 140737488355328) :
    Calls Tryz.prog 33 #[.slice A m c] w (RetBs xss.flatten w) := by
  obtain ⟨i0, hi, hz, hsz, hby⟩ := u8_info
  have hlen := h.1
  have HL := hide hlen
  clear hlen
  go_enter Tryz.func33, Tryz.ntmps33
  go_wp2
  go_loop [3, 11] (fun s i => ∃ k : Nat, k ≤ m ∧ i = .int .i64 k ∧ s = .int .i64 (sumLen xss k)) (fun _ i => m - (intOf i).toNat)
  case atStart => exact ⟨0, Nat.zero_le _, rfl, rfl⟩
  case round =>
    obtain ⟨k, hk, rfl, rfl⟩ := hrel
    have hle := sumLen_le xss k
    rw [HL.out] at hle
    by_cases hlt : k < m
    · obtain ⟨b, o, rfl, hb, hc⟩ := h.2 (by omega)
      obtain ⟨A', n', c', hcell, hbs⟩ := hc k hlt
      have hsu := sumLen_succ xss k (by rw [HL.out]; exact hlt)
      rw [hbs.1] at hsu
      have hle2 := sumLen_le xss (k + 1)
      rw [HL.out] at hle2
      have hb2 : sumLen xss k + n' ≤ 140737488355328 := by omega
      have HS := hide hsu
      clear hsu hle2 hc
      go_wp2
      go_round
      case rel => exact ⟨k + 1, by omega, by go_num, by rw [HS.out]; go_num⟩
      case measure => simp [intOf]; omega
    · obtain rfl : k = m := by omega
      go_wp2_with (refine wpList_make0_bs rfl _ _ _ rfl 5 i0 Tryz.underlying25 hi hz hsz hby (sumLen xss k) rfl rfl hs ?_; intro w1 hown1 hb1)
      go_loopw [6, 24] (fun v i wr => ∃ j : Nat, j ≤ k ∧ i = .int .i64 j ∧ wr.ownsRow w.heap.size 5 1 v (sumLen xss j) (bv (xss.take j).flatten) ∧ Below w.heap.size w wr) (fun _ i _ => k - (intOf i).toNat)
      case atStart => exact ⟨0, Nat.zero_le _, rfl, by simpa [sumLen] using hown1, hb1⟩
      case round =>
        obtain ⟨j, hj, rfl, hown, hbr⟩ := hrel
        by_cases hjl : j < k
        · obtain ⟨b, o, rfl, hb, hc⟩ := h.2 (by omega)
          obtain ⟨A', n', c', hcell, hbs⟩ := hc j hjl
          have hcell' := (hbr.cell (p := ⟨b, o + j, none⟩) hb).trans hcell
          have hsu := sumLen_succ xss j (by rw [HL.out]; exact hjl)
          have htf := take_flat xss j (by rw [HL.out]; exact hjl)
          rw [hbs.1] at hsu
          have hle2 := sumLen_le xss (j + 1)
          rw [HL.out] at hle2
          have hb2 : sumLen xss j + n' ≤ 140737488355328 := by omega
          have HS := hide hsu
          have HT := hide htf
          clear hsu htf hle2 hc hcell
          go_wp2_with (at_builtin; refine wpList_append_bs rfl (.tmp 28) (.tmp 29) _ rfl w.heap.size 5 i0 Tryz.underlying25 hi hz hsz hby _ (sumLen xss j) (xss.take j).flatten rfl hown w.heap.size A' n' c' (xss.getD j []) rfl (hbs.below hbr) hb2 hbr.size ?_; intro v1 w2 hown1 hg1)
          have hb3 := grown_below hbr hown (Nat.le_refl _) hg1
          go_roundw
          case rel => exact ⟨j + 1, by omega, by go_num, by rw [HS.out, HT.out]; exact hown1, hb3⟩
          case measure => simp [intOf]; omega
        · obtain rfl : j = k := by omega
          go_wp2
          go_ret
          exact ret_owns hown hbr (by rw [List.take_of_length_le (by rw [HL.out]; exact Nat.le_refl _)])
end Go.Proofs.YtooooncmjhcdbaaGreatDoor.Pa

/-
  Poly: the sum of what was written: contract. Own work.
-/
namespace Go.Proofs.YtooooncmjhcdbaaGreatDoor.Pa
open Go.Proofs.YtooooncmjhcdbaaGreatDoor
open Go.RowKit
/-- A slice that reads as the n bytes xs. -/
def HasBs (w : World) (v : Value) (n : Nat) (xs : List Int) : Prop := ∃ A c, v = .slice A n c ∧ Bs w w.heap.size A n xs ∧ n ≤ c
theorem HasBs.later {w w' : World} {v : Value} {n : Nat} {xs : List Int} (h : HasBs w v n xs) (hb : Below w.heap.size w w') : HasBs w' v n xs := by
  obtain ⟨A, c, e, h1, h2⟩ := h
  exact ⟨A, c, e, h1.later hb, h2⟩
theorem HasBs.drew {w : World} {v : Value} {n : Nat} {xs : List Int} (h : HasBs w v n xs) : HasBs w.drew v n xs := h
/-- '[][]byte{x, y}'. -/
theorem st_build2 {P : Program} {o : Oper} {a : Act} {w : World} {K : Act → World → Prop} {Q : Exit → Act → World → Prop} (t : TypeId) (x y : Operand) (ho : o.op = .buildSlice t 2 #[(0, x), (1, y)]) (e : TypeId) (i : TypeInfo) (z u v : Value) (ht : P.underlying t = some (.slice e)) (hi : P.info? e = some i) (hz : i.zero = some z) (hsz : i.size = 1) (hzc : z.cells = #[z]) (hx : a.eval x = u) (hy : a.eval y = v) (hu : u.cells = #[u]) (hv : v.cells = #[v])
    (hk : K (a.put o.dst (.slice (some ⟨w.heap.size, 0, none⟩) 2 2)) (w.alloc (.cells #[u, v] e))) : o.wp P a w K Q := by
  have hr : (Array.range 2) = #[0, 1] := rfl
  have hzz : ∀ w, (zeroValue e).run P w = .ok z w := fun w => by simp [zeroValue, typeInfo, hi, hz]
  have hss : ∀ w, (sizeOf e).run P w = .ok 1 w := fun w => by simp [sizeOf, typeInfo, hi, hsz]
  have hrun : (Instr.buildSlice t 2 #[(0, u), (1, v)]).run P w = .ok (.slice (some ⟨w.heap.size, 0, none⟩) 2 2) (w.alloc (.cells #[u, v] e)) := by
    simp [Instr.buildSlice, run_underlying ht, hss, hzz, hr, hzc, Instr.fill, hu, hv, newRow]
  unfold Oper.wp execOp
  simp only [ho, List.map_toArray, List.map_cons, List.map_nil, hx, hy, hrun, Sem.run_bind, Result.andThen_ok, Sem.run_pure]
  exact hk
theorem st_arr {P : Program} {o : Oper} {a : Act} {w : World} {K : Act → World → Prop} {Q : Exit → Act → World → Prop} (t : TypeId) (x : Operand) (ho : o.op = .sliceToArrayPointer t x) (n e : Nat) (ht : P.underlying t = some (.array n e)) (A : Option Addr) (m c : Nat) (hx : a.eval x = .slice A m c) (hm : n ≤ m)
    (hk : K (a.put o.dst (.pointer A)) w) : o.wp P a w K Q := by
  unfold Oper.wp execOp
  simp only [ho, hx]
  simp [Instr.arrayAt, run_underlying ht, show ¬ m < n by omega]
  exact hk
def HasPtr (w : World) (v : Value) (n : Nat) (xs : List Int) : Prop := ∃ A, v = .pointer A ∧ Bs w w.heap.size A n xs
theorem HasPtr.later {w w' : World} {v : Value} {n : Nat} {xs : List Int} (h : HasPtr w v n xs) (hb : Below w.heap.size w w') : HasPtr w' v n xs := by
  obtain ⟨A, e, h1⟩ := h
  exact ⟨A, e, h1.later hb⟩
def HasBss (w : World) (v : Value) (n : Nat) (xss : List (List Int)) : Prop := ∃ A c, v = .slice A n c ∧ Bss w w.heap.size A n xss
theorem HasBss.later {w w' : World} {v : Value} {n : Nat} {xss : List (List Int)} (h : HasBss w v n xss) (hb : Below w.heap.size w w') : HasBss w' v n xss := by
  obtain ⟨A, c, e, h1⟩ := h
  exact ⟨A, c, e, (h1.below hb).up hb.size⟩
/-- Two numbers' bytes, joined, as an array. -/
structure Five (X Y : List Int) (bs : List Bool) (vs : List Value) (w : World) : Prop where
  a : bs.getD 0 false = true → HasBs w (vs.getD 0 undef) 8 X
  b : bs.getD 1 false = true → HasBs w (vs.getD 1 undef) 8 Y
  c : bs.getD 2 false = true → HasBss w (vs.getD 2 undef) 2 [X, Y]
  d : bs.getD 3 false = true → HasBs w (vs.getD 3 undef) 16 (X ++ Y)
  e : bs.getD 4 false = true → HasPtr w (vs.getD 4 undef) 16 (X ++ Y)
theorem Five.later {X Y : List Int} {bs : List Bool} {vs : List Value} {w w' : World} (h : Five X Y bs vs w) (hb : Below w.heap.size w w') : Five X Y bs vs w' :=
  ⟨fun h1 => (h.a h1).later hb, fun h1 => (h.b h1).later hb, fun h1 => (h.c h1).later hb, fun h1 => (h.d h1).later hb, fun h1 => (h.e h1).later hb⟩
def J7 (g T : Nat) (w0 : World) (X Y : List Int) (cur new : List Value) (bs : List Bool) (vs : List Value) (w : World) : Prop :=
  (bs.getD 5 false = false → Five X Y bs vs w) ∧ JB g T w0 5 cur new bs [] w
theorem run_loadC {P : Program} {o : Oper} {a : Act} {w : World} (ty : TypeId) (x : Operand) (g off : Nat) (M : List Value) (d : TypeDesc) (ho : o.op = .load ty x) (hx : a.eval x = .pointer (some ⟨g, off, none⟩)) (h : ∀ j v, M[j]? = some v → w.cell? ⟨g, off + j, none⟩ = some v)
    (hu : P.underlying ty = some d) (hd : (match d with | .struct _ | .array _ _ => true | _ => false) = true) (hi : (P.info? ty).map (·.size) = some M.length) : (execOp a.eval o).run P w = .ok (.value (.agg M.toArray)) w := by
  unfold execOp
  simp only [ho, hx, Instr.loadAt, Instr.sureAddr, Sem.run_bind, Sem.run_pure, Result.andThen_ok, run_loadVar_cells ty g off M d h hu hd hi]
theorem bs_cells {w : World} {B n : Nat} {b o : Nat} {xs : List Int} (h : Bs w B (some ⟨b, o, none⟩) n xs) : ∀ j v, (bv xs)[j]? = some v → w.cell? ⟨b, o + j, none⟩ = some v := by
  intro j v hv
  have := h.cells rfl j v hv
  rwa [addr_plain] at this
theorem slB_info_ : (Tryz.prog.info? 25).map (fun i => (i.zero, i.size, i.bytes)) = some (some (.slice none 0 0), 1, 24) := by kernel_rfl
theorem slB_info : ∃ i, Tryz.prog.info? 25 = some i ∧ i.zero = some (.slice none 0 0) ∧ i.size = 1 := by
  obtain ⟨i, h0, h1, h2, h3⟩ := info_parts slB_info_
  exact ⟨i, h0, h1, h2⟩
theorem putLe64_has (x : Int) (w : World) (h0 : 0 ≤ x) (h1 : x < 18446744073709551616) :
    Calls Tryz.prog 46 #[.slice none 0 0, .int .u64 x] w fun e w' => ∃ v, e = .returned v ∧ HasBs w' v 8 (lowB x 8) ∧ Below w.heap.size w w' := by
  refine (putLe64_any none 0 0 [] x w Bs.nil_ (by omega) h0 (by omega)).mono ?_
  rintro e w' ⟨A, n, c, rfl, h1, h2, h3, h4⟩
  have : n = 8 := by rw [← h1.1]; simp [lowB_length]
  subst this
  exact ⟨_, rfl, ⟨A, c, rfl, h1, h2⟩, h4⟩
theorem lowB_two (x y : Int) (Z : Nat) (hx : x = (nW Z 0 : Int)) (hy : y = (nW Z 1 : Int)) : lowB x 8 ++ lowB y 8 = lowB (Z : Int) 16 := by
  subst hx
  subst hy
  have e0 : nW Z 0 = Z % 256 ^ 8 := by show Z / 1 % _ = _; rw [Nat.div_one]
  have e1 : nW Z 1 = Z / 256 ^ 8 % 256 ^ 8 := rfl
  have h := lowB_leN (xs := lowB (nW Z 0 : Int) 8 ++ lowB (nW Z 1 : Int) 8) ((lowB_by _ _).app (lowB_by _ _))
  rw [← h, leN_append, leN_lowB, leN_lowB, List.length_append, lowB_length, lowB_length, e0, e1, Nat.mod_mod, Nat.mod_mod, ← Nat.mod_mul, ← Nat.pow_add]
  exact lowB_mod Z 16
theorem zB16 : (Tryz.prog.info? 85).map (fun i => i.zero) = some (some (.agg (bv (List.replicate 16 0)).toArray)) := by kernel_rfl
theorem size16 {xs : List Int} (h : xs.length = 16) : (Tryz.prog.info? 85).map (·.size) = some (bv xs).length := by rw [bv_len, h]; kernel_rfl
def SS6 (g g3 R S T E n : Nat) (held : List Int) (opn : Nat) (v : Value) : Prop :=
  match opn with
  | 0 => v = .agg (nb E).toArray
  | 1 => v = .agg (nb (red E)).toArray
  | 2 | 3 => v = .pointer (some ⟨g, 0, none⟩)
  | 4 => v = .pointer (some ⟨g, 19, none⟩)
  | 5 => v = .agg (nb S).toArray
  | 6 => v = .agg (nb (red E + S)).toArray
  | _ => True

def SS7 (g3 x0 x1 : Nat) (opn : Nat) (v : Value) : Prop :=
  match opn with
  | 0 => v = .pointer (some ⟨g3, 0, none⟩)
  | 1 => v = .int .u64 (x0 : Int)
  | 3 => v = .pointer (some ⟨g3, 1, none⟩)
  | 4 => v = .int .u64 (x1 : Int)
  | 9 => v = .agg (bv (lowB (x0 : Int) 8 ++ lowB (x1 : Int) 8)).toArray
  | _ => True

set_option maxRecDepth 100000 in
set_option maxHeartbeats 4000000 in
theorem sum_any (g R S : Nat) (xs : List Int) (w : World) (hm : MacAt w g R S xs) (hR : R < 2 ^ 124) (hx : IsBy xs) :
    Calls Tryz.prog 47 #[.pointer (some ⟨g, 0, none⟩)] w fun e w' => e = .returned (.agg (bv (polyL R S xs)).toArray) ∧ Below w.heap.size w w' := by
  have hTl := totI_lt hR hx (xs.length / 16)
  have hEl := endI_lt hR hx
  have hbl := heldL_by hx
  have hh := heldL_len xs
  have htk := heldL_take xs
  have hEn : Hid (∀ E, E = endI R xs → bv (polyL R S xs) = bv (lowB ((red E + S : Nat) : Int) 16)) := fun E h => by rw [h]; rfl
  have hE0 : xs.length % 16 = 0 → endI R xs = totI R xs (xs.length / 16) := fun h => by unfold endI; rw [if_pos h]
  have hE1 : xs.length % 16 ≠ 0 → endI R xs = stepI R (totI R xs (xs.length / 16)) (restL xs) := fun h => by unfold endI; rw [if_neg h]; rfl
  have HE0 := hide hE0
  have HE1 := hide hE1
  have HTK := hide htk
  have hn : xs.length % 16 < 16 := Nat.mod_lt _ (by decide)
  unfold MacAt at hm
  clear hE0 hE1 htk
  generalize polyL R S xs = out at *
  generalize xs.length % 16 = n at *
  generalize totI R xs (xs.length / 16) = T at *
  generalize endI R xs = EE at *
  generalize restL xs = rl at *
  generalize heldL xs = held at *
  go_enter Tryz.func47, Tryz.ntmps47
  go_wp2_with (first
    | (with_reducible refine wl_alloc rfl 85 _ (bv (List.replicate 16 0)) rfl zB16 rfl ?_; intro g2 w1 r1 a1 l1 b1; have hm1 := hm.later b1)
    | (with_reducible refine wl_load_part rfl 120 (.tmp 9) g 22 127 (bv held ++ (.int .i64 (n : Int) :: (fb R ++ nb S))) (nb T) [] _ rfl rfl (by have := hm1; simpa [macL] using this) (by simp [bv_len, fb, nb, hh]) Tryz.underlying120 rfl (sizeNb _) ?_)
    | (with_reducible refine wl_alloc rfl 120 _ (n3 0 0 0) rfl zeroN3 rfl ?_; intro g3 w2 r2 a2 l2 b2)
    | (with_reducible refine wl_store_row rfl 120 (.tmp 3) (.tmp 10) g3 120 _ (nb T) rfl rfl rfl r2 (sizeNb _) rfl (oneNb _) ?_; intro w3 r3 o3))
  have s1 := b1.size; have s2 := b2.size; have s3 := o3.size
  have hgl := hm.lt
  have hne3 : g ≠ g3 := by omega
  have hne2 : g2 ≠ g3 := by omega
  have hne : g3 ≠ g2 := by omega
  have hg2 : w.heap.size ≤ g2 := a1
  have hg3 : w.heap.size ≤ g3 := by omega
  have hm3 := (hm1.later b2).only o3 hne3
  have rB3 := (r1.later b2).only o3 hne2
  have B3 := (b1.trans (b2.mono (by omega))).trans (o3.below (by omega))
  clear hm hm1 r1 r2 b1 b2 o3
  refine (begun_any g 127 n _ w3 hm3 (mac16 hh n R S T)).mono ?_
  rintro e w4 ⟨rfl, rfl⟩
  by_cases hn0 : n = 0
  · have hdb : decide ((0 : Int) < (n : Int)) = false := by simp; omega
    rw [hdb]
    have hEnd : Hid (bv out = bv (lowB ((red T + S : Nat) : Int) 16)) := hEn.out T (HE0.out hn0).symm
    have hE : T < 2 ^ 132 := by omega
    have hrM := hm3
    have rB := rB3
    have BS := B3
    clear hm3 rB3 B3 hn0
    generalize hTE : T = E at r3 hEnd hE
    clear hTE
    generalize w3 = wS at *
    go_wp2_with fail
    rename_i K1 hK1
    refine wp_region_vals [1, 6, 7] (SS6 g g3 R S T E n held) (JB g3 120 wS 2 (nb E) (nb (red E + S))) (by kernel_rfl) (by kernel_rfl) (by kernel_rfl) (by kernel_rfl) (by kernel_rfl) (JB.start r3 rfl) ?obs ?he
    case obs =>
      refine ⟨?_, ?_, ?_, ?_, ?_, ?_, ?_, ?_, trivial⟩
      · exact .inl ⟨by kernel_rfl, fun L a1 w1 n' h => ⟨_, rfl, run_loadRow 120 (.tmp 3) g3 120 _ _ rfl (h.var n' 3 (by kernel_rfl)) (h.inv.1 (n'.later (by kernel_rfl))) Tryz.underlying120 rfl (sizeNb _)⟩⟩
      · refine .inr fun L a1 w1 n' h K hK => ?_
        have e0 : a1.eval (.tmp 17) = .agg (nb E).toArray := h.dep n' 0 17 (by kernel_rfl) rfl
        refine st_call 62 _ _ #[.agg (nb E).toArray] rfl Tryz.call62 ?_ (reduced_any E w1 hE) ?_
        · simp only [List.map_toArray, List.map_cons, List.map_nil, e0]
        · rintro e w3 ⟨rfl, b9⟩
          exact ⟨_, rfl, hK _ w3 rfl (h.inv.call (us := []) b9)⟩
      · exact .inl ⟨by kernel_rfl, fun L a1 w1 n' h => ⟨_, rfl, run_move (.tmp 0) rfl (h.var n' 0 (by kernel_rfl))⟩⟩
      · refine .inl ⟨by kernel_rfl, fun L a1 w1 n' h => ⟨.pointer (some ⟨g, 0, none⟩), rfl, ?_⟩⟩
        have e0 : a1.eval (.tmp 19) = _ := h.dep n' 2 19 (by kernel_rfl) rfl
        unfold execOp
        simp only [e0]
        go_simp
      · refine .inl ⟨by kernel_rfl, fun L a1 w1 n' h => ⟨.pointer (some ⟨g, 19, none⟩), rfl, ?_⟩⟩
        have e0 : a1.eval (.tmp 20) = _ := h.dep n' 3 20 (by kernel_rfl) rfl
        unfold execOp
        simp only [e0]
        go_simp
      · exact .inl ⟨by kernel_rfl, fun L a1 w1 n' h => ⟨_, rfl, run_loadP 120 (.tmp 21) g 19 127 (bv held ++ (.int .i64 (n : Int) :: fb R)) (nb S) (nb T) _ rfl (h.dep n' 4 21 (by kernel_rfl) rfl) (by have := hrM.but h.inv.2.2 hne3; simpa [macL] using this) (by simp [bv_len, fb, nb, hh]) Tryz.underlying120 rfl (sizeNb _)⟩⟩
      · refine .inr fun L a1 w1 n' h K hK => ?_
        have e0 : a1.eval (.tmp 18) = .agg (nb (red E)).toArray := h.dep n' 1 18 (by kernel_rfl) rfl
        have e1 : a1.eval (.tmp 22) = .agg (nb S).toArray := h.dep n' 5 22 (by kernel_rfl) rfl
        refine st_call 63 _ _ #[.agg (nb (red E)).toArray, .agg (nb S).toArray] rfl Tryz.call63 ?_ (plus_any (red E) S w1) ?_
        · simp only [List.map_toArray, List.map_cons, List.map_nil, e0, e1]
        · rintro e w3 ⟨rfl, b9⟩
          exact ⟨_, rfl, hK _ w3 rfl (h.inv.call (us := []) b9)⟩
      · refine .inr fun L a1 w1 n' h K hK => ?_
        have no : L.getD 7 false = false := n'.not_yet
        refine st_store_row 120 (.tmp 3) (.tmp 23) g3 120 (nb E) (nb (red E + S)) rfl (h.var n' 3 (by kernel_rfl)) (h.dep n' 6 23 (by kernel_rfl) rfl) (h.inv.1 no) (sizeNb _) rfl (oneNb _) ?_
        intro w3 r3 o3
        exact hK undef w3 trivial (h.inv.store (us := []) o3 r3 rfl)
    case he =>
      intro V w5 hV hJ
      have r5 := hJ.2.1 rfl
      have bx := hJ.2.2
      clear hV hJ
      simp only [putOps, List.setIfInBounds_toArray, List.set_cons_succ, List.set_cons_zero]
      refine hK1 _ _ ?_
      clear hK1 K1
      go_wp2_with fail
      have r2 := rB.but bx hne2
      have cx0 := nb_get (X := red E + S) (i := 0) (by decide)
      have cx1 := nb_get (X := red E + S) (i := 1) (by decide)
      have hxl0 := nW_lt (red E + S) 0
      have hxl1 := nW_lt (red E + S) 1
      have HXY := hide (lowB_two (nW (red E + S) 0 : Int) (nW (red E + S) 1 : Int) (red E + S) rfl rfl)
      clear r3
      have r3 := r5
      generalize nW (red E + S) 0 = x0 at *
      generalize nW (red E + S) 1 = x1 at *
      rename_i K2 hK2
      refine wp_region_vals [2, 5, 6, 7, 8, 10] (SS7 g3 x0 x1) (J7 g2 85 w5 (lowB (x0 : Int) 8) (lowB (x1 : Int) 8) (bv (List.replicate 16 0)) (bv (lowB (x0 : Int) 8 ++ lowB (x1 : Int) 8))) (by kernel_rfl) (by kernel_rfl) (by kernel_rfl) (by kernel_rfl) (by kernel_rfl) ⟨fun _ => ⟨fun h => absurd h (by decide), fun h => absurd h (by decide), fun h => absurd h (by decide), fun h => absurd h (by decide), fun h => absurd h (by decide)⟩, JB.start r2 rfl⟩ ?obs ?he
      case obs =>
        refine ⟨?_, ?_, ?_, ?_, ?_, ?_, ?_, ?_, ?_, ?_, ?_, trivial⟩
        · exact .inl ⟨by kernel_rfl, fun L a1 w1 n' h => ⟨_, rfl, run_index0 120 (.tmp 3) (.const (.int .i64 0)) 3 95 g3 0 rfl Tryz.underlying120 Tryz.sizeOf95 (h.var n' 3 (by kernel_rfl)) rfl (by decide)⟩⟩
        · exact .inl ⟨by kernel_rfl, fun L a1 w1 n' h => ⟨_, rfl, run_loadA 95 (.tmp 24) ⟨g3, 0, none⟩ rfl Tryz.isAgg95 (h.dep n' 0 24 (by kernel_rfl) rfl) ((r3.but h.inv.2.2.2 hne).cell cx0)⟩⟩
        · refine .inr fun L a1 w1 n' h K hK => ?_
          have e1 : a1.eval (.tmp 25) = .int .u64 (x0 : Int) := h.dep n' 1 25 (by kernel_rfl) rfl
          refine st_call 46 _ _ #[.slice none 0 0, .int .u64 (x0 : Int)] rfl Tryz.call46 ?_ (putLe64_has (x0 : Int) w1 (by omega) (by omega)) ?_
          · simp only [List.map_toArray, List.map_cons, List.map_nil, e1]; rfl
          · rintro e w3 ⟨v9, rfl, hv, b9⟩
            exact ⟨_, rfl, hK _ w3 trivial ⟨(fun h5 => let q := (h.inv.1 (n'.later (by kernel_rfl))).later b9; ⟨fun _ => hv, fun h1 => q.b h1, fun h1 => q.c h1, fun h1 => q.d h1, fun h1 => q.e h1⟩), h.inv.2.call (us := []) b9⟩⟩
        · exact .inl ⟨by kernel_rfl, fun L a1 w1 n' h => ⟨_, rfl, run_index0 120 (.tmp 3) (.const (.int .i64 1)) 3 95 g3 1 rfl Tryz.underlying120 Tryz.sizeOf95 (h.var n' 3 (by kernel_rfl)) rfl (by decide)⟩⟩
        · exact .inl ⟨by kernel_rfl, fun L a1 w1 n' h => ⟨_, rfl, run_loadA 95 (.tmp 27) ⟨g3, 1, none⟩ rfl Tryz.isAgg95 (h.dep n' 3 27 (by kernel_rfl) rfl) ((r3.but h.inv.2.2.2 hne).cell cx1)⟩⟩
        · refine .inr fun L a1 w1 n' h K hK => ?_
          have e1 : a1.eval (.tmp 28) = .int .u64 (x1 : Int) := h.dep n' 4 28 (by kernel_rfl) rfl
          refine st_call 46 _ _ #[.slice none 0 0, .int .u64 (x1 : Int)] rfl Tryz.call46 ?_ (putLe64_has (x1 : Int) w1 (by omega) (by omega)) ?_
          · simp only [List.map_toArray, List.map_cons, List.map_nil, e1]; rfl
          · rintro e w3 ⟨v9, rfl, hv, b9⟩
            exact ⟨_, rfl, hK _ w3 trivial ⟨(fun h5 => let q := (h.inv.1 (n'.later (by kernel_rfl))).later b9; ⟨fun h1 => q.a h1, fun _ => hv, fun h1 => q.c h1, fun h1 => q.d h1, fun h1 => q.e h1⟩), h.inv.2.call (us := []) b9⟩⟩
        · refine .inr fun L a1 w1 n' h K hK => ?_
          have q0 := h.inv.1 (n'.later (by kernel_rfl))
          obtain ⟨A1, c1, e1, hb1, _⟩ := q0.a (n'.dep (by kernel_rfl))
          obtain ⟨A2, c2, e2, hb2, _⟩ := q0.b (n'.dep (by kernel_rfl))
          obtain ⟨i1, hi1, hz1, hs1⟩ := slB_info
          have b9 : Below w1.heap.size w1 (w1.alloc (.cells #[.slice A1 8 c1, .slice A2 8 c2] 25)) := (Below.refl _ _).alloc (Nat.le_refl _) _
          have hl := Bss.lit w1 25 [(A1, 8, c1, lowB (x0 : Int) 8), (A2, 8, c2, lowB (x1 : Int) 8)] (by
            intro x hx
            simp only [List.mem_cons, List.not_mem_nil, or_false] at hx
            rcases hx with rfl | rfl
            · exact hb1
            · exact hb2)
          refine st_build2 32 (.tmp 26) (.tmp 29) rfl 25 i1 _ (.slice A1 8 c1) (.slice A2 8 c2) Tryz.underlying32 hi1 hz1 hs1 rfl e1 e2 rfl rfl ?_
          exact hK _ _ trivial ⟨(fun h5 => let q := (h.inv.1 (n'.later (by kernel_rfl))).later b9; ⟨fun h1 => q.a h1, fun h1 => q.b h1, fun _ => ⟨_, _, rfl, hl.up (by simp)⟩, fun h1 => q.d h1, fun h1 => q.e h1⟩), h.inv.2.call (us := []) b9⟩
        · refine .inr fun L a1 w1 n' h K hK => ?_
          have q0 := h.inv.1 (n'.later (by kernel_rfl))
          obtain ⟨A1, c1, e1, hb1⟩ := q0.c (n'.dep (by kernel_rfl))
          have e0 : a1.eval (.tmp 30) = .slice A1 2 c1 := e1
          refine st_call 33 _ _ #[.slice A1 2 c1] rfl Tryz.call33 ?_ (join_any A1 2 c1 _ w1 hb1 (by omega) (by simp [sumLen, lowB_length])) ?_
          · simp only [List.map_toArray, List.map_cons, List.map_nil, e0]
          · rintro e w3 ⟨A3, n3, c3, rfl, h1, h2, h3, b9⟩
            have hn : n3 = 16 := by rw [← h1.1]; simp [lowB_length]
            subst hn
            simp only [List.flatten_cons, List.flatten_nil, List.append_nil] at h1
            exact ⟨_, rfl, hK _ w3 trivial ⟨(fun h5 => let q := (h.inv.1 (n'.later (by kernel_rfl))).later b9; ⟨fun h1 => q.a h1, fun h1 => q.b h1, fun h1 => q.c h1, fun _ => ⟨_, _, rfl, h1, h2⟩, fun h1 => q.e h1⟩), h.inv.2.call (us := []) b9⟩⟩
        · refine .inr fun L a1 w1 n' h K hK => ?_
          have q0 := h.inv.1 (n'.later (by kernel_rfl))
          obtain ⟨A1, c1, e1, hb1, _⟩ := q0.d (n'.dep (by kernel_rfl))
          refine st_arr 85 (.tmp 31) rfl 16 5 Tryz.underlying85 A1 16 c1 e1 (Nat.le_refl _) ?_
          exact hK _ _ trivial ⟨fun h5 => ⟨fun h1 => q0.a h1, fun h1 => q0.b h1, fun h1 => q0.c h1, fun h1 => q0.d h1, fun _ => ⟨A1, rfl, hb1⟩⟩, h.inv.2⟩
        · refine .inl ⟨by kernel_rfl, fun L a1 w1 n' h => ⟨_, rfl, ?_⟩⟩
          obtain ⟨A1, e1, hb1⟩ := (h.inv.1 (n'.later (by kernel_rfl))).e (n'.dep (by kernel_rfl))
          obtain ⟨b1, o1, rfl, _, _⟩ := hb1.2 (by decide)
          exact run_loadC 85 (.tmp 32) b1 o1 (bv (lowB (x0 : Int) 8 ++ lowB (x1 : Int) 8)) _ rfl e1 (bs_cells hb1) Tryz.underlying85 rfl (size16 (by simp [lowB_length]))
        · refine .inr fun L a1 w1 n' h K hK => ?_
          have no : L.getD 10 false = false := n'.not_yet
          refine st_store_row 85 (.tmp 2) (.tmp 33) g2 85 (bv (List.replicate 16 0)) (bv (lowB (x0 : Int) 8 ++ lowB (x1 : Int) 8)) rfl (h.var n' 2 (by kernel_rfl)) (h.dep n' 9 33 (by kernel_rfl) rfl) (h.inv.2.1 no) (size16 (by simp [lowB_length])) (by simp [bv_len, lowB_length]) (bv_one _) ?_
          intro w3 r3 o3
          exact hK undef w3 trivial ⟨fun h5 => absurd (show true = false from h5) (by decide), h.inv.2.store (us := []) o3 r3 rfl⟩
      case he =>
        intro V w6 hV hJ
        have r6 := hJ.2.2.1 rfl
        have by6 := hJ.2.2.2
        clear hV hJ
        simp only [putOps, List.setIfInBounds_toArray, List.set_cons_succ, List.set_cons_zero]
        refine hK2 _ _ ?_
        go_wp2
        rw [HXY.out] at r6
        have sx := bx.size
        refine bodyPost_ret (v := .agg (bv (lowB ((red E + S : Nat) : Int) 16)).toArray) ?_ rfl ⟨by rw [hEnd.out], ?_⟩
        · exact results_cell_row Tryz.results47 _ _ g2 85 _ (0, 0) _ rfl r6 Tryz.underlying85 rfl (by simpa using size16 (lowB_length _ _))
        · exact (BS.trans (bx.below hg3 BS.size)).trans (by6.below hg2 (by omega))
  · have hdb : decide ((0 : Int) < (n : Int)) = true := by simp; omega
    rw [hdb]
    have hN := pnext_any g n R S T held w3 hm3 hh hbl (by omega) (by omega) hR hTl
    have hEnd := hEn.out _ (HE1.out hn0).symm
    rw [HTK.out] at hN
    rw [HE1.out hn0] at hEl
    have HEnd := hide hEnd
    clear hEnd HE0 HE1 hEn HTK
    generalize stepI R T rl = E at *
    go_wp2_with fail
    refine hN.mono ?_
    rintro e w4 ⟨rfl, b4⟩
    have r3' := r3.later b4
    go_wp2_with (first
      | (with_reducible refine wl_store_row rfl 120 (.tmp 3) (.tmp 16) g3 120 _ (nb E) rfl rfl rfl r3' (sizeNb _) rfl (oneNb _) ?_; intro wS rS oS))
    have s4 := b4.size; have s5 := oS.size
    have hEnd : Hid (bv out = bv (lowB ((red E + S : Nat) : Int) 16)) := HEnd.out
    have hE : E < 2 ^ 132 := by omega
    have hrM := (hm3.later b4).only oS hne3
    have rB := (rB3.later b4).only oS hne2
    have BS := (B3.trans (b4.mono (by omega))).trans (oS.below (by omega))
    clear hm3 rB3 B3 hn0 r3 r3' oS b4
    have r3 := rS
    clear rS
    rename_i K1 hK1
    refine wp_region_vals [1, 6, 7] (SS6 g g3 R S T E n held) (JB g3 120 wS 2 (nb E) (nb (red E + S))) (by kernel_rfl) (by kernel_rfl) (by kernel_rfl) (by kernel_rfl) (by kernel_rfl) (JB.start r3 rfl) ?obs ?he
    case obs =>
      refine ⟨?_, ?_, ?_, ?_, ?_, ?_, ?_, ?_, trivial⟩
      · exact .inl ⟨by kernel_rfl, fun L a1 w1 n' h => ⟨_, rfl, run_loadRow 120 (.tmp 3) g3 120 _ _ rfl (h.var n' 3 (by kernel_rfl)) (h.inv.1 (n'.later (by kernel_rfl))) Tryz.underlying120 rfl (sizeNb _)⟩⟩
      · refine .inr fun L a1 w1 n' h K hK => ?_
        have e0 : a1.eval (.tmp 17) = .agg (nb E).toArray := h.dep n' 0 17 (by kernel_rfl) rfl
        refine st_call 62 _ _ #[.agg (nb E).toArray] rfl Tryz.call62 ?_ (reduced_any E w1 hE) ?_
        · simp only [List.map_toArray, List.map_cons, List.map_nil, e0]
        · rintro e w3 ⟨rfl, b9⟩
          exact ⟨_, rfl, hK _ w3 rfl (h.inv.call (us := []) b9)⟩
      · exact .inl ⟨by kernel_rfl, fun L a1 w1 n' h => ⟨_, rfl, run_move (.tmp 0) rfl (h.var n' 0 (by kernel_rfl))⟩⟩
      · refine .inl ⟨by kernel_rfl, fun L a1 w1 n' h => ⟨.pointer (some ⟨g, 0, none⟩), rfl, ?_⟩⟩
        have e0 : a1.eval (.tmp 19) = _ := h.dep n' 2 19 (by kernel_rfl) rfl
        unfold execOp
        simp only [e0]
        go_simp
      · refine .inl ⟨by kernel_rfl, fun L a1 w1 n' h => ⟨.pointer (some ⟨g, 19, none⟩), rfl, ?_⟩⟩
        have e0 : a1.eval (.tmp 20) = _ := h.dep n' 3 20 (by kernel_rfl) rfl
        unfold execOp
        simp only [e0]
        go_simp
      · exact .inl ⟨by kernel_rfl, fun L a1 w1 n' h => ⟨_, rfl, run_loadP 120 (.tmp 21) g 19 127 (bv held ++ (.int .i64 (n : Int) :: fb R)) (nb S) (nb T) _ rfl (h.dep n' 4 21 (by kernel_rfl) rfl) (by have := hrM.but h.inv.2.2 hne3; simpa [macL] using this) (by simp [bv_len, fb, nb, hh]) Tryz.underlying120 rfl (sizeNb _)⟩⟩
      · refine .inr fun L a1 w1 n' h K hK => ?_
        have e0 : a1.eval (.tmp 18) = .agg (nb (red E)).toArray := h.dep n' 1 18 (by kernel_rfl) rfl
        have e1 : a1.eval (.tmp 22) = .agg (nb S).toArray := h.dep n' 5 22 (by kernel_rfl) rfl
        refine st_call 63 _ _ #[.agg (nb (red E)).toArray, .agg (nb S).toArray] rfl Tryz.call63 ?_ (plus_any (red E) S w1) ?_
        · simp only [List.map_toArray, List.map_cons, List.map_nil, e0, e1]
        · rintro e w3 ⟨rfl, b9⟩
          exact ⟨_, rfl, hK _ w3 rfl (h.inv.call (us := []) b9)⟩
      · refine .inr fun L a1 w1 n' h K hK => ?_
        have no : L.getD 7 false = false := n'.not_yet
        refine st_store_row 120 (.tmp 3) (.tmp 23) g3 120 (nb E) (nb (red E + S)) rfl (h.var n' 3 (by kernel_rfl)) (h.dep n' 6 23 (by kernel_rfl) rfl) (h.inv.1 no) (sizeNb _) rfl (oneNb _) ?_
        intro w3 r3 o3
        exact hK undef w3 trivial (h.inv.store (us := []) o3 r3 rfl)
    case he =>
      intro V w5 hV hJ
      have r5 := hJ.2.1 rfl
      have bx := hJ.2.2
      clear hV hJ
      simp only [putOps, List.setIfInBounds_toArray, List.set_cons_succ, List.set_cons_zero]
      refine hK1 _ _ ?_
      clear hK1 K1
      go_wp2_with fail
      have r2 := rB.but bx hne2
      have cx0 := nb_get (X := red E + S) (i := 0) (by decide)
      have cx1 := nb_get (X := red E + S) (i := 1) (by decide)
      have hxl0 := nW_lt (red E + S) 0
      have hxl1 := nW_lt (red E + S) 1
      have HXY := hide (lowB_two (nW (red E + S) 0 : Int) (nW (red E + S) 1 : Int) (red E + S) rfl rfl)
      clear r3
      have r3 := r5
      generalize nW (red E + S) 0 = x0 at *
      generalize nW (red E + S) 1 = x1 at *
      rename_i K2 hK2
      refine wp_region_vals [2, 5, 6, 7, 8, 10] (SS7 g3 x0 x1) (J7 g2 85 w5 (lowB (x0 : Int) 8) (lowB (x1 : Int) 8) (bv (List.replicate 16 0)) (bv (lowB (x0 : Int) 8 ++ lowB (x1 : Int) 8))) (by kernel_rfl) (by kernel_rfl) (by kernel_rfl) (by kernel_rfl) (by kernel_rfl) ⟨fun _ => ⟨fun h => absurd h (by decide), fun h => absurd h (by decide), fun h => absurd h (by decide), fun h => absurd h (by decide), fun h => absurd h (by decide)⟩, JB.start r2 rfl⟩ ?obs ?he
      case obs =>
        refine ⟨?_, ?_, ?_, ?_, ?_, ?_, ?_, ?_, ?_, ?_, ?_, trivial⟩
        · exact .inl ⟨by kernel_rfl, fun L a1 w1 n' h => ⟨_, rfl, run_index0 120 (.tmp 3) (.const (.int .i64 0)) 3 95 g3 0 rfl Tryz.underlying120 Tryz.sizeOf95 (h.var n' 3 (by kernel_rfl)) rfl (by decide)⟩⟩
        · exact .inl ⟨by kernel_rfl, fun L a1 w1 n' h => ⟨_, rfl, run_loadA 95 (.tmp 24) ⟨g3, 0, none⟩ rfl Tryz.isAgg95 (h.dep n' 0 24 (by kernel_rfl) rfl) ((r3.but h.inv.2.2.2 hne).cell cx0)⟩⟩
        · refine .inr fun L a1 w1 n' h K hK => ?_
          have e1 : a1.eval (.tmp 25) = .int .u64 (x0 : Int) := h.dep n' 1 25 (by kernel_rfl) rfl
          refine st_call 46 _ _ #[.slice none 0 0, .int .u64 (x0 : Int)] rfl Tryz.call46 ?_ (putLe64_has (x0 : Int) w1 (by omega) (by omega)) ?_
          · simp only [List.map_toArray, List.map_cons, List.map_nil, e1]; rfl
          · rintro e w3 ⟨v9, rfl, hv, b9⟩
            exact ⟨_, rfl, hK _ w3 trivial ⟨(fun h5 => let q := (h.inv.1 (n'.later (by kernel_rfl))).later b9; ⟨fun _ => hv, fun h1 => q.b h1, fun h1 => q.c h1, fun h1 => q.d h1, fun h1 => q.e h1⟩), h.inv.2.call (us := []) b9⟩⟩
        · exact .inl ⟨by kernel_rfl, fun L a1 w1 n' h => ⟨_, rfl, run_index0 120 (.tmp 3) (.const (.int .i64 1)) 3 95 g3 1 rfl Tryz.underlying120 Tryz.sizeOf95 (h.var n' 3 (by kernel_rfl)) rfl (by decide)⟩⟩
        · exact .inl ⟨by kernel_rfl, fun L a1 w1 n' h => ⟨_, rfl, run_loadA 95 (.tmp 27) ⟨g3, 1, none⟩ rfl Tryz.isAgg95 (h.dep n' 3 27 (by kernel_rfl) rfl) ((r3.but h.inv.2.2.2 hne).cell cx1)⟩⟩
        · refine .inr fun L a1 w1 n' h K hK => ?_
          have e1 : a1.eval (.tmp 28) = .int .u64 (x1 : Int) := h.dep n' 4 28 (by kernel_rfl) rfl
          refine st_call 46 _ _ #[.slice none 0 0, .int .u64 (x1 : Int)] rfl Tryz.call46 ?_ (putLe64_has (x1 : Int) w1 (by omega) (by omega)) ?_
          · simp only [List.map_toArray, List.map_cons, List.map_nil, e1]; rfl
          · rintro e w3 ⟨v9, rfl, hv, b9⟩
            exact ⟨_, rfl, hK _ w3 trivial ⟨(fun h5 => let q := (h.inv.1 (n'.later (by kernel_rfl))).later b9; ⟨fun h1 => q.a h1, fun _ => hv, fun h1 => q.c h1, fun h1 => q.d h1, fun h1 => q.e h1⟩), h.inv.2.call (us := []) b9⟩⟩
        · refine .inr fun L a1 w1 n' h K hK => ?_
          have q0 := h.inv.1 (n'.later (by kernel_rfl))
          obtain ⟨A1, c1, e1, hb1, _⟩ := q0.a (n'.dep (by kernel_rfl))
          obtain ⟨A2, c2, e2, hb2, _⟩ := q0.b (n'.dep (by kernel_rfl))
          obtain ⟨i1, hi1, hz1, hs1⟩ := slB_info
          have b9 : Below w1.heap.size w1 (w1.alloc (.cells #[.slice A1 8 c1, .slice A2 8 c2] 25)) := (Below.refl _ _).alloc (Nat.le_refl _) _
          have hl := Bss.lit w1 25 [(A1, 8, c1, lowB (x0 : Int) 8), (A2, 8, c2, lowB (x1 : Int) 8)] (by
            intro x hx
            simp only [List.mem_cons, List.not_mem_nil, or_false] at hx
            rcases hx with rfl | rfl
            · exact hb1
            · exact hb2)
          refine st_build2 32 (.tmp 26) (.tmp 29) rfl 25 i1 _ (.slice A1 8 c1) (.slice A2 8 c2) Tryz.underlying32 hi1 hz1 hs1 rfl e1 e2 rfl rfl ?_
          exact hK _ _ trivial ⟨(fun h5 => let q := (h.inv.1 (n'.later (by kernel_rfl))).later b9; ⟨fun h1 => q.a h1, fun h1 => q.b h1, fun _ => ⟨_, _, rfl, hl.up (by simp)⟩, fun h1 => q.d h1, fun h1 => q.e h1⟩), h.inv.2.call (us := []) b9⟩
        · refine .inr fun L a1 w1 n' h K hK => ?_
          have q0 := h.inv.1 (n'.later (by kernel_rfl))
          obtain ⟨A1, c1, e1, hb1⟩ := q0.c (n'.dep (by kernel_rfl))
          have e0 : a1.eval (.tmp 30) = .slice A1 2 c1 := e1
          refine st_call 33 _ _ #[.slice A1 2 c1] rfl Tryz.call33 ?_ (join_any A1 2 c1 _ w1 hb1 (by omega) (by simp [sumLen, lowB_length])) ?_
          · simp only [List.map_toArray, List.map_cons, List.map_nil, e0]
          · rintro e w3 ⟨A3, n3, c3, rfl, h1, h2, h3, b9⟩
            have hn : n3 = 16 := by rw [← h1.1]; simp [lowB_length]
            subst hn
            simp only [List.flatten_cons, List.flatten_nil, List.append_nil] at h1
            exact ⟨_, rfl, hK _ w3 trivial ⟨(fun h5 => let q := (h.inv.1 (n'.later (by kernel_rfl))).later b9; ⟨fun h1 => q.a h1, fun h1 => q.b h1, fun h1 => q.c h1, fun _ => ⟨_, _, rfl, h1, h2⟩, fun h1 => q.e h1⟩), h.inv.2.call (us := []) b9⟩⟩
        · refine .inr fun L a1 w1 n' h K hK => ?_
          have q0 := h.inv.1 (n'.later (by kernel_rfl))
          obtain ⟨A1, c1, e1, hb1, _⟩ := q0.d (n'.dep (by kernel_rfl))
          refine st_arr 85 (.tmp 31) rfl 16 5 Tryz.underlying85 A1 16 c1 e1 (Nat.le_refl _) ?_
          exact hK _ _ trivial ⟨fun h5 => ⟨fun h1 => q0.a h1, fun h1 => q0.b h1, fun h1 => q0.c h1, fun h1 => q0.d h1, fun _ => ⟨A1, rfl, hb1⟩⟩, h.inv.2⟩
        · refine .inl ⟨by kernel_rfl, fun L a1 w1 n' h => ⟨_, rfl, ?_⟩⟩
          obtain ⟨A1, e1, hb1⟩ := (h.inv.1 (n'.later (by kernel_rfl))).e (n'.dep (by kernel_rfl))
          obtain ⟨b1, o1, rfl, _, _⟩ := hb1.2 (by decide)
          exact run_loadC 85 (.tmp 32) b1 o1 (bv (lowB (x0 : Int) 8 ++ lowB (x1 : Int) 8)) _ rfl e1 (bs_cells hb1) Tryz.underlying85 rfl (size16 (by simp [lowB_length]))
        · refine .inr fun L a1 w1 n' h K hK => ?_
          have no : L.getD 10 false = false := n'.not_yet
          refine st_store_row 85 (.tmp 2) (.tmp 33) g2 85 (bv (List.replicate 16 0)) (bv (lowB (x0 : Int) 8 ++ lowB (x1 : Int) 8)) rfl (h.var n' 2 (by kernel_rfl)) (h.dep n' 9 33 (by kernel_rfl) rfl) (h.inv.2.1 no) (size16 (by simp [lowB_length])) (by simp [bv_len, lowB_length]) (bv_one _) ?_
          intro w3 r3 o3
          exact hK undef w3 trivial ⟨fun h5 => absurd (show true = false from h5) (by decide), h.inv.2.store (us := []) o3 r3 rfl⟩
      case he =>
        intro V w6 hV hJ
        have r6 := hJ.2.2.1 rfl
        have by6 := hJ.2.2.2
        clear hV hJ
        simp only [putOps, List.setIfInBounds_toArray, List.set_cons_succ, List.set_cons_zero]
        refine hK2 _ _ ?_
        go_wp2
        rw [HXY.out] at r6
        have sx := bx.size
        refine bodyPost_ret (v := .agg (bv (lowB ((red E + S : Nat) : Int) 16)).toArray) ?_ rfl ⟨by rw [hEnd.out], ?_⟩
        · exact results_cell_row Tryz.results47 _ _ g2 85 _ (0, 0) _ rfl r6 Tryz.underlying85 rfl (by simpa using size16 (lowB_length _ _))
        · exact (BS.trans (bx.below hg3 BS.size)).trans (by6.below hg2 (by omega))
end Go.Proofs.YtooooncmjhcdbaaGreatDoor.Pa

/-
  Poly: a sum of nothing; the sum of a text: contracts. Own work.
-/
namespace Go.Proofs.YtooooncmjhcdbaaGreatDoor.Pa
open Go.Proofs.YtooooncmjhcdbaaGreatDoor
open Go.RowKit
/-- Of the number of the key's first half, the bits that count. -/
def clN (X : Nat) : Nat := (nW X 0 &&& 1152921487695413247) + 18446744073709551616 * (nW X 1 &&& 1152921487695413244)
theorem and_lt60 (x m : Nat) (hm : m < 1152921504606846976) : x &&& m < 1152921504606846976 := Nat.lt_of_le_of_lt Nat.and_le_right hm
theorem clN_lt (X : Nat) : clN X < 2 ^ 124 := by
  unfold clN
  have h1 := and_lt60 (nW X 0) 1152921487695413247 (by decide)
  have h2 := and_lt60 (nW X 1) 1152921487695413244 (by decide)
  omega
theorem fb_clN (X : Nat) : uL [nW X 0 &&& 1152921487695413247, nW X 1 &&& 1152921487695413244] = fb (clN X) := by
  have h1 := and_lt60 (nW X 0) 1152921487695413247 (by decide)
  have h2 := and_lt60 (nW X 1) 1152921487695413244 (by decide)
  have e0 : nW (clN X) 0 = nW X 0 &&& 1152921487695413247 := by
    show clN X / 1 % 18446744073709551616 = _
    rw [Nat.div_one]
    unfold clN
    omega
  have e1 : nW (clN X) 1 = nW X 1 &&& 1152921487695413244 := by
    show clN X / 18446744073709551616 % 18446744073709551616 = _
    unfold clN
    omega
  simp only [uL, fb, e0, e1, List.map_cons, List.map_nil]
theorem builtF (a b : Nat) : Tryz.prog.built 123 [(0, .int .u64 (a : Int)), (1, .int .u64 (b : Int))] = some (uL [a, b]).toArray := by kernel_rfl
theorem builtMac (R S : Nat) : Tryz.prog.built 127 [(1, .agg (fb R).toArray), (2, .agg (nb S).toArray)] = some (macL (List.replicate 16 0) 0 R S 0).toArray := by kernel_rfl
theorem size32 {xs : List Int} (h : xs.length = 32) : (Tryz.prog.info? 42).map (·.size) = some (bv xs).length := by rw [bv_len, h]; kernel_rfl
theorem zero32 : (Tryz.prog.info? 42).map (fun i => i.zero) = some (some (.agg (bv (List.replicate 32 0)).toArray)) := by kernel_rfl
def JNew (w0 : World) (R S : Nat) (bs : List Bool) (vs : List Value) (w : World) : Prop :=
  Below w0.heap.size w0 w ∧ (bs.getD 1 false = true → ∃ g, vs.getD 1 undef = .pointer (some ⟨g, 0, none⟩) ∧ w0.heap.size ≤ g ∧ Row w 127 g (macL (List.replicate 16 0) 0 R S 0)) ∧
    (bs.getD 2 false = true → ∃ g, vs.getD 2 undef = .pointer (some ⟨g, 0, none⟩) ∧ w0.heap.size ≤ g ∧ Row w 127 g (macL (List.replicate 16 0) 0 R S 0))
def SNew (g1 g3 x0 x1 a0 a1' R S : Nat) (opn : Nat) (v : Value) : Prop :=
  match opn with
  | 0 => v = .pointer (some ⟨g3, 0, none⟩)
  | 1 => v = .int .u64 (x0 : Int)
  | 2 => v = .int .u64 (a0 : Int)
  | 3 => v = .pointer (some ⟨g3, 1, none⟩)
  | 4 => v = .int .u64 (x1 : Int)
  | 5 => v = .int .u64 (a1' : Int)
  | 6 => v = .agg (uL [a0, a1']).toArray
  | 7 => v = .slice (some ⟨g1, 16, none⟩) 16 16
  | 8 => v = .agg (nb S).toArray
  | 9 => v = .agg (macL (List.replicate 16 0) 0 R S 0).toArray
  | _ => True

theorem row_bs_at {w : World} {t g B off n : Nat} {ks : List Int} (h : Row w t g (bv ks)) (hn : off + n ≤ ks.length) (hB : g < B) : Bs w B (some ⟨g, off, none⟩) n ((ks.drop off).take n) := by
  have e : bv ks = bv (ks.take off) ++ (bv ((ks.drop off).take n) ++ bv ((ks.drop off).drop n)) := by
    rw [← bv_app, List.take_append_drop, ← bv_app, List.take_append_drop]
  rw [e] at h
  have := h.bs (B := B) (off := off) (by rw [bv_len, List.length_take]; omega) hB
  rwa [show ((ks.drop off).take n).length = n by rw [List.length_take, List.length_drop]; omega] at this
set_option maxRecDepth 100000 in
set_option maxHeartbeats 2000000 in
theorem pnew_any (ks : List Int) (w : World) (hk : ks.length = 32) (hb : IsBy ks) :
    Calls Tryz.prog 43 #[.agg (bv ks).toArray] w fun e w' => ∃ g, e = .returned (.pointer (some ⟨g, 0, none⟩)) ∧ w.heap.size ≤ g ∧ MacAt w' g (clN (leN (ks.take 16))) (leN (ks.drop 16)) [] ∧ Below w.heap.size w w' := by
  have h16 : (ks.take 16).length = 16 := by rw [List.length_take]; omega
  have hF1 : ∀ A m c w, Bs w w.heap.size A m (ks.take 16) → m ≤ 1000000 → _ := fun A m c w h1 h2 => fromBytes_any A m c (ks.take 16) w h1 (hb.take 16) h2
  have hF2 : ∀ A m c w, Bs w w.heap.size A m (ks.drop 16) → m ≤ 1000000 → _ := fun A m c w h1 h2 => fromBytes_any A m c (ks.drop 16) w h1 (hb.drop 16) h2
  rw [n3_nb (hb.take 16)] at hF1
  rw [n3_nb (hb.drop 16)] at hF2
  have hFB : ∀ A m c w, Bs w w.heap.size A m (ks.drop 16) → _ := fun A m c w h1 => hF2 A m c w h1 (by have := h1.1; rw [List.length_drop, hk] at this; omega)
  have hRf := fb_clN (leN (ks.take 16))
  have cx0 := nb_get (X := leN (ks.take 16)) (i := 0) (by decide)
  have cx1 := nb_get (X := leN (ks.take 16)) (i := 1) (by decide)
  have hA0 := bits_and_u64_nat (nW (leN (ks.take 16)) 0) 1152921487695413247 (nW_lt _ _) (by decide)
  have hA1 := bits_and_u64_nat (nW (leN (ks.take 16)) 1) 1152921487695413244 (nW_lt _ _) (by decide)
  have h00 : ∀ (g : Nat) (w' : World) (R S : Nat), Row w' 127 g (macL (List.replicate 16 0) 0 R S 0) → MacAt w' g R S [] := fun g w' R S h => h
  have hl0 := nW_lt (leN (ks.take 16)) 0
  have hl1' := nW_lt (leN (ks.take 16)) 1
  generalize clN (leN (ks.take 16)) = R at *
  generalize leN (ks.drop 16) = S at *
  generalize nW (leN (ks.take 16)) 0 &&& 1152921487695413247 = a0 at *
  generalize nW (leN (ks.take 16)) 1 &&& 1152921487695413244 = a1' at *
  generalize nW (leN (ks.take 16)) 0 = x0 at *
  generalize nW (leN (ks.take 16)) 1 = x1 at *
  generalize leN (ks.take 16) = X at *
  have HK := hide hk
  clear hk h16 hF2
  go_enter Tryz.func43, Tryz.ntmps43
  go_wp2_with (first
    | (with_reducible refine wl_box rfl 42 (.tmp 0) _ (bv ks) rfl rfl rfl ?_; intro g1 w1 r1 p1 l1 b1))
  have hb1 : Bs w1 w1.heap.size (some ⟨g1, 0, none⟩) 16 (ks.take 16) := by
    have := row_bs_at (off := 0) (n := 16) (B := w1.heap.size) r1 (by rw [HK.out]; decide) r1.lt
    rwa [List.drop_zero] at this
  refine (hF1 _ 16 32 w1 hb1 (by decide)).mono ?_
  rintro e w2 ⟨rfl, b2⟩
  go_wp2_with (first
    | (with_reducible refine wl_alloc rfl 120 _ (n3 0 0 0) rfl zeroN3 rfl ?_; intro g3 w3 r3 p3 l3 b3)
    | (with_reducible refine wl_store_row rfl 120 (.tmp 3) (.tmp 5) g3 120 _ (nb X) rfl rfl rfl r3 (sizeNb _) rfl (oneNb _) ?_; intro w4 r4 o4))
  have s1 := b1.size; have s2 := b2.size; have s3 := b3.size; have s4 := o4.size
  have B4 := ((b1.trans (b2.mono (by omega))).trans (b3.mono (by omega))).trans (o4.below (by omega))
  have r1' := ((r1.later b2).later b3).only o4 (by have := r1.lt; omega)
  have HB2 : ∀ w', Row w' 42 g1 (bv ks) → Bs w' w'.heap.size (some ⟨g1, 16, none⟩) 16 (ks.drop 16) := fun w' h => by
    have := row_bs_at (off := 16) (n := 16) (B := w'.heap.size) h (by rw [HK.out]; decide) h.lt
    rwa [List.take_of_length_le (by rw [List.length_drop, HK.out]; decide)] at this
  clear r1 r3 b1 b2 b3 o4 hb1 hF1
  have r1 := r1'
  have r3 := r4
  have hl1 := r1.lt
  have hl3 := r3.lt
  rename_i K1 hK1
  refine wp_region_vals [8, 10, 11] (SNew g1 g3 x0 x1 a0 a1' R S) (JNew w4 R S) (by kernel_rfl) (by kernel_rfl) (by kernel_rfl) (by kernel_rfl) (by kernel_rfl) ⟨(Below.refl _ _).drew, fun h => absurd h (by decide), fun h => absurd h (by decide)⟩ ?obs ?he
  case obs =>
    refine ⟨?_, ?_, ?_, ?_, ?_, ?_, ?_, ?_, ?_, ?_, ?_, ?_, trivial⟩
    · exact .inl ⟨by kernel_rfl, fun L a1 w1 n' h => ⟨_, rfl, run_index0 120 (.tmp 3) (.const (.int .i64 0)) 3 95 g3 0 rfl Tryz.underlying120 Tryz.sizeOf95 (h.var n' 3 (by kernel_rfl)) rfl (by decide)⟩⟩
    · exact .inl ⟨by kernel_rfl, fun L a1 w1 n' h => ⟨_, rfl, run_loadA 95 (.tmp 6) ⟨g3, 0, none⟩ rfl Tryz.isAgg95 (h.dep n' 0 6 (by kernel_rfl) rfl) ((r3.below h.inv.1 hl3).cell cx0)⟩⟩
    · refine .inl ⟨by kernel_rfl, fun L a1 w1 n' h => ⟨.int .u64 (a0 : Int), rfl, ?_⟩⟩
      have e0 : a1.eval (.tmp 7) = _ := h.dep n' 1 7 (by kernel_rfl) rfl
      unfold execOp
      simp only [e0]
      go_simp
      exact hA0
    · exact .inl ⟨by kernel_rfl, fun L a1 w1 n' h => ⟨_, rfl, run_index0 120 (.tmp 3) (.const (.int .i64 1)) 3 95 g3 1 rfl Tryz.underlying120 Tryz.sizeOf95 (h.var n' 3 (by kernel_rfl)) rfl (by decide)⟩⟩
    · exact .inl ⟨by kernel_rfl, fun L a1 w1 n' h => ⟨_, rfl, run_loadA 95 (.tmp 9) ⟨g3, 1, none⟩ rfl Tryz.isAgg95 (h.dep n' 3 9 (by kernel_rfl) rfl) ((r3.below h.inv.1 hl3).cell cx1)⟩⟩
    · refine .inl ⟨by kernel_rfl, fun L a1 w1 n' h => ⟨.int .u64 (a1' : Int), rfl, ?_⟩⟩
      have e0 : a1.eval (.tmp 10) = _ := h.dep n' 4 10 (by kernel_rfl) rfl
      unfold execOp
      simp only [e0]
      go_simp
      exact hA1
    · exact .inl ⟨by kernel_rfl, fun L a1 w1 n' h => ⟨_, rfl, run_buildX 123 [(0, .tmp 8), (1, .tmp 11)] rfl [(0, .int .u64 (a0 : Int)), (1, .int .u64 (a1' : Int))] (by
        have e0 : a1.eval (.tmp 8) = _ := h.dep n' 2 8 (by kernel_rfl) rfl
        have e1 : a1.eval (.tmp 11) = _ := h.dep n' 5 11 (by kernel_rfl) rfl
        simp only [List.map_cons, List.map_nil, e0, e1]) _ (builtF a0 a1')⟩⟩
    · exact .inl ⟨by kernel_rfl, fun L a1 w1 n' h => ⟨_, rfl, run_sliceLo 42 (.tmp 1) (.const (.int .i64 16)) 32 5 g1 16 rfl Tryz.underlying42 Tryz.sizeOf5 (h.var n' 1 (by kernel_rfl)) rfl (by decide)⟩⟩
    · refine .inr fun L a1 w1 n' h K hK => ?_
      have e0 : a1.eval (.tmp 13) = .slice (some ⟨g1, 16, none⟩) 16 16 := h.dep n' 7 13 (by kernel_rfl) rfl
      refine st_call 57 _ _ #[.slice (some ⟨g1, 16, none⟩) 16 16] rfl Tryz.call57 ?_ (hFB (some ⟨g1, 16, none⟩) 16 16 w1 (HB2 w1 (r1.below h.inv.1 hl1))) ?_
      · simp only [List.map_toArray, List.map_cons, List.map_nil, e0]
      · rintro e w3 ⟨rfl, b9⟩
        exact ⟨_, rfl, hK _ w3 rfl ⟨h.inv.1.trans (b9.mono h.inv.1.size), fun h1 => let ⟨g, e, k1, k2⟩ := h.inv.2.1 h1; ⟨g, e, k1, k2.later b9⟩, fun h1 => let ⟨g, e, k1, k2⟩ := h.inv.2.2 h1; ⟨g, e, k1, k2.later b9⟩⟩⟩
    · exact .inl ⟨by kernel_rfl, fun L a1 w1 n' h => ⟨_, rfl, run_buildX 127 [(1, .tmp 12), (2, .tmp 14)] rfl [(1, .agg (fb R).toArray), (2, .agg (nb S).toArray)] (by
        have e0 : a1.eval (.tmp 12) = _ := h.dep n' 6 12 (by kernel_rfl) rfl
        have e1 : a1.eval (.tmp 14) = _ := h.dep n' 8 14 (by kernel_rfl) rfl
        simp only [List.map_cons, List.map_nil, e0, e1, hRf]) _ (builtMac R S)⟩⟩
    · refine .inr fun L a1 w1 n' h K hK => ?_
      refine st_box 127 (.tmp 15) _ (macL (List.replicate 16 0) 0 R S 0) rfl (h.dep n' 9 15 (by kernel_rfl) rfl) rfl ?_
      intro g9 w3 r9 l9 m9 b9
      exact hK _ w3 trivial ⟨h.inv.1.trans (b9.mono h.inv.1.size), fun _ => ⟨g9, rfl, Nat.le_trans h.inv.1.size l9, r9⟩, fun h1 => let ⟨g, e, k1, k2⟩ := h.inv.2.2 h1; ⟨g, e, k1, k2.later b9⟩⟩
    · refine .inr fun L a1 w1 n' h K hK => ?_
      obtain ⟨g9, e9, l9, r9⟩ := h.inv.2.1 (n'.dep (by kernel_rfl))
      refine st_assign (.tmp 16) _ rfl e9 ?_
      exact hK _ _ trivial ⟨h.inv.1, h.inv.2.1, fun _ => ⟨g9, rfl, l9, r9⟩⟩
  case he =>
    intro V w5 hV hJ
    obtain ⟨hJ1, _, hJ2⟩ := hJ
    obtain ⟨g9, e9, l9, r9⟩ := hJ2 rfl
    have h11 : V 11 = .pointer (some ⟨g9, 0, none⟩) := e9
    clear hV hJ2
    simp only [putOps, List.setIfInBounds_toArray, List.set_cons_succ, List.set_cons_zero]
    refine hK1 _ _ ?_
    go_wp2
    go_ret
    exact ⟨g9, congrArg Ending.returned h11, by omega, h00 _ _ _ _ r9, B4.trans (hJ1.mono B4.size)⟩
end Go.Proofs.YtooooncmjhcdbaaGreatDoor.Pa

/-
  Aead: whole pieces are taken in: contract. Own work.
-/
namespace Go.Proofs.YtooooncmjhcdbaaGreatDoor.Pa
open Go.Proofs.YtooooncmjhcdbaaGreatDoor
open Go.RowKit
def padN (n : Nat) : Nat := (16 - n % 16) % 16
def padL (xs : List Int) : List Int := xs ++ List.replicate (padN xs.length) 0
theorem padL_by {xs : List Int} (h : IsBy xs) : IsBy (padL xs) := h.app (IsBy.rep _)
theorem run_arrTo {P : Program} (w : World) (T n e : Nat) (hu : P.underlying T = some (.array n e)) (hs : ∀ w, (sizeOf e).run P w = .ok 1 w) (kd : IntKind) (g h : Nat) (hl : h ≤ n) (x : Int) (hx : x = h) :
    (Instr.sliceAt T (.pointer (some ⟨g, 0, none⟩)) none (some (.int kd x)) none).run P w = .ok (.slice (some ⟨g, 0, none⟩) h n) w := by
  subst hx
  have h1 : (0 : Int) ≤ h := by omega
  have h2 : (h : Int) ≤ n := by omega
  have hadd : (⟨g, 0, none⟩ : Addr).add 0 = ⟨g, 0, none⟩ := by unfold Addr.add; split <;> simp_all
  simp [Instr.sliceAt, Instr.slice, underlying, hu, Instr.sliceBounds, Instr.sliceBound, asIntOf, h1, h2, hl, hs, hadd, Instr.sureAddr]
theorem padN_cast (m : Nat) : -((m : Int) % 16) % 16 = (padN m : Int) := by unfold padN; omega
set_option maxRecDepth 100000 in
set_option maxHeartbeats 1000000 in
theorem pieces_any (g R S m c : Nat) (xs ys : List Int) (A : Option Addr) (w : World) (hm : MacAt w g R S xs) (hR : R < 2 ^ 124) (hx : IsBy xs) (hy : IsBy ys) (hb : Bs w w.heap.size A m ys) (ho : Off g m A) (hc : m ≤ c) (hM : m ≤ maxLen) :
    Calls Tryz.prog 44 #[.pointer (some ⟨g, 0, none⟩), .slice A m c] w fun e w' => e = .returned (.tuple #[]) ∧ MacAt w' g R S (xs ++ padL ys) ∧ But g w w' := by
  have hpl : padN m ≤ 16 := by unfold padN; omega
  have hml := hm.lt
  have hW1 := fun w B hm hb hB hBw => write_off g R S m c B xs ys A w hm hR hx hy hb hB hBw hc
  have hW2 := fun g4 w B hm hb hB hBw => write_off g R S (padN m) 16 B (xs ++ ys) (List.replicate (padN m) 0) (some ⟨g4, 0, none⟩) w hm hR (hx.app hy) (IsBy.rep _) hb hB hBw hpl
  have hfin : xs ++ padL ys = (xs ++ ys) ++ List.replicate (padN m) 0 := by unfold padL; rw [hb.1, List.append_assoc]
  have hS := fun w g => run_arrTo (P := Tryz.prog) w 85 16 5 Tryz.underlying85 Tryz.sizeOf5 .i64 g (padN m) hpl _ (padN_cast m)
  have HF := hide hfin
  have h63 : m ≤ 9223372036854775807 := by unfold maxLen at hM; omega
  clear hR hx hy hfin hM
  go_enter Tryz.func44, Tryz.ntmps44
  go_wp2_with (first
    | (with_reducible refine wl_alloc rfl 85 _ (bv (List.replicate 16 0)) rfl zB16 rfl ?_; intro g4 w4 r4 p4 l4 b4))
  have s4 := b4.size
  refine (hW1 w4 w.heap.size (by have : Row w 127 g _ := hm; exact this.later b4) (hb.below b4) ho s4).mono ?_
  rintro e w5 ⟨rfl, m5, b5⟩
  have hne : g4 ≠ g := by omega
  have r5 := r4.but b5 hne
  have s5 := b5.size
  go_wp2_with (first | rw [hS])
  have hb5 : Bs w5 w5.heap.size (some ⟨g4, 0, none⟩) (padN m) (List.replicate (padN m) 0) := by
    have := row_bs_at (n := padN m) (off := 0) r5 (by simp; omega) r5.lt
    rw [List.drop_zero, List.take_replicate, Nat.min_eq_left hpl] at this
    exact this
  have ho5 : Off g (padN m) (some ⟨g4, 0, none⟩) := fun _ x hx => by injection hx with hx; subst hx; exact hne
  refine (hW2 g4 w5 w5.heap.size m5 hb5 ho5 (Nat.le_refl _)).mono ?_
  rintro e w6 ⟨rfl, m6, b6⟩
  rw [← HF.out] at m6
  go_wp2_with fail
  go_end0
  exact ⟨rfl, m6, ((But.of b4 g).trans b5).trans b6⟩
end Go.Proofs.YtooooncmjhcdbaaGreatDoor.Pa

/-
  Poly: the sum of a text, as a list: plain words. Own work.
-/
namespace Go.Proofs.YtooooncmjhcdbaaGreatDoor.Pa
open Go.Proofs.YtooooncmjhcdbaaGreatDoor
open Go.RowKit
/-- The sum of a text by a key. -/
def pS (ks ys : List Int) : List Int := polyL (clN (leN (ks.take 16))) (leN (ks.drop 16)) ys
theorem pS_len (ks ys : List Int) : (pS ks ys).length = 16 := lowB_length _ _
theorem pS_by (ks ys : List Int) : IsBy (pS ks ys) := lowB_by _ _
theorem eq16 (xs ys : List Int) (hx : xs.length = 16) (hy : ys.length = 16) (w : World) : (Op.equalIn 10000 85 (.agg (bv xs).toArray) (.agg (bv ys).toArray)).run Tryz.prog w = .ok (decide (xs = ys)) w := by
  obtain ⟨i0, hi, _⟩ := u8_info
  exact run_eqArr w Tryz.underlying85 hi (by kernel_rfl) Tryz.underlying5 Tryz.isAgg5 xs ys hx hy
def key1 : List Int := [1, 0, 0, 0, 0, 0, 0, 0, 0, 0, 0, 0, 0, 0, 0, 0, 9, 0, 0, 0, 0, 0, 0, 0, 0, 0, 0, 0, 0, 0, 0, 0]
def key2 : List Int := [0, 0, 0, 0, 0, 0, 0, 0, 0, 0, 0, 0, 0, 0, 0, 0, 0, 0, 0, 0, 7, 0, 0, 0, 0, 0, 0, 0, 0, 0, 0, 0]
def sum1 : List Int := [14, 1, 0, 0, 0, 0, 0, 0, 0, 0, 0, 0, 0, 0, 0, 0]
def sum2 : List Int := [0, 0, 0, 0, 7, 0, 0, 0, 0, 0, 0, 0, 0, 0, 0, 0]
theorem pS1 : pS key1 [5] = sum1 := by decide +kernel
theorem pS2 : pS key2 [97, 110, 121] = sum2 := by decide +kernel
theorem by_of_all {xs : List Int} (h : (xs.all fun x => decide (0 ≤ x ∧ x < 256)) = true) : IsBy xs := fun x hx => by simpa using List.all_eq_true.1 h x hx
end Go.Proofs.YtooooncmjhcdbaaGreatDoor.Pa

/-
  Aead: eight bytes in a block of their own; the mark: contracts. Own work.
-/
namespace Go.Proofs.YtooooncmjhcdbaaGreatDoor.Pa
open Go.Proofs.YtooooncmjhcdbaaGreatDoor
open Go.RowKit
/-- What a call hands back that lies in the next block. -/
def RetNew (out : List Int) (w : World) (e : Ending) (w' : World) : Prop :=
  ∃ n c, e = .returned (.slice (some ⟨w.heap.size, 0, none⟩) n c) ∧ Bs w' w'.heap.size (some ⟨w.heap.size, 0, none⟩) n out ∧ n ≤ c ∧ c ≤ maxLen ∧ Below w.heap.size w w'
theorem ret_new {w w1 : World} {t n c : Nat} {xs ys : List Int} (h : Own w1 t w.heap.size xs) (hb : Below w.heap.size w w1) (he : ys = xs) (hn : xs.length = n) (hc : n ≤ c) (hm : c ≤ maxLen) : RetNew ys w (.returned (.slice (some ⟨w.heap.size, 0, none⟩) n c)) w1 := by
  subst he
  subst hn
  exact ⟨_, c, rfl, h.bs h.lt, hc, hm, hb⟩
set_option maxRecDepth 100000 in
set_option maxHeartbeats 400000 in
theorem lay64_new (A : Option Addr) (m c : Nat) (xs : List Int) (x : Int) (w : World) (h : Bs w w.heap.size A m xs) (hm : m ≤ 1000000) (h0 : 0 ≤ x) (h1 : x < 2 ^ 64) :
    Calls Tryz.prog 51 #[.slice A m c, .int .u64 x, .bool true] w (RetNew (xs ++ lowB x 8) w) := by
  obtain ⟨i0, hi, hz, hsz, hby⟩ := u8_info
  go_enter Tryz.func51, Tryz.ntmps51
  go_wp2_with (first
    | (go_at_call 65; refine (pwidth64_any _).mono ?_; rintro e w' ⟨rfl, rfl⟩)
    | (refine wpList_make_bs rfl _ _ _ rfl 5 i0 Tryz.underlying25 hi hz hsz hby (m + 8) rfl rfl (by omega) ?_; intro w1 hown hs1 hb1)
    | (refine wpList_copy_bs rfl (.tmp 17) (.tmp 18) _ _ rfl 5 Tryz.underlying25 u8_size w.heap.size 0 _ _ m c A rfl rfl _ xs 5 w.heap.size hown (h.below hb1) (by omega) (by rw [List.length_replicate]; omega) w.heap.size w hb1 (Nat.le_refl _) ?_; intro w2 hown2 hb2))
  go_loopw [21] (fun i wr => ∃ k : Nat, k ≤ 8 ∧ i = .int .i64 k ∧ Own wr 5 w.heap.size (xs ++ (lowB x k ++ List.replicate (8 - k) 0)) ∧ Below w.heap.size w wr) (fun i _ => 8 - (intOf i).toNat)
  case atStart => exact ⟨0, Nat.zero_le _, rfl, by simpa [lowB, h.1] using hown2, hb2⟩
  case round =>
    obtain ⟨k, hk, rfl, hown, hb⟩ := hrel
    by_cases hlt : k < 8
    · have hc := hown.cell (j := m + k) (by simp [lowB_length, h.1]; omega)
      have hf := hown.frozen (m + k)
      have hs := hown.set (m + k) (x / 2 ^ (8 * k) % 256)
      have he := set_low hlt (lowB x k) (lowB_length x k) (x / 2 ^ (8 * k) % 256) xs
      rw [h.1] at he
      rw [he, ← pow256_two, ← lowB_snoc, pow256_two] at hs
      have HS := hide hs
      clear hs he
      go_wp2
      go_roundw
      case rel => exact ⟨k + 1, by omega, by go_num, HS.out, hb.setCell (Nat.le_refl _) _⟩
      case measure => simp [intOf]; omega
    · go_wp2
      go_ret
      obtain rfl : k = 8 := by omega
      exact ret_new hown hb (by simp) (by simp [lowB_length, h.1]) (Nat.le_refl _) (by simp only [maxLen]; omega)
set_option maxRecDepth 100000 in
theorem putLe64_new (A : Option Addr) (m c : Nat) (xs : List Int) (x : Int) (w : World) (h : Bs w w.heap.size A m xs) (hm : m ≤ 1000000) (h0 : 0 ≤ x) (h1 : x < 2 ^ 64) :
    Calls Tryz.prog 46 #[.slice A m c, .int .u64 x] w (RetNew (xs ++ lowB x 8) w) := by
  go_enter Tryz.func46, Tryz.ntmps46
  go_wp2_with (go_at_call 51; refine (lay64_new A m c xs x _ h hm h0 h1).mono ?_; rintro e w1 ⟨n1, c1, rfl, hb, hn, hc, hl⟩)
  go_ret
  exact ⟨n1, c1, rfl, hb, hn, hc, hl⟩
def macT (ad hd : List Int) : List Int := ((padL ad ++ padL hd) ++ lowB (ad.length : Int) 8) ++ lowB (hd.length : Int) 8
def markL (ks ns ad hd : List Int) : List Int := pS ((blockL ks 0 ns).take 32) (macT ad hd)
theorem markL_len (ks ns ad hd : List Int) : (markL ks ns ad hd).length = 16 := pS_len _ _
theorem size64 {xs : List Int} (h : xs.length = 64) : (Tryz.prog.info? 98).map (·.size) = some (bv xs).length := by rw [bv_len, h]; kernel_rfl
set_option maxRecDepth 100000 in
set_option maxHeartbeats 2000000 in
theorem mark_any (ks ns ad hd : List Int) (A D : Option Addr) (m c n d : Nat) (w : World) (hT : Tabs w) (hk : ks.length = 32) (hn : ns.length = 12) (hk' : IsBy ks) (hn' : IsBy ns)
    (ha : Bs w w.heap.size A m ad) (hab : IsBy ad) (hac : m ≤ c) (haM : m ≤ maxLen) (hd1 : Bs w w.heap.size D n hd) (hdb : IsBy hd) (hdc : n ≤ d) (hdM : n ≤ maxLen) :
    Calls Tryz.prog 32 #[.agg (bv ks).toArray, .agg (bv ns).toArray, .slice A m c, .slice D n d] w fun e w' => e = .returned (.agg (bv (markL ks ns ad hd)).toArray) ∧ Below w.heap.size w w' := by
  have zk := hide (size_b (P := Tryz.prog) (T := 42) (by kernel_rfl) hk)
  have zn := hide (size_b (P := Tryz.prog) (T := 45) (by kernel_rfl) hn)
  have HB := fun w hT => block_any ks ns 0 w hT hk hn hk' hn' ⟨by omega, by omega⟩
  have lB := blockL_len ks 0 ns
  have z64 := hide (size64 lB)
  have l64 := hide (show (bv (List.replicate 64 0)).length = (bv (blockL ks 0 ns)).length by rw [bv_len, bv_len, lB, List.length_replicate])
  have lK : ((blockL ks 0 ns).take 32).length = 32 := by rw [List.length_take, lB]; rfl
  have z32 := hide (size32 lK)
  have hsp := hide (show bv (blockL ks 0 ns) = [] ++ (bv ((blockL ks 0 ns).take 32) ++ bv ((blockL ks 0 ns).drop 32)) by rw [List.nil_append, ← bv_app, List.take_append_drop])
  have HN := fun w => pnew_any ((blockL ks 0 ns).take 32) w lK ((blockL_by ks 0 ns).take 32)
  have hfin : polyL (clN (leN (((blockL ks 0 ns).take 32).take 16))) (leN (((blockL ks 0 ns).take 32).drop 16)) (macT ad hd) = markL ks ns ad hd := rfl
  have HF := hide hfin
  have hR := clN_lt (leN (((blockL ks 0 ns).take 32).take 16))
  have hS := fun w g => run_arrTo (P := Tryz.prog) w 98 64 5 Tryz.underlying98 Tryz.sizeOf5 .i64 g 32 (by omega) 32 rfl
  have hA : ∀ (w : World) (g : Nat), (Instr.arrayAt 42 (.slice (some ⟨g, 0, none⟩) 32 64)).run Tryz.prog w = .ok (.pointer (some ⟨g, 0, none⟩)) w := fun w g => by simp [Instr.arrayAt, run_underlying Tryz.underlying42]
  have hml := markL_len ks ns ad hd
  have zm := hide (size16 hml)
  have lm := hide (show (bv (List.replicate 16 0)).length = (bv (markL ks ns ad hd)).length by rw [bv_len, bv_len, hml, List.length_replicate])
  clear hk hn lB lK hfin hml hk' hn'
  generalize clN (leN (((blockL ks 0 ns).take 32).take 16)) = R at *
  generalize leN (((blockL ks 0 ns).take 32).drop 16) = S at *
  generalize (blockL ks 0 ns).take 32 = KS at *
  generalize blockL ks 0 ns = BL at *
  go_enter Tryz.func32, Tryz.ntmps32
  go_wp2_with (first
    | (with_reducible refine wl_box rfl 42 (.tmp 0) _ (bv ks) rfl rfl rfl ?_; intro g1 w1 r1 p1 l1 b1)
    | (with_reducible refine wl_box rfl 45 (.tmp 1) _ (bv ns) rfl rfl rfl ?_; intro g2 w2 r2 p2 l2 b2; have r1' := r1.later b2)
    | (with_reducible refine wl_alloc rfl 85 _ (bv (List.replicate 16 0)) rfl zB16 rfl ?_; intro g3 w3 r3 p3 l3 b3; have r1'' := r1'.later b3; have r2' := r2.later b3)
    | (with_reducible refine wl_load_row rfl 42 (.tmp 4) g1 42 (bv ks) _ rfl rfl r1'' Tryz.underlying42 rfl zk.out ?_)
    | (with_reducible refine wl_load_row rfl 45 (.tmp 5) g2 45 (bv ns) _ rfl rfl r2' Tryz.underlying45 rfl zn.out ?_))
  have s1 := b1.size; have s2 := b2.size; have s3 := b3.size
  have B3 := (b1.trans (b2.mono s1)).trans (b3.mono (Nat.le_trans s1 s2))
  refine (HB _ (hT.later B3)).mono ?_
  rintro e w4 ⟨rfl, b4⟩
  have B4 := B3.trans (b4.mono B3.size)
  have r3' := r3.later b4
  clear HB r1 r1' r1'' r2 r2' hT
  go_wp2_with (first
    | (with_reducible refine wl_alloc rfl 98 _ (bv (List.replicate 64 0)) rfl zero64 rfl ?_; intro g5 w5 r5 p5 l5 b5)
    | (with_reducible refine wl_store_row rfl 98 (.tmp 9) (.tmp 13) g5 98 _ (bv BL) rfl rfl rfl r5 z64.out l64.out (bv_one _) ?_; intro w6 r6 o6; rw [hsp.out] at r6)
    | rw [hS]
    | rw [hA]
    | (with_reducible refine wl_load_part rfl 42 (.tmp 15) g5 0 98 [] (bv KS) (bv (BL.drop 32)) _ rfl rfl r6 rfl Tryz.underlying42 rfl z32.out ?_))
  refine (HN _).mono ?_
  rintro e w7 ⟨g, rfl, p7, m7, b7⟩
  have B5 := B4.trans (b5.mono B4.size)
  have B6 := B5.trans (o6.below (Nat.le_trans B4.size p5))
  have B7 := B6.trans (b7.mono B6.size)
  have hg := Nat.le_trans B6.size p7
  have r3a := (r3'.later b5).only o6 (by have := r3'.lt; omega)
  have r3b := r3a.later b7
  have hne3 : g3 ≠ g := by have := r3a.lt; omega
  have h63 : m ≤ 9223372036854775807 := by unfold maxLen at haM; omega
  have n63 : n ≤ 9223372036854775807 := by unfold maxLen at hdM; omega
  clear HN hS hA r5 r6 o6 b1 b2 b3 b4 b5 b7 r3' r3 r3a p1 p2 l1 l2 l3 l5 p5 B3 B4 B5 B6
  go_wp2_with fail
  refine (pieces_any g R S m c [] ad A w7 m7 hR (fun _ h => by simp at h) hab (ha.later B7) (Off.of ha hg) hac haM).mono ?_
  rintro e w8 ⟨rfl, m8, b8⟩
  rw [List.nil_append] at m8
  have B8 := B7.trans (b8.below hg B7.size)
  have r3c := r3b.but b8 hne3
  go_wp2_with fail
  refine (pieces_any g R S n d (padL ad) hd D w8 m8 hR (padL_by hab) hdb (hd1.later B8) (Off.of hd1 hg) hdc hdM).mono ?_
  rintro e w9 ⟨rfl, m9, b9⟩
  have B9 := B8.trans (b9.below hg B8.size)
  have r3d := r3c.but b9 hne3
  have em : ad.length = m := ha.1
  have en : hd.length = n := hd1.1
  have Hem := hide em
  have Hen := hide en
  clear m7 m8 em en r3b r3c b8 b9 ha hd1
  have hxb : IsBy (padL ad ++ padL hd) := (padL_by hab).app (padL_by hdb)
  go_wp2_with fail
  refine (putLe64_new none 0 0 [] (m : Int) w9 Bs.nil_ (by omega) (by omega) (by omega)).mono ?_
  rintro e w10 ⟨n10, c10, rfl, h10, hc10, hM10, b10⟩
  rw [List.nil_append] at h10
  have m10 : MacAt w10 g R S (padL ad ++ padL hd) := by have h : Row w9 127 g _ := m9; exact h.later b10
  have hlt9 : g < w9.heap.size := m9.lt
  have hne9 : Off g n10 (some ⟨w9.heap.size, 0, none⟩) := fun _ x hx => by injection hx with hx; subst hx; exact Nat.ne_of_gt hlt9
  go_wp2_with fail
  refine (write_off g R S n10 c10 w10.heap.size (padL ad ++ padL hd) (lowB (m : Int) 8) _ w10 m10 hR hxb (lowB_by _ _) h10 hne9 (Nat.le_refl _) hc10).mono ?_
  rintro e w11 ⟨rfl, m11, b11⟩
  have B10 := B9.trans (b10.mono B9.size)
  have B11 := B10.trans (b11.below hg B10.size)
  have r3e := (r3d.later b10).but b11 hne3
  have hxc : IsBy ((padL ad ++ padL hd) ++ lowB (m : Int) 8) := hxb.app (lowB_by _ _)
  clear m9 m10 b10 b11 h10 hc10 hM10 hne9 hlt9 r3d B7 B8 B9 B10
  go_wp2_with fail
  refine (putLe64_new none 0 0 [] (n : Int) w11 Bs.nil_ (by omega) (by omega) (by omega)).mono ?_
  rintro e w12 ⟨n12, c12, rfl, h12, hc12, hM12, b12⟩
  rw [List.nil_append] at h12
  have m12 : MacAt w12 g R S ((padL ad ++ padL hd) ++ lowB (m : Int) 8) := by have h : Row w11 127 g _ := m11; exact h.later b12
  have hlt11 : g < w11.heap.size := m11.lt
  have hne11 : Off g n12 (some ⟨w11.heap.size, 0, none⟩) := fun _ x hx => by injection hx with hx; subst hx; exact Nat.ne_of_gt hlt11
  go_wp2_with fail
  refine (write_off g R S n12 c12 w12.heap.size ((padL ad ++ padL hd) ++ lowB (m : Int) 8) (lowB (n : Int) 8) _ w12 m12 hR hxc (lowB_by _ _) h12 hne11 (Nat.le_refl _) hc12).mono ?_
  rintro e w13 ⟨rfl, m13, b13⟩
  have B12 := B11.trans (b12.mono B11.size)
  have B13 := B12.trans (b13.below hg B12.size)
  have r3f := (r3e.later b12).but b13 hne3
  have hT : ((padL ad ++ padL hd) ++ lowB (m : Int) 8) ++ lowB (n : Int) 8 = macT ad hd := by unfold macT; rw [Hem.out, Hen.out]
  have hxd : IsBy (macT ad hd) := by rw [← hT]; exact hxc.app (lowB_by _ _)
  rw [hT] at m13
  clear hT m11 m12 b12 b13 h12 hc12 hM12 hne11 hlt11 r3e B11 B12
  go_wp2_with fail
  refine (sum_any g R S (macT ad hd) w13 m13 hR hxd).mono ?_
  rintro e w14 ⟨rfl, b14⟩
  rw [HF.out]
  have r3g := r3f.later b14
  have B14 := B13.trans (b14.mono B13.size)
  clear m13 r3f B13
  go_wp2_with (first
    | (with_reducible refine wl_store_row rfl 85 (.tmp 8) (.tmp 37) g3 85 _ (bv (markL ks ns ad hd)) rfl rfl rfl r3g zm.out lm.out (bv_one _) ?_; intro w15 r15 o15))
  refine bodyPost_ret (v := .agg (bv (markL ks ns ad hd)).toArray) ?_ rfl ⟨rfl, ?_⟩
  · exact results_cell_row Tryz.results32 _ _ g3 85 _ (0, 0) _ rfl r15 Tryz.underlying85 rfl zm.out
  · exact B14.trans (o15.below (by omega))
end Go.Proofs.YtooooncmjhcdbaaGreatDoor.Pa

/-
  Aead: sealing: contract. Own work.
-/
namespace Go.Proofs.YtooooncmjhcdbaaGreatDoor.Pa
open Go.Proofs.YtooooncmjhcdbaaGreatDoor
open Go.RowKit
def sealL (ks ns ad xs : List Int) : List Int := outL ks ns 64 xs ++ markL ks ns ad (outL ks ns 64 xs)
/-- What Seal hands back of what is sealed. -/
def RetSeal (ks ns ad xs : List Int) (w : World) (e : Ending) (w' : World) : Prop :=
  ∃ A c, e = .returned (.tuple #[.slice A (xs.length + 16) c, .int .i64 0]) ∧ Bs w' w'.heap.size A (xs.length + 16) (sealL ks ns ad xs) ∧ Below w.heap.size w w' ∧ xs.length + 16 ≤ c ∧ c ≤ maxLen
/-- What Seal and Open hand back of what they refuse. -/
def RetErr (x : Int) (w : World) (e : Ending) (w' : World) : Prop := e = .returned (.tuple #[.slice none 0 0, .int .i64 x]) ∧ Below w.heap.size w w'
set_option maxRecDepth 100000 in
set_option maxHeartbeats 1000000 in
theorem seal_long (ks ns : List Int) (A D : Option Addr) (m c n d : Nat) (w : World) (hM : m ≤ maxLen) (hN : n ≤ maxLen) (hlong : 65536 < n ∨ 65536 < m) :
    Calls Tryz.prog 19 #[.agg (bv ks).toArray, .agg (bv ns).toArray, .slice A m c, .slice D n d] w (RetErr 5 w) := by
  unfold maxLen at hM hN
  go_enter Tryz.func19, Tryz.ntmps19
  by_cases hn : 65536 < n
  · clear hlong
    go_wp2_with (first
      | (with_reducible refine wl_box rfl 42 (.tmp 0) _ (bv ks) rfl rfl rfl ?_; intro g3 w3 r3 a3 l3 b3)
      | (with_reducible refine wl_box rfl 45 (.tmp 1) _ (bv ns) rfl rfl rfl ?_; intro g4 w4 r4 a4 l4 b4))
    go_ret2
    exact ⟨rfl, b3.trans (b4.mono b3.size)⟩
  · have hm : 65536 < m := by omega
    clear hlong
    go_wp2_with (first
      | (with_reducible refine wl_box rfl 42 (.tmp 0) _ (bv ks) rfl rfl rfl ?_; intro g3 w3 r3 a3 l3 b3)
      | (with_reducible refine wl_box rfl 45 (.tmp 1) _ (bv ns) rfl rfl rfl ?_; intro g4 w4 r4 a4 l4 b4))
    go_ret2
    exact ⟨rfl, b3.trans (b4.mono b3.size)⟩
set_option maxRecDepth 100000 in
set_option maxHeartbeats 2000000 in
theorem seal_any (ks ns ad xs : List Int) (A D : Option Addr) (m c n d : Nat) (w : World) (hT : Tabs w) (hk : ks.length = 32) (hn : ns.length = 12) (hk' : IsBy ks) (hn' : IsBy ns)
    (ha : Bs w w.heap.size A m ad) (hab : IsBy ad) (hac : m ≤ c) (hx : Bs w w.heap.size D n xs) (hxb : IsBy xs) (hxc : n ≤ d) (hm : m ≤ 65536) (hN : n ≤ 65536) :
    Calls Tryz.prog 19 #[.agg (bv ks).toArray, .agg (bv ns).toArray, .slice A m c, .slice D n d] w (RetSeal ks ns ad xs w) := by
  have zk := hide (size_b (P := Tryz.prog) (T := 42) (by kernel_rfl) hk)
  have zn := hide (size_b (P := Tryz.prog) (T := 45) (by kernel_rfl) hn)
  have hH := fun w hT hx => hide_any ks ns xs n d D w hT hk hn hk' hn' hx hxb (by omega)
  have hob := outL_by ks ns xs 64 hxb
  have hlen := hx.1
  have hMk := fun A5 c5 w hT ha h5 h6 => mark_any ks ns ad (outL ks ns 64 xs) A A5 m c xs.length c5 w hT hk hn hk' hn' ha hab hac (by unfold maxLen; omega) h5 hob h6 (by unfold maxLen; omega)
  have hml := markL_len ks ns ad (outL ks ns 64 xs)
  have hmb : IsBy (markL ks ns ad (outL ks ns 64 xs)) := pS_by _ _
  have hdef : sealL ks ns ad xs = [outL ks ns 64 xs, markL ks ns ad (outL ks ns 64 xs)].flatten := by unfold sealL; simp
  have HDf := hide hdef
  have zm := hide (size16 hml)
  have lm := hide (show (bv (List.replicate 16 0)).length = (bv (markL ks ns ad (outL ks ns 64 xs))).length by rw [bv_len, bv_len, hml, List.length_replicate])
  have Hml := hide hml
  have Hlen := hide hlen
  obtain ⟨i1, hi1, hz1, hs1⟩ := slB_info
  clear hk hn hk' hn' hdef hml hlen
  generalize markL ks ns ad (outL ks ns 64 xs) = mk at *
  go_enter Tryz.func19, Tryz.ntmps19
  go_wp2_with (first
    | (with_reducible refine wl_box rfl 42 (.tmp 0) _ (bv ks) rfl rfl rfl ?_; intro g3 w3 r3 a3 l3 b3)
    | (with_reducible refine wl_box rfl 45 (.tmp 1) _ (bv ns) rfl rfl rfl ?_; intro g4 w4 r4 a4 l4 b4; have r3' := r3.later b4)
    | (with_reducible refine wl_load_row rfl 42 (.tmp 4) g3 42 (bv ks) _ rfl rfl r3' Tryz.underlying42 rfl zk.out ?_)
    | (with_reducible refine wl_load_row rfl 45 (.tmp 5) g4 45 (bv ns) _ rfl rfl r4 Tryz.underlying45 rfl zn.out ?_))
  have s3 := b3.size
  have B4 := b3.trans (b4.mono s3)
  refine (hH _ (hT.later B4) (hx.later B4)).mono ?_
  rintro e w5 ⟨A5, c5, rfl, h5, b5, h6, h7⟩
  have B5 := B4.trans (b5.mono B4.size)
  have r3a := r3'.later b5
  have r4a := r4.later b5
  clear hH r3 r3' r4 b3 b4
  go_wp2_with (first
    | (with_reducible refine wl_load_row rfl 42 (.tmp 4) g3 42 (bv ks) _ rfl rfl r3a Tryz.underlying42 rfl zk.out ?_)
    | (with_reducible refine wl_load_row rfl 45 (.tmp 5) g4 45 (bv ns) _ rfl rfl r4a Tryz.underlying45 rfl zn.out ?_))
  refine (hMk A5 c5 w5 (hT.later B5) (ha.later B5) h5 h6).mono ?_
  rintro e w6 ⟨rfl, b6⟩
  have B6 := B5.trans (b6.mono B5.size)
  have h5' := h5.later b6
  clear hMk r3a r4a b5 b6 h5
  go_wp2_with (first
    | (with_reducible refine wl_alloc rfl 85 _ (bv (List.replicate 16 0)) rfl zB16 rfl ?_; intro g7 w7 r7 a7 l7 b7)
    | (with_reducible refine wl_store_row rfl 85 (.tmp 11) (.tmp 28) g7 85 _ (bv mk) rfl rfl rfl r7 zm.out lm.out (bv_one _) ?_; intro w8 r8 o8)
    | (refine wpList_plain rfl fun K hK => st_build2 32 (.tmp 29) (.tmp 30) rfl 25 i1 _ (.slice A5 xs.length c5) (.slice (some ⟨g7, 0, none⟩) 16 16) Tryz.underlying32 hi1 hz1 hs1 rfl rfl rfl rfl rfl (hK _ _ ?_)))
  have b68 := b7.trans (o8.below a7)
  have B8 := B6.trans (b68.mono B6.size)
  have h5a := h5'.later b68
  have hol := h5a.1
  have h16 := Hml.out
  have hmkb : Bs w8 w8.heap.size (some ⟨g7, 0, none⟩) 16 mk := by
    have := row_bs_at (n := 16) (off := 0) r8 (by omega) r8.lt
    rw [List.drop_zero, List.take_of_length_le (by omega)] at this
    exact this
  have hl := Bss.lit w8 25 [(A5, xs.length, c5, outL ks ns 64 xs), (some ⟨g7, 0, none⟩, 16, 16, mk)] (by
    intro x hx
    simp only [List.mem_cons, List.not_mem_nil, or_false] at hx
    rcases hx with rfl | rfl
    · exact h5a
    · exact hmkb)
  have b9 : Below w8.heap.size w8 (w8.alloc (.cells #[.slice A5 xs.length c5, .slice (some ⟨g7, 0, none⟩) 16 16] 25)) := (Below.refl _ _).alloc (Nat.le_refl _) _
  have B9 := B8.trans (b9.mono B8.size)
  have hsl : sumLen [outL ks ns 64 xs, mk] 2 = xs.length + 16 := by unfold sumLen; simp [hol, h16]
  have hfl : [outL ks ns 64 xs, mk].flatten.length = xs.length + 16 := by simp [hol, h16]
  have hxl := Hlen.out
  refine (join_any (some ⟨w8.heap.size, 0, none⟩) 2 2 [outL ks ns 64 xs, mk] _ (hl.up (by simp)) (by omega) (by rw [hsl]; omega)).mono ?_
  rintro e w10 ⟨A10, n10, c10, rfl, h10, h11, h12, b10⟩
  have hn10 : n10 = xs.length + 16 := by rw [← h10.1, hfl]
  subst hn10
  have B10 := B9.trans (b10.mono B9.size)
  rw [← HDf.out] at h10
  have HH := hide (And.intro h10 (And.intro B10 (And.intro h11 h12)))
  clear h10 B10 h11 h12 b10 hfl hsl B9 b9 hl hmkb h16 hol h5a B8 b68 B6 B5 B4 hxl
  go_wp2_with fail
  go_ret2
  exact ⟨A10, c10, rfl, HH.out⟩
end Go.Proofs.YtooooncmjhcdbaaGreatDoor.Pa

/-
  Aead: opening: contract. Own work.
-/
namespace Go.Proofs.YtooooncmjhcdbaaGreatDoor.Pa
open Go.Proofs.YtooooncmjhcdbaaGreatDoor
open Go.RowKit
set_option maxRecDepth 100000 in
set_option maxHeartbeats 1000000 in
theorem open_short (ks ns : List Int) (A D : Option Addr) (m c n d : Nat) (w : World) (hn : n < 16) :
    Calls Tryz.prog 20 #[.agg (bv ks).toArray, .agg (bv ns).toArray, .slice A m c, .slice D n d] w (RetErr 4 w) := by
  go_enter Tryz.func20, Tryz.ntmps20
  go_wp2_with (first
    | (with_reducible refine wl_box rfl 42 (.tmp 0) _ (bv ks) rfl rfl rfl ?_; intro g3 w3 r3 a3 l3 b3)
    | (with_reducible refine wl_box rfl 45 (.tmp 1) _ (bv ns) rfl rfl rfl ?_; intro g4 w4 r4 a4 l4 b4))
  go_ret2
  exact ⟨rfl, b3.trans (b4.mono b3.size)⟩
set_option maxRecDepth 100000 in
set_option maxHeartbeats 1000000 in
theorem open_long (ks ns : List Int) (A D : Option Addr) (m c n d : Nat) (w : World) (hM : m ≤ maxLen) (hN : n ≤ maxLen) (hn : 16 ≤ n) (hlong : 65536 < m ∨ 65552 < n) :
    Calls Tryz.prog 20 #[.agg (bv ks).toArray, .agg (bv ns).toArray, .slice A m c, .slice D n d] w (RetErr 5 w) := by
  unfold maxLen at hM hN
  go_enter Tryz.func20, Tryz.ntmps20
  by_cases hm : 65536 < m
  · clear hlong
    go_wp2_with (first
      | (with_reducible refine wl_box rfl 42 (.tmp 0) _ (bv ks) rfl rfl rfl ?_; intro g3 w3 r3 a3 l3 b3)
      | (with_reducible refine wl_box rfl 45 (.tmp 1) _ (bv ns) rfl rfl rfl ?_; intro g4 w4 r4 a4 l4 b4))
    go_ret2
    exact ⟨rfl, b3.trans (b4.mono b3.size)⟩
  · have hn2 : 65552 < n := by omega
    clear hlong hn
    have hn3 : 16 ≤ n := by omega
    go_wp2_with (first
      | (with_reducible refine wl_box rfl 42 (.tmp 0) _ (bv ks) rfl rfl rfl ?_; intro g3 w3 r3 a3 l3 b3)
      | (with_reducible refine wl_box rfl 45 (.tmp 1) _ (bv ns) rfl rfl rfl ?_; intro g4 w4 r4 a4 l4 b4))
    go_ret2
    exact ⟨rfl, b3.trans (b4.mono b3.size)⟩
/-- What Open hands back of what it opens. -/
def RetOpen (ks ns xs : List Int) (w : World) (e : Ending) (w' : World) : Prop :=
  ∃ A c, e = .returned (.tuple #[.slice A xs.length c, .int .i64 0]) ∧ Bs w' w'.heap.size A xs.length (outL ks ns 64 xs) ∧ Below w.heap.size w w' ∧ xs.length ≤ c ∧ c ≤ maxLen
set_option maxRecDepth 100000 in
set_option maxHeartbeats 2000000 in
theorem open_any (ks ns ad xs : List Int) (A D : Option Addr) (m c n d : Nat) (w : World) (hT : Tabs w) (hk : ks.length = 32) (hn : ns.length = 12) (hk' : IsBy ks) (hn' : IsBy ns)
    (ha : Bs w w.heap.size A m ad) (hab : IsBy ad) (hac : m ≤ c) (hx : Bs w w.heap.size D n xs) (hxb : IsBy xs) (hxc : n ≤ d) (hm : m ≤ 65536) (hN : n ≤ 65552) (h16 : 16 ≤ n) :
    Calls Tryz.prog 20 #[.agg (bv ks).toArray, .agg (bv ns).toArray, .slice A m c, .slice D n d] w fun e w' =>
      if markL ks ns ad (xs.take (n - 16)) = xs.drop (n - 16) then RetOpen ks ns (xs.take (n - 16)) w e w' else RetErr 6 w e w' := by
  have zk := hide (size_b (P := Tryz.prog) (T := 42) (by kernel_rfl) hk)
  have zn := hide (size_b (P := Tryz.prog) (T := 45) (by kernel_rfl) hn)
  obtain ⟨q, hq⟩ : ∃ q, n = q + 16 := ⟨n - 16, by omega⟩
  subst hq
  rw [Nat.add_sub_cancel]
  have hq63 : q ≤ 65536 := by omega
  have hfr := hx.take (k := q) (by omega)
  have hbk : Bs w w.heap.size (Option.map (fun x => x.add q) D) 16 (xs.drop q) := by
    have h := hx.sub (I := q) (K := q + 16) (by omega) (Nat.le_refl _) hxc
    unfold subA at h
    rw [if_neg (by omega), Nat.add_sub_cancel_left, List.take_of_length_le (by rw [List.length_drop, hx.1]; omega)] at h
    exact h
  have hfb := hxb.take q
  have hbb := hxb.drop q
  have hMk := fun w hT ha h => mark_any ks ns ad (xs.take q) A D m c q d w hT hk hn hk' hn' ha hab hac (by unfold maxLen; omega) h hfb (by omega) (by unfold maxLen; omega)
  have hH := fun w hT hx => hide_any ks ns (xs.take q) q d D w hT hk hn hk' hn' hx hfb (by omega)
  have hSm := fun g w h1 h2 hmb => same_any (some ⟨g, 0, none⟩) (Option.map (fun x => x.add q) D) 16 16 16 (d - q) (markL ks ns ad (xs.take q)) (xs.drop q) w h1 h2 hmb hbb (by unfold maxLen; omega) (by unfold maxLen; omega)
  have hml := markL_len ks ns ad (xs.take q)
  have hmb : IsBy (markL ks ns ad (xs.take q)) := pS_by _ _
  have zm := hide (size16 hml)
  have lm := hide (show (bv (List.replicate 16 0)).length = (bv (markL ks ns ad (xs.take q))).length by rw [bv_len, bv_len, hml, List.length_replicate])
  have hlq : (xs.take q).length = q := by rw [List.length_take, hx.1]; omega
  have Hml := hide hml
  clear hk hn hk' hn' hml hx hxb hfb hbb
  generalize markL ks ns ad (xs.take q) = mk at *
  generalize xs.take q = fr at *
  generalize xs.drop q = bk at *
  go_enter Tryz.func20, Tryz.ntmps20
  go_wp2_with (first
    | (with_reducible refine wl_box rfl 42 (.tmp 0) _ (bv ks) rfl rfl rfl ?_; intro g3 w3 r3 a3 l3 b3)
    | (with_reducible refine wl_box rfl 45 (.tmp 1) _ (bv ns) rfl rfl rfl ?_; intro g4 w4 r4 a4 l4 b4; have r3' := r3.later b4))
  go_quiet (fail)
  have s3 := b3.size
  have B4 := b3.trans (b4.mono s3)
  have B5 : Below w.heap.size w (w4.drewN nq) := below_drewn B4 nq
  have r3a := r3'.drewN nq
  have r4a := r4.drewN nq
  clear r3 r3' r4 b3 b4 B4
  generalize w4.drewN nq = w5 at *
  generalize Option.map (fun x => x.add q) D = E at *
  go_wp2_with (first
    | (with_reducible refine wl_load_row rfl 42 (.tmp 4) g3 42 (bv ks) _ rfl rfl r3a Tryz.underlying42 rfl zk.out ?_)
    | (with_reducible refine wl_load_row rfl 45 (.tmp 5) g4 45 (bv ns) _ rfl rfl r4a Tryz.underlying45 rfl zn.out ?_))
  refine (hMk w5 (hT.later B5) (ha.later B5) (hfr.later B5)).mono ?_
  rintro e w6 ⟨rfl, b6⟩
  have B6 := B5.trans (b6.mono B5.size)
  have r3b := r3a.later b6
  have r4b := r4a.later b6
  clear hMk b6
  go_wp2_with (first
    | (with_reducible refine wl_alloc rfl 85 _ (bv (List.replicate 16 0)) rfl zB16 rfl ?_; intro g7 w7 r7 a7 l7 b7)
    | (with_reducible refine wl_store_row rfl 85 (.tmp 12) (.tmp 38) g7 85 _ (bv mk) rfl rfl rfl r7 zm.out lm.out (bv_one _) ?_; intro w8 r8 o8))
  have b68 := b7.trans (o8.below a7)
  have B8 := B6.trans (b68.mono B6.size)
  have r3c := r3b.later b68
  have r4c := r4b.later b68
  have h16' := Hml.out
  have hmkb : Bs w8 w8.heap.size (some ⟨g7, 0, none⟩) 16 mk := by
    have := row_bs_at (n := 16) (off := 0) r8 (by omega) r8.lt
    rw [List.drop_zero, List.take_of_length_le (by omega)] at this
    exact this
  have hbk8 := hbk.later B8
  have hfr8 := hfr.later B8
  have hT8 := hT.later B8
  clear b68 o8 b7 B6 B5 hbk hfr hT r3a r3b r4a r4b r7 ha
  by_cases heq : mk = bk
  · have hd : decide (mk = bk) = true := decide_eq_true heq
    have HEQ := hide heq
    rw [hd] at hSm
    clear heq hd
    refine (hSm g7 w8 hmkb hbk8 hmb).mono ?_
    rintro e w9 ⟨rfl, rfl⟩
    go_wp2_with (first
      | (with_reducible refine wl_load_row rfl 42 (.tmp 4) g3 42 (bv ks) _ rfl rfl r3c Tryz.underlying42 rfl zk.out ?_)
      | (with_reducible refine wl_load_row rfl 45 (.tmp 5) g4 45 (bv ns) _ rfl rfl r4c Tryz.underlying45 rfl zn.out ?_))
    refine (hH w8 hT8 hfr8).mono ?_
    rintro e w10 ⟨A10, c10, rfl, h10, b10, h11, h12⟩
    have B10 := hide (B8.trans (b10.mono B8.size))
    clear hSm hH hmkb hbk8 hfr8 hT8 B8 b10
    go_wp2_with fail
    go_ret2
    try rw [if_pos HEQ.out]
    have hlq2 := hlq
    exact ⟨A10, c10, by rw [hlq2]; rfl, h10, B10.out, h11, h12⟩
  · have hd : decide (mk = bk) = false := decide_eq_false heq
    have HEQ := hide heq
    rw [hd] at hSm
    clear heq hd
    refine (hSm g7 w8 hmkb hbk8 hmb).mono ?_
    rintro e w9 ⟨rfl, rfl⟩
    go_wp2_with fail
    go_ret2
    try rw [if_neg HEQ.out]
    exact ⟨rfl, B8⟩
end Go.Proofs.YtooooncmjhcdbaaGreatDoor.Pa
