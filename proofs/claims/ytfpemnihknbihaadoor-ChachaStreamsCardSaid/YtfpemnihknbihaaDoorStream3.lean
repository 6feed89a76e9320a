/-
  A stream, last part: xoring. Own work.
-/
import Derived.Test.YtfpemnihknbihaaDoorStream2
import Derived.Test.YtfpemnihknbihaaDoorMem2
namespace Go.Proofs.YtfpemnihknbihaaDoor
open Go.RowKit
set_option linter.unusedVariables false
set_option linter.unusedSimpArgs false
theorem zc0 : (Value.int IntKind.u8 0).cells = #[Value.int IntKind.u8 0] := rfl
theorem zI : (0 : Int) = ((0 : Nat) : Int) := rfl
def lenV : Value → Nat | .slice _ n _ => n | _ => 0
theorem rep_split {α : Type} (n : Nat) (x : α) (h : 0 < n) : List.replicate n x = [x] ++ List.replicate (n - 1) x := by
  obtain ⟨m, rfl⟩ : ∃ m, n = m + 1 := ⟨n - 1, by omega⟩
  simp [List.replicate_succ]
/-- What Xor hands back. -/
def RetXor (ks ns : List Int) (l g : Nat) (xs : List Int) (w : World) (e : Ending) (w' : World) : Prop :=
  ∃ b c, e = .returned (.tuple #[.slice (some ⟨b, 0, none⟩) xs.length c, .bool true]) ∧ w.heap.size ≤ b ∧ Bs w' w'.heap.size (some ⟨b, 0, none⟩) xs.length (outL ks ns (pos l) xs) ∧ Row w' 73 g (strm ks ns ((l - xs.length : Nat) : Int)) ∧ But g w w' ∧ xs.length ≤ c ∧ c ≤ maxLen
set_option maxRecDepth 100000 in
set_option maxHeartbeats 1000000 in
theorem sxor_long (ks ns : List Int) (l g n c : Nat) (A : Option Addr) (w : World) (hk : ks.length = 32) (hn : ns.length = 12) (hl : l ≤ 274877906944) (hr : Row w 73 g (strm ks ns l)) (hlong : l < n) (hm : n ≤ maxLen) :
    Calls Tryd.prog 23 #[.pointer (some ⟨g, 0, none⟩), .slice A n c] w fun e w' => e = .returned (.tuple #[.slice none 0 0, .bool false]) ∧ w = w' := by
  unfold maxLen at hm
  go_enter Tryd.func23, Tryd.ntmps23
  go_wp2_with (go_at_call 25; refine (left_any ks ns l g _ hk hn hr).mono ?_; rintro e w' ⟨rfl, rfl⟩)
  go_ret2
  exact ⟨rfl, rfl⟩
theorem sxor_nil (n c : Nat) (A : Option Addr) (w : World) (hn : 0 < n) (hm : n ≤ maxLen) :
    Calls Tryd.prog 23 #[.pointer none, .slice A n c] w fun e w' => e = .returned (.tuple #[.slice none 0 0, .bool false]) ∧ w = w' := by
  unfold maxLen at hm
  go_enter Tryd.func23, Tryd.ntmps23
  go_wp2_with (go_at_call 25; refine (left_nil _).mono ?_; rintro e w' ⟨rfl, rfl⟩)
  go_ret2
  exact ⟨rfl, rfl⟩
theorem But.new {g g' : Nat} {a b c : World} (h : But g a b) (k : Only g' b c) (hg : a.heap.size ≤ g') : But g a c :=
  ⟨k.os.trans h.os, k.tape.trans h.tape, k.output.trans h.output, by rw [k.size]; exact h.size, fun i hi hne => (k.block i (by omega)).trans (h.block i hi hne)⟩
theorem But.later {g : Nat} {a b c : World} (h : But g a b) (k : Below b.heap.size b c) : But g a c := h.trans (But.of k g)
theorem Bs.keepAt {w w' : World} {B b o n : Nat} {xs : List Int} (h : Bs w B (some ⟨b, o, none⟩) n xs) (hk : w'.heap[b]? = w.heap[b]?) : Bs w' B (some ⟨b, o, none⟩) n xs := by
  refine ⟨h.1, fun hn => ?_⟩
  obtain ⟨b', o', e, hb, hc⟩ := h.2 hn
  injection e with e
  injection e with e1 e2 e3
  subst e1
  subst e2
  exact ⟨b, o, rfl, hb, fun j hj => by rw [World.cell?_of_block (w := w) (a := ⟨b, o + j, none⟩) hk]; exact hc j hj⟩
theorem fillStep {ks ns xs : List Int} {p n k : Nat} (hk : k < n) (v : Int) (hv : v = bits .xor .u8 (xs.getD k 0) (kbyte ks ns (p + k))) :
    bv (outP ks ns p xs k) ++ ([Value.int .u8 v] ++ bv (List.replicate (n - k - 1) 0)) = bv (outP ks ns p xs (k + 1) ++ List.replicate (n - (k + 1)) 0) := by
  rw [outP_succ, hv]
  simp [bv, Nat.sub_sub]
theorem fillHead {ks ns xs : List Int} {p n k : Nat} (hk : k < n) :
    bv (outP ks ns p xs k ++ List.replicate (n - k) 0) = bv (outP ks ns p xs k) ++ ([Value.int .u8 0] ++ bv (List.replicate (n - k - 1) 0)) := by
  rw [rep_split (n - k) 0 (by omega)]
  simp [bv]
set_option maxRecDepth 100000 in
set_option maxHeartbeats 1000000 in
theorem sxor_none (ks ns : List Int) (l g c : Nat) (A : Option Addr) (w : World) (hk : ks.length = 32) (hn : ns.length = 12) (hl : l ≤ 274877906944) (hr : Row w 73 g (strm ks ns l)) :
    Calls Tryd.prog 23 #[.pointer (some ⟨g, 0, none⟩), .slice A 0 c] w (RetXor ks ns l g [] w) := by
  obtain ⟨i0, hi, hz, hsz, hbys⟩ := u8_info
  have hln : i0.bytes * 0 ≤ 281474976710656 := by omega
  have h63 : 0 ≤ 9223372036854775807 := by omega
  go_enter Tryd.func23, Tryd.ntmps23
  go_wp2_with (first
    | (go_at_call 25; refine (left_any ks ns l g _ hk hn hr).mono ?_; rintro e w' ⟨rfl, rfl⟩)
    | ((with_reducible refine wl_make rfl 30 _ _ rfl 5 i0 (Value.int IntKind.u8 0) Tryd.underlying30 hi hz hsz zc0 IntKind.i64 IntKind.i64 0 0 _ _ rfl rfl zI zI (Nat.zero_le _) hln h63 ?_); intro go w6 r6 a6 l6 b6))
  go_loop [6] (fun o => o = .slice (some ⟨go, 0, none⟩) 0 0) (fun _ => 0)
  case atStart => rfl
  case round =>
    subst hrel
    go_wp2_with fail
    go_ret2
    exact ⟨_, _, rfl, a6, Bs.nil_, by simpa using hr.later b6, But.of b6 g, Nat.le_refl _, by simp [maxLen]⟩
set_option maxRecDepth 100000 in
set_option maxHeartbeats 2000000 in
theorem sxor_any (ks ns xs : List Int) (l g n c B : Nat) (A : Option Addr) (w : World) (hT : Tabs w) (hk : ks.length = 32) (hn : ns.length = 12) (hk' : IsBy ks) (hn' : IsBy ns) (hl : l ≤ 274877906944)
    (hr : Row w 73 g (strm ks ns l)) (h2 : 2 ≤ g) (hx : Bs w B A n xs) (hB : B ≤ g) (hby : IsBy xs) (hfit : n ≤ l) (hn0 : 0 < n) :
    Calls Tryd.prog 23 #[.pointer (some ⟨g, 0, none⟩), .slice A n c] w (RetXor ks ns l g xs w) := by
  obtain ⟨bA, oA, rfl, hbA, hxc⟩ := hx.2 hn0
  clear hxc
  obtain ⟨i0, hi, hz, hsz, hbys⟩ := u8_info
  have hln : i0.bytes * n ≤ 281474976710656 := by rw [hbys]; omega
  have h63 : n ≤ 9223372036854775807 := by omega
  have hg := hr.lt
  have Hx := hide hx.1
  have hd : decide (l < n) = false := by simp; omega
  go_enter Tryd.func23, Tryd.ntmps23
  go_wp2_with (first
    | (go_at_call 25; refine (left_any ks ns l g _ hk hn hr).mono ?_; rintro e w' ⟨rfl, rfl⟩)
    | ((with_reducible refine wl_make rfl 30 _ _ rfl 5 i0 (Value.int IntKind.u8 0) Tryd.underlying30 hi hz hsz zc0 IntKind.i64 IntKind.i64 0 n _ _ rfl rfl zI rfl (Nat.zero_le _) hln h63 ?_); intro go w6 r6 a6 l6 b6))
  have r6' : Row w6 5 go (bv (outP ks ns (pos l) xs 0 ++ List.replicate (n - 0) 0)) := by simpa [outP, bv] using r6
  have hr6 := hr.later b6
  have B6 := But.of b6 g
  clear r6 b6
  go_loopw [6] (fun o wr => ∃ j : Nat, j ≤ n ∧ o = .slice (some ⟨go, 0, none⟩) j n ∧ Row wr 5 go (bv (outP ks ns (pos l) xs j ++ List.replicate (n - j) 0)) ∧ Row wr 73 g (strm ks ns ((l - j : Nat) : Int)) ∧ But g w wr) (fun o _ => n - lenV o)
  case atStart => exact ⟨0, by omega, rfl, r6', hr6, B6⟩
  case round =>
    clear r6' hr6 B6 l6
    obtain ⟨j, hj, rfl, ro, rg, bw⟩ := hrel
    by_cases hlt : j < n
    · have hsz2 := bw.size
      have hTr := hT.below (bw.below h2 hT.1) (Nat.le_refl 2)
      have hnx := next_any ks ns (l - j) (n - j) g wr hTr hk hn hk' hn' (by omega) (by omega) (by omega) (by omega) rg h2
      rw [show ((n - j : Nat) : Int) = (n : Int) - (j : Int) from by omega] at hnx
      have Hnx := hide hnx
      clear hnx
      go_wp2_with fail
      refine Hnx.out.mono ?_
      rintro e w8 ⟨b, o, m, cm, rfl, hb8, hm8, hs8, rg8, bw8⟩
      clear Hnx rg
      have hgo : go < wr.heap.size := ro.lt
      have hm1 : 0 < m := by omega
      have hm2 : j + m ≤ n := by omega
      have ro8 := ro.but bw8 (by omega)
      have bw9 := bw.trans bw8
      rw [show l - j - m = l - (j + m) from by omega] at rg8
      rw [pos_sub (show j ≤ l by omega) hl] at hs8
      clear bw bw8 ro hm8
      go_wp2_with fail
      go_loopw [6, 31] (fun ov i wr => ∃ q : Nat, q ≤ m ∧ i = .int .i64 q ∧ ov = .slice (some ⟨go, 0, none⟩) (j + q) n ∧ Row wr 5 go (bv (outP ks ns (pos l) xs (j + q) ++ List.replicate (n - (j + q)) 0)) ∧ Row wr 73 g (strm ks ns ((l - (j + m) : Nat) : Int)) ∧ Bs wr wr.heap.size (some ⟨b, o, none⟩) m (ksl ks ns (pos l + j) m) ∧ But g w wr) (fun _ i _ => m - (intOf i).toNat)
      case atStart => exact ⟨0, by omega, rfl, rfl, ro8, rg8, hs8, bw9⟩
      case round =>
        clear ro8 rg8 hs8 bw9
        obtain ⟨q, hq, rfl, rfl, ro, rg, hs, bw⟩ := hrel
        by_cases hlq : q < m
        · have hjq : j + q < n := by omega
          have hxw := hx.below (bw.below (show B ≤ g from hB) (by omega)) 
          obtain ⟨b', o', e1, _, hcd⟩ := hxw.at_ hjq
          injection e1 with e1
          injection e1 with e1 e2 e3
          subst e1
          subst e2
          obtain ⟨b', o', e1, _, hck⟩ := hs.at_ hlq
          injection e1 with e1
          injection e1 with e1 e2 e3
          subst e1
          subst e2
          rw [ksl_get hlq] at hck
          have hX := by_getD xs hby (j + q)
          have hK := kbyte_by ks ns (pos l + j + q)
          have hv := hide (show bits .xor .u8 (xs.getD (j + q) 0) (kbyte ks ns (pos l + j + q)) = bits .xor .u8 (xs.getD (j + q) 0) (kbyte ks ns (pos l + (j + q))) by rw [Nat.add_assoc])
          rw [fillHead hjq] at ro
          generalize hXx : xs.getD (j + q) 0 = X at *
          generalize hKx : kbyte ks ns (pos l + j + q) = Y at *
          have hXx' := hide hXx
          clear hXx hKx
          go_wp2_with (first
            | ((with_reducible refine wl_build1 rfl 30 (.tmp 42) rfl 5 i0 (Value.int IntKind.u8 0) (Value.int IntKind.u8 (bits .xor .u8 X Y)) Tryd.underlying30 hi hz hsz zc0 rfl rfl ?_); intro gn w9 r9 a9 l9 b9)
            | ((with_reducible refine wl_append rfl (.tmp 35) (.tmp 43) 30 rfl 5 i0 Tryd.underlying30 hi hsz go (j + q) n 1 1 ⟨gn, 0, none⟩ rfl rfl _ _ _ [Value.int IntKind.u8 (bits .xor .u8 X Y)] (ro.later b9) (by rw [bv_len, outP_len]) rfl rfl (src_one r9) (one_int _ _) (Nat.succ_le_of_lt hjq) ?_); intro w10 r10 o10))
          rw [fillStep hjq _ (by rw [hv.out, hXx'.out])] at r10
          have hsz10 : w10.heap.size = w9.heap.size := o10.size
          have hs10 := (hs.later b9).keepAt (w' := w10) (o10.block b (by omega))
          rw [← hsz10] at hs10
          have rg10 := (rg.later b9).only o10 (by omega)
          have bw10 := (bw.later b9).new o10 (by omega)
          go_roundw
          case rel => exact ⟨q + 1, by omega, by go_num, rfl, r10, rg10, hs10, bw10⟩
          case measure => simp [intOf]; omega
        · go_wp2_with fail
          obtain rfl : q = m := by omega
          go_roundw
          case rel => exact ⟨j + q, hm2, rfl, ro, rg, bw⟩
          case measure => simp [lenV]; omega
    · go_wp2_with fail
      go_ret2
      obtain rfl : j = n := by omega
      have e := Hx.out
      rw [Nat.sub_self, List.replicate_zero, List.append_nil] at ro
      subst e
      refine ⟨_, _, rfl, a6, bs_mid (q := 0) ro (by rw [List.drop_zero, List.take_of_length_le (by rw [outP_len]; exact Nat.le_refl _), outP_all]) (by rw [outP_len]; omega), rg, bw, Nat.le_refl _, by simp only [maxLen]; omega⟩
theorem sxor_all (ks ns xs : List Int) (l g n c B : Nat) (A : Option Addr) (w : World) (hT : Tabs w) (hk : ks.length = 32) (hn : ns.length = 12) (hk' : IsBy ks) (hn' : IsBy ns) (hl : l ≤ 274877906944)
    (hr : Row w 73 g (strm ks ns l)) (h2 : 2 ≤ g) (hx : Bs w B A n xs) (hB : B ≤ g) (hby : IsBy xs) (hfit : n ≤ l) :
    Calls Tryd.prog 23 #[.pointer (some ⟨g, 0, none⟩), .slice A n c] w (RetXor ks ns l g xs w) := by
  rcases Nat.eq_zero_or_pos n with h0 | h0
  · subst h0
    obtain rfl : xs = [] := List.eq_nil_of_length_eq_zero hx.1
    exact sxor_none ks ns l g c A w hk hn hl hr
  · exact sxor_any ks ns xs l g n c B A w hT hk hn hk' hn' hl hr h2 hx hB hby hfit h0
end Go.Proofs.YtfpemnihknbihaaDoor
