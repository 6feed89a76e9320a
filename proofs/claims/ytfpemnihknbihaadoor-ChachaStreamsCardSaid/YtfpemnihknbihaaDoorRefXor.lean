/-
  The document's xor with the stream: contracts. Own work.
-/
import Derived.Test.YtfpemnihknbihaaDoorRefBytes
namespace Go.Proofs.YtfpemnihknbihaaDoor
open Go.RowKit
set_option linter.unusedVariables false
set_option linter.unusedSimpArgs false
theorem run_indexS {P : Program} {w : World} {a : Act} {o : Oper} (t : TypeId) (x y : Operand) (e : TypeId) (b off len cap i : Nat)
    (ho : o.op = .indexAddr t x y) (hu : P.underlying t = some (.slice e)) (hs : ∀ w, (sizeOf e).run P w = .ok 1 w) (hx : a.eval x = .slice (some ⟨b, off, none⟩) len cap) (hy : a.eval y = .int .i64 i) (hi : i < len) :
    (execOp a.eval o).run P w = .ok (.value (.pointer (some ⟨b, off + i, none⟩))) w := by
  unfold execOp
  simp only [ho, hx, hy]
  go_simp
theorem fill_set (L : List Int) (k n : Nat) (hL : L.length = k) (hk : k < n) (v : Int) : (L ++ List.replicate (n - k) 0).set k v = (L ++ [v]) ++ List.replicate (n - (k + 1)) 0 := by
  rw [List.set_append_right _ _ (by omega), hL, Nat.sub_self, show n - k = (n - (k + 1)) + 1 from by omega, List.replicate_succ, List.set_cons_zero]
  simp
def JXr (w0 : World) (g : Nat) (cur new : List Int) (bs : List Bool) (vs : List Value) (w : World) : Prop :=
  (bs.getD 0 false = false → Row w 5 g (bv cur)) ∧ (bs.getD 0 false = true → Row w 5 g (bv new)) ∧ But g w0 w
def SXr (b o bk ok g m cp ck i : Nat) (X Y : Int) (opn : Nat) (v : Value) : Prop :=
  match opn with
  | 0 => v = .slice (some ⟨g, 0, none⟩) m m
  | 1 | 3 | 7 => v = .int .i64 (i : Int)
  | 2 => v = .slice (some ⟨b, o, none⟩) m cp
  | 4 => v = .pointer (some ⟨b, o + i, none⟩)
  | 5 => v = .int .u8 X
  | 6 => v = .slice (some ⟨bk, ok, none⟩) m ck
  | 8 => v = .pointer (some ⟨bk, ok + i, none⟩)
  | 9 => v = .int .u8 Y
  | 10 => v = .int .u8 (bits .xor .u8 X Y)
  | 11 => v = .pointer (some ⟨g, 0 + i, none⟩)
  | _ => True
set_option maxRecDepth 100000 in
set_option maxHeartbeats 2000000 in
theorem refXor_any (ks ns xs : List Int) (c m cp : Nat) (A : Option Addr) (w : World) (hk : ks.length = 32) (hn : ns.length = 12) (hk' : IsBy ks) (hn' : IsBy ns) (hc : c < 4294967296) (hm : m ≤ 1000000)
    (hx : Bs w w.heap.size A m xs) (hby : IsBy xs) (hfit : (m + 63) / 64 ≤ 4294967296 - c) :
    Calls Tryd.prog 21 #[.agg (atL ks c ns).toArray, .slice A m cp] w (RetXorF ks ns c xs w) := by
  obtain ⟨i0, hi, hz, hsz, hbys⟩ := u8_info
  have zA := fun c : Int => hide (show (Tryd.prog.info? 26).map (·.size) = some (atL ks c ns).length by rw [at_len' hk hn]; kernel_rfl)
  have Hy := fun w => refBytes_any ks ns c m w hk hn hk' hn' hc hm hfit
  have Hi := hide hi
  have Hz := hide hz
  have Hs := hide hsz
  have Hb := hide hbys
  have Hx := hide hx.1
  clear hk hn hi hz hsz hfit
  go_enter Tryd.func21, Tryd.ntmps21
  go_wp2_with (first
    | (with_reducible refine wl_box rfl 26 (.tmp 0) _ (atL ks c ns) rfl rfl rfl ?_; intro g2 w2 r2 a2 l2 b2)
    | (with_reducible refine wl_load_row rfl 26 (.tmp 2) g2 26 _ _ rfl rfl r2 Tryd.underlying26 rfl (zA _).out ?_))
  refine (Hy _).mono ?_
  rintro e w3 ⟨Ak, ck, rfl, hks, b3⟩
  have B3 := b2.trans (b3.mono b2.size)
  have hx3 := (hx.below B3).up B3.size
  have hl1 : i0.bytes * m ≤ 281474976710656 := by rw [hbys]; omega
  have hl2 : m ≤ 9223372036854775807 := by omega
  clear Hy hbys b2 b3 r2
  go_wp2_with (first
    | (with_reducible refine wl_make rfl 30 (.tmp 20) (.tmp 20) rfl 5 i0 (.int .u8 0) Tryd.underlying30 Hi.out Hz.out Hs.out rfl .i64 .i64 m m _ _ rfl rfl rfl rfl (Nat.le_refl m) hl1 hl2 ?_; intro g w4 r4 a4 l4 b4))
  have B4 := B3.trans (b4.mono B3.size)
  have hx4 := hx3.below b4
  have hk4 := hks.below b4
  have r4' : Row w4 5 g (bv (outP ks ns (64 * c) xs 0 ++ List.replicate (m - 0) 0)) := by simpa [outP, bv] using r4
  clear r4 hx3 hks hl1 hl2
  go_loopw [9] (fun iv wr => ∃ i : Nat, i ≤ m ∧ iv = .int .i64 i ∧ Row wr 5 g (bv (outP ks ns (64 * c) xs i ++ List.replicate (m - i) 0)) ∧ But g w4 wr) (fun iv _ => m - (intOf iv).toNat)
  case atStart => exact ⟨0, by omega, rfl, r4', But.refl _ _⟩
  case round =>
    clear r4'
    obtain ⟨i, hi16, rfl, rr, bx⟩ := hrel
    have hB4 := b4.size
    by_cases hi : i < m
    · go_wp2_with fail
      obtain ⟨b, o, rfl, lX, cX⟩ := (hx4.below (bx.below a4 hB4)).2 (by omega)
      obtain ⟨bk, ok, rfl, lY, cY⟩ := (hk4.below (bx.below a4 hB4)).2 (by omega)
      replace cX := cX i hi
      replace cY := cY i hi
      rw [ksl_get hi] at cY
      have hcl : i < (bv (outP ks ns (64 * c) xs i ++ List.replicate (m - i) 0)).length := by rw [bv_len, List.length_append, outP_len, List.length_replicate]; omega
      have hset := fill_set (outP ks ns (64 * c) xs i) i m (outP_len ..) hi (bits .xor .u8 (xs.getD i 0) (kbyte ks ns (64 * c + i)))
      rw [← outP_succ] at hset
      generalize xs.getD i 0 = X at *
      generalize kbyte ks ns (64 * c + i) = Y at *
      generalize outP ks ns (64 * c) xs i ++ List.replicate (m - i) 0 = cur at *
      have hB := a4
      have hW : w3.heap.size ≤ wr.heap.size := Nat.le_trans hB4 bx.size
      rename_i Q1 K1 hK1
      refine wp_region_vals [12] (SXr b o bk ok g m cp ck i X Y) (JXr wr g cur (outP ks ns (64 * c) xs (i + 1) ++ List.replicate (m - (i + 1)) 0)) (by kernel_rfl) (by kernel_rfl) (by kernel_rfl) (by kernel_rfl) (by kernel_rfl) ⟨fun _ => rr, fun h => absurd h (by decide), (But.refl _ _).drew⟩ ?obs ?he
      case obs =>
        refine ⟨?_, ?_, ?_, ?_, ?_, ?_, ?_, ?_, ?_, ?_, ?_, ?_, ?_, trivial⟩
        · exact .inl ⟨by kernel_rfl, fun L a1 w1 n h => ⟨_, rfl, run_move (.tmp 8) rfl (h.var n 8 (by kernel_rfl))⟩⟩
        · exact .inl ⟨by kernel_rfl, fun L a1 w1 n h => ⟨_, rfl, run_move (.tmp 9) rfl (h.var n 9 (by kernel_rfl))⟩⟩
        · exact .inl ⟨by kernel_rfl, fun L a1 w1 n h => ⟨_, rfl, run_move (.tmp 1) rfl (h.var n 1 (by kernel_rfl))⟩⟩
        · exact .inl ⟨by kernel_rfl, fun L a1 w1 n h => ⟨_, rfl, run_move (.tmp 9) rfl (h.var n 9 (by kernel_rfl))⟩⟩
        · exact .inl ⟨by kernel_rfl, fun L a1 w1 n h => ⟨_, rfl, run_indexS 30 (.tmp 30) (.tmp 31) 5 b o m cp i rfl Tryd.underlying30 Tryd.sizeOf5 (h.dep n 2 30 (by kernel_rfl) rfl) (h.dep n 3 31 (by kernel_rfl) rfl) hi⟩⟩
        · exact .inl ⟨by kernel_rfl, fun L a1 w1 n h => ⟨_, rfl, run_loadA 5 (.tmp 32) ⟨b, o + i, none⟩ rfl Tryd.isAgg5 (h.dep n 4 32 (by kernel_rfl) rfl) (((h.inv.2.2.below hB hW).cell lX).trans cX)⟩⟩
        · exact .inl ⟨by kernel_rfl, fun L a1 w1 n h => ⟨_, rfl, run_move (.tmp 6) rfl (h.var n 6 (by kernel_rfl))⟩⟩
        · exact .inl ⟨by kernel_rfl, fun L a1 w1 n h => ⟨_, rfl, run_move (.tmp 9) rfl (h.var n 9 (by kernel_rfl))⟩⟩
        · exact .inl ⟨by kernel_rfl, fun L a1 w1 n h => ⟨_, rfl, run_indexS 30 (.tmp 34) (.tmp 35) 5 bk ok m ck i rfl Tryd.underlying30 Tryd.sizeOf5 (h.dep n 6 34 (by kernel_rfl) rfl) (h.dep n 7 35 (by kernel_rfl) rfl) hi⟩⟩
        · exact .inl ⟨by kernel_rfl, fun L a1 w1 n h => ⟨_, rfl, run_loadA 5 (.tmp 36) ⟨bk, ok + i, none⟩ rfl Tryd.isAgg5 (h.dep n 8 36 (by kernel_rfl) rfl) (((h.inv.2.2.below hB hW).cell lY).trans cY)⟩⟩
        · refine .inl ⟨by kernel_rfl, fun L a1 w1 n h => ⟨.int .u8 (bits .xor .u8 X Y), rfl, ?_⟩⟩
          have e0 : a1.eval (.tmp 33) = _ := h.dep n 5 33 (by kernel_rfl) rfl
          have e1 : a1.eval (.tmp 37) = _ := h.dep n 9 37 (by kernel_rfl) rfl
          unfold execOp
          simp only [e0, e1]
          go_simp
        · exact .inl ⟨by kernel_rfl, fun L a1 w1 n h => ⟨_, rfl, run_indexS 30 (.tmp 28) (.tmp 29) 5 g 0 m m i rfl Tryd.underlying30 Tryd.sizeOf5 (h.dep n 0 28 (by kernel_rfl) rfl) (h.dep n 1 29 (by kernel_rfl) rfl) hi⟩⟩
        · refine .inr fun L a1 w1 n h K hK => ?_
          have no : L.getD 12 false = false := n.not_yet
          have e1 : a1.eval (.tmp 39) = .pointer (some ⟨g, i, none⟩) := by
            have : a1.eval (.tmp 39) = .pointer (some ⟨g, 0 + i, none⟩) := h.dep n 11 39 (by kernel_rfl) rfl
            rwa [Nat.zero_add] at this
          have e2 : a1.eval (.tmp 38) = _ := h.dep n 10 38 (by kernel_rfl) rfl
          refine st_store 5 (.tmp 39) (.tmp 38) g i 5 (bv cur) _ rfl (by kernel_rfl) e1 e2 (h.inv.1 no) hcl rfl ?_
          intro w3 r3 o3
          rw [bv_set, hset] at r3
          exact hK undef w3 trivial ⟨fun h1 => absurd (show true = false from h1) (by decide), fun _ => r3, h.inv.2.2.trans (But.only o3)⟩
      case he =>
        intro V w5 hV hJ
        have r5 := hJ.2.1 rfl
        have bx5 := bx.trans hJ.2.2
        clear hV hJ
        simp only [putOps, List.setIfInBounds_toArray, List.set_cons_succ, List.set_cons_zero]
        refine hK1 _ _ ?_
        go_wp2
        go_roundw
        case rel => exact ⟨i + 1, by omega, by go_num, r5, bx5⟩
        case measure => simp [intOf]; omega
    · have hin : i = m := by omega
      subst hin
      go_wp2_with fail
      go_ret2
      refine ⟨some ⟨g, 0, none⟩, i, by rw [Hx.out]; rfl, ?_, B4.trans ((bx.below a4 hB4).mono B3.size), by rw [Hx.out]; exact Nat.le_refl _, by unfold maxLen; omega⟩
      rw [Hx.out]
      refine bs_mid (q := 0) rr ?_ (by simp [outP_len])
      rw [List.drop_zero, Nat.sub_self, List.replicate_zero, List.append_nil, List.take_of_length_le (by rw [outP_len]; exact Nat.le_refl _), ← outP_all, Hx.out]
set_option maxRecDepth 100000 in
set_option maxHeartbeats 1000000 in
theorem refXor_no (ks ns : List Int) (c n cp : Nat) (A : Option Addr) (w : World) (hk : ks.length = 32) (hn : ns.length = 12) (hc : c < 4294967296) (hm : n ≤ 1000000) (hlong : 4294967296 - c < (n + 63) / 64) :
    Calls Tryd.prog 21 #[.agg (atL ks c ns).toArray, .slice A n cp] w (RetNo w) := by
  have zA := hide (show (Tryd.prog.info? 26).map (·.size) = some (atL ks c ns).length by rw [at_len' hk hn]; kernel_rfl)
  have Hy := fun w => refBytes_no ks ns c n w hk hn hc hm hlong
  clear hk hn hlong
  go_enter Tryd.func21, Tryd.ntmps21
  go_wp2_with (first
    | (with_reducible refine wl_box rfl 26 (.tmp 0) _ (atL ks c ns) rfl rfl rfl ?_; intro g2 w2 r2 a2 l2 b2)
    | (with_reducible refine wl_load_row rfl 26 (.tmp 2) g2 26 _ _ rfl rfl r2 Tryd.underlying26 rfl zA.out ?_))
  refine (Hy _).mono ?_
  rintro e w3 ⟨rfl, b3⟩
  go_wp2_with fail
  go_ret2
  exact ⟨rfl, b2.trans (b3.mono b2.size)⟩
end Go.Proofs.YtfpemnihknbihaaDoor
