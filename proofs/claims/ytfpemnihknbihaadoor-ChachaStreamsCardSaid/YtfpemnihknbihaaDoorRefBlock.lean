/-
  The document's block: a contract. Own work.
-/
import Derived.Test.YtfpemnihknbihaaDoorBegin
namespace Go.Proofs.YtfpemnihknbihaaDoor
open Go.RowKit
set_option linter.unusedVariables false
set_option linter.unusedSimpArgs false
theorem at_len' {ks ns : List Int} {c : Int} (hk : ks.length = 32) (hn : ns.length = 12) : (atL ks c ns).length = 45 := by simp [atL, bv_len, hk, hn]
def IsSl (n : Nat) (v : Value) : Prop := ∃ A c, v = .slice A n c
theorem own_later {w w' : World} {base e n : Nat} {v : Value} {xs : List Value} (h : w.ownsRow base e 1 v n xs) (hb : Below w.heap.size w w') : w'.ownsRow base e 1 v n xs := by
  refine ⟨h.1, ?_⟩
  rcases h.2 with h2 | ⟨g, cap, cur, hv, hg, hh, r⟩
  · exact .inl h2
  · exact .inr ⟨g, cap, cur, hv, hg, (hb.block g (Array.getElem?_eq_some_iff.1 hh).1).trans hh, r⟩
/-- What is appended to a row of the call's own, by a call ahead. -/
def JL (w0 : World) (v0 : Value) (n m : Nat) (old new ys : List Int) (bs : List Bool) (vs : List Value) (w : World) : Prop :=
  Below w0.heap.size w0 w ∧ (bs.getD 1 false = false → w.ownsRow w0.heap.size 5 1 v0 n (bv old)) ∧ (bs.getD 1 false = true → w.ownsRow w0.heap.size 5 1 (vs.getD 1 undef) m (bv new)) ∧
    (bs.getD 0 false = true → bs.getD 1 false = false → ∃ A c, vs.getD 0 undef = .slice A ys.length c ∧ Bs w w.heap.size A ys.length ys) ∧ (bs.getD 2 false = true → vs.getD 2 undef = vs.getD 1 undef)
theorem JL.mk {w0 : World} {v0 : Value} {n m : Nat} {old new ys : List Int} {bs : List Bool} {vs : List Value} {w : World} (h1 : Below w0.heap.size w0 w) (h2 : bs.getD 1 false = false → w.ownsRow w0.heap.size 5 1 v0 n (bv old)) (h3 : bs.getD 1 false = true → w.ownsRow w0.heap.size 5 1 (vs.getD 1 undef) m (bv new))
    (h4 : bs.getD 0 false = true → bs.getD 1 false = false → ∃ A c, vs.getD 0 undef = .slice A ys.length c ∧ Bs w w.heap.size A ys.length ys) (h5 : bs.getD 2 false = true → vs.getD 2 undef = vs.getD 1 undef) : JL w0 v0 n m old new ys bs vs w := ⟨h1, h2, h3, h4, h5⟩
def SRb (g3 g8 i : Nat) (v0 : Value) (X Y N : Int) (opn : Nat) (v : Value) : Prop :=
  match opn with
  | 0 => v = v0
  | 1 | 4 => v = .int .i64 (i : Int)
  | 2 => v = .pointer (some ⟨g3, i, none⟩)
  | 3 => v = .int .u32 X
  | 5 => v = .pointer (some ⟨g8, i, none⟩)
  | 6 => v = .int .u32 Y
  | 7 => v = .int .u32 N
  | 8 => v = .int .u64 N
  | 9 => IsSl 4 v
  | _ => True
set_option maxRecDepth 100000 in
set_option maxHeartbeats 4000000 in
theorem refBlock_any (ks ns : List Int) (c : Nat) (w : World) (hk : ks.length = 32) (hn : ns.length = 12) (hk' : IsBy ks) (hn' : IsBy ns) (hc : c < 4294967296) :
    Calls Tryd.prog 17 #[.agg (atL ks c ns).toArray] w (RetBs (blockL ks c ns) w) := by
  obtain ⟨i0, hi, hz, hsz, hbys⟩ := u8_info
  have hlen : Hid ((begL ks c ns).length = 16) := begL_len ks c ns
  have hbw : IsW (begL ks c ns) := begL_w hk' hn' ⟨by omega, by omega⟩
  have zA := hide (show (Tryd.prog.info? 26).map (·.size) = some (atL ks c ns).length by rw [at_len' hk hn]; kernel_rfl)
  have zb := hide (size_k (P := Tryd.prog) (T := 62) (kd := .u32) (n := 16) (by kernel_rfl) hlen.out)
  have z0 := hide (show (vk .u32 (List.replicate 16 0)).length = (vk .u32 (begL ks c ns)).length by rw [vk_len, vk_len, hlen.out]; rfl)
  have hB := fun w => begin_any ks ns c w hk hn hk' hn' hc
  have Hi := hide hi
  have Hz := hide hz
  have Hs := hide hsz
  have Hb := hide hbys
  clear hk hn hi hz hsz hbys
  go_enter Tryd.func17, Tryd.ntmps17
  go_wp2_with (first
    | (with_reducible refine wl_box rfl 26 (.tmp 0) _ (atL ks c ns) rfl rfl rfl ?_; intro g1 w1 r1 a1 l1 b1)
    | (with_reducible refine wl_load_row rfl 26 (.tmp 1) g1 26 _ _ rfl rfl r1 Tryd.underlying26 rfl zA.out ?_))
  refine (hB _).mono ?_
  rintro e w2 ⟨rfl, b2⟩
  have B2 := b1.trans (b2.mono b1.size)
  have r2 := r1.later b2
  clear r1 b1
  go_wp2_with (first
    | (with_reducible refine wl_alloc rfl 62 _ (vk .u32 (List.replicate 16 0)) rfl zero16' rfl ?_; intro g3 w3 r3 a3 l3 b3)
    | (with_reducible refine wl_store_row rfl 62 (.tmp 3) (.tmp 11) g3 62 _ (vk .u32 (begL ks c ns)) rfl rfl rfl r3 zb.out z0.out (vk_one' _ _) ?_; intro w4 r4 o4))
  have q4 : w4.heap.size = w3.heap.size := o4.size
  have g13 : g1 < g3 := by have := r2.lt; omega
  have R1 := (r2.later b3).only o4 (by omega)
  have A3 : w.heap.size ≤ g3 := by have := B2.size; omega
  have B4 := (B2.trans (b3.mono B2.size)).trans (o4.below A3)
  clear r2 r3 b3 o4 b2 B2
  go_loopw [4] (fun iv wr => ∃ k : Nat, k ≤ 10 ∧ iv = .int .i64 k ∧ Row wr 62 g3 (vk .u32 (rounds (begL ks c ns) k)) ∧ Below g3 w4 wr) (fun iv _ => 10 - (intOf iv).toNat)
  case atStart => exact ⟨0, by omega, rfl, r4, Below.refl _ _⟩
  case round =>
    clear r4
    obtain ⟨k, hk, rfl, rx, bx⟩ := hrel
    by_cases hlt : k < 10
    · have hd10 : decide ((k : Int) < 10) = true := by simp; omega
      go_wp2_with fail
      go_loopw [5] (fun iv wr => ∃ m : Nat, m ≤ 4 ∧ iv = .int .i64 m ∧ Row wr 62 g3 (vk .u32 (quarts (rounds (begL ks c ns) k) m)) ∧ Below g3 w4 wr) (fun iv _ => 4 - (intOf iv).toNat)
      case atStart => exact ⟨0, by omega, rfl, rx, bx⟩
      case round =>
        clear rx bx
        obtain ⟨m, hm, rfl, rx, bx⟩ := hrel
        have lq := hide (show (quarts (rounds (begL ks c ns) k) m).length = 16 by rw [quarts_len, rounds_len]; exact hlen.out)
        have hw : IsW (quarts (rounds (begL ks c ns) k) m) := quarts_w (rounds_w hbw _) _
        by_cases hlm : m < 4
        · have zq := hide (size_k (P := Tryd.prog) (T := 62) (kd := .u32) (n := 16) (by kernel_rfl) lq.out)
          have hAt := fun w => refAt_any (quarts (rounds (begL ks c ns) k) m) m (4 + m) (8 + m) (12 + m) w lq.out hw (by omega) (by omega) (by omega) (by omega)
          have hst : qat (quarts (rounds (begL ks c ns) k) m) m (4 + m) (8 + m) (12 + m) = quarts (rounds (begL ks c ns) k) (m + 1) := by
            have : m = 0 ∨ m = 1 ∨ m = 2 ∨ m = 3 := by omega
            rcases this with rfl | rfl | rfl | rfl <;> rfl
          rw [show ((4 + m : Nat) : Int) = 4 + (m : Int) from by omega, show ((8 + m : Nat) : Int) = 8 + (m : Int) from by omega, show ((12 + m : Nat) : Int) = 12 + (m : Int) from by omega] at hAt
          simp only [hst] at hAt
          have zs := hide (size_k (P := Tryd.prog) (T := 62) (kd := .u32) (n := 16) (by kernel_rfl) (show (quarts (rounds (begL ks c ns) k) (m + 1)).length = 16 by rw [quarts_len, rounds_len]; exact hlen.out))
          have ls := hide (show (vk .u32 (quarts (rounds (begL ks c ns) k) m)).length = (vk .u32 (quarts (rounds (begL ks c ns) k) (m + 1))).length by rw [vk_len, vk_len, quarts_len, quarts_len])
          have HAt := hide hAt
          clear hAt hst
          go_wp2_with (first
            | (with_reducible refine wl_load_row rfl 62 (.tmp 3) g3 62 _ _ rfl rfl rx Tryd.underlying62 rfl zq.out ?_))
          refine (HAt.out _).mono ?_
          rintro e w5 ⟨rfl, b5⟩
          have rx5 := rx.later b5
          have bx5 := bx.trans (b5.mono (by have := rx.lt; omega))
          clear HAt rx b5
          go_wp2_with (first
            | (with_reducible refine wl_store_row rfl 62 (.tmp 3) (.tmp 28) g3 62 _ _ rfl rfl rfl rx5 zs.out ls.out (vk_one' _ _) ?_; intro w6 r6 o6))
          have bx6 := bx5.trans (o6.below (Nat.le_refl _))
          go_roundw
          case rel => first | exact ⟨m + 1, by omega, by go_num, r6, bx6⟩ | ((repeat apply Exists.intro); refine ⟨?_, rfl⟩; exact ⟨m + 1, by omega, by go_num, r6, bx6⟩)
          case measure => simp [intOf]; omega
        · have r4' : Row wr 62 g3 (vk .u32 (quarts (rounds (begL ks c ns) k) (4 + 0))) := by rw [show m = 4 + 0 from by omega] at rx; exact rx
          clear rx lq hw
          go_wp2_with fail
          generalize Value.int .i64 (m : Int) = s5
          generalize Value.bool (decide ((m : Int) < 4)) = s17
          clear hlm hm
          go_loopw [6] (fun iv wr => ∃ m : Nat, m ≤ 4 ∧ iv = .int .i64 m ∧ Row wr 62 g3 (vk .u32 (quarts (rounds (begL ks c ns) k) (4 + m))) ∧ Below g3 w4 wr) (fun iv _ => 4 - (intOf iv).toNat)
          case atStart => exact ⟨0, by omega, rfl, r4', bx⟩
          case round =>
            clear r4' bx
            obtain ⟨m, hm, rfl, rx, bx⟩ := hrel
            have lq := hide (show (quarts (rounds (begL ks c ns) k) (4 + m)).length = 16 by rw [quarts_len, rounds_len]; exact hlen.out)
            have hw : IsW (quarts (rounds (begL ks c ns) k) (4 + m)) := quarts_w (rounds_w hbw _) _
            by_cases hlm : m < 4
            · have zq := hide (size_k (P := Tryd.prog) (T := 62) (kd := .u32) (n := 16) (by kernel_rfl) lq.out)
              have hAt := fun w => refAt_any (quarts (rounds (begL ks c ns) k) (4 + m)) m (4 + (m + 1) % 4) (8 + (m + 2) % 4) (12 + (m + 3) % 4) w lq.out hw (by omega) (by omega) (by omega) (by omega)
              have hst : qat (quarts (rounds (begL ks c ns) k) (4 + m)) m (4 + (m + 1) % 4) (8 + (m + 2) % 4) (12 + (m + 3) % 4) = quarts (rounds (begL ks c ns) k) (4 + (m + 1)) := by
                have : m = 0 ∨ m = 1 ∨ m = 2 ∨ m = 3 := by omega
                rcases this with rfl | rfl | rfl | rfl <;> rfl
              rw [show ((4 + (m + 1) % 4 : Nat) : Int) = 4 + ((m : Int) + 1) % 4 from by omega, show ((8 + (m + 2) % 4 : Nat) : Int) = 8 + ((m : Int) + 2) % 4 from by omega, show ((12 + (m + 3) % 4 : Nat) : Int) = 12 + ((m : Int) + 3) % 4 from by omega] at hAt
              simp only [hst] at hAt
              have zs := hide (size_k (P := Tryd.prog) (T := 62) (kd := .u32) (n := 16) (by kernel_rfl) (show (quarts (rounds (begL ks c ns) k) (4 + (m + 1))).length = 16 by rw [quarts_len, rounds_len]; exact hlen.out))
              have ls := hide (show (vk .u32 (quarts (rounds (begL ks c ns) k) (4 + m))).length = (vk .u32 (quarts (rounds (begL ks c ns) k) (4 + (m + 1)))).length by rw [vk_len, vk_len, quarts_len, quarts_len])
              have HAt := hide hAt
              clear hAt hst
              go_wp2_with (first
                | (with_reducible refine wl_load_row rfl 62 (.tmp 3) g3 62 _ _ rfl rfl rx Tryd.underlying62 rfl zq.out ?_))
              refine (HAt.out _).mono ?_
              rintro e w5 ⟨rfl, b5⟩
              have rx5 := rx.later b5
              have bx5 := bx.trans (b5.mono (by have := rx.lt; omega))
              clear HAt rx b5
              go_wp2_with (first
                | (with_reducible refine wl_store_row rfl 62 (.tmp 3) (.tmp 47) g3 62 _ _ rfl rfl rfl rx5 zs.out ls.out (vk_one' _ _) ?_; intro w6 r6 o6))
              have bx6 := bx5.trans (o6.below (Nat.le_refl _))
              go_roundw
              case rel => first | exact ⟨m + 1, by omega, by go_num, r6, bx6⟩ | ((repeat apply Exists.intro); refine ⟨?_, rfl⟩; exact ⟨m + 1, by omega, by go_num, r6, bx6⟩)
              case measure => simp [intOf]; omega
            · have r8' : Row wr 62 g3 (vk .u32 (rounds (begL ks c ns) (k + 1))) := by rw [show m = 4 from by omega] at rx; exact rx
              clear rx lq hw
              go_wp2
              go_roundw
              case rel => exact ⟨k + 1, by omega, by go_num, r8', bx⟩
              case measure => simp [intOf]; omega
    · have rx' : Row wr 62 g3 (vk .u32 (rounds (begL ks c ns) 10)) := by rw [show k = 10 from by omega] at rx; exact rx
      have R1' := R1.below bx g13
      clear rx
      go_wp2_with (first
        | (with_reducible refine wl_load_row rfl 26 (.tmp 1) g1 26 _ _ rfl rfl R1' Tryd.underlying26 rfl zA.out ?_))
      refine (hB _).mono ?_
      rintro e w5 ⟨rfl, b5⟩
      have rx5 := rx'.later b5
      have sx := bx.size
      have s5 := b5.size
      have B5 := (B4.trans (bx.mono A3)).trans (b5.mono (by have := B4.size; omega))
      generalize Value.int .i64 (k : Int) = s4
      generalize Value.bool (decide ((k : Int) < 10)) = s13
      clear hlt hk rx' R1' bx b5 B4 R1
      go_wp2_with (first
        | (with_reducible refine wl_alloc rfl 62 _ (vk .u32 (List.replicate 16 0)) rfl zero16' rfl ?_; intro g8 w6 r6 a6 l6 b6)
        | (with_reducible refine wl_store_row rfl 62 (.tmp 8) (.tmp 49) g8 62 _ (vk .u32 (begL ks c ns)) rfl rfl rfl r6 zb.out z0.out (vk_one' _ _) ?_; intro w7 r7 o7))
      have q7 : w7.heap.size = w6.heap.size := o7.size
      have rx7 := (rx5.later b6).only o7 (by have := rx5.lt; omega)
      have B7 := (B5.trans (b6.mono B5.size)).trans (o7.below (by have := B5.size; omega))
      clear rx5 r6 b6 o7 B5
      go_loopw [7, 9] (fun ov iv wr => ∃ i : Nat, i ≤ 16 ∧ iv = .int .i64 i ∧ wr.ownsRow w7.heap.size 5 1 ov (4 * i) (bv (blockP ks c ns i)) ∧ Below w7.heap.size w7 wr) (fun _ iv _ => 16 - (intOf iv).toNat)
      case atStart => exact ⟨0, by omega, rfl, World.ownsRow_nil _ _ _ _, Below.refl _ _⟩
      case round =>
        obtain ⟨i, hi16, rfl, hown, bx⟩ := hrel
        by_cases hi : i < 16
        · go_wp2_with fail
          have hX : w32 ((rounds (begL ks c ns) 10).getD i 0) := (rounds_w hbw _).getD i
          have hY : w32 ((begL ks c ns).getD i 0) := hbw.getD i
          have hN := hide (show ((rounds (begL ks c ns) 10).getD i 0 + (begL ks c ns).getD i 0) % 4294967296 = blockN ks c ns i from rfl)
          have cX := hide (vk_get (kd := .u32) (xs := rounds (begL ks c ns) 10) (j := i) (by rw [rounds_len, hlen.out]; omega))
          have cY := hide (vk_get (kd := .u32) (xs := begL ks c ns) (j := i) (by rw [hlen.out]; omega))
          have hP := hide (show bv (blockP ks c ns i ++ lowB (blockN ks c ns i) 4) = bv (blockP ks c ns (i + 1)) by rw [blockP_succ])
          have n0 : 0 ≤ blockN ks c ns i ∧ blockN ks c ns i < 4294967296 := by unfold blockN; omega
          obtain ⟨n0, n1⟩ := n0
          generalize (rounds (begL ks c ns) 10).getD i 0 = X at *
          generalize (begL ks c ns).getD i 0 = Y at *
          generalize blockN ks c ns i = N at *
          rename_i Q1 K1 hK1
          refine wp_region_vals [9, 10, 11] (SRb g3 g8 i u7 X Y N) (JL w7 u7 (4 * i) (4 * (i + 1)) (blockP ks c ns i) (blockP ks c ns (i + 1)) (lowB N 4)) (by kernel_rfl) (by kernel_rfl) (by kernel_rfl) (by kernel_rfl) (by kernel_rfl) (JL.mk bx.drew (fun _ => hown) (fun h => absurd h (by decide)) (fun h => absurd h (by decide)) (fun h => absurd h (by decide))) ?obs ?he
          case obs =>
            have hi0 := Hi.out
            have hz := Hz.out
            have hsz := Hs.out
            have hbys := Hb.out
            have rX := rx7
            have rY := r7
            have cX := cX.out
            have cY := cY.out
            have hN := hN.out
            have hP := hP.out
            refine ⟨?_, ?_, ?_, ?_, ?_, ?_, ?_, ?_, ?_, ?_, ?_, ?_, trivial⟩
            · exact .inl ⟨by kernel_rfl, fun L a1 w1 n h => ⟨_, rfl, run_move (.tmp 7) rfl (h.var n 7 (by kernel_rfl))⟩⟩
            · exact .inl ⟨by kernel_rfl, fun L a1 w1 n h => ⟨_, rfl, run_move (.tmp 9) rfl (h.var n 9 (by kernel_rfl))⟩⟩
            · exact .inl ⟨by kernel_rfl, fun L a1 w1 n h => ⟨_, rfl, run_index0 62 (.tmp 3) (.tmp 55) 16 23 g3 i rfl Tryd.underlying62 Tryd.sizeOf23 (h.var n 3 (by kernel_rfl)) (h.dep n 1 55 (by kernel_rfl) rfl) hi⟩⟩
            · exact .inl ⟨by kernel_rfl, fun L a1 w1 n h => ⟨_, rfl, run_loadA 23 (.tmp 56) ⟨g3, i, none⟩ rfl Tryd.isAgg23 (h.dep n 2 56 (by kernel_rfl) rfl) ((rX.later h.inv.1).cell cX)⟩⟩
            · exact .inl ⟨by kernel_rfl, fun L a1 w1 n h => ⟨_, rfl, run_move (.tmp 9) rfl (h.var n 9 (by kernel_rfl))⟩⟩
            · exact .inl ⟨by kernel_rfl, fun L a1 w1 n h => ⟨_, rfl, run_index0 62 (.tmp 8) (.tmp 58) 16 23 g8 i rfl Tryd.underlying62 Tryd.sizeOf23 (h.var n 8 (by kernel_rfl)) (h.dep n 4 58 (by kernel_rfl) rfl) hi⟩⟩
            · exact .inl ⟨by kernel_rfl, fun L a1 w1 n h => ⟨_, rfl, run_loadA 23 (.tmp 59) ⟨g8, i, none⟩ rfl Tryd.isAgg23 (h.dep n 5 59 (by kernel_rfl) rfl) ((rY.later h.inv.1).cell cY)⟩⟩
            · refine .inl ⟨by kernel_rfl, fun L a1 w1 n h => ⟨.int .u32 N, rfl, ?_⟩⟩
              have e0 : a1.eval (.tmp 57) = _ := h.dep n 3 57 (by kernel_rfl) rfl
              have e1 : a1.eval (.tmp 60) = _ := h.dep n 6 60 (by kernel_rfl) rfl
              unfold execOp
              simp only [e0, e1]
              go_simp
              rw [IntKind.wrap_u32', hN]
            · refine .inl ⟨by kernel_rfl, fun L a1 w1 n h => ⟨.int .u64 N, rfl, ?_⟩⟩
              have e0 : a1.eval (.tmp 61) = _ := h.dep n 7 61 (by kernel_rfl) rfl
              unfold execOp
              simp only [e0]
              go_simp
              rw [IntWalk.u64_in _ (by omega)]
            · refine .inr fun L a1 w1 n h K hK => ?_
              have e : a1.eval (.tmp 62) = _ := h.dep n 8 62 (by kernel_rfl) rfl
              have no : L.getD 10 false = false := n.later (by kernel_rfl)
              have no' : L.getD 11 false = false := n.later (by kernel_rfl)
              have hl := low_any N 4 w1 (by omega) (by omega) (by omega)
              refine st_call 39 _ _ #[.int .u64 N, .int .i64 ((4 : Nat) : Int)] rfl Tryd.call39 ?_ hl ?_
              · simp only [List.map_toArray, List.map_cons, List.map_nil, e]; rfl
              · rintro e2 w3 ⟨A, n2, c2, rfl, hbs, hn2, hc2, hb2⟩
                have h4 : n2 = 4 := by rw [← hbs.1]; simp [lowB_length]
                subst h4
                have hown := h.inv.2.1 no
                refine ⟨_, rfl, hK _ _ ⟨A, c2, rfl⟩ (JL.mk (h.inv.1.trans (hb2.mono h.inv.1.size)) (fun _ => own_later hown hb2) (fun h1 => ?_) (fun _ _ => ⟨A, c2, by rw [lowB_length]; rfl, by rw [lowB_length]; exact hbs⟩) (fun h5 => absurd ((show L.getD 11 false = true from h5).symm.trans no') (by decide)))⟩
                have h1' : L.getD 10 false = true := h1
                rw [no] at h1'
                cases h1'
            · refine .inr fun L a1 w1 n h K hK => ?_
              have yes : L.getD 9 false = true := n.dep (by kernel_rfl)
              have no : L.getD 10 false = false := n.not_yet
              have no' : L.getD 11 false = false := n.later (by kernel_rfl)
              obtain ⟨A, c2, hA, hbs⟩ := h.inv.2.2.2.1 yes no
              have hown := h.inv.2.1 no
              rw [lowB_length] at hA hbs
              refine st_append_bs (.tmp 54) (.tmp 63) 30 rfl w7.heap.size 5 i0 Tryd.underlying30 hi0 hz hsz hbys u7 (4 * i) _ (h.dep n 0 54 (by kernel_rfl) rfl) hown w1.heap.size A 4 c2 _ hA hbs (by omega) h.inv.1.size ?_
              intro v' w3 o3 gr3
              rw [show 4 * i + 4 = 4 * (i + 1) from by omega, hP] at o3
              exact hK _ _ trivial (JL.mk (grown_below h.inv.1 hown (Nat.le_refl _) gr3) (fun h1 => absurd (show true = false from h1) (by decide)) (fun _ => o3) (fun _ h1 => absurd (show true = false from h1) (by decide)) (fun h5 => absurd ((show L.getD 11 false = true from h5).symm.trans no') (by decide)))
            · refine .inr fun L a1 w1 n h K hK => ?_
              refine st_assign (.tmp 64) _ rfl rfl ?_
              exact hK _ _ trivial (JL.mk h.inv.1 h.inv.2.1 h.inv.2.2.1 h.inv.2.2.2.1 (fun _ => rfl))
          case he =>
            intro V w8 hV hJ
            have ho8 : w8.ownsRow w7.heap.size 5 1 (V 10) (4 * (i + 1)) (bv (blockP ks c ns (i + 1))) := hJ.2.2.1 rfl
            have hb8 : Below w7.heap.size w7 w8 := hJ.1
            have h11 : V 11 = V 10 := hJ.2.2.2.2 rfl
            clear hJ hV
            simp only [putOps, List.setIfInBounds_toArray, List.set_cons_succ, List.set_cons_zero]
            rw [h11]
            refine hK1 _ _ ?_
            go_wp2
            go_roundw
            case rel => exact ⟨i + 1, by omega, by go_num, ho8, hb8⟩
            case measure => simp [intOf]; omega
        · go_wp2_with fail
          have hi' : i = 16 := by omega
          subst hi'
          go_ret
          exact (ret_owns hown bx rfl).trans B7
end Go.Proofs.YtfpemnihknbihaaDoor
