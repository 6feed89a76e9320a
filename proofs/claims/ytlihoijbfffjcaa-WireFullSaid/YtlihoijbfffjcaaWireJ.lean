/-
  The law WireFull: contract. Own work.
-/
import Derived.Test.YtlihoijbfffjcaaWireH
namespace Go.Proofs.Ytlihoijbfffjcaa
open Go.RowKit Go.Conc
set_option linter.unusedVariables false
set_option linter.unusedSimpArgs false
/-- The two ways of WireFull after i rounds. -/
structure FullAt (wr : World) (B gw : Nat) (nv : Value) (i : Nat) (gone : Bool) (l0 l1 : Way) : Prop where
  net : NetAt wr B gw nv [l0, l1]
  len : l0.fs.length = min i 200
  gon : l0.gone = if gone then min i 200 else 0
  one : ∀ p ∈ l0.fs, p.2.length = 1
  bare : l1.fs = []
set_option maxRecDepth 100000 in
set_option maxHeartbeats 2000000 in
theorem wireFull_any (m : Nat) (gone : Bool) (w : World) (hm : m < 256) :
    Calls Try.prog 16 #[.int .u8 m, .bool gone] w fun e w' => e = .returned (.bool true) ∧ Below w.heap.size w w' := by
  go_enter Try.func16, Try.ntmps16
  go_wp2_with fail
  refine (new_some w 2 (by decide) (by decide)).mono ?_
  rintro en w1 ⟨gw, nv, ls, rfl, hN, hlen, hbare, b1⟩
  obtain ⟨B, hBe⟩ : ∃ B, B = w.heap.size := ⟨_, rfl⟩
  rw [← hBe] at hN b1
  have hBw : B ≤ w.heap.size := Nat.le_of_eq hBe
  have h0 : ∃ l0 l1, FullAt w1 B gw nv 0 gone l0 l1 := by
    match ls, hlen with
    | [l0, l1], _ =>
      have q0 := hbare l0 (by simp)
      have q1 := hbare l1 (by simp)
      refine ⟨l0, l1, hN, by rw [q0.1]; rfl, by rw [q0.2]; simp, ?_, q1.1⟩
      intro p hp
      rw [q0.1] at hp
      cases hp
  clear hN hlen hbare
  go_wp2_with fail
  go_loopw [6] (fun iv wr => ∃ (i : Nat) (l0 l1 : Way), i ≤ m ∧ iv = .int .i64 i ∧ FullAt wr B gw nv i gone l0 l1 ∧ Below B w wr) (fun iv _ => m - (intOf iv).toNat)
  case atStart =>
    obtain ⟨l0, l1, h0⟩ := h0
    exact ⟨0, l0, l1, by omega, rfl, h0, b1⟩
  case round =>
    clear h0 b1
    obtain ⟨i, l0, l1, him, rfl, hF, hBr⟩ := hrel
    by_cases hi : i < m
    · have hlit : Bs (wr.alloc (.cells #[.int .u8 (i : Int)] 5)) (wr.alloc (.cells #[.int .u8 (i : Int)] 5)).heap.size (some ⟨wr.heap.size, 0, none⟩) 1 [(i : Int)] := Bs.lit' wr 5 _ [(i : Int)] #[.int .u8 (i : Int)] 1 _ rfl rfl rfl
      have b2 : Below wr.heap.size wr (wr.alloc (.cells #[.int .u8 (i : Int)] 5)) := (Below.refl _ _).alloc (Nat.le_refl _) _
      have hBs : B ≤ wr.heap.size := Nat.le_trans hBw hBr.size
      have hN2 := hF.net.later b2
      obtain ⟨_, q1, q2, q3, q4⟩ := hF
      have HQ := hide (And.intro q1 (And.intro q2 (And.intro q3 q4)))
      clear q1 q2 q3 q4
      by_cases hf : i < 200
      · go_wp2_with fail
        have HS := nsend_room _ B gw (Nat.le_trans hBs b2.size) nv _ hN2 0 l0 rfl (by have := HQ.out.1; omega) _ 1 1 [(i : Int)] hlit (by decide)
        refine HS.mono ?_
        rintro en w2 ⟨rfl, v1, bv1, hN3, b3⟩
        have hN3 : NetAt w2 B gw nv [l0.sent v1 [(i : Int)] bv1, l1] := hN3
        have B2 : Below B w _ := hBr.trans (b2.mono hBs)
        have B3 : Below B w w2 := B2.trans (b3.below (blk_lo hN2 (i := 0) rfl) (Nat.le_trans hBw B2.size))
        have k1 : (l0.sent v1 [(i : Int)] bv1).fs.length = min (i + 1) 200 := by have := HQ.out.1; simp [Way.sent]; omega
        have k3 : ∀ p ∈ (l0.sent v1 [(i : Int)] bv1).fs, p.2.length = 1 := by
          intro p hp
          rcases List.mem_append.1 hp with h | h
          · exact HQ.out.2.2.1 p h
          · simp at h; rw [h]; rfl
        clear HS hlit b2 hN2 b3 B2
        cases gone with
        | false =>
          have k2 : (l0.sent v1 [(i : Int)] bv1).gone = if false then min (i + 1) 200 else 0 := HQ.out.2.1
          have hF3 : FullAt w2 B gw nv (i + 1) false _ l1 := ⟨hN3, k1, k2, k3, HQ.out.2.2.2⟩
          clear hN3 k1 k2 k3
          go_wp2_with fail
          go_roundw
          case rel => exact ⟨i + 1, _, _, by omega, by go_num, hF3, B3⟩
          case measure => simp [intOf]; omega
        | true =>
          have k2 : (l0.sent v1 [(i : Int)] bv1).gone = min i 200 := HQ.out.2.1
          generalize l0.sent v1 [(i : Int)] bv1 = l2 at *
          obtain ⟨⟨v, xs⟩, hv, hx⟩ : ∃ p, l2.fs[l2.gone]? = some p ∧ p.2.length = 1 := by
            have hk : l2.gone < l2.fs.length := by omega
            exact ⟨_, List.getElem?_eq_getElem hk, k3 _ (List.getElem_mem hk)⟩
          have hN4 := nnext_some w2 B gw nv _ hN3 0 l2 rfl v xs hv (by simp only at hx; omega)
          have HQ2 := hide (And.intro k1 (And.intro k2 k3))
          clear k1 k2 k3 hv hx
          go_wp2_with fail
          refine hN4.mono ?_
          rintro en w5 ⟨A1, n1, c1, w4, rfl, ho1, hN5, b5, b6⟩
          have hN6 : NetAt w5 B gw nv [{ l2 with gone := l2.gone + 1 }, l1] := hN5.later b6
          have B5 : Below B w w4 := B3.trans (b5.below (blk_lo hN3 (i := 0) rfl) (Nat.le_trans hBw B3.size))
          have B6 : Below B w w5 := B5.trans (b6.mono (Nat.le_trans hBw B5.size))
          have hF3 : FullAt w5 B gw nv (i + 1) true _ l1 := ⟨hN6, HQ2.out.1, by have := HQ2.out.2.1; simp; omega, HQ2.out.2.2, HQ.out.2.2.2⟩
          clear ho1 hN5 b5 b6 B5 hN3 hN4 hN6
          go_wp2_with fail
          go_roundw
          case rel => exact ⟨i + 1, _, _, by omega, by go_num, hF3, B6⟩
          case measure => simp [intOf]; omega
      · go_wp2_with fail
        have HS := nsend_full _ B gw nv _ hN2 0 l0 rfl (by have := HQ.out.1; omega) _ 1 1 [(i : Int)] hlit (by decide)
        refine HS.mono ?_
        rintro en w2 ⟨rfl, b3⟩
        have hN3 : NetAt w2 B gw nv [l0, l1] := hN2.later b3
        have B2 : Below B w _ := hBr.trans (b2.mono hBs)
        have B3 : Below B w w2 := B2.trans (b3.mono (Nat.le_trans hBw B2.size))
        clear HS hlit b2 hN2 b3 B2
        cases gone with
        | false =>
          have hF3 : FullAt w2 B gw nv (i + 1) false l0 l1 := ⟨hN3, by have := HQ.out.1; omega, HQ.out.2.1, HQ.out.2.2.1, HQ.out.2.2.2⟩
          clear hN3
          go_wp2_with fail
          go_roundw
          case rel => exact ⟨i + 1, _, _, by omega, by go_num, hF3, B3⟩
          case measure => simp [intOf]; omega
        | true =>
          have hF3 : FullAt w2 B gw nv (i + 1) true l0 l1 := ⟨hN3, by have := HQ.out.1; omega, by have := HQ.out.2.1; simp at this ⊢; omega, HQ.out.2.2.1, HQ.out.2.2.2⟩
          have hN4 := nnext_none w2 B gw nv _ hN3 0 l0 rfl (by have := HQ.out.1; have := HQ.out.2.1; simp at this; omega)
          clear hN3
          go_wp2_with fail
          refine hN4.mono ?_
          rintro en w5 ⟨rfl, rfl⟩
          clear hN4
          go_wp2_with fail
          go_roundw
          case rel => exact ⟨i + 1, _, _, by omega, by go_num, hF3, B3⟩
          case measure => simp [intOf]; omega
    · obtain rfl : i = m := by omega
      have hnil := fun w => lane_nil w 0
      have hne := fun w => next_no w (.pointer none) 0 (hnil w)
      have hpi := fun w => pick_no w (.pointer none) 0 0 (hnil w)
      have hse := fun w => send_no w (.pointer none) 0 none 0 0 (hnil w)
      have hlo := fun w => lose_no w (.pointer none) 0 (hnil w)
      have hco := fun w => count_no w (.pointer none) 0 (hnil w)
      have hwa := fun w => waiting_no w (.pointer none) 0 (hnil w)
      have hN := hF.net
      have hl := hF.len
      have hb := hF.bare
      have hCt := ncount_in wr B gw nv _ hN 0 l0 rfl
      have hlm : ((l0.fs.length : Nat) : Int) = if 200 < (i : Int) then 200 else (i : Int) := by rw [hl]; split <;> omega
      clear hl hF
      generalize ((l0.fs.length : Nat) : Int) = cc at *
      have HB := hide hb
      clear hb
      have hlast : Bs wr wr.heap.size none 0 [] := Bs.nil_
      have hBs : B ≤ wr.heap.size := Nat.le_trans hBw hBr.size
      have HS := nsend_room wr B gw hBs nv _ hN 1 l1 rfl (by rw [HB.out]; decide) none 0 0 [] hlast (by decide)
      by_cases h2 : 200 < (i : Int)
      · rw [if_pos h2] at hlm
        subst hlm
        go_wp2_with fail
        refine (hne wr).mono ?_
        rintro en w2 ⟨rfl, rfl⟩
        go_wp2_with fail
        refine (hpi wr).mono ?_
        rintro en w2 ⟨rfl, rfl⟩
        go_wp2_with fail
        refine hCt.mono ?_
        rintro en w2 ⟨rfl, rfl⟩
        go_wp2_with fail
        refine HS.mono ?_
        rintro en w2 ⟨rfl, v1, bv1, hN3, b3⟩
        have B3 : Below B w w2 := hBr.trans (b3.below (blk_lo hN (i := 1) rfl) hBs)
        clear hN3 b3 HS hCt
        go_wp2_with fail
        refine (hse w2).mono ?_
        rintro en w3 ⟨rfl, rfl⟩
        go_wp2_with fail
        refine (hlo w2).mono ?_
        rintro en w3 ⟨rfl, rfl⟩
        go_wp2_with fail
        refine (hco w2).mono ?_
        rintro en w3 ⟨rfl, rfl⟩
        go_wp2_with fail
        refine (hwa w2).mono ?_
        rintro en w3 ⟨rfl, rfl⟩
        go_wp2_with fail
        refine (awake_any w2).mono ?_
        rintro en w3 ⟨rfl, b7⟩
        go_wp2_with fail
        go_ret
        exact ⟨rfl, hBe ▸ (B3.trans (b7.mono (Nat.le_trans hBw B3.size)))⟩
      · rw [if_neg h2] at hlm
        subst hlm
        go_wp2_with fail
        refine (hne wr).mono ?_
        rintro en w2 ⟨rfl, rfl⟩
        go_wp2_with fail
        refine (hpi wr).mono ?_
        rintro en w2 ⟨rfl, rfl⟩
        go_wp2_with fail
        refine hCt.mono ?_
        rintro en w2 ⟨rfl, rfl⟩
        go_wp2_with fail
        refine HS.mono ?_
        rintro en w2 ⟨rfl, v1, bv1, hN3, b3⟩
        have B3 : Below B w w2 := hBr.trans (b3.below (blk_lo hN (i := 1) rfl) hBs)
        clear hN3 b3 HS hCt
        go_wp2_with fail
        refine (hse w2).mono ?_
        rintro en w3 ⟨rfl, rfl⟩
        go_wp2_with fail
        refine (hlo w2).mono ?_
        rintro en w3 ⟨rfl, rfl⟩
        go_wp2_with fail
        refine (hco w2).mono ?_
        rintro en w3 ⟨rfl, rfl⟩
        go_wp2_with fail
        refine (hwa w2).mono ?_
        rintro en w3 ⟨rfl, rfl⟩
        go_wp2_with fail
        refine (awake_any w2).mono ?_
        rintro en w3 ⟨rfl, b7⟩
        go_wp2_with fail
        go_ret
        exact ⟨rfl, hBe ▸ (B3.trans (b7.mono (Nat.le_trans hBw B3.size)))⟩
end Go.Proofs.Ytlihoijbfffjcaa
