/-
  The law RespNobody. Own work.
-/
import Derived.Test.YthjcmgjmdjihnaaDoorRespN
import Derived.Test.YthjcmgjmdjihnaaDoorVerbJ
import Derived.Test.YthjcmgjmdjihnaaDoorFrame2
namespace Go.Proofs.YthjcmgjmdjihnaaDoor
open Go.RowKit Go.Shelf
set_option linter.unusedVariables false
set_option linter.unusedSimpArgs false
/-- Bytes are a text's. -/
theorem by_nb {xs : List Int} (h : IsBy xs) : ∃ s : Wd, xs = nb s := by
  refine ⟨xs.map fun x => UInt8.ofNat x.toNat, ?_⟩
  unfold nb
  rw [List.map_map]
  conv => lhs; rw [← List.map_id xs]
  refine List.map_congr_left fun x hx => ?_
  obtain ⟨h0, h1⟩ := h x hx
  simp only [id, Function.comp, UInt8.toNat_ofNat']
  omega
theorem open_by {w : World} {B n : Nat} {A : Option Addr} {xs : List Int} (h : Bs w B A n xs) (hb : IsBy xs) : ∃ s : Wd, n = s.length ∧ Bs w B A s.length (nb s) := by
  obtain ⟨s, rfl⟩ := by_nb hb
  have : n = s.length := by rw [← nb_len]; exact h.1.symm
  subst this
  exact ⟨s, rfl, h⟩
set_option maxRecDepth 100000 in
theorem feed_nil (w : World) (u : Value) : Calls Tryd.prog 9 #[.pointer none, u] w fun e w' => e = .returned (.tuple #[.slice none 0 0, .int .i64 2]) ∧ w = w' := by
  go_enter Tryd.func9, Tryd.ntmps9
  go_wp2_with fail
  go_ret2
  exact ⟨rfl, rfl⟩
set_option maxRecDepth 100000 in
theorem feed_zero (w : World) (g : Nat) (u : Value) (r : Row w 46 g [.bool false, .slice none 0 0, .int .i64 0]) : Calls Tryd.prog 9 #[.pointer (some ⟨g, 0, none⟩), u] w fun e w' => e = .returned (.tuple #[.slice none 0 0, .int .i64 2]) ∧ w = w' := by
  have c0 := r.cell (j := 0) rfl
  clear r
  go_enter Tryd.func9, Tryd.ntmps9
  go_wp2_with fail
  go_ret2
  exact ⟨rfl, rfl⟩
set_option maxRecDepth 100000 in
theorem left_zero (w : World) (g : Nat) (r : Row w 46 g [.bool false, .slice none 0 0, .int .i64 0]) : Calls Tryd.prog 12 #[.pointer (some ⟨g, 0, none⟩)] w fun e w' => e = .returned (.int .i64 0) ∧ w = w' := by
  have c1 := r.cell (j := 1) rfl
  clear r
  go_enter Tryd.func12, Tryd.ntmps12
  go_wp2_with fail
  go_ret
  exact ⟨rfl, rfl⟩
theorem ppInfo : ∃ i, Tryd.prog.info? 24 = some i ∧ i.zero = some (.pointer none) ∧ i.size = 1 := by
  have h : (Tryd.prog.info? 24).map (fun i => (i.zero, i.size)) = some (some (.pointer none), 1) := by kernel_rfl
  cases hq : Tryd.prog.info? 24 with
  | none => rw [hq] at h; cases h
  | some i =>
    rw [hq] at h
    simp only [Option.map_some, Option.some.injEq, Prod.mk.injEq] at h
    exact ⟨i, rfl, h.1, h.2⟩
/-- A new parser is fed: what is new is so. -/
theorem feed_new (w0 w : World) (g : Nat) (b : Wd) (A : Option Addr) (c : Nat) (h : PsAt w g w0.heap.size (.slice none 0 0) [] 0) (hb : Bs w w.heap.size A b.length (nb b)) (hT : TabB w w0.heap.size) (hg : w0.heap.size ≤ g) (hlen : b.length ≤ 6000) :
    Calls Tryd.prog 9 #[.pointer (some ⟨g, 0, none⟩), .slice A b.length c] w fun e w' => ∃ lv v', e = .returned (.tuple #[lv, .int .i64 ((feedL [] 0 b).2.2 : Int)]) ∧ OwC w' w.heap.size lv (feedL [] 0 b).1 ∧ PsAt w' g w0.heap.size v' (feedL [] 0 b).2.1 (feedL [] 0 b).2.2 ∧ (∀ k, v'.ownBlock = some k → w.heap.size ≤ k) ∧ ButZ [g] w w' := by
  refine (feed_go w g w0.heap.size _ [] b A c h hb hT hg (by rw [List.nil_append]; exact Nat.le_trans (pars_count _) (by omega)) (.inl (by simp; omega))).mono ?_
  rintro e w' ⟨lv, v', he, oc, ps, hv, bz⟩
  refine ⟨lv, v', he, oc, ps, fun k hk => (hv k hk).elim (fun h => by cases h) id, ?_⟩
  exact bz
set_option maxRecDepth 100000 in
set_option maxHeartbeats 4000000 in
theorem nobody_any (W : World) (b m : Wd) (A0 A1 : Option Addr) (c0 c1 : Nat) (hb : Bs W W.heap.size A0 b.length (nb b)) (hm : Bs W W.heap.size A1 m.length (nb m)) (hT : TabV W) :
    Calls Tryd.prog 6 #[.slice A0 b.length c0, .slice A1 m.length c1] W fun e w' => e = .returned (.bool true) ∧ Below W.heap.size W w' := by
  have hTb := hide (TabB.of hT)
  have HA := hide (fun (w : World) (hw : Below W.heap.size W w) => awake_any w (hTb.out.below hw).here)
  have hb9 := hide hb
  have hm9 := hide hm
  clear hb hm hT
  by_cases hbig : b.length ≤ 6000 ∧ m.length ≤ 6000
  · obtain ⟨hb6, hm6⟩ := hbig
    have hbI : ¬ (6000 : Int) < (b.length : Int) := by omega
    have hmI : ¬ (6000 : Int) < (m.length : Int) := by omega
    have hb69 := hide hb6
    have hz : Tryd.prog.built 46 [] = some [Value.bool false, .slice none 0 0, .int .i64 0].toArray := by kernel_rfl
    obtain ⟨ip, hip, hiz, his⟩ := ppInfo
    obtain ⟨n0, hn0⟩ : ∃ n, n = b.length := ⟨_, rfl⟩
    obtain ⟨n1, hn1⟩ : ∃ n, n = m.length := ⟨_, rfl⟩
    rw [← hn0] at hbI ⊢
    rw [← hn1] at hmI ⊢
    replace hn0 := hide hn0
    replace hn1 := hide hn1
    clear hb6 hm6
    go_enter Tryd.func6, Tryd.ntmps6
    go_wp2_with (first
      | (with_reducible refine wl_build (o := ⟨some 23, _, _, _, _, _⟩) rfl 46 [] rfl [] rfl [.bool false, .slice none 0 0, .int .i64 0] hz ?_)
      | (with_reducible refine wl_box (o := ⟨some 24, _, _, _, _, _⟩) rfl 46 (.tmp 23) (.agg #[.bool false, .slice none 0 0, .int .i64 0]) [.bool false, .slice none 0 0, .int .i64 0] rfl rfl rfl ?_; intro gz w1 rz1 pz1 lz1 bz1)
      | (with_reducible refine wl_buildN (o := ⟨some 25, _, _, _, _, _⟩) rfl 47 2 [(0, .const (.pointer none)), (1, .tmp 24)] rfl 24 ip (.pointer none) 1 [.pointer none, .pointer (some ⟨gz, 0, none⟩)] [[.pointer none], [.pointer (some ⟨gz, 0, none⟩)]] Tryd.underlying47 hip hiz rfl his (by decide) (by decide) (by decide) rfl rfl (by simp [cellsOk, Value.cells]) ?_; intro gs w2 rs2 ps2 ls2 bs2; have rz2 := rz1.later bs2; have B2 : Below W.heap.size W w2 := bz1.trans (bs2.mono bz1.size)))
    go_loopw [6, 7, 8] (fun iv xv ev wr => ∃ i : Nat, i ≤ 2 ∧ iv = .int .i64 (i : Int) ∧ wr = w2) (fun iv _ _ _ => 2 - (intOf iv).toNat)
    case atStart => exact ⟨0, by omega, rfl, rfl⟩
    case round =>
      obtain ⟨i, hi, rfl, rfl⟩ := hrel
      by_cases hlt : i < 2
      · have hltI : (i : Int) < 2 := by omega
        obtain ⟨pv, c0', HFp, HLp⟩ : ∃ pv, wr.cell? ⟨gs, i, none⟩ = some pv ∧ (∀ u, Calls Tryd.prog 9 #[pv, u] wr fun e w' => e = .returned (.tuple #[.slice none 0 0, .int .i64 2]) ∧ wr = w') ∧ Calls Tryd.prog 12 #[pv] wr fun e w' => e = .returned (.int .i64 0) ∧ wr = w' := by
          rcases (show i = 0 ∨ i = 1 by omega) with rfl | rfl
          · exact ⟨_, rs2.cell (j := 0) rfl, feed_nil wr, left_nil wr⟩
          · exact ⟨_, rs2.cell (j := 1) rfl, fun u => feed_zero wr gz u rz2, left_zero wr gz rz2⟩
        have HF2 := HFp (.slice A0 n0 c0)
        replace HFp := hide HFp
        replace HLp := hide HLp
        have hi9 := hide hi
        have hwp : IntKind.i64.wrap (0 + 0) = 0 := by decide
        clear hi
        go_wp2_with (first
          | (with_reducible refine wl_run (o := ⟨some 35, _, _, _, _, _⟩) rfl (.pointer (some ⟨gs, 0 + i * 1, none⟩)) (run_idxO 47 (.tmp 33) (.tmp 34) 24 1 gs 0 2 2 i rfl Tryd.underlying47 Tryd.sizeOf24 rfl rfl hlt) ?_))
        refine HF2.mono ?_
        rintro e w3 ⟨rfl, rfl⟩
        clear HF2
        go_wp2_with (first
          | (with_reducible refine wl_run (o := ⟨some 45, _, _, _, _, _⟩) rfl (.pointer (some ⟨gs, 0 + i * 1, none⟩)) (run_idxO 47 (.tmp 43) (.tmp 44) 24 1 gs 0 2 2 i rfl Tryd.underlying47 Tryd.sizeOf24 rfl rfl hlt) ?_))
        refine HLp.out.mono ?_
        rintro e w3 ⟨rfl, rfl⟩
        go_wp2_with fail
        go_roundw
        case rel => exact ⟨i + 1, by omega, by go_num, trivial⟩
        case measure => simp [intOf]; omega
      · obtain rfl : i = 2 := by omega
        clear hlt hi
        go_wp2_with fail
        refine (new_ps wr).mono ?_
        rintro e w3 ⟨gp, rfl, ps3, p3, l3, b3⟩
        have B3 := B2.trans (b3.mono B2.size)
        have HF3 := feed_new wr w3 gp b A0 c0 ps3 (hb9.out.later B3) ((hTb.out.below B3).up B2.size) p3 hb69.out
        rw [← hn0.out] at HF3
        clear ps3 rs2 rz2
        go_wp2_with fail
        refine HF3.mono ?_
        rintro e w4 ⟨lv, v4, rfl, oc4, ps4, hv4, bz4⟩
        clear HF3
        have B34 : Below wr.heap.size w3 w4 := bz4.below (by intro k hk; simp at hk; omega) b3.size
        have B4 : Below W.heap.size W w4 := B3.trans (B34.mono B2.size)
        obtain ⟨F, hF⟩ : ∃ F, F = feedL [] 0 b := ⟨_, rfl⟩
        have hf2 := hide (show F.2.2 ≠ 0 → F.2.1 = [] by
          intro h0
          rw [hF] at h0 ⊢
          unfold feedL at h0 ⊢
          rw [if_pos rfl] at h0 ⊢
          by_cases he : (pars ([] ++ b)).2.2 = 0
          · rw [if_pos he] at h0; exact absurd rfl h0
          · rw [if_neg he])
        rw [← hF] at oc4 ps4 ⊢
        obtain ⟨cm, lf, pe⟩ := F
        simp only at oc4 ps4 hf2 ⊢
        clear hF oc4 hv4 bz4
        by_cases hpe : pe = 0
        · subst hpe
          have HA2 := HA.out w4 B4
          go_wp2_with fail
          refine HA2.mono ?_
          rintro e w5 ⟨rfl, b5⟩
          go_wp2_with fail
          go_ret
          exact ⟨rfl, B4.trans (b5.mono B4.size)⟩
        · obtain rfl := hf2.out hpe
          have hpb : ((pe : Int) == 0) = false := by rw [beq_eq_false_iff_ne]; omega
          have HF5 := feed_fl w4 gp wr.heap.size v4 [] pe m A1 c1 ps4 hpe
          unfold FeedRes at HF5
          rw [feed_fault hpe, ← hn1.out] at HF5
          replace ps4 := hide ps4
          go_wp2_with fail
          refine HF5.mono ?_
          rintro e w5 ⟨lv5, v5, rfl, oc5, ps5, hv5, bz5⟩
          simp only at ps5 oc5 ⊢
          obtain ⟨A7, c7, rfl⟩ := oc5.slice
          have B45 : Below wr.heap.size w4 w5 := bz5.below (by
            intro k hk
            rcases List.mem_cons.1 hk with rfl | hk
            · exact p3
            · unfold ownL at hk
              cases ho : v4.ownBlock with
              | none => rw [ho] at hk; simp at hk
              | some q =>
                rw [ho] at hk
                simp at hk
                subst hk
                exact (ps4.out.2.1.lt _ ho).1) (Nat.le_trans b3.size B34.size)
          have B5 : Below W.heap.size W w5 := B4.trans (B45.mono B2.size)
          have HL5 := left_ps w5 gp wr.heap.size v5 [] pe ps5
          have HA5 := HA.out w5 B5
          clear HF5 oc5 ps5 hv5 bz5
          go_wp2_with fail
          refine HL5.mono ?_
          rintro e w6 ⟨rfl, rfl⟩
          have hpp : ((pe : Int) == (pe : Int)) = true := by simp
          clear HL5
          go_wp2_with fail
          refine HA5.mono ?_
          rintro e w7 ⟨rfl, b7⟩
          go_wp2_with fail
          go_ret
          exact ⟨rfl, B5.trans (b7.mono B5.size)⟩
  · have HA2 := HA.out W (Below.refl _ _)
    by_cases hb6 : b.length ≤ 6000
    · have hbI : ¬ (6000 : Int) < (b.length : Int) := by omega
      have hmI : (6000 : Int) < (m.length : Int) := by omega
      go_enter Tryd.func6, Tryd.ntmps6
      go_wp2_with fail
      refine HA2.mono ?_
      rintro e w5 ⟨rfl, b5⟩
      go_wp2_with fail
      go_ret
      exact ⟨rfl, b5⟩
    · have hbI : (6000 : Int) < (b.length : Int) := by omega
      go_enter Tryd.func6, Tryd.ntmps6
      go_wp2_with fail
      refine HA2.mono ?_
      rintro e w5 ⟨rfl, b5⟩
      go_wp2_with fail
      go_ret
      exact ⟨rfl, b5⟩
end Go.Proofs.YthjcmgjmdjihnaaDoor
