/-
  The law ZsetNobody. Own work.
-/
import Derived.Test.YtfklfgaomcbchaaZsetZg
namespace Go.Proofs.Ytfklfgaomcbchaa
open Go.RowKit Go.Shelf
set_option linter.unusedVariables false
set_option linter.unusedSimpArgs false
def SNb9 (g3 : Nat) (vz : Value) (ad : Bool) (am : Nm) (as' nz : Int) (opn : Nat) (v : Value) : Prop :=
  match opn with
  | 0 | 7 | 22 | 28 | 33 | 43 => v = vz
  | 1 | 8 => v = .pointer (some ⟨g3, 1, none⟩)
  | 2 | 9 => v = encStr am
  | 3 | 35 => v = .pointer (some ⟨g3, 2, none⟩)
  | 4 | 36 => v = .int .i64 as'
  | 5 | 6 | 10 | 11 | 12 | 13 | 14 | 15 | 16 | 17 | 18 | 19 | 20 | 21 | 40 | 41 | 42 | 45 | 46 => v = .bool false
  | 23 | 24 | 25 | 26 | 27 | 31 | 32 | 38 | 39 => v = .int .i64 0
  | 29 | 34 => v = .int .i64 nz
  | 30 | 37 => v = .slice none 0 0
  | 44 => v = .pointer none
  | _ => True

def SNb12 (g16 g4 : Nat) (am bm : Nm) (as' bs : Int) (q : Bool) (opn : Nat) (v : Value) : Prop :=
  match opn with
  | 0 | 3 => v = .agg [encStr am, .int .i64 as'].toArray
  | 1 | 4 | 8 | 9 => v = .agg [encStr bm, .int .i64 bs].toArray
  | 2 | 5 => v = .bool q
  | 6 | 7 | 11 | 12 | 13 | 14 | 15 | 16 => v = .bool true
  | 10 => v = .bool false
  | _ => True

theorem builtSet0 : Try.prog.built 52 [] = some [.map none, .pointer none].toArray := by kernel_rfl
theorem pset_info : ∃ i, Try.prog.info? 25 = some i ∧ i.zero = some (.pointer none) ∧ i.size = 1 ∧ i.bytes = 8 := by
  have h : (Try.prog.info? 25).map (fun i => (i.zero, i.size, i.bytes)) = some (some (.pointer none), 1, 8) := by kernel_rfl
  exact info_parts h
set_option maxRecDepth 100000 in
set_option maxHeartbeats 800000 in
theorem zsetNobody_any (w : World) (a : ZA) (s : Sc) (nz : Int) (ham : a.m.length ≤ maxLen) : Calls Try.prog 8 #[.agg a.cells.toArray, s.val, .int .i64 nz] w fun e w' => e = .returned (.bool true) ∧ Below w.heap.size w w' := by
  have HA := awake_any
  obtain ⟨ip, hip, hiz, his, hib⟩ := pset_info
  have hbs := builtSet0
  obtain ⟨ad, am, as'⟩ := a
  obtain ⟨bm, bs⟩ := s
  go_enter Try.func8, Try.ntmps8
  go_wp2_with (first
    | (with_reducible refine wl_box (o := ⟨some 3, _, _, _, _, _⟩) rfl 43 (.tmp 0) _ [.bool ad, encStr am, .int .i64 as'] rfl rfl rfl ?_; intro g3 w3 r3 p3 l3 b3)
    | (with_reducible refine wl_box (o := ⟨some 4, _, _, _, _, _⟩) rfl 35 (.tmp 1) _ [encStr bm, .int .i64 bs] rfl rfl rfl ?_; intro g4 w4 r4 p4 l4 b4)
    | (with_reducible refine wl_build (o := ⟨some 17, _, _, _, _, _⟩) rfl 52 [] rfl [] rfl [.map none, .pointer none] hbs ?_)
    | (with_reducible refine wl_box (o := ⟨some 18, _, _, _, _, _⟩) rfl 52 (.tmp 17) _ [.map none, .pointer none] rfl rfl rfl ?_; intro g18 w18 r18 p18 l18 b18)
    | (refine wl_buildN (o := ⟨some 19, _, _, _, _, _⟩) rfl 53 2 [(0, .const (.pointer none)), (1, .tmp 18)] rfl 25 ip (.pointer none) 1 [.pointer none, ptr g18] [[.pointer none], [ptr g18]] Try.underlying53 hip hiz rfl his (by decide) (by decide) (by decide) rfl rfl (by simp [cellsOk, Value.cells]) ?_; intro g19 w19 r19 p19 l19 b19))
  have B4 := b3.trans (b4.mono b3.size)
  have B18 := B4.trans (b18.mono B4.size)
  have B19 := B18.trans (b19.mono B18.size)
  have r3 := ((r3.later b4).later b18).later b19
  have r4 := (r4.later b18).later b19
  have r18 := r18.later b19
  have hwb19 := B19.size
  clear b3 b4 b18 b19 B4 B18 p3 p4 p18 p19 l3 l4 l18 l19
  go_loopw [8] (fun iv wr => ∃ i : Nat, i ≤ 2 ∧ iv = .int .i64 (i : Int) ∧ Below w19.heap.size w19 wr) (fun iv _ => 2 - (intOf iv).toNat)
  case atStart => exact ⟨0, by omega, rfl, Below.refl _ _⟩
  case round =>
    obtain ⟨i, hi, rfl, BW⟩ := hrel
    have hwb := BW.size
    have r3 := r3.later BW
    have r4 := r4.later BW
    by_cases hlt : i < 2
    · have hltI : (i : Int) < 2 := by omega
      obtain ⟨vz, hv, c⟩ : ∃ vz, NoSet wr vz ∧ wr.cell? ⟨g19, i, none⟩ = some vz := by
        have hi2 : i = 0 ∨ i = 1 := by omega
        rcases hi2 with rfl | rfl
        · exact ⟨.pointer none, .inl rfl, (r19.later BW).cell (j := 0) rfl⟩
        · exact ⟨ptr g18, .inr ⟨g18, rfl, r18.later BW⟩, (r19.later BW).cell (j := 1) rfl⟩
      have c1 := r3.cell (j := 1) rfl
      go_wp2_with (first
        | (with_reducible refine wl_run (o := ⟨some 28, _, _, _, _, _⟩) rfl (.pointer (some ⟨g19, 0 + i * 1, none⟩)) (run_indexSlN 53 (.tmp 26) (.tmp 27) 25 1 g19 0 2 2 i rfl Try.underlying53 Try.sizeOf25 rfl rfl hlt) ?_))
      refine (score_no wr vz am ham hv).mono ?_
      rintro e w2 ⟨rfl, rfl⟩
      go_wp2_with fail
      refine (rank_nos wr vz am ham hv).mono ?_
      rintro e w2 ⟨rfl, b2⟩
      clear c c1
      have hv2 := hv.later b2
      go_wp2_with fail
      refine (at_nos w2 vz nz hv2).mono ?_
      rintro e w5 ⟨rfl, b5⟩
      go_wp2_with (first
        | (with_reducible refine wl_alloc (o := ⟨some 14, _, _, _, _, _⟩) rfl 35 _ [encStr [], .int .i64 0] rfl rfl rfl ?_; intro g14 w6 r6 p6 l6 b6)
        | (with_reducible refine wl_store_row rfl 35 (.tmp 14) (.tmp 48) g14 35 _ [encStr [], .int .i64 0] rfl rfl rfl r6 szSc0 rfl (by simp [Value.oneCell', encStr]) ?_; intro w7 r7 o7))
      have b7 : Below wr.heap.size wr w7 := (b2.trans (b5.mono b2.size)).trans ((b6.trans (o7.below p6)).mono (b2.trans (b5.mono b2.size)).size)
      have hb7 := b7.size
      have hv := hv.later b7
      have r3 := r3.later b7
      clear b2 b5 b6 o7 p6 l6 r6 r7 hv2
      rename_i K9 hK9
      refine wp_region_valsG [5, 10, 23, 30, 37, 44] (SNb9 g3 vz ad am as' nz) (fun _ _ wz => Below w7.heap.size w7 wz) (by kernel_rfl) (by kernel_rfl) (by kernel_rfl) (by kernel_rfl) ((Below.refl _ _).drew) ?obs9 ?he9
      case obs9 =>
        refine ⟨?_, ?_, ?_, ?_, ?_, ?_, ?_, ?_, ?_, ?_, ?_, ?_, ?_, ?_, ?_, ?_, ?_, ?_, ?_, ?_, ?_, ?_, ?_, ?_, ?_, ?_, ?_, ?_, ?_, ?_, ?_, ?_, ?_, ?_, ?_, ?_, ?_, ?_, ?_, ?_, ?_, ?_, ?_, ?_, ?_, ?_, ?_, trivial⟩
        · refine ⟨.inl rfl, ?_⟩
          exact .inl ⟨by kernel_rfl, fun L a1 w1 n h => ⟨_, rfl, run_move (.tmp 9) rfl (h.var n 9 (by kernel_rfl))⟩⟩
        · refine ⟨.inl rfl, ?_⟩
          refine .inl ⟨by kernel_rfl, fun L a1 w1 n h => ⟨.pointer (some ⟨g3, 1, none⟩), rfl, ?_⟩⟩
          have e0 : a1.eval (.tmp 3) = _ := h.var n 3 (by kernel_rfl)
          unfold execOp
          simp only [e0]
          go_simp
        · refine ⟨.inl rfl, ?_⟩
          exact .inl ⟨by kernel_rfl, fun L a1 w1 n h => ⟨_, rfl, run_loadA 9 (.tmp 51) ⟨g3, 1, none⟩ rfl Try.isAgg9 (h.dep n 1 51 (by kernel_rfl) rfl) ((Row.later r3 h.inv).cell (j := 1) (v := encStr am) rfl)⟩⟩
        · refine ⟨.inl rfl, ?_⟩
          refine .inl ⟨by kernel_rfl, fun L a1 w1 n h => ⟨.pointer (some ⟨g3, 2, none⟩), rfl, ?_⟩⟩
          have e0 : a1.eval (.tmp 3) = _ := h.var n 3 (by kernel_rfl)
          unfold execOp
          simp only [e0]
          go_simp
        · refine ⟨.inl rfl, ?_⟩
          exact .inl ⟨by kernel_rfl, fun L a1 w1 n h => ⟨_, rfl, run_loadA 3 (.tmp 53) ⟨g3, 2, none⟩ rfl Try.isAgg3 (h.dep n 3 53 (by kernel_rfl) rfl) ((Row.later r3 h.inv).cell (j := 2) (v := .int .i64 as') rfl)⟩⟩
        · refine ⟨.inl rfl, ?_⟩
          refine .inr fun L a1 w1 n h K hK => ?_
          have e0 : a1.eval (.tmp 50) = vz := h.dep n 0 50 (by kernel_rfl) rfl
          have e1 : a1.eval (.tmp 52) = encStr am := h.dep n 2 52 (by kernel_rfl) rfl
          have e2 : a1.eval (.tmp 54) = .int .i64 as' := h.dep n 4 54 (by kernel_rfl) rfl
          refine st_call 23 _ _ #[vz, encStr am, .int .i64 as'] rfl Try.call23 ?_ (put_nos w1 vz am as' (hv.later h.inv)) ?_
          · simp only [List.map_toArray, List.map_cons, List.map_nil, e0, e1, e2]
          · rintro e w3 ⟨rfl, b9⟩
            exact ⟨_, rfl, hK _ w3 rfl (h.inv.trans (b9.mono h.inv.size))⟩
        · refine ⟨.inl rfl, ?_⟩
          exact .inl ⟨by kernel_rfl, fun L a1 w1 n h => ⟨_, rfl, run_move (.tmp 55) rfl (h.dep n 5 55 (by kernel_rfl) rfl)⟩⟩
        · refine ⟨.inr ⟨6, false, 56, rfl, by kernel_rfl, rfl, by simp, fun v h => h⟩, ?_⟩
          exact .inl ⟨by kernel_rfl, fun L a1 w1 n h => ⟨_, rfl, run_move (.tmp 9) rfl (h.var n 9 (by kernel_rfl))⟩⟩
        · refine ⟨.inr ⟨6, false, 56, rfl, by kernel_rfl, rfl, by simp, fun v h => h⟩, ?_⟩
          refine .inl ⟨by kernel_rfl, fun L a1 w1 n h => ⟨.pointer (some ⟨g3, 1, none⟩), rfl, ?_⟩⟩
          have e0 : a1.eval (.tmp 3) = _ := h.var n 3 (by kernel_rfl)
          unfold execOp
          simp only [e0]
          go_simp
        · refine ⟨.inr ⟨6, false, 56, rfl, by kernel_rfl, rfl, by simp, fun v h => h⟩, ?_⟩
          exact .inl ⟨by kernel_rfl, fun L a1 w1 n h => ⟨_, rfl, run_loadA 9 (.tmp 58) ⟨g3, 1, none⟩ rfl Try.isAgg9 (h.dep n 8 58 (by kernel_rfl) rfl) ((Row.later r3 h.inv).cell (j := 1) (v := encStr am) rfl)⟩⟩
        · refine ⟨.inr ⟨6, false, 56, rfl, by kernel_rfl, rfl, by simp, fun v h => h⟩, ?_⟩
          refine .inr fun L a1 w1 n h K hK => ?_
          have e0 : a1.eval (.tmp 57) = vz := h.dep n 7 57 (by kernel_rfl) rfl
          have e1 : a1.eval (.tmp 59) = encStr am := h.dep n 9 59 (by kernel_rfl) rfl
          refine st_call 22 _ _ #[vz, encStr am] rfl Try.call22 ?_ (drop_nos w1 vz am ham (hv.later h.inv)) ?_
          · simp only [List.map_toArray, List.map_cons, List.map_nil, e0, e1]
          · rintro e w3 ⟨rfl, b9⟩
            exact ⟨_, rfl, hK _ w3 rfl (h.inv.trans (b9.mono h.inv.size))⟩
        · refine ⟨.inl rfl, ?_⟩
          exact .inl ⟨by kernel_rfl, fun L a1 w1 n h => ⟨_, rfl, run_pickF (.tmp 56) _ _ rfl (h.dep n 6 56 (by kernel_rfl) rfl) (h.dep n 10 60 (by kernel_rfl) rfl)⟩⟩
        · refine ⟨.inl rfl, ?_⟩
          exact .inl ⟨by kernel_rfl, fun L a1 w1 n h => ⟨_, rfl, run_move (.tmp 61) rfl (h.dep n 11 61 (by kernel_rfl) rfl)⟩⟩
        · refine ⟨.inr ⟨12, false, 62, rfl, by kernel_rfl, rfl, by simp, fun v h => h⟩, ?_⟩
          exact .inl ⟨by kernel_rfl, fun L a1 w1 n h => ⟨_, rfl, run_move (.tmp 11) rfl (h.var n 11 (by kernel_rfl))⟩⟩
        · refine ⟨.inl rfl, ?_⟩
          exact .inl ⟨by kernel_rfl, fun L a1 w1 n h => ⟨_, rfl, run_pickF (.tmp 62) _ _ rfl (h.dep n 12 62 (by kernel_rfl) rfl) (h.dep n 13 63 (by kernel_rfl) rfl)⟩⟩
        · refine ⟨.inl rfl, ?_⟩
          exact .inl ⟨by kernel_rfl, fun L a1 w1 n h => ⟨_, rfl, run_move (.tmp 64) rfl (h.dep n 14 64 (by kernel_rfl) rfl)⟩⟩
        · refine ⟨.inr ⟨15, false, 65, rfl, by kernel_rfl, rfl, by simp, fun v h => h⟩, ?_⟩
          exact .inl ⟨by kernel_rfl, fun L a1 w1 n h => ⟨_, rfl, run_move (.tmp 13) rfl (h.var n 13 (by kernel_rfl))⟩⟩
        · refine ⟨.inl rfl, ?_⟩
          exact .inl ⟨by kernel_rfl, fun L a1 w1 n h => ⟨_, rfl, run_pickF (.tmp 65) _ _ rfl (h.dep n 15 65 (by kernel_rfl) rfl) (h.dep n 16 66 (by kernel_rfl) rfl)⟩⟩
        · refine ⟨.inl rfl, ?_⟩
          exact .inl ⟨by kernel_rfl, fun L a1 w1 n h => ⟨_, rfl, run_move (.tmp 67) rfl (h.dep n 17 67 (by kernel_rfl) rfl)⟩⟩
        · refine ⟨.inr ⟨18, false, 68, rfl, by kernel_rfl, rfl, by simp, fun v h => h⟩, ?_⟩
          exact .inl ⟨by kernel_rfl, fun L a1 w1 n h => ⟨_, rfl, run_move (.tmp 15) rfl (h.var n 15 (by kernel_rfl))⟩⟩
        · refine ⟨.inl rfl, ?_⟩
          exact .inl ⟨by kernel_rfl, fun L a1 w1 n h => ⟨_, rfl, run_pickF (.tmp 68) _ _ rfl (h.dep n 18 68 (by kernel_rfl) rfl) (h.dep n 19 69 (by kernel_rfl) rfl)⟩⟩
        · refine ⟨.inl rfl, ?_⟩
          exact .inl ⟨by kernel_rfl, fun L a1 w1 n h => ⟨_, rfl, run_move (.tmp 70) rfl (h.dep n 20 70 (by kernel_rfl) rfl)⟩⟩
        · refine ⟨.inr ⟨21, false, 71, rfl, by kernel_rfl, rfl, by simp, fun v h => h⟩, ?_⟩
          exact .inl ⟨by kernel_rfl, fun L a1 w1 n h => ⟨_, rfl, run_move (.tmp 9) rfl (h.var n 9 (by kernel_rfl))⟩⟩
        · refine ⟨.inr ⟨21, false, 71, rfl, by kernel_rfl, rfl, by simp, fun v h => h⟩, ?_⟩
          refine .inr fun L a1 w1 n h K hK => ?_
          have e0 : a1.eval (.tmp 72) = vz := h.dep n 22 72 (by kernel_rfl) rfl
          refine st_call 24 _ _ #[vz] rfl Try.call24 ?_ ((len_no w1 vz (hv.later h.inv)).mono fun e w2 h9 => (⟨h9.1, h9.2 ▸ Below.refl _ _⟩ : e = .returned (.int .i64 0) ∧ Below w1.heap.size w1 w2)) ?_
          · simp only [List.map_toArray, List.map_cons, List.map_nil, e0]
          · rintro e w3 ⟨rfl, b9⟩
            exact ⟨_, rfl, hK _ w3 rfl (h.inv.trans (b9.mono h.inv.size))⟩
        · refine ⟨.inr ⟨21, false, 71, rfl, by kernel_rfl, rfl, by simp, fun v h => h⟩, ?_⟩
          exact .inl ⟨by kernel_rfl, fun L a1 w1 n h => ⟨_, rfl, run_move (.tmp 10) rfl (h.var n 10 (by kernel_rfl))⟩⟩
        · refine ⟨.inr ⟨21, false, 71, rfl, by kernel_rfl, rfl, by simp, fun v h => h⟩, ?_⟩
          exact .inl ⟨by kernel_rfl, fun L a1 w1 n h => ⟨_, rfl, run_addZ (.tmp 73) (.tmp 74) rfl (h.dep n 23 73 (by kernel_rfl) rfl) (h.dep n 24 74 (by kernel_rfl) rfl) (by decide)⟩⟩
        · refine ⟨.inr ⟨21, false, 71, rfl, by kernel_rfl, rfl, by simp, fun v h => h⟩, ?_⟩
          exact .inl ⟨by kernel_rfl, fun L a1 w1 n h => ⟨_, rfl, run_move (.tmp 12) rfl (h.var n 12 (by kernel_rfl))⟩⟩
        · refine ⟨.inr ⟨21, false, 71, rfl, by kernel_rfl, rfl, by simp, fun v h => h⟩, ?_⟩
          exact .inl ⟨by kernel_rfl, fun L a1 w1 n h => ⟨_, rfl, run_addZ (.tmp 75) (.tmp 76) rfl (h.dep n 25 75 (by kernel_rfl) rfl) (h.dep n 26 76 (by kernel_rfl) rfl) (by decide)⟩⟩
        · refine ⟨.inr ⟨21, false, 71, rfl, by kernel_rfl, rfl, by simp, fun v h => h⟩, ?_⟩
          exact .inl ⟨by kernel_rfl, fun L a1 w1 n h => ⟨_, rfl, run_move (.tmp 9) rfl (h.var n 9 (by kernel_rfl))⟩⟩
        · refine ⟨.inr ⟨21, false, 71, rfl, by kernel_rfl, rfl, by simp, fun v h => h⟩, ?_⟩
          exact .inl ⟨by kernel_rfl, fun L a1 w1 n h => ⟨_, rfl, run_move (.tmp 2) rfl (h.var n 2 (by kernel_rfl))⟩⟩
        · refine ⟨.inr ⟨21, false, 71, rfl, by kernel_rfl, rfl, by simp, fun v h => h⟩, ?_⟩
          refine .inr fun L a1 w1 n h K hK => ?_
          have e0 : a1.eval (.tmp 78) = vz := h.dep n 28 78 (by kernel_rfl) rfl
          have e2 : a1.eval (.tmp 79) = .int .i64 nz := h.dep n 29 79 (by kernel_rfl) rfl
          refine st_call 13 _ _ #[vz, .int .i64 0, .int .i64 nz] rfl Try.call13 ?_ (range_nos w1 vz 0 nz (hv.later h.inv)) ?_
          · simp only [List.map_toArray, List.map_cons, List.map_nil, e0, e2]; rfl
          · rintro e w3 ⟨rfl, b9⟩
            exact ⟨_, rfl, hK _ w3 rfl (h.inv.trans (b9.mono h.inv.size))⟩
        · refine ⟨.inr ⟨21, false, 71, rfl, by kernel_rfl, rfl, by simp, fun v h => h⟩, ?_⟩
          exact .inl ⟨by kernel_rfl, fun L a1 w1 n h => ⟨_, rfl, run_lenSlB 26 (.tmp 80) none 0 0 rfl ⟨_, Try.underlying26⟩ (h.dep n 30 80 (by kernel_rfl) rfl)⟩⟩
        · refine ⟨.inr ⟨21, false, 71, rfl, by kernel_rfl, rfl, by simp, fun v h => h⟩, ?_⟩
          exact .inl ⟨by kernel_rfl, fun L a1 w1 n h => ⟨_, rfl, run_addZ (.tmp 77) (.tmp 81) rfl (h.dep n 27 77 (by kernel_rfl) rfl) (h.dep n 31 81 (by kernel_rfl) rfl) (by decide)⟩⟩
        · refine ⟨.inr ⟨21, false, 71, rfl, by kernel_rfl, rfl, by simp, fun v h => h⟩, ?_⟩
          exact .inl ⟨by kernel_rfl, fun L a1 w1 n h => ⟨_, rfl, run_move (.tmp 9) rfl (h.var n 9 (by kernel_rfl))⟩⟩
        · refine ⟨.inr ⟨21, false, 71, rfl, by kernel_rfl, rfl, by simp, fun v h => h⟩, ?_⟩
          exact .inl ⟨by kernel_rfl, fun L a1 w1 n h => ⟨_, rfl, run_move (.tmp 2) rfl (h.var n 2 (by kernel_rfl))⟩⟩
        · refine ⟨.inr ⟨21, false, 71, rfl, by kernel_rfl, rfl, by simp, fun v h => h⟩, ?_⟩
          refine .inl ⟨by kernel_rfl, fun L a1 w1 n h => ⟨.pointer (some ⟨g3, 2, none⟩), rfl, ?_⟩⟩
          have e0 : a1.eval (.tmp 3) = _ := h.var n 3 (by kernel_rfl)
          unfold execOp
          simp only [e0]
          go_simp
        · refine ⟨.inr ⟨21, false, 71, rfl, by kernel_rfl, rfl, by simp, fun v h => h⟩, ?_⟩
          exact .inl ⟨by kernel_rfl, fun L a1 w1 n h => ⟨_, rfl, run_loadA 3 (.tmp 85) ⟨g3, 2, none⟩ rfl Try.isAgg3 (h.dep n 35 85 (by kernel_rfl) rfl) ((Row.later r3 h.inv).cell (j := 2) (v := .int .i64 as') rfl)⟩⟩
        · refine ⟨.inr ⟨21, false, 71, rfl, by kernel_rfl, rfl, by simp, fun v h => h⟩, ?_⟩
          refine .inr fun L a1 w1 n h K hK => ?_
          have e0 : a1.eval (.tmp 83) = vz := h.dep n 33 83 (by kernel_rfl) rfl
          have e1 : a1.eval (.tmp 84) = .int .i64 nz := h.dep n 34 84 (by kernel_rfl) rfl
          have e2 : a1.eval (.tmp 86) = .int .i64 as' := h.dep n 36 86 (by kernel_rfl) rfl
          refine st_call 19 _ _ #[vz, .int .i64 nz, .int .i64 as'] rfl Try.call19 ?_ (between_nos w1 vz nz as' (hv.later h.inv)) ?_
          · simp only [List.map_toArray, List.map_cons, List.map_nil, e0, e1, e2]
          · rintro e w3 ⟨rfl, b9⟩
            exact ⟨_, rfl, hK _ w3 rfl (h.inv.trans (b9.mono h.inv.size))⟩
        · refine ⟨.inr ⟨21, false, 71, rfl, by kernel_rfl, rfl, by simp, fun v h => h⟩, ?_⟩
          exact .inl ⟨by kernel_rfl, fun L a1 w1 n h => ⟨_, rfl, run_lenSlB 26 (.tmp 87) none 0 0 rfl ⟨_, Try.underlying26⟩ (h.dep n 37 87 (by kernel_rfl) rfl)⟩⟩
        · refine ⟨.inr ⟨21, false, 71, rfl, by kernel_rfl, rfl, by simp, fun v h => h⟩, ?_⟩
          exact .inl ⟨by kernel_rfl, fun L a1 w1 n h => ⟨_, rfl, run_addZ (.tmp 82) (.tmp 88) rfl (h.dep n 32 82 (by kernel_rfl) rfl) (h.dep n 38 88 (by kernel_rfl) rfl) (by decide)⟩⟩
        · refine ⟨.inr ⟨21, false, 71, rfl, by kernel_rfl, rfl, by simp, fun v h => h⟩, ?_⟩
          exact .inl ⟨by kernel_rfl, fun L a1 w1 n h => ⟨_, rfl, run_neqI (.tmp 89) (.const (.int .i64 0)) rfl (h.dep n 39 89 (by kernel_rfl) rfl) rfl (by decide)⟩⟩
        · refine ⟨.inl rfl, ?_⟩
          exact .inl ⟨by kernel_rfl, fun L a1 w1 n h => ⟨_, rfl, run_pickF (.tmp 71) _ _ rfl (h.dep n 21 71 (by kernel_rfl) rfl) (h.dep n 40 90 (by kernel_rfl) rfl)⟩⟩
        · refine ⟨.inl rfl, ?_⟩
          exact .inl ⟨by kernel_rfl, fun L a1 w1 n h => ⟨_, rfl, run_move (.tmp 91) rfl (h.dep n 41 91 (by kernel_rfl) rfl)⟩⟩
        · refine ⟨.inr ⟨42, false, 92, rfl, by kernel_rfl, rfl, by simp, fun v h => h⟩, ?_⟩
          exact .inl ⟨by kernel_rfl, fun L a1 w1 n h => ⟨_, rfl, run_move (.tmp 9) rfl (h.var n 9 (by kernel_rfl))⟩⟩
        · refine ⟨.inr ⟨42, false, 92, rfl, by kernel_rfl, rfl, by simp, fun v h => h⟩, ?_⟩
          refine .inr fun L a1 w1 n h K hK => ?_
          have e0 : a1.eval (.tmp 93) = vz := h.dep n 43 93 (by kernel_rfl) rfl
          refine st_call 26 _ _ #[vz] rfl Try.call26 ?_ (clone_nos w1 vz (hv.later h.inv)) ?_
          · simp only [List.map_toArray, List.map_cons, List.map_nil, e0]
          · rintro e w3 ⟨rfl, b9⟩
            exact ⟨_, rfl, hK _ w3 rfl (h.inv.trans (b9.mono h.inv.size))⟩
        · refine ⟨.inr ⟨42, false, 92, rfl, by kernel_rfl, rfl, by simp, fun v h => h⟩, ?_⟩
          refine .inl ⟨by kernel_rfl, fun L a1 w1 n h => ⟨.bool false, rfl, ?_⟩⟩
          have e0 : a1.eval (.tmp 94) = _ := h.dep n 44 94 (by kernel_rfl) rfl
          unfold execOp
          simp only [e0]
          go_simp
        · refine ⟨.inl rfl, ?_⟩
          exact .inl ⟨by kernel_rfl, fun L a1 w1 n h => ⟨_, rfl, run_pickF (.tmp 92) _ _ rfl (h.dep n 42 92 (by kernel_rfl) rfl) (h.dep n 45 95 (by kernel_rfl) rfl)⟩⟩
      case he9 =>
        intro V w11 hV hJ
        have b11 : Below w7.heap.size w7 w11 := hJ
        have hE : V 46 = .bool false := hV 46 _ rfl
        clear hV hJ
        simp only [putOps, List.setIfInBounds_toArray, List.set_cons_succ, List.set_cons_zero, Nat.reduceAdd]
        rw [hE]
        refine hK9 _ _ ?_
        go_wp2_with fail
        go_roundw
        case rel => exact ⟨i + 1, by omega, by go_num, BW.trans ((b7.trans (b11.mono hb7)).mono hwb)⟩
        case measure => simp [intOf]; omega
    · obtain rfl : i = 2 := by omega
      have c1 := r3.cell (j := 1) rfl
      have c2 := r3.cell (j := 2) rfl
      obtain ⟨q, hq⟩ : ∃ q, q = (⟨am, as'⟩ : Sc).less ⟨bm, bs⟩ := ⟨_, rfl⟩
      have HL1 := fun w => less_any w ⟨am, as'⟩ ⟨bm, bs⟩
      have HL2 := fun w => rless_any w ⟨am, as'⟩ ⟨bm, bs⟩
      have HL3 := fun w => less_any w ⟨bm, bs⟩ ⟨bm, bs⟩
      rw [← hq] at HL1 HL2
      rw [Sc.less_irrefl] at HL3
      have heqq : ∀ w, (Op.equal 4 (.bool q) (.bool q)).run Try.prog w = .ok true w := fun w => by cases q <;> kernel_rfl
      clear hq
      go_wp2_with (first
        | (with_reducible refine wl_build (o := ⟨some 101, _, _, _, _, _⟩) rfl 35 [(0, .tmp 98), (1, .tmp 100)] rfl [(0, encStr am), (1, .int .i64 as')] rfl [encStr am, .int .i64 as'] (builtSc am as') ?_)
        | (with_reducible refine wl_alloc (o := ⟨some 16, _, _, _, _, _⟩) rfl 35 _ [encStr [], .int .i64 0] rfl rfl rfl ?_; intro g16 w6 r6 p6 l6 b6)
        | (with_reducible refine wl_store_row rfl 35 (.tmp 16) (.tmp 101) g16 35 _ [encStr am, .int .i64 as'] rfl rfl rfl r6 (szSc ⟨am, as'⟩) rfl (by simp [Value.oneCell', encStr]) ?_; intro w7 r16 o7))
      have b7 : Below wr.heap.size wr w7 := b6.trans (o7.below p6)
      have hb7 := b7.size
      have r4 := r4.later b7
      clear b6 o7 p6 l6 r6 c1 c2
      rename_i K12 hK12
      refine wp_region_valsG [2, 5, 10, 14] (SNb12 g16 g4 am bm as' bs q) (fun _ _ wz => Below w7.heap.size w7 wz) (by kernel_rfl) (by kernel_rfl) (by kernel_rfl) (by kernel_rfl) ((Below.refl _ _).drew) ?obs12 ?he12
      case obs12 =>
        refine ⟨?_, ?_, ?_, ?_, ?_, ?_, ?_, ?_, ?_, ?_, ?_, ?_, ?_, ?_, ?_, ?_, ?_, trivial⟩
        · refine ⟨.inl rfl, ?_⟩
          exact .inl ⟨by kernel_rfl, fun L a1 w1 n h => ⟨_, rfl, run_loadRow 35 (.tmp 16) g16 35 _ _ rfl (h.var n 16 (by kernel_rfl)) (Row.later r16 h.inv) Try.underlying35 rfl (szSc ⟨am, as'⟩)⟩⟩
        · refine ⟨.inl rfl, ?_⟩
          exact .inl ⟨by kernel_rfl, fun L a1 w1 n h => ⟨_, rfl, run_loadRow 35 (.tmp 4) g4 35 _ _ rfl (h.var n 4 (by kernel_rfl)) (Row.later r4 h.inv) Try.underlying35 rfl (szSc ⟨bm, bs⟩)⟩⟩
        · refine ⟨.inl rfl, ?_⟩
          refine .inr fun L a1 w1 n h K hK => ?_
          have e0 : a1.eval (.tmp 102) = .agg [encStr am, .int .i64 as'].toArray := h.dep n 0 102 (by kernel_rfl) rfl
          have e1 : a1.eval (.tmp 103) = .agg [encStr bm, .int .i64 bs].toArray := h.dep n 1 103 (by kernel_rfl) rfl
          refine st_call 25 _ _ #[.agg [encStr am, .int .i64 as'].toArray, .agg [encStr bm, .int .i64 bs].toArray] rfl Try.call25 ?_ (HL1 w1) ?_
          · simp only [List.map_toArray, List.map_cons, List.map_nil, e0, e1]
          · rintro e w3 ⟨rfl, b9⟩
            exact ⟨_, rfl, hK _ w3 rfl (h.inv.trans (b9.mono h.inv.size))⟩
        · refine ⟨.inl rfl, ?_⟩
          exact .inl ⟨by kernel_rfl, fun L a1 w1 n h => ⟨_, rfl, run_loadRow 35 (.tmp 16) g16 35 _ _ rfl (h.var n 16 (by kernel_rfl)) (Row.later r16 h.inv) Try.underlying35 rfl (szSc ⟨am, as'⟩)⟩⟩
        · refine ⟨.inl rfl, ?_⟩
          exact .inl ⟨by kernel_rfl, fun L a1 w1 n h => ⟨_, rfl, run_loadRow 35 (.tmp 4) g4 35 _ _ rfl (h.var n 4 (by kernel_rfl)) (Row.later r4 h.inv) Try.underlying35 rfl (szSc ⟨bm, bs⟩)⟩⟩
        · refine ⟨.inl rfl, ?_⟩
          refine .inr fun L a1 w1 n h K hK => ?_
          have e0 : a1.eval (.tmp 105) = .agg [encStr am, .int .i64 as'].toArray := h.dep n 3 105 (by kernel_rfl) rfl
          have e1 : a1.eval (.tmp 106) = .agg [encStr bm, .int .i64 bs].toArray := h.dep n 4 106 (by kernel_rfl) rfl
          refine st_call 27 _ _ #[.agg [encStr am, .int .i64 as'].toArray, .agg [encStr bm, .int .i64 bs].toArray] rfl Try.call27 ?_ (HL2 w1) ?_
          · simp only [List.map_toArray, List.map_cons, List.map_nil, e0, e1]
          · rintro e w3 ⟨rfl, b9⟩
            exact ⟨_, rfl, hK _ w3 rfl (h.inv.trans (b9.mono h.inv.size))⟩
        · refine ⟨.inl rfl, ?_⟩
          exact .inl ⟨by kernel_rfl, fun L a1 w1 n h => ⟨_, rfl, run_eqlB (.tmp 104) (.tmp 107) _ _ rfl (h.dep n 2 104 (by kernel_rfl) rfl) (h.dep n 5 107 (by kernel_rfl) rfl) heqq⟩⟩
        · refine ⟨.inl rfl, ?_⟩
          exact .inl ⟨by kernel_rfl, fun L a1 w1 n h => ⟨_, rfl, run_move (.tmp 108) rfl (h.dep n 6 108 (by kernel_rfl) rfl)⟩⟩
        · refine ⟨.inr ⟨7, true, 109, rfl, by kernel_rfl, rfl, Nat.lt_of_lt_of_eq (show 109 < 118 by decide) rfl, fun v h => h⟩, ?_⟩
          exact .inl ⟨by kernel_rfl, fun L a1 w1 n h => ⟨_, rfl, run_loadRow 35 (.tmp 4) g4 35 _ _ rfl (h.var n 4 (by kernel_rfl)) (Row.later r4 h.inv) Try.underlying35 rfl (szSc ⟨bm, bs⟩)⟩⟩
        · refine ⟨.inr ⟨7, true, 109, rfl, by kernel_rfl, rfl, Nat.lt_of_lt_of_eq (show 109 < 118 by decide) rfl, fun v h => h⟩, ?_⟩
          exact .inl ⟨by kernel_rfl, fun L a1 w1 n h => ⟨_, rfl, run_loadRow 35 (.tmp 4) g4 35 _ _ rfl (h.var n 4 (by kernel_rfl)) (Row.later r4 h.inv) Try.underlying35 rfl (szSc ⟨bm, bs⟩)⟩⟩
        · refine ⟨.inr ⟨7, true, 109, rfl, by kernel_rfl, rfl, Nat.lt_of_lt_of_eq (show 109 < 118 by decide) rfl, fun v h => h⟩, ?_⟩
          refine .inr fun L a1 w1 n h K hK => ?_
          have e0 : a1.eval (.tmp 110) = .agg [encStr bm, .int .i64 bs].toArray := h.dep n 8 110 (by kernel_rfl) rfl
          have e1 : a1.eval (.tmp 111) = .agg [encStr bm, .int .i64 bs].toArray := h.dep n 9 111 (by kernel_rfl) rfl
          refine st_call 25 _ _ #[.agg [encStr bm, .int .i64 bs].toArray, .agg [encStr bm, .int .i64 bs].toArray] rfl Try.call25 ?_ (HL3 w1) ?_
          · simp only [List.map_toArray, List.map_cons, List.map_nil, e0, e1]
          · rintro e w3 ⟨rfl, b9⟩
            exact ⟨_, rfl, hK _ w3 rfl (h.inv.trans (b9.mono h.inv.size))⟩
        · refine ⟨.inr ⟨7, true, 109, rfl, by kernel_rfl, rfl, Nat.lt_of_lt_of_eq (show 109 < 118 by decide) rfl, fun v h => h⟩, ?_⟩
          exact .inl ⟨by kernel_rfl, fun L a1 w1 n h => ⟨_, rfl, run_notB (.tmp 112) false rfl (h.dep n 10 112 (by kernel_rfl) rfl) rfl⟩⟩
        · refine ⟨.inl rfl, ?_⟩
          exact .inl ⟨by kernel_rfl, fun L a1 w1 n h => ⟨_, rfl, run_pickT (.tmp 109) _ _ rfl (h.dep n 7 109 (by kernel_rfl) rfl) (h.dep n 11 113 (by kernel_rfl) rfl)⟩⟩
        · refine ⟨.inl rfl, ?_⟩
          exact .inl ⟨by kernel_rfl, fun L a1 w1 n h => ⟨_, rfl, run_move (.tmp 114) rfl (h.dep n 12 114 (by kernel_rfl) rfl)⟩⟩
        · refine ⟨.inr ⟨13, true, 115, rfl, by kernel_rfl, rfl, Nat.lt_of_lt_of_eq (show 115 < 118 by decide) rfl, fun v h => h⟩, ?_⟩
          refine .inr fun L a1 w1 n h K hK => ?_
          refine st_call 10 _ _ #[] rfl Try.call10 ?_ (HA w1) ?_
          · simp
          · rintro e w3 ⟨rfl, b9⟩
            exact ⟨_, rfl, hK _ w3 rfl (h.inv.trans (b9.mono h.inv.size))⟩
        · refine ⟨.inl rfl, ?_⟩
          exact .inl ⟨by kernel_rfl, fun L a1 w1 n h => ⟨_, rfl, run_pickT (.tmp 115) _ _ rfl (h.dep n 13 115 (by kernel_rfl) rfl) (h.dep n 14 116 (by kernel_rfl) rfl)⟩⟩
        · refine ⟨.inl rfl, ?_⟩
          exact .inl ⟨by kernel_rfl, fun L a1 w1 n h => ⟨_, rfl, run_assign (.tmp 117) rfl (h.dep n 15 117 (by kernel_rfl) rfl)⟩⟩
      case he12 =>
        intro V w11 hV hJ
        have b11 : Below w7.heap.size w7 w11 := hJ
        have hE : V 16 = .bool true := hV 16 _ rfl
        clear hV hJ
        simp only [putOps, Act.put, List.setIfInBounds_toArray, List.set_cons_succ, List.set_cons_zero, Nat.reduceAdd]
        rw [hE]
        refine hK12 _ _ ?_
        go_wp2_with fail
        go_ret
        exact ⟨rfl, B19.trans ((BW.trans ((b7.trans (b11.mono hb7)).mono hwb)).mono hwb19)⟩
section
open Go.ChangeShapes Go.WideShapes
variable {H : Type} {enc : TypeId × Value → H} {w : World} {spare : Nat → Bool} {held : Bool}
set_option maxRecDepth 100000 in
theorem open_zact2 {fuel : Nat} {cs : List Value} {x : DataW H × List MemPlace} (h : DataW.trod enc Try.prog w 0 spare held fuel 43 cs = some x) : ∃ q : ZA, cs = q.cells ∧ q.m.length ≤ maxLen := by
  obtain ⟨xs, n, _, rfl, hl, hlen, hf⟩ := DataW.trod_struct (fs := Try.prog.fieldsOf 43) Try.underlying43 h
  rw [show Try.prog.cellsOf 43 = 3 by kernel_rfl] at hl
  obtain ⟨v0, x0, g0, h0⟩ := field_one hlen hf 0 (show (Try.prog.fieldsOf 43)[0]?.map (fun f => (f.offset, f.type)) = some (0, 4) by kernel_rfl) (by kernel_rfl) (by omega)
  obtain ⟨v1, x1, g1, h1⟩ := field_one hlen hf 1 (show (Try.prog.fieldsOf 43)[1]?.map (fun f => (f.offset, f.type)) = some (1, 9) by kernel_rfl) (by kernel_rfl) (by omega)
  obtain ⟨v2, x2, g2, h2⟩ := field_one hlen hf 2 (show (Try.prog.fieldsOf 43)[2]?.map (fun f => (f.offset, f.type)) = some (2, 3) by kernel_rfl) (by kernel_rfl) (by omega)
  obtain ⟨b, e0, _⟩ := DataW.trod_bool Try.underlying4 h0
  obtain ⟨s1, e1, _, hs1⟩ := DataW.trod_string Try.underlying9 h1
  obtain ⟨z, e2, _, hz⟩ := DataW.trod_int Try.underlying3 h2
  refine ⟨⟨b, s1.data.toList, z⟩, ?_, by show s1.data.toList.length ≤ maxLen; simpa using hs1⟩
  simp only [List.cons.injEq, and_true] at e0 e1 e2
  subst e0 e1 e2
  match cs, hl with
  | [u0, u1, u2], _ =>
    simp at g0 g1 g2
    rw [g0, g1, g2]
end
end Go.Proofs.Ytfklfgaomcbchaa
