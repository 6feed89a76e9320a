/-
  Patterns: matching. Contract. Own work.
-/
import Derived.Test.YtolmomnocfkhoaaDoorVerbE
namespace Go.Proofs.YtolmomnocfkhoaaDoor
open Go.RowKit
set_option linter.unusedVariables false
set_option linter.unusedSimpArgs false
def MT9 (s pt : List UInt8) (c : UInt8) (bb n m cp a pk : Nat) (B : Bool) (opn : Nat) (v : Value) : Prop :=
  match opn with
  | 0 | 6 => v = .int .i64 (n : Int)
  | 1 | 5 => v = .slice (some ⟨bb, 0, none⟩) m cp
  | 2 => v = .int .i64 (m : Int)
  | 3 | 4 => v = .bool true
  | 7 => v = .pointer (some ⟨bb, n * 2, none⟩)
  | 8 => v = Pt.val ⟨pk, pt⟩
  | 9 => v = encStr s
  | 10 => v = .int .i64 (a : Int)
  | 11 => v = .int .u8 (c.toNat : Int)
  | 12 | 13 | 14 => v = .bool B
  | _ => True

def MF9 (s : List UInt8) (AA : Option Addr) (n m cp a : Nat) (opn : Nat) (v : Value) : Prop :=
  match opn with
  | 0 => v = .int .i64 (n : Int)
  | 1 => v = .slice AA m cp
  | 2 => v = .int .i64 (m : Int)
  | 3 | 4 | 13 | 14 => v = .bool false
  | 5 | 6 | 7 | 8 | 9 | 10 | 11 | 12 => v = undef
  | _ => True

theorem cells2 {w : World} {b i : Nat} {x y : Value} (h1 : w.cell? ⟨b, i, none⟩ = some x) (h2 : w.cell? ⟨b, i + 1, none⟩ = some y) : ∀ j v, [x, y][j]? = some v → w.cell? ⟨b, i + j, none⟩ = some v
  | 0, v, h => by
    have e : x = v := by simpa using h
    subst e; exact h1
  | 1, v, h => by
    have e : y = v := by simpa using h
    subst e; exact h2
  | j + 2, v, h => by simp at h
set_option maxRecDepth 100000 in
set_option maxHeartbeats 8000000 in
theorem match_any (w : World) (l s : List UInt8) (hl : l.length ≤ 1000) (hs : s.length ≤ 1000) :
    Calls Tryd.prog 25 #[encStr l, encStr s] w fun e w' => e = .returned (.bool (lang (partsL l) s)) ∧ Below w.heap.size w w' := by
  have hP := parts_any w l (by omega)
  have hpl := partsL_len l.length l (Nat.le_refl _)
  have hok := parts_ok l.length l (Nat.le_refl _)
  generalize partsL l = ps at *
  have hM : ps.length ≤ 1000 := by omega
  have hok : ∀ p ∈ ps, p.k ≤ 3 ∧ p.t.length ≤ 1000 := fun p hp => ⟨(hok p hp).1, by have := (hok p hp).2; omega⟩
  clear hpl hl
  obtain ⟨res, hres⟩ : ∃ r, r = lang ps s := ⟨_, rfl⟩
  rw [← hres]
  replace hres := hide hres
  replace hok := hide hok
  have hlenS := hide (str_len s)
  go_enter Tryd.func25, Tryd.ntmps25
  go_wp2_with fail
  refine hP.mono ?_
  rintro e w1 ⟨v, rfl, own, b1⟩
  obtain ⟨AA, cp, rfl⟩ := pts_len own
  obtain ⟨m, hm⟩ : ∃ m, m = ps.length := ⟨_, rfl⟩
  rw [← hm] at own
  rw [← hm]
  have hm9 := hide hm
  have hmI : (m : Int) ≤ 1000 := by omega
  have hm1 : m ≤ 1000 := by omega
  have hSI : (s.length : Int) ≤ 1000 := by omega
  clear hM hm hP
  replace own := hide own
  go_wp2_with fail
  go_loopw [6, 7, 8, 9] (fun nv av bv tv wr => ∃ n a b t : Nat, nv = .int .i64 (n : Int) ∧ av = .int .i64 (a : Int) ∧ bv = .int .i64 (b : Int) ∧ tv = .int .i64 (t : Int) ∧ Inv ps s n a b t ∧ Below w1.heap.size w1 wr) (fun nv av bv tv _ => (1000 - (intOf tv).toNat) * 1004004 + (1000 - (intOf av).toNat) * 1002 + (1000 - (intOf nv).toNat))
  case atStart => exact ⟨0, 0, 0, 0, rfl, rfl, rfl, rfl, inv_start ps s, Below.refl _ _⟩
  case round =>
    obtain ⟨n, a, b, t, rfl, rfl, rfl, rfl, inv, bw⟩ := hrel
    have i1 := inv.nl
    have i2 := inv.al
    have i3 := inv.ta
    have i4 := inv.bn
    rw [← hm9.out] at i1
    replace inv := hide inv
    by_cases ha : a < s.length
    · have haI : (a : Int) < (s.length : Int) := by omega
      obtain ⟨c, hc⟩ : ∃ c, s[a]? = some c := ⟨_, List.getElem?_eq_getElem ha⟩
      have hca := hide hc
      clear hc
      by_cases hn : n < m
      · have hnI0 : (n : Int) < (m : Int) := by omega
        have hnI := hide hnI0
        have hnm := hide hn
        obtain ⟨p, hp⟩ : ∃ p, ps[n]? = some p := ⟨_, List.getElem?_eq_getElem (by have := hm9.out; omega)⟩
        obtain ⟨bb, hAA, hbb, c1, c2⟩ := pts_cell (own_later own.out bw) hm9.out hp
        subst hAA
        have hpk := hok.out p (List.mem_of_getElem? hp)
        have hbw1 : bb < w1.heap.size := (own.out.lt bb rfl).2
        replace hp := hide hp
        by_cases h3 : p.k = 3
        · have q3 : ((p.k : Int) == 3) = true := by rw [beq_iff_eq]; omega
          have inv2 := hide (inv.out.many hp.out h3)
          go_wp2_with (first
            | (refine wg_run (o := ⟨some 24, _, _, _, _, _⟩) 4 true 21 rfl rfl rfl (.pointer (some ⟨bb, n * 2, none⟩)) (run_idxSl0 61 (.tmp 22) (.tmp 23) 64 2 bb m cp n rfl Tryd.underlying61 Tryd.sizeOf64 rfl rfl hnm.out) ?_)
            | (refine wg_run (o := ⟨some 26, _, _, _, _, _⟩) 4 true 21 rfl rfl rfl (.int .i64 (p.k : Int)) (run_load1 3 (.tmp 25) bb (n * 2) _ rfl Tryd.isAgg3 rfl c1) ?_))
          go_roundw
          case rel => exact ⟨n + 1, a, n + 1, a, by go_num, rfl, by go_num, rfl, inv2.out, bw⟩
          case measure => simp [intOf]; omega
        · obtain ⟨pk, pt⟩ := p
          have q3 : ((pk : Int) == 3) = false := beq_eq_false_iff_ne.2 (by have h3 : pk ≠ 3 := h3; omega)
          have hpk1 : pk ≤ 3 := hpk.1
          have hpt1 : pt.length ≤ 1000 := hpk.2
          have HT := fun w => takes_any w ⟨pk, pt⟩ c (by show pt.length ≤ _; omega) (by show pk ≤ _; omega)
          obtain ⟨B, hB⟩ : ∃ B, B = Pt.takes ⟨pk, pt⟩ c := ⟨_, rfl⟩
          rw [← hB] at HT
          replace hB := hide hB
          have hcl : ∀ w2, Below wr.heap.size wr w2 → ∀ j v, [Value.int .i64 (pk : Int), encStr pt][j]? = some v → w2.cell? ⟨bb, n * 2 + j, none⟩ = some v := fun w2 h2 => cells2 ((h2.cell (p := ⟨bb, n * 2, none⟩) (by have := bw.size; show bb < _; omega)).trans c1) ((h2.cell (p := ⟨bb, n * 2 + 1, none⟩) (by have := bw.size; show bb < _; omega)).trans c2)
          have hpk9 : pk ≠ 3 := h3
          replace hpk9 := hide hpk9
          clear hpk h3 hpt1 hpk1
          go_wp2_with (first
            | (refine wg_run (o := ⟨some 24, _, _, _, _, _⟩) 4 true 21 rfl rfl rfl (.pointer (some ⟨bb, n * 2, none⟩)) (run_idxSl0 61 (.tmp 22) (.tmp 23) 64 2 bb m cp n rfl Tryd.underlying61 Tryd.sizeOf64 rfl rfl hnm.out) ?_)
            | (refine wg_run (o := ⟨some 26, _, _, _, _, _⟩) 4 true 21 rfl rfl rfl (.int .i64 (pk : Int)) (run_load1 3 (.tmp 25) bb (n * 2) _ rfl Tryd.isAgg3 rfl c1) ?_))
          rename_i K9 hK9
          refine wp_region_valsG [12] (MT9 s pt c bb n m cp a pk B) (fun _ _ wz => Below wr.heap.size wr wz) (by kernel_rfl) (by kernel_rfl) (by kernel_rfl) (by kernel_rfl) ((Below.refl _ _).drew) ?obs9 ?he9
          case obs9 =>
            refine ⟨?_, ?_, ?_, ?_, ?_, ?_, ?_, ?_, ?_, ?_, ?_, ?_, ?_, ?_, ?_, trivial⟩
            · refine ⟨.inl rfl, ?_⟩
              exact .inl ⟨by kernel_rfl, fun L a1 w1 n' h => ⟨_, rfl, run_move (.tmp 6) rfl (h.var n' 6 (by kernel_rfl))⟩⟩
            · refine ⟨.inl rfl, ?_⟩
              exact .inl ⟨by kernel_rfl, fun L a1 w1 n' h => ⟨_, rfl, run_move (.tmp 5) rfl (h.var n' 5 (by kernel_rfl))⟩⟩
            · refine ⟨.inl rfl, ?_⟩
              exact .inl ⟨by kernel_rfl, fun L a1 w1 n' h => ⟨_, rfl, run_lenSl 61 (.tmp 35) (some ⟨bb, 0, none⟩) m cp rfl ⟨_, Tryd.underlying61⟩ (h.dep n' 1 35 (by kernel_rfl) rfl)⟩⟩
            · refine ⟨.inl rfl, ?_⟩
              exact .inl ⟨by kernel_rfl, fun L a1 w1 n' h => ⟨_, rfl, run_lssI (.tmp 34) (.tmp 36) rfl (h.dep n' 0 34 (by kernel_rfl) rfl) (h.dep n' 2 36 (by kernel_rfl) rfl) (decide_eq_true hnI.out)⟩⟩
            · refine ⟨.inl rfl, ?_⟩
              exact .inl ⟨by kernel_rfl, fun L a1 w1 n' h => ⟨_, rfl, run_move (.tmp 37) rfl (h.dep n' 3 37 (by kernel_rfl) rfl)⟩⟩
            · refine ⟨.inr ⟨4, true, 38, rfl, by kernel_rfl, rfl, by simp, fun v h => h⟩, ?_⟩
              exact .inl ⟨by kernel_rfl, fun L a1 w1 n' h => ⟨_, rfl, run_move (.tmp 5) rfl (h.var n' 5 (by kernel_rfl))⟩⟩
            · refine ⟨.inr ⟨4, true, 38, rfl, by kernel_rfl, rfl, by simp, fun v h => h⟩, ?_⟩
              exact .inl ⟨by kernel_rfl, fun L a1 w1 n' h => ⟨_, rfl, run_move (.tmp 6) rfl (h.var n' 6 (by kernel_rfl))⟩⟩
            · refine ⟨.inr ⟨4, true, 38, rfl, by kernel_rfl, rfl, by simp, fun v h => h⟩, ?_⟩
              exact .inl ⟨by kernel_rfl, fun L a1 w1 n' h => ⟨_, rfl, run_idxSl0 61 (.tmp 39) (.tmp 40) 64 2 bb m cp n rfl Tryd.underlying61 Tryd.sizeOf64 (h.dep n' 5 39 (by kernel_rfl) rfl) (h.dep n' 6 40 (by kernel_rfl) rfl) hnm.out⟩⟩
            · refine ⟨.inr ⟨4, true, 38, rfl, by kernel_rfl, rfl, by simp, fun v h => h⟩, ?_⟩
              exact .inl ⟨by kernel_rfl, fun L a1 w1 n' h => ⟨_, rfl, run_loadC 64 (.tmp 41) bb (n * 2) [.int .i64 (pk : Int), encStr pt] _ rfl (h.dep n' 7 41 (by kernel_rfl) rfl) (hcl w1 h.inv) Tryd.underlying64 rfl (szPt _ _)⟩⟩
            · refine ⟨.inr ⟨4, true, 38, rfl, by kernel_rfl, rfl, by simp, fun v h => h⟩, ?_⟩
              exact .inl ⟨by kernel_rfl, fun L a1 w1 n' h => ⟨_, rfl, run_move (.tmp 1) rfl (h.var n' 1 (by kernel_rfl))⟩⟩
            · refine ⟨.inr ⟨4, true, 38, rfl, by kernel_rfl, rfl, by simp, fun v h => h⟩, ?_⟩
              exact .inl ⟨by kernel_rfl, fun L a1 w1 n' h => ⟨_, rfl, run_move (.tmp 7) rfl (h.var n' 7 (by kernel_rfl))⟩⟩
            · refine ⟨.inr ⟨4, true, 38, rfl, by kernel_rfl, rfl, by simp, fun v h => h⟩, ?_⟩
              exact .inl ⟨by kernel_rfl, fun L a1 w1 n' h => ⟨_, rfl, run_idxStr 9 (.tmp 43) (.tmp 44) s a c rfl Tryd.underlying9 (h.dep n' 9 43 (by kernel_rfl) rfl) (h.dep n' 10 44 (by kernel_rfl) rfl) hca.out⟩⟩
            · refine ⟨.inr ⟨4, true, 38, rfl, by kernel_rfl, rfl, by simp, fun v h => h⟩, ?_⟩
              refine .inr fun L a1 w1 n' h K hK => ?_
              have e0 : a1.eval (.tmp 42) = Pt.val ⟨pk, pt⟩ := h.dep n' 8 42 (by kernel_rfl) rfl
              have e1 : a1.eval (.tmp 45) = .int .u8 (c.toNat : Int) := h.dep n' 11 45 (by kernel_rfl) rfl
              refine st_call 37 _ _ #[Pt.val ⟨pk, pt⟩, .int .u8 (c.toNat : Int)] rfl Tryd.call37 ?_ (HT w1) ?_
              · simp only [List.map_toArray, List.map_cons, List.map_nil, e0, e1]
              · rintro e w3 ⟨rfl, b9⟩
                exact ⟨_, rfl, hK _ w3 rfl (h.inv.trans (b9.mono h.inv.size))⟩
            · refine ⟨.inl rfl, ?_⟩
              exact .inl ⟨by kernel_rfl, fun L a1 w1 n' h => ⟨_, rfl, run_pickT (.tmp 38) _ _ rfl (h.dep n' 4 38 (by kernel_rfl) rfl) (h.dep n' 12 46 (by kernel_rfl) rfl)⟩⟩
            · refine ⟨.inl rfl, ?_⟩
              exact .inl ⟨by kernel_rfl, fun L a1 w1 n' h => ⟨_, rfl, run_assign (.tmp 47) rfl (h.dep n' 13 47 (by kernel_rfl) rfl)⟩⟩
          case he9 =>
            intro V w3 hV hJ
            have b3 : Below wr.heap.size wr w3 := hJ
            have hE : V 14 = .bool B := hV 14 _ rfl
            clear hV hJ
            simp only [putOps, List.setIfInBounds_toArray, List.set_cons_succ, List.set_cons_zero, Nat.reduceAdd]
            rw [hE]
            refine hK9 _ _ ?_
            have bw3 := bw.trans (b3.mono bw.size)
            clear HT hcl c1 c2 hE
            cases B with
            | true =>
              have inv2 := hide (inv.out.take hp.out hca.out hpk9.out hB.out.symm)
              go_wp2_with fail
              go_roundw
              case rel => exact ⟨n + 1, a + 1, b, t, by go_num, by go_num, rfl, rfl, inv2.out, bw3⟩
              case measure => simp [intOf]; omega
            | false =>
              have hno : ∀ p, ps[n]? = some p → p.k ≠ 3 ∧ p.takes c = false := fun p hp2 => by
                have e := hp.out
                rw [hp2] at e
                cases e
                exact ⟨hpk9.out, hB.out.symm⟩
              by_cases hb : 0 < b
              · have inv2 := hide (inv.out.back hca.out hno hb)
                have hbI : (0 : Int) < (b : Int) := by omega
                clear hno
                go_wp2_with fail
                go_roundw
                case rel => exact ⟨b, t + 1, b, t + 1, rfl, by go_num, rfl, by go_num, inv2.out, bw3⟩
                case measure => simp [intOf]; omega
              · obtain rfl : b = 0 := by omega
                have hf := inv.out.fail hca.out hno
                clear hno
                go_wp2_with fail
                go_ret
                exact ⟨by rw [hres.out, hf]; rfl, b1.trans (bw3.mono b1.size)⟩
      · have hnI := hide (show (m : Int) ≤ (n : Int) by omega)
        have hnI0 := hnI.out
        have hno : ∀ p, ps[n]? = some p → p.k ≠ 3 ∧ p.takes c = false := fun p hp2 => by
          have e := lt_of_get hp2
          have := hm9.out
          omega
        go_wp2_with fail
        rename_i K9 hK9
        refine wp_region_valsS [] (MF9 s AA n m cp a) (fun _ _ wz => Below wr.heap.size wr wz) (by kernel_rfl) (by kernel_rfl) (by kernel_rfl) (by kernel_rfl) ((Below.refl _ _).drew) ?obsN ?heN
        case obsN =>
          refine ⟨?_, ?_, ?_, ?_, ?_, ?_, ?_, ?_, ?_, ?_, ?_, ?_, ?_, ?_, ?_, trivial⟩
          · refine .inl ⟨.inl rfl, ?_⟩
            exact .inl ⟨by kernel_rfl, fun L a1 w1 n' h => ⟨_, rfl, run_move (.tmp 6) rfl (h.var n' 6 (by kernel_rfl))⟩⟩
          · refine .inl ⟨.inl rfl, ?_⟩
            exact .inl ⟨by kernel_rfl, fun L a1 w1 n' h => ⟨_, rfl, run_move (.tmp 5) rfl (h.var n' 5 (by kernel_rfl))⟩⟩
          · refine .inl ⟨.inl rfl, ?_⟩
            exact .inl ⟨by kernel_rfl, fun L a1 w1 n' h => ⟨_, rfl, run_lenSl 61 (.tmp 35) AA m cp rfl ⟨_, Tryd.underlying61⟩ (h.dep n' 1 35 (by kernel_rfl) rfl)⟩⟩
          · refine .inl ⟨.inl rfl, ?_⟩
            exact .inl ⟨by kernel_rfl, fun L a1 w1 n' h => ⟨_, rfl, run_lssI (.tmp 34) (.tmp 36) rfl (h.dep n' 0 34 (by kernel_rfl) rfl) (h.dep n' 2 36 (by kernel_rfl) rfl) (decide_eq_false (Int.not_lt.2 hnI.out))⟩⟩
          · refine .inl ⟨.inl rfl, ?_⟩
            exact .inl ⟨by kernel_rfl, fun L a1 w1 n' h => ⟨_, rfl, run_move (.tmp 37) rfl (h.dep n' 3 37 (by kernel_rfl) rfl)⟩⟩
          · exact .inr ⟨⟨4, true, 38, rfl, by kernel_rfl, rfl, by simp, fun v h => by rw [show v = .bool false from h]; first | exact ne_tf | exact ne_ft | exact ne_undef _⟩, by kernel_rfl, rfl⟩
          · exact .inr ⟨⟨4, true, 38, rfl, by kernel_rfl, rfl, by simp, fun v h => by rw [show v = .bool false from h]; first | exact ne_tf | exact ne_ft | exact ne_undef _⟩, by kernel_rfl, rfl⟩
          · exact .inr ⟨⟨4, true, 38, rfl, by kernel_rfl, rfl, by simp, fun v h => by rw [show v = .bool false from h]; first | exact ne_tf | exact ne_ft | exact ne_undef _⟩, by kernel_rfl, rfl⟩
          · exact .inr ⟨⟨4, true, 38, rfl, by kernel_rfl, rfl, by simp, fun v h => by rw [show v = .bool false from h]; first | exact ne_tf | exact ne_ft | exact ne_undef _⟩, by kernel_rfl, rfl⟩
          · exact .inr ⟨⟨4, true, 38, rfl, by kernel_rfl, rfl, by simp, fun v h => by rw [show v = .bool false from h]; first | exact ne_tf | exact ne_ft | exact ne_undef _⟩, by kernel_rfl, rfl⟩
          · exact .inr ⟨⟨4, true, 38, rfl, by kernel_rfl, rfl, by simp, fun v h => by rw [show v = .bool false from h]; first | exact ne_tf | exact ne_ft | exact ne_undef _⟩, by kernel_rfl, rfl⟩
          · exact .inr ⟨⟨4, true, 38, rfl, by kernel_rfl, rfl, by simp, fun v h => by rw [show v = .bool false from h]; first | exact ne_tf | exact ne_ft | exact ne_undef _⟩, by kernel_rfl, rfl⟩
          · exact .inr ⟨⟨4, true, 38, rfl, by kernel_rfl, rfl, by simp, fun v h => by rw [show v = .bool false from h]; first | exact ne_tf | exact ne_ft | exact ne_undef _⟩, by kernel_rfl, rfl⟩
          · refine .inl ⟨.inl rfl, ?_⟩
            exact .inl ⟨by kernel_rfl, fun L a1 w1 n' h => ⟨_, rfl, run_pickF (.tmp 38) _ _ rfl (h.dep n' 4 38 (by kernel_rfl) rfl) rfl⟩⟩
          · refine .inl ⟨.inl rfl, ?_⟩
            exact .inl ⟨by kernel_rfl, fun L a1 w1 n' h => ⟨_, rfl, run_assign (.tmp 47) rfl (h.dep n' 13 47 (by kernel_rfl) rfl)⟩⟩
        case heN =>
          intro V w3 hV hJ
          have b3 : Below wr.heap.size wr w3 := hJ
          have hE : V 14 = .bool false := hV 14 _ rfl
          clear hV hJ
          simp only [putOps, List.setIfInBounds_toArray, List.set_cons_succ, List.set_cons_zero, Nat.reduceAdd]
          rw [hE]
          refine hK9 _ _ ?_
          have bw3 := bw.trans (b3.mono bw.size)
          clear hE
          by_cases hb : 0 < b
          · have inv2 := hide (inv.out.back hca.out hno hb)
            have hbI : (0 : Int) < (b : Int) := by omega
            clear hno
            go_wp2_with fail
            go_roundw
            case rel => exact ⟨b, t + 1, b, t + 1, rfl, by go_num, rfl, by go_num, inv2.out, bw3⟩
            case measure => simp [intOf]; omega
          · obtain rfl : b = 0 := by omega
            have hf := inv.out.fail hca.out hno
            clear hno
            go_wp2_with fail
            go_ret
            exact ⟨by rw [hres.out, hf]; rfl, b1.trans (bw3.mono b1.size)⟩
    · obtain rfl : a = s.length := by omega
      have hd : res = lang (ps.drop n) [] := by
        rw [hres.out]
        exact inv.out.done
      replace hd := hide hd
      clear i3 i4 inv
      go_wp2_with fail
      go_loopw [6] (fun nv wq => ∃ k : Nat, nv = .int .i64 (k : Int) ∧ k ≤ m ∧ res = lang (ps.drop k) [] ∧ Below w1.heap.size w1 wq) (fun nv _ => 1000 - (intOf nv).toNat)
      case atStart => exact ⟨n, rfl, i1, hd.out, bw⟩
      case round =>
        clear bw hd i1 i2
        obtain ⟨k, rfl, hk, hd, bw⟩ := hrel
        replace hd := hide hd
        by_cases hn : k < m
        · have hnI0 : (k : Int) < (m : Int) := by omega
          have hnm := hide hn
          obtain ⟨p, hp⟩ : ∃ p, ps[k]? = some p := ⟨_, List.getElem?_eq_getElem (by have := hm9.out; omega)⟩
          obtain ⟨bb, hAA, hbb, c1, c2⟩ := pts_cell (own_later own.out bw) hm9.out hp
          subst hAA
          replace hp := hide hp
          by_cases h3 : p.k = 3
          · have q3 : ((p.k : Int) == 3) = true := by rw [beq_iff_eq]; omega
            have hd2 := hide (hd.out.trans (skip_end hp.out h3))
            go_wp2_with (first
              | (refine wg_run (o := ⟨some 66, _, _, _, _, _⟩) 4 true 63 rfl rfl rfl (.pointer (some ⟨bb, k * 2, none⟩)) (run_idxSl0 61 (.tmp 64) (.tmp 65) 64 2 bb m cp k rfl Tryd.underlying61 Tryd.sizeOf64 rfl rfl hnm.out) ?_)
              | (refine wg_run (o := ⟨some 68, _, _, _, _, _⟩) 4 true 63 rfl rfl rfl (.int .i64 (p.k : Int)) (run_load1 3 (.tmp 67) bb (k * 2) _ rfl Tryd.isAgg3 rfl c1) ?_))
            go_roundw
            case rel => exact ⟨k + 1, by go_num, by omega, hd2.out, bw⟩
            case measure => simp [intOf]; omega
          · have q3 : ((p.k : Int) == 3) = false := beq_eq_false_iff_ne.2 (by omega)
            have hd2 : res = false := by
              rw [hd.out, end_end (by have := hm9.out; omega) (fun p2 h2 => by rw [hp.out] at h2; cases h2; exact h3)]
              exact decide_eq_false (by have := hm9.out; omega)
            have qe : ((k : Int) == (m : Int)) = false := beq_eq_false_iff_ne.2 (by omega)
            have qe2 : (k == m) = false := beq_eq_false_iff_ne.2 (by omega)
            replace hd2 := hide hd2
            go_wp2_with (first
              | (refine wg_run (o := ⟨some 66, _, _, _, _, _⟩) 4 true 63 rfl rfl rfl (.pointer (some ⟨bb, k * 2, none⟩)) (run_idxSl0 61 (.tmp 64) (.tmp 65) 64 2 bb m cp k rfl Tryd.underlying61 Tryd.sizeOf64 rfl rfl hnm.out) ?_)
              | (refine wg_run (o := ⟨some 68, _, _, _, _, _⟩) 4 true 63 rfl rfl rfl (.int .i64 (p.k : Int)) (run_load1 3 (.tmp 67) bb (k * 2) _ rfl Tryd.isAgg3 rfl c1) ?_))
            go_ret
            exact ⟨by rw [hd2.out]; rfl, b1.trans (bw.mono b1.size)⟩
        · obtain rfl : k = m := by omega
          have hd2 : res = true := by
            rw [hd.out, end_end (by have := hm9.out; omega) (fun p2 h2 => by have := lt_of_get h2; have := hm9.out; omega)]
            exact decide_eq_true hm9.out
          replace hd2 := hide hd2
          go_wp2_with fail
          go_ret
          exact ⟨by rw [hd2.out]; rfl, b1.trans (bw.mono b1.size)⟩

end Go.Proofs.YtolmomnocfkhoaaDoor
