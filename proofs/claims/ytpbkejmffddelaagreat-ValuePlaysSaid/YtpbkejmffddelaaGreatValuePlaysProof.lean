/- Proved: the law ValuePlays (P15.3) answers true and leaves its arguments as they read before. For every kind, every list of acts and every text; no condition. -/
import Derived.Test.YtpbkejmffddelaaGreatRows
import Derived.WalkKit
import Derived.SizedLaws
import Derived.ProofKit
import Derived.OpenShut
import Derived.ShutString
import Derived.ChangeOld
import Derived.Below
import Derived.Test.YtpbkejmffddelaaGreatGT
set_option linter.unusedVariables false
set_option linter.unusedSimpArgs false
/-
  The law ValuePlays. Own work.
-/
namespace Go.Proofs.YtpbkejmffddelaaGreat
open Go.RowKit Go.Shelf Go.Maps
def SPl (gv g8 ga oa c i : Nat) (l : List VA) (a : VA) (lv : Value) (x : Vl) (vp vl vs : Value) (opn : Nat) (v : Value) : Prop :=
  match opn with
  | 0 => v = ptr gv
  | 1 => v = .agg (vlC x vp vl vs).toArray
  | 2 => v = .slice (some ⟨ga, oa, none⟩) l.length c
  | 3 => v = .int .i64 (i : Int)
  | 4 => v = .pointer (some ⟨ga, oa + i * 5, none⟩)
  | 5 => v = .agg (a.cells lv).toArray
  | 9 | 12 => v = .bool true
  | _ => True

theorem builtVlK (k : Int) : Tryz.prog.built 26 [(0, .int .i64 k)] = some [Value.int .i64 k, encStr [], nilS, nilS, nilS].toArray := by kernel_rfl
set_option maxRecDepth 100000 in
set_option maxHeartbeats 4000000 in
theorem valuePlays_any (w : World) (k : Int) (av : Value) (l : List VA) (f : Nm) (hA : VActs2 w w.heap.size av l) (hln : ∀ a ∈ l, a.a.length ≤ 140737488355328 ∧ a.b.length ≤ 140737488355328) (hfl : f.length ≤ 140737488355328) :
    Calls Tryz.prog 6 #[.int .i64 k, av, encStr f] w fun e w' => e = .returned (.bool true) ∧ Below w.heap.size w w' := by
  have HAW := awake_any
  obtain ⟨LA, c, rfl⟩ : ∃ A c, av = .slice A l.length c := let ⟨A, c, e, _⟩ := hA; ⟨A, c, e⟩
  by_cases hk : 1 ≤ k ∧ k ≤ 5
  · have hbu := builtVlK k
    obtain ⟨hk1, hk5⟩ := hk
    go_enter Tryz.func6, Tryz.ntmps6
    go_wp2_with fail
    refine (new_x w k ⟨hk1, hk5⟩).mono ?_
    rintro e w1 ⟨gv, rfl, hV, b1⟩
    go_wp2_with fail
    refine (few_any w1 _ l (hA.acts.below b1 |> fun h => by obtain ⟨A, c, e, h⟩ := h; exact ⟨A, c, e, fun h0 => let ⟨g, off, e1, e2, e3⟩ := h h0; ⟨g, off, e1, Nat.lt_of_lt_of_le e2 b1.size, fun i a hi => let ⟨lv, q1, q2⟩ := e3 i a hi; ⟨lv, q1.up b1.size, q2⟩⟩⟩) hln).mono ?_
    rintro e w2 ⟨⟨b, rfl, hfew⟩, b2⟩
    have B2 := b1.trans (b2.mono b1.size)
    have hV2 := hV.later b2
    have hA2 := hA.below B2
    have hA0 := hA
    clear hV hA
    cases b with
    | false =>
      go_wp2_with fail
      refine (HAW w2).mono ?_
      rintro e w3 ⟨rfl, b3⟩
      go_wp2_with fail
      go_ret
      exact ⟨rfl, B2.trans (b3.mono B2.size)⟩
    | true =>
      obtain ⟨hn40, hfa⟩ := hfew rfl
      have hfI : (f.length : Int) ≤ 140737488355328 := by omega
      by_cases hf2 : 200 < f.length
      · have hf3 : (200 : Int) < (f.length : Int) := by omega
        go_wp2_with fail
        refine (HAW w2).mono ?_
        rintro e w3 ⟨rfl, b3⟩
        go_wp2_with fail
        go_ret
        exact ⟨rfl, B2.trans (b3.mono B2.size)⟩
      · have hf3 : (f.length : Int) ≤ 200 := by omega
        have hfM : f.length ≤ maxLen := by simp only [maxLen]; omega
        go_wp2_with (first
          | (with_reducible refine wl_build (o := ⟨some 37, _, _, _, _, _⟩) rfl 26 [(0, .tmp 36)] rfl [(0, .int .i64 k)] rfl [.int .i64 k, encStr [], nilS, nilS, nilS] hbu ?_)
          | ((with_reducible refine wl_alloc (o := ⟨some 8, _, _, _, _, _⟩) rfl 26 _ [.int .i64 0, encStr [], nilS, nilS, nilS] rfl zeroVl rfl ?_); intro g8 w3 r8 p8 l8 b3)
          | ((with_reducible refine wl_store_row rfl 26 (.tmp 8) (.tmp 37) g8 26 _ [.int .i64 k, encStr [], nilS, nilS, nilS] rfl rfl rfl r8 (by kernel_rfl) rfl (by simp [Value.oneCell', encStr]) ?_); intro w4 r84 o4))
        have hV3 := hV2.later b3
        have hV4 := vx_only hV3 o4 r8
        have hB8 : w.heap.size ≤ g8 := Nat.le_trans B2.size p8
        have B4 : Below w.heap.size w w4 := (B2.trans (b3.mono B2.size)).trans (o4.below hB8)
        have hX4 : XM w4 w.heap.size ⟨k, [], [], [], []⟩ nilS nilS nilS := ⟨World.ownsRow_nil _ _ _ _, World.ownsRow_nil _ _ _ _, World.ownsRow_nil _ _ _ _⟩
        have hG : Grow 0 ⟨k, [], [], [], []⟩ := ⟨by simp, by simp, by simp, by simp, by simp⟩
        clear b3 o4 r8 hV3 hV2 hA2 b2 b1 B2 hfew hln
        go_loopw [9] (fun iv wr => ∃ (i : Nat) (x : Vl) (vp vl vs : Value), i ≤ l.length ∧ iv = .int .i64 (i : Int) ∧ VX wr w.heap.size gv x ∧ XM wr w.heap.size x vp vl vs ∧ Grow i x ∧ Row wr 26 g8 (vlC x vp vl vs) ∧ Below w.heap.size w wr) (fun iv _ => l.length - (intOf iv).toNat)
        case atStart => exact ⟨0, _, _, _, _, by omega, rfl, hV4, hX4, hG, r84, B4⟩
        case round =>
          clear r84 hV4 hX4 hG B4
          obtain ⟨i, x, vp, vl, vs, hi, rfl, hV, hX, hG, r8, BW⟩ := hrel
          have hBr := BW.size
          have hlI : (l.length : Int) ≤ 40 := by omega
          by_cases hlt : i < l.length
          · have hltI : (i : Int) < (l.length : Int) := by omega
            obtain ⟨a, ha⟩ : ∃ a, l[i]? = some a := ⟨_, List.getElem?_eq_getElem hlt⟩
            obtain ⟨x1, ga, oa, lv, rfl, hga, hL, hform, hk0, hca⟩ := (hA0.below BW).at ha
            obtain ⟨f1, f2, f3⟩ := hfa a (List.mem_of_getElem? ha)
            obtain ⟨y, hy⟩ : ∃ y, actX x a = y := ⟨_, rfl⟩
            have hGy : Grow (i + 1) y := by rw [← hy]; exact grow_act hG (by omega) f2
            have hGb := hG.bd (by omega)
            have HD : ∀ wz, TrnB w.heap.size wr wz → VX wz w.heap.size gv x → XM wz w.heap.size x vp vl vs → Calls Tryz.prog 19 #[ptr gv, vlV x vp vl vs, .agg (a.cells lv).toArray] wz fun e w' => ∃ p l s, e = .returned (.tuple #[vlV y p l s, .bool true]) ∧ VX w' w.heap.size gv y ∧ XM w' w.heap.size y p l s ∧ TrnB w.heap.size wz w' := fun wz t hv hx => by
              rw [← hy]
              exact (do_any wz w.heap.size gv x vp vl vs lv a hv hx (Nat.le_trans hBr t.1.size) hk0 (by omega) (Nat.le_trans hGb.p (by decide)) (Nat.le_trans hGb.l (by decide)) (Nat.le_trans hGb.s (by decide)) (hL.below t.2) hform (by omega) (fun t ht => by have := f3 t ht; simp only [maxLen]; omega)).mono fun e w' h => h
            replace HD := hide HD
            replace hga := hide hga
            replace hca := hide hca
            replace hy := hide hy
            replace hlt := hide hlt
            clear f1 f2 f3 hL hform hk0 x1 ha hG hGb hbu
            go_wp2_with fail
            rename_i K6 hK6
            refine wp_region_vals [6, 7, 8, 10, 11] (SPl gv g8 ga oa c i l a lv x vp vl vs) (JL w.heap.size wr gv x y vp vl vs) (by kernel_rfl) (by kernel_rfl) (by kernel_rfl) (by kernel_rfl) (by kernel_rfl) (JL.start hV hX) ?obs ?he
            case obs =>
              refine ⟨?_, ?_, ?_, ?_, ?_, ?_, ?_, ?_, ?_, ?_, ?_, ?_, ?_, trivial⟩
              · exact .inl ⟨by kernel_rfl, fun L a1 w1 n h => ⟨_, rfl, run_move (.tmp 7) rfl (h.var n 7 (by kernel_rfl))⟩⟩
              · exact .inl ⟨by kernel_rfl, fun L a1 w1 n h => ⟨_, rfl, run_loadRow 26 (.tmp 8) g8 26 _ _ rfl (h.var n 8 (by kernel_rfl)) (h.inv.1.1.row r8 (.inr (.inr (.inr (.inl rfl))))) Tryz.underlying26 rfl (by kernel_rfl)⟩⟩
              · exact .inl ⟨by kernel_rfl, fun L a1 w1 n h => ⟨_, rfl, run_move (.tmp 1) rfl (h.var n 1 (by kernel_rfl))⟩⟩
              · exact .inl ⟨by kernel_rfl, fun L a1 w1 n h => ⟨_, rfl, run_move (.tmp 9) rfl (h.var n 9 (by kernel_rfl))⟩⟩
              · exact .inl ⟨by kernel_rfl, fun L a1 w1 n h => ⟨_, rfl, run_idxO 47 (.tmp 47) (.tmp 48) 54 5 ga oa _ _ i rfl Tryz.underlying47 Tryz.sizeOf54 (h.dep n 2 47 (by kernel_rfl) rfl) (h.dep n 3 48 (by kernel_rfl) rfl) hlt.out⟩⟩
              · exact .inl ⟨by kernel_rfl, fun L a1 w1 n h => ⟨_, rfl, run_loadCq 54 (.tmp 49) ga (oa + i * 5) (a.cells lv) _ rfl (h.dep n 4 49 (by kernel_rfl) rfl) (fun j u hj => (h.inv.1.2.cell (p := ⟨ga, _, none⟩) hga.out).trans (hca.out j u hj)) Tryz.underlying54 rfl (szAct a lv)⟩⟩
              · refine .inr fun L a1 w1 n h K hK => ?_
                have e0 : a1.eval (.tmp 45) = ptr gv := h.dep n 0 45 (by kernel_rfl) rfl
                have e1 : a1.eval (.tmp 46) = vlV x vp vl vs := h.dep n 1 46 (by kernel_rfl) rfl
                have e2 : a1.eval (.tmp 50) = .agg (a.cells lv).toArray := h.dep n 5 50 (by kernel_rfl) rfl
                have no1 : L.getD 7 false = false := n.later (by kernel_rfl)
                have no2 : L.getD 8 false = false := n.later (by kernel_rfl)
                have no4 : L.getD 11 false = false := n.later (by kernel_rfl)
                refine st_call 19 _ _ #[ptr gv, vlV x vp vl vs, .agg (a.cells lv).toArray] rfl Tryz.call19 ?_ (HD.out w1 h.inv.1 (h.inv.2.1 ((bits_at rfl).trans n.not_yet)).1 (h.inv.2.1 ((bits_at rfl).trans n.not_yet)).2) ?_
                · simp only [List.map_toArray, List.map_cons, List.map_nil, e0, e1, e2]
                · rintro e w3 ⟨p9, l9, s9, rfl, hV9, hX9, T9⟩
                  exact ⟨_, rfl, hK _ w3 trivial (JL.called h.inv T9 hV9 ⟨p9, l9, s9, rfl, hX9⟩ rfl no1 no2 (bits_at rfl).symm rfl ((bits_at rfl).trans no4) no4)⟩
              · refine .inr fun L a1 w1 n h K hK => ?_
                have yes : L.getD 6 false = true := n.dep (by kernel_rfl)
                have hrun := fun (o : Oper) (ho : o.op = .move (.tmp 51)) => run_move (P := Tryz.prog) (o := o) (a := a1) (w := w1) (.tmp 51) ho rfl
                unfold Oper.wp
                rw [hrun _ rfl]
                exact hK _ w1 trivial (JL.moved h.inv ((bits_at rfl).trans yes) rfl yes (bits_at rfl).symm (bits_at rfl).symm (bits_at rfl).symm rfl rfl rfl)
              · refine .inr fun L a1 w1 n h K hK => ?_
                have yes : L.getD 7 false = true := n.dep (by kernel_rfl)
                obtain ⟨p9, l9, s9, e9, m9⟩ := h.inv.2.2.2.1 ((bits_at rfl).trans yes)
                have e9 : a1.eval (.tmp 44) = .tuple #[vlV y p9 l9 s9, .bool true] := e9
                have hrun := fun (o : Oper) (ho : o.op = .extract (.tmp 44) 0) => run_extractA (P := Tryz.prog) (o := o) (a := a1) (w := w1) (v := vlV y p9 l9 s9) (.tmp 44) 0 _ ho e9 rfl
                unfold Oper.wp
                rw [hrun _ rfl]
                exact hK _ w1 trivial (JL.taken h.inv rfl m9 (bits_at rfl).symm (bits_at rfl).symm (bits_at rfl).symm (bits_at rfl).symm rfl rfl rfl)
              · refine .inl ⟨by kernel_rfl, fun L a1 w1 n h => ?_⟩
                have yes : L.getD 7 false = true := n.dep (by kernel_rfl)
                obtain ⟨p9, l9, s9, e9, m9⟩ := h.inv.2.2.2.1 ((bits_at rfl).trans yes)
                have e9 : a1.eval (.tmp 44) = .tuple #[vlV y p9 l9 s9, .bool true] := e9
                exact ⟨.bool true, rfl, run_extractA (v := .bool true) (.tmp 44) 1 _ rfl e9 rfl⟩
              · refine .inr fun L a1 w1 n h K hK => ?_
                have no4 : L.getD 11 false = false := n.later (by kernel_rfl)
                refine st_alloc 26 _ _ rfl zeroVl rfl ?_
                intro g7 w3 r7 a7 l7 b7
                exact hK _ w3 trivial (JL.alloced h.inv b7 hBr rfl a7 r7 (bits_at rfl).symm (bits_at rfl).symm (bits_at rfl).symm rfl rfl rfl no4)
              · refine .inr fun L a1 w1 n h K hK => ?_
                have no4 : L.getD 11 false = false := n.not_yet
                have yes2 : L.getD 8 false = true := n.dep (by kernel_rfl)
                have yes3 : L.getD 10 false = true := n.dep (by kernel_rfl)
                have yes0 : L.getD 6 false = true := n.dep (by kernel_rfl)
                obtain ⟨p9, l9, s9, e9, m9⟩ := h.inv.2.2.2.2.1 ((bits_at rfl).trans yes2)
                obtain ⟨g9, eg, hge, hr0, _⟩ := h.inv.2.2.2.2.2 ((bits_at rfl).trans yes3)
                have r0 := hr0 ((bits_at rfl).trans no4)
                refine st_store_row 26 (.tmp 10) (.tmp 52) g9 26 zV (vlC y p9 l9 s9) rfl eg e9 r0 (by kernel_rfl) rfl m9.one ?_
                intro w3 r3 o3
                exact hK undef w3 trivial (JL.stored h.inv hBr o3 r0 r3 eg hge m9 ((bits_at rfl).trans yes0) yes0 (bits_at rfl).symm (bits_at rfl).symm rfl rfl rfl rfl rfl)
              · exact .inl ⟨by kernel_rfl, fun L a1 w1 n h => ⟨_, rfl, run_assign (.tmp 53) rfl (h.dep n 9 53 (by kernel_rfl) rfl)⟩⟩
            case he =>
              intro V w5 hV9 hJ
              have h12 : V 12 = .bool true := hV9 12 11 rfl
              obtain ⟨t5, _, h2, _, _, h5⟩ := hJ
              obtain ⟨hv5, _⟩ := h2 rfl
              obtain ⟨g9, eg, hge, _, hr⟩ := h5 rfl
              obtain ⟨p, lx, s, r9, m9⟩ := hr rfl
              have eg : V 10 = ptr g9 := eg
              have r85 := t5.1.row r8 (.inr (.inr (.inr (.inl rfl))))
              have hg8lt := r8.lt
              have n89 : g8 ≠ g9 := by omega
              have one9 := m9.one
              clear hV9 h2 h5 hr HD hga hca r8
              simp only [putOps, List.setIfInBounds_toArray, List.set_cons_succ, List.set_cons_zero, Nat.reduceAdd]
              rw [h12, eg]
              refine hK6 _ _ ?_
              generalize V 0 = q0
              generalize V 1 = q1
              generalize V 2 = q2
              generalize V 3 = q3
              generalize V 4 = q4
              generalize V 5 = q5
              generalize V 6 = q6
              generalize V 7 = q7
              generalize V 8 = q8
              generalize V 9 = q9
              clear h12 eg
              go_wp2_with (first
                | (with_reducible refine wl_load_row (o := ⟨some 54, _, _, _, _, _⟩) rfl 26 (.tmp 10) g9 26 (vlC y p lx s) _ rfl rfl r9 Tryz.underlying26 rfl (by kernel_rfl) ?_)
                | ((with_reducible refine wl_store_row rfl 26 (.tmp 8) (.tmp 54) g8 26 (vlC x vp vl vs) (vlC y p lx s) rfl rfl rfl r85 (by kernel_rfl) (by kernel_rfl) one9 ?_); intro w6 r86 o6)
                | (with_reducible refine wg_load_row (o := ⟨some 59, _, _, _, _, _⟩) 2 false 57 rfl rfl rfl 26 (.tmp 8) g8 26 (vlC y p lx s) _ rfl rfl r86 Tryz.underlying26 rfl (by kernel_rfl) ?_))
              have hv6 := vx_only hv5 o6 r85
              have m6 := m9.only o6 r85
              have B6 := (BW.trans t5.2).trans (o6.below hB8)
              refine (looks_any w6 w.heap.size gv y p lx s f hv6 m6.vlm m6.one hfM (hGy.bd (by omega))).mono ?_
              rintro e w7 ⟨rfl, b7⟩
              go_wp2_with fail
              go_roundw
              case rel => exact ⟨i + 1, y, p, lx, s, by have := hlt.out; omega, by go_num, hv6.later b7, m6.later b7, hGy, r86.later b7, B6.trans (b7.mono B6.size)⟩
              case measure => have := hlt.out; simp [intOf]; omega
          · obtain rfl : i = l.length := by omega
            go_wp2_with (first
              | (with_reducible refine wl_load_row (o := ⟨some 65, _, _, _, _, _⟩) rfl 26 (.tmp 8) g8 26 (vlC x vp vl vs) _ rfl rfl r8 Tryz.underlying26 rfl (by kernel_rfl) ?_))
            refine (looks_any wr w.heap.size gv x vp vl vs f hV hX.vlm hX.one hfM (hG.bd (by omega))).mono ?_
            rintro e w7 ⟨rfl, b7⟩
            have B7 := BW.trans (b7.mono BW.size)
            go_wp2_with fail
            refine (HAW w7).mono ?_
            rintro e w8 ⟨rfl, b8⟩
            go_wp2_with fail
            go_ret
            exact ⟨rfl, B7.trans (b8.mono B7.size)⟩
  · go_enter Tryz.func6, Tryz.ntmps6
    go_wp2_with fail
    refine (newNo_any w k hk).mono ?_
    rintro e w1 ⟨rfl, b1⟩
    by_cases h1 : k < 1
    · go_wp2_with fail
      refine (HAW w1).mono ?_
      rintro e w3 ⟨rfl, b3⟩
      go_wp2_with fail
      go_ret
      exact ⟨rfl, b1.trans (b3.mono b1.size)⟩
    · have h5 : 5 < k := by omega
      go_wp2_with fail
      refine (HAW w1).mono ?_
      rintro e w3 ⟨rfl, b3⟩
      go_wp2_with fail
      go_ret
      exact ⟨rfl, b1.trans (b3.mono b1.size)⟩
end Go.Proofs.YtpbkejmffddelaaGreat

/- Proved: the law ValuePlays (P15.3) answers true and leaves its arguments as they read before. For every kind, every list of acts and every text; no condition. -/
namespace Go.Proofs.YtpbkejmffddelaaGreat.valuePlays
open Go.ChangeShapes Go.WideShapes Go.ChangeAt Go.RowKit

theorem own : ownKnob Tryz.prog.godebug = none := by kernel_rfl
theorem laidOut : laidOutB Tryz.prog = true := by kernel_rfl

set_option maxRecDepth 100000 in
theorem lifted (os : Os) (started : os.Started) (H : Type) (enc : TypeId × Value → H) :
    ReturnsInHanded {} Tryz.checked os 6 .any (Rows.valuePlaysSpec.pre6 enc Tryz.prog Tryz.f6 Rows.valuePlaysRow.domain false) (Rows.valuePlaysSpec.post enc Tryz.prog Tryz.f6 false true false false) := by
  refine returnsInHanded_of_change_sized (C := Tryz.checked) own started (by kernel_rfl) Tryz.func6
    (ChangeSpec.witness6 (enc := enc) (C := Tryz.checked) false ⟨#[], #[.int .i64 0, .slice none 0 0, .string ByteArray.empty], []⟩ 8 (by kernel_rfl) (by kernel_rfl) (by kernel_rfl) (by kernel_rfl)) ?_
  intro W base args ds gs before hval0 hW hcnd hsz0 _
  have hsz : (DataW.weightsEach Tryz.prog (Tryz.f6.params.toList ++ Rows.valuePlaysSpec.plain.varTypes Tryz.prog) (ds ++ gs)).all (· ≤ reachBytes) = true := hsz0
  have hval : ∀ (j : Nat) t v, Tryz.f6.params[j]? = some t → args[j]? = some v → Value.okWide Tryz.prog W .any base t v := hval0
  have hW' := hW
  obtain ⟨p, q, hA0, hV, rfl, hfz, hnd⟩ := hW
  have hA : DataW.TrodAll enc Tryz.prog W 0 (fun _ => true) true Tryz.f6.params.toList args.toList ds p := hA0
  rw [Tryz.params6] at hA hval hsz
  obtain ⟨v0, vs0, d0, ds0, p0, q0, hargs, rfl, rfl, h0, r0⟩ := trodAll_cons hA
  obtain ⟨v1, vs1, d1, ds1, p1, q1, rfl, rfl, rfl, h1, r1⟩ := trodAll_cons r0
  obtain ⟨v2, vs2, d2, ds2, p2, q2, rfl, rfl, rfl, h2, r2⟩ := trodAll_cons r1
  obtain ⟨rfl, rfl, rfl⟩ := trodAll_nil r2
  obtain rfl : args = #[v0, v1, v2] := by cases args; simp_all
  obtain ⟨rfl, rfl⟩ := trodVars_none hV
  obtain ⟨a0, rfl, rfl, rfl, w0⟩ := open_int Tryz.underlying3 (hval 0 3 v0 rfl rfl) h0
  obtain ⟨a1, len1, cap1, rfl⟩ := okWide_slice Tryz.underlying47 (hval 1 47 v1 rfl rfl)
  have k1 := h1
  have lt1 : ∀ x ∈ p1, x.block < W.heap.size := by obtain ⟨m, hm⟩ := k1; exact DataW.trod_lt m _ _ _ hm
  have k2 := h2
  have lt2 : ∀ x ∈ p2, x.block < W.heap.size := by obtain ⟨m, hm⟩ := k2; exact DataW.trod_lt m _ _ _ hm
  clear hA0 hval0 hsz0
  have z1 : ∀ n ∈ d1.weights Tryz.prog 47, n ≤ reachBytes := fun n hn => by
    have := List.all_eq_true.1 hsz n (DataW.weights_mem_each (j := 1) rfl rfl n hn)
    simpa using this
  have z2 : ∀ n ∈ d2.weights Tryz.prog 9, n ≤ reachBytes := fun n hn => by
    have := List.all_eq_true.1 hsz n (DataW.weights_mem_each (j := 2) rfl rfl n hn)
    simpa using this
  obtain ⟨l1, hA1, hn1⟩ : ∃ l : List VA, VActs2 W W.heap.size (.slice a1 len1 cap1) l ∧ ∀ a ∈ l, a.a.length ≤ 140737488355328 ∧ a.b.length ≤ 140737488355328 := by
    obtain ⟨fuel, hf⟩ := k1
    exact open_acts2 hf z1
  obtain ⟨s2, rfl⟩ := okWide_string Tryz.underlying9 (hval 2 9 v2 rfl rfl)
  have hs2 : Value.string s2 = encStr s2.data.toList := by simp [encStr]
  obtain ⟨f2, ef2, hf2⟩ : ∃ f : Nm, s2.data.toList = f ∧ f.length ≤ 140737488355328 := by
    obtain ⟨fuel, hf⟩ := k2
    obtain ⟨s, e, ex, _⟩ := DataW.trod_string Tryz.underlying9 hf
    have ex1 : d2 = _ := congrArg Prod.fst ex
    have hw := z2 s.data.toList.length (by rw [ex1]; simp [DataW.weights])
    simp only [reachBytes] at hw
    have e' : s2 = s := by simpa [Value.cells] using e
    exact ⟨s.data.toList, by rw [e'], by omega⟩
  have HV := valuePlays_any W a0 _ l1 f2 hA1 hn1 hf2
  rw [← ef2, ← hs2] at HV
  refine HV.mono fun e W' ⟨he, bel⟩ => ?_
  subst he
  exact ⟨_, rfl, _, _, _, [], _, [], hW', trodAll_mk1 (shut_bool Tryz.underlying4 _), (trodAll_cons_mk (shut_int Tryz.underlying3 w0) (trodAll_cons_mk (Below.trod laidOut (by kernel_rfl) (of_decide_eq_true (by kernel_rfl)) k1 bel lt1) (trodAll_cons_mk (Below.trod laidOut (by kernel_rfl) (of_decide_eq_true (by kernel_rfl)) k2 bel lt2) trodAll_mk0))), rfl, bel.frame _, fun h => by cases h⟩

theorem over : Rows.valuePlaysRow.holds Tryz.pinned (OpenSpec.ofChange Rows.valuePlaysSpec) :=
  OpenClaim.holds_of_wide 6 Tryz.f6 rfl rfl rfl rfl rfl rfl rfl ⟨rfl, rfl, rfl, rfl, rfl⟩ rfl rfl rfl rfl rfl (by kernel_rfl) Tryz.func6 (by kernel_rfl)
    (of_decide_eq_true (by kernel_rfl)) (by unfold Func.isWrapper; first | (rw [if_pos (by decide +kernel)]; kernel_rfl) | (rw [if_neg (by decide +kernel)]; exact ⟨rfl, rfl⟩))
    (fun os started H enc _ => lifted os started H enc)

/-- The given statement. -/
theorem proved : Rows.ValuePlaysSaid := over
#print axioms proved
end Go.Proofs.YtpbkejmffddelaaGreat.valuePlays
