/-
  The document's first command of bytes. Contracts. Own work.
-/
import Derived.Test.YthjcmgjmdjihnaaDoorRespV
namespace Go.Proofs.YthjcmgjmdjihnaaDoor
open Go.RowKit Go.Shelf
set_option linter.unusedVariables false
set_option linter.unusedSimpArgs false
theorem fdInfo : (Tryd.prog.info? 32).map (fun i => i.zero) = some (some (.agg #[.slice none 0 0, .int .i64 0, .int .i64 0])) := by kernel_rfl
theorem szFd : (Tryd.prog.info? 32).map (·.size) = some 3 := by kernel_rfl
theorem fdErr (e : Int) : Tryd.prog.built 32 [(1, .int .i64 e)] = some [Value.slice none 0 0, .int .i64 e, .int .i64 0].toArray := by kernel_rfl
theorem fdOk (g : Nat) (r : Int) : Tryd.prog.built 32 [(0, .slice (some ⟨g, 0, none⟩) 1 1), (2, .int .i64 r)] = some [Value.slice (some ⟨g, 0, none⟩) 1 1, .int .i64 0, .int .i64 r].toArray := by kernel_rfl
theorem results_rt1 {P : Program} {fn : Func} {p : Tmp} {ty : TypeId} (h : fn.results = #[.cell p ty]) (tmps : Array Value) (w : World) (g : Nat) (t : TypeId) (cs : List Value) (d : TypeDesc)
    (hp : tmps.getD p undef = .pointer (some ⟨g, 0, none⟩)) (hg : Row w t g cs)
    (hu : P.underlying ty = some d) (hd : (match d with | .struct _ | .array _ _ => true | _ => false) = true) (hi : (P.info? ty).map (·.size) = some cs.length) :
    (results fn tmps).run P w = .ok (.agg cs.toArray) w := by
  have e : (results fn tmps).run P w = ((asAddr (tmps.getD p undef)).run P w).andThen fun a w₁ => (loadVar ty a).run P w₁ := by
    simp only [results, h]
    simp [Sem.run_bind, Result.andThen]
  rw [e, hp]
  simp [asAddr, run_loadVar_row w g t ty cs.toArray (0, 0) d hg hu hd (by simpa using hi)]
def FndRes (w : World) (s : Wd) (e : Ending) (w' : World) : Prop := Below w.heap.size w w' ∧ match cmdL s with
  | .error er => e = .returned (.agg #[.slice none 0 0, .int .i64 (er : Int), .int .i64 0])
  | .ok p => ∃ u g, e = .returned (.agg #[.slice (some ⟨g, 0, none⟩) 1 1, .int .i64 0, .int .i64 (p.2.length : Int)]) ∧ Row w' 40 g [u] ∧ w.heap.size ≤ g ∧ OwnW w' w.heap.size u p.1
theorem tail_is {r : Wd} {k : Nat} (h : k + 2 ≤ r.length) : (r.take (k + 2)).drop k = [13, 10] ↔ r[k]? = some 13 ∧ r[k + 1]? = some 10 := by
  constructor
  · intro he
    have h0 := congrArg (·[0]?) he
    have h1 := congrArg (·[1]?) he
    simp only [List.getElem?_drop, List.getElem?_take] at h0 h1
    rw [if_pos (by omega)] at h0
    rw [if_pos (by omega)] at h1
    exact ⟨by simpa using h0, by simpa using h1⟩
  · rintro ⟨h0, h1⟩
    refine List.ext_getElem? fun j => ?_
    rw [List.getElem?_drop, List.getElem?_take]
    match j with
    | 0 => rw [if_pos (by omega)]; simpa using h0
    | 1 => rw [if_pos (by omega)]; simpa using h1
    | j + 2 => rw [if_neg (by omega)]; rfl
set_option maxRecDepth 100000 in
set_option maxHeartbeats 2000000 in
theorem rcommand_any (s : Wd) (w : World) (hs : s.length ≤ 6000) : Calls Tryd.prog 18 #[encStr s] w (FndRes w s) := by
  obtain ⟨ip, hip, hiz, his, hib⟩ := wordI
  obtain ⟨il, hil, hlz, hls, hlb⟩ := liInfo
  have h01 : 0 < 1 := by decide
  have hC0 := fun w => show Calls Tryd.prog 27 #[encStr s, .string ⟨#[42]⟩, .int .i64 40] w _ from rcnt_any s 42 40 w (Nat.le_trans hs (by decide)) (by decide)
  have hC1 := hide (fun (w : World) (q : Wd) (hq : q.length ≤ 6000) => show Calls Tryd.prog 27 #[encStr q, .string ⟨#[36]⟩, .int .i64 512] w _ from rcnt_any q 36 512 w (Nat.le_trans hq (by decide)) (by decide))
  obtain ⟨n, q0, e0, hcnt, hn40, hq0, hst⟩ : ∃ n q e, cntR (cntL 42 40 s) = (n, q, e) ∧ n ≤ 40 ∧ q.length ≤ 6000 ∧ ((e = 0 ∧ cmdL s = preR [] (wordsL n q)) ∨ (e ≠ 0 ∧ cmdL s = .error e)) := by
    cases hq : cntL 42 40 s with
    | error er => exact ⟨0, [], er, rfl, by omega, by simp, .inr ⟨by have := cntL_err hq; omega, bindE_err hq⟩⟩
    | ok p =>
      obtain ⟨n, q⟩ := p
      have := cntL_less hq
      exact ⟨n, q, 0, rfl, this.2, by omega, .inl ⟨rfl, (bindE_ok hq).trans (preR_nil _).symm⟩⟩
  rw [hcnt] at hC0
  simp only at hC0
  have hn9 := hide hn40
  have hnI : (n : Int) ≤ 40 := by omega
  replace hst := hide hst
  have hone : ∀ (er : Int), ∀ u ∈ [Value.slice none 0 0, .int .i64 er, .int .i64 0], u.oneCell' = true := fun er => by simp [Value.oneCell']
  clear hs hcnt hn40
  go_enter Tryd.func18, Tryd.ntmps18
  go_wp2_with (first
    | (with_reducible refine wl_alloc (o := ⟨some 2, _, _, _, _, _⟩) rfl 32 _ [.slice none 0 0, .int .i64 0, .int .i64 0] rfl fdInfo rfl ?_; intro g2 w2 r2 p2 l2 b2))
  refine (hC0 w2).mono ?_
  rintro e w3 ⟨rfl, b3⟩
  clear hC0
  go_wp2_with fail
  go_loopw [0, 4, 5, 6] (fun sv ev lv iv wr => ∃ (i : Nat) (l : List Wd) (q : Wd) (er : Nat), i ≤ n ∧ iv = .int .i64 (i : Int) ∧ sv = encStr q ∧ ev = .int .i64 (er : Int) ∧ q.length ≤ 6000 ∧ OwnW wr w2.heap.size lv l ∧ Below w2.heap.size w2 wr ∧ l.length ≤ i ∧ ((er = 0 ∧ cmdL s = preR l (wordsL (n - i) q)) ∨ (er ≠ 0 ∧ cmdL s = .error er))) (fun _ _ _ iv _ => 200 - (intOf iv).toNat)
  case atStart => exact ⟨0, [], q0, e0, by omega, rfl, rfl, rfl, hq0, World.ownsRow_nil _ _ _ _, b3, by simp, hst.out⟩
  case round =>
    clear b3
    obtain ⟨i, l, q, er, hi, rfl, rfl, rfl, hq, own, BW, hll, hc⟩ := hrel
    have hwb := BW.size
    obtain ⟨Al, cl, hlv⟩ := own_slB own
    generalize u5 = lv at *
    replace hlv := hide hlv
    have rr : Row wr 32 g2 [.slice none 0 0, .int .i64 0, .int .i64 0] := r2.later BW
    rcases hc with ⟨rfl, hc⟩ | ⟨hne, hc⟩
    · by_cases hin : i < n
      · have hinI : (i : Int) < (n : Int) := by omega
        have HC := hC1.out wr q hq
        obtain ⟨k1, hk1⟩ : ∃ k, n - i = k + 1 := ⟨n - i - 1, by omega⟩
        rw [hk1] at hc
        have hk1b := hide hk1
        have hin9 := hide hin
        replace hc := hide hc
        have hll9 := hide hll
        clear hin hi hk1 hll
        cases hq1 : cntL 36 512 q with
        | error c =>
          have hc0 := cntL_err hq1
          have hcB : ((c : Int) == 0) = false := by rw [beq_eq_false_iff_ne]; omega
          have hcN := hide (show c ≠ 0 by omega)
          rw [cntR_err hq1] at HC
          simp only at HC
          have hR := hide (show cmdL s = .error c from hc.out.trans (words_err (bindE_err hq1)))
          clear hq1 hc0 hq
          go_wp2_with fail
          refine HC.mono ?_
          rintro e w4 ⟨rfl, b4⟩
          clear HC
          go_wp2_with fail
          go_roundw
          case rel => exact ⟨i + 1, l, [], c, by have := hin9.out; omega, by go_num, rfl, rfl, by simp, own_later own b4, BW.trans (b4.mono hwb), by have := hll9.out; omega, .inr ⟨hcN.out, hR.out⟩⟩
          case measure => have := hin9.out; have := hn9.out; simp [intOf]; omega
        | ok p =>
          obtain ⟨k, r⟩ := p
          have hl3 := cntL_less hq1
          rw [cntR_ok hq1] at HC
          simp only at HC
          have hq6 : r.length ≤ 6000 := by omega
          obtain ⟨R0, hR00⟩ : ∃ n, n = r.length := ⟨_, rfl⟩
          obtain ⟨K2, hK20⟩ : ∃ n, n = k + 2 := ⟨_, rfl⟩
          have hR0 := hide hR00.symm
          have hK2 := hide (show IntKind.i64.wrap ((k : Int) + 2) = (K2 : Int) from wrap_id (by omega) (by omega) (by omega))
          have hq19 := hide hq1
          have hk5 := hide hl3.2
          by_cases hsh : r.length < k + 2
          · have hlt2 := hide (show decide ((R0 : Int) < (K2 : Int)) = true from decide_eq_true (by omega))
            have hR := hide (show cmdL s = .error 4 from hc.out.trans (words_err ((bindE_ok hq1).trans (by unfold textL; rw [if_pos hsh]))))
            have hr9 := hide hq6
            clear hq1 hl3 hq hsh hR00 hK20 hq6
            go_wp2_with fail
            refine HC.mono ?_
            rintro e w4 ⟨rfl, b4⟩
            clear HC
            go_wp2_with (first
              | (with_reducible refine wg_run (o := ⟨some 33, _, _, _, _, _⟩) 2 true 31 rfl rfl rfl (.int .i64 (R0 : Int)) (run_lenZ 9 (.tmp 32) r rfl Tryd.underlying9 rfl hR0.out) ?_)
              | (with_reducible refine wg_run (o := ⟨some 35, _, _, _, _, _⟩) 2 true 31 rfl rfl rfl (.int .i64 (K2 : Int)) (run_addZ (.tmp 34) (.const (.int .i64 2)) rfl rfl rfl hK2.out) ?_)
              | (with_reducible refine wg_run (o := ⟨some 36, _, _, _, _, _⟩) 2 true 31 rfl rfl rfl (.bool true) (run_lssZ (.tmp 33) (.tmp 35) rfl rfl rfl hlt2.out) ?_))
            go_roundw
            case rel => exact ⟨i + 1, l, r, 4, by have := hin9.out; omega, by go_num, rfl, rfl, hr9.out, own_later own b4, BW.trans (b4.mono hwb), by have := hll9.out; omega, .inr ⟨by decide, hR.out⟩⟩
            case measure => have := hin9.out; have := hn9.out; simp [intOf]; omega
          · have hlt2 := hide (show decide ((R0 : Int) < (K2 : Int)) = false from decide_eq_false (by omega))
            have hkK := hide (show k ≤ K2 by omega)
            have hKr := hide (show K2 ≤ r.length by omega)
            have hkr := hide (show k ≤ r.length by omega)
            have hti := tail_is (r := r) (k := k) (by omega)
            rw [← hK20] at hti
            by_cases htl0 : (r.take K2).drop k = [13, 10]
            · have htl := hide (show (!decide ((r.take K2).drop k = [13, 10])) = false by rw [decide_eq_true htl0]; rfl)
              have hR := hide (show cmdL s = preR (l ++ [r.take k]) (wordsL k1 (r.drop K2)) from hc.out.trans (words_step ((bindE_ok hq1).trans (by unfold textL; rw [if_neg hsh, if_pos (hti.1 htl0), hK20]))))
              have hm1 := hide (show l.length + 1 ≤ maxLen by simp only [maxLen]; have := hll9.out; have := hin9.out; have := hn9.out; omega)
              have hm2 := hide (show (l.length + 1) * 16 ≤ 140737488355328 by have := hll9.out; have := hin9.out; have := hn9.out; omega)
              have ho1 : ∀ u ∈ [encStr (r.take k)], u.oneCell' = true := by simp [Value.oneCell', encStr]
              have hr9 := hide (show (r.drop K2).length ≤ 6000 by rw [List.length_drop]; omega)
              clear hq1 hl3 hq hsh hR00 hK20 hq6 hti htl0
              go_wp2_with fail
              refine HC.mono ?_
              rintro e w4 ⟨rfl, b4⟩
              clear HC
              have ow3 := own_later own b4
              have B3 := BW.trans (b4.mono hwb)
              have hwb3 := B3.size
              go_wp2_with (first
                | (with_reducible refine wg_run (o := ⟨some 33, _, _, _, _, _⟩) 2 true 31 rfl rfl rfl (.int .i64 (R0 : Int)) (run_lenZ 9 (.tmp 32) r rfl Tryd.underlying9 rfl hR0.out) ?_)
                | (with_reducible refine wg_run (o := ⟨some 35, _, _, _, _, _⟩) 2 true 31 rfl rfl rfl (.int .i64 (K2 : Int)) (run_addZ (.tmp 34) (.const (.int .i64 2)) rfl rfl rfl hK2.out) ?_)
                | (with_reducible refine wg_run (o := ⟨some 36, _, _, _, _, _⟩) 2 true 31 rfl rfl rfl (.bool false) (run_lssZ (.tmp 33) (.tmp 35) rfl rfl rfl hlt2.out) ?_)
                | (with_reducible refine wg_run (o := ⟨some 44, _, _, _, _, _⟩) 2 true 40 rfl rfl rfl (.int .i64 (K2 : Int)) (run_addZ (.tmp 43) (.const (.int .i64 2)) rfl rfl rfl hK2.out) ?_)
                | (with_reducible refine wg_run (o := ⟨some 45, _, _, _, _, _⟩) 2 true 40 rfl rfl rfl (encStr ((r.take K2).drop k)) (run_sliceStr 9 (.tmp 41) (.tmp 42) (.tmp 44) r k K2 rfl Tryd.underlying9 rfl rfl rfl hkK.out hKr.out) ?_)
                | (with_reducible refine wg_run (o := ⟨some 46, _, _, _, _, _⟩) 2 true 40 rfl rfl rfl (.bool false) (run_neStr (.tmp 45) (.const (.string ⟨#[13, 10]⟩)) rfl rfl rfl htl.out) ?_)
                | (with_reducible refine wl_run (o := ⟨some 53, _, _, _, _, _⟩) rfl (encStr (r.take k)) (run_sliceStrR 9 (.tmp 51) (.tmp 52) r k rfl Tryd.underlying9 rfl rfl hkr.out) ?_)
                | ((with_reducible refine wl_build1 (o := ⟨some 54, _, _, _, _, _⟩) rfl 40 (.tmp 53) rfl 9 ip (.string ByteArray.empty) (encStr (r.take k)) Tryd.underlying40 hip hiz his rfl rfl rfl ?_); intro g6 w6 r6 p6 l6 b6; have own6 := own_later ow3 b6; have hwb6 := Nat.le_trans hwb3 b6.size)
                | ((at_builtin; with_reducible refine wl_append_at (o := ⟨some 55, _, _, _, _, _⟩) rfl (.tmp 50) (.tmp 54) 40 rfl w2.heap.size 9 ip _ 1 16 Tryd.underlying40 hip hiz his hib rfl h01 lv _ _ rfl own6 ⟨g6, 0, none⟩ 1 1 [encStr (r.take k)] rfl rfl (row_src r6) ho1 hm1.out hm2.out hwb6 ?_); intro v7 w7 own7 gr7 at7; have B7 : Below w2.heap.size w2 w7 := (B3.trans (b6.mono hwb3)).grown gr7 hwb6 (fun k hk => (own6.lt k hk).1))
                | (with_reducible refine wl_run (o := ⟨some 58, _, _, _, _, _⟩) rfl (.int .i64 (K2 : Int)) (run_addZ (.tmp 57) (.const (.int .i64 2)) rfl rfl rfl hK2.out) ?_)
                | (with_reducible refine wl_run (o := ⟨some 59, _, _, _, _, _⟩) rfl (encStr (r.drop K2)) (run_sliceStrL 9 (.tmp 56) (.tmp 58) r K2 rfl Tryd.underlying9 rfl rfl hKr.out) ?_))
              go_roundw
              case rel =>
                refine ⟨i + 1, l ++ [r.take k], r.drop K2, 0, by have := hin9.out; omega, by go_num, rfl, rfl, hr9.out, ?_, B7, by rw [List.length_append]; have := hll9.out; simp; omega, .inl ⟨rfl, ?_⟩⟩
                · rw [OwnW, List.map_append, List.length_append]
                  exact own7
                · rw [show n - (i + 1) = k1 by have := hk1b.out; omega]
                  exact hR.out
              case measure => have := hin9.out; have := hn9.out; simp [intOf]; omega
            · have htl := hide (show (!decide ((r.take K2).drop k = [13, 10])) = true by rw [decide_eq_false htl0]; rfl)
              have hR := hide (show cmdL s = .error 3 from hc.out.trans (words_err ((bindE_ok hq1).trans (by unfold textL; rw [if_neg hsh, if_neg (fun h => htl0 (hti.2 h))]))))
              have hr9 := hide hq6
              clear hq1 hl3 hq hsh hR00 hK20 hq6 hti htl0
              go_wp2_with fail
              refine HC.mono ?_
              rintro e w4 ⟨rfl, b4⟩
              clear HC
              go_wp2_with (first
                | (with_reducible refine wg_run (o := ⟨some 33, _, _, _, _, _⟩) 2 true 31 rfl rfl rfl (.int .i64 (R0 : Int)) (run_lenZ 9 (.tmp 32) r rfl Tryd.underlying9 rfl hR0.out) ?_)
                | (with_reducible refine wg_run (o := ⟨some 35, _, _, _, _, _⟩) 2 true 31 rfl rfl rfl (.int .i64 (K2 : Int)) (run_addZ (.tmp 34) (.const (.int .i64 2)) rfl rfl rfl hK2.out) ?_)
                | (with_reducible refine wg_run (o := ⟨some 36, _, _, _, _, _⟩) 2 true 31 rfl rfl rfl (.bool false) (run_lssZ (.tmp 33) (.tmp 35) rfl rfl rfl hlt2.out) ?_)
                | (with_reducible refine wg_run (o := ⟨some 44, _, _, _, _, _⟩) 2 true 40 rfl rfl rfl (.int .i64 (K2 : Int)) (run_addZ (.tmp 43) (.const (.int .i64 2)) rfl rfl rfl hK2.out) ?_)
                | (with_reducible refine wg_run (o := ⟨some 45, _, _, _, _, _⟩) 2 true 40 rfl rfl rfl (encStr ((r.take K2).drop k)) (run_sliceStr 9 (.tmp 41) (.tmp 42) (.tmp 44) r k K2 rfl Tryd.underlying9 rfl rfl rfl hkK.out hKr.out) ?_)
                | (with_reducible refine wg_run (o := ⟨some 46, _, _, _, _, _⟩) 2 true 40 rfl rfl rfl (.bool true) (run_neStr (.tmp 45) (.const (.string ⟨#[13, 10]⟩)) rfl rfl rfl htl.out) ?_))
              go_roundw
              case rel => exact ⟨i + 1, l, r, 3, by have := hin9.out; omega, by go_num, rfl, rfl, hr9.out, own_later own b4, BW.trans (b4.mono hwb), by have := hll9.out; omega, .inr ⟨by decide, hR.out⟩⟩
              case measure => have := hin9.out; have := hn9.out; simp [intOf]; omega
      · obtain rfl : i = n := by omega
        rw [Nat.sub_self] at hc
        have hR := hide (show cmdL s = .ok (l, q) by rw [hc]; simp [wordsL, preR])
        have hlv := hlv.out
        subst hlv
        obtain ⟨Q0, hQ0⟩ : ∃ n, n = q.length := ⟨_, rfl⟩
        replace hQ0 := hide hQ0.symm
        have own9 := hide own
        have hone2 : ∀ (g : Nat), ∀ u ∈ [Value.slice (some ⟨g, 0, none⟩) 1 1, .int .i64 0, .int .i64 (Q0 : Int)], u.oneCell' = true := fun g => by simp [Value.oneCell']
        clear hc hi hll hq own hin hone
        go_wp2_with (first
          | (with_reducible refine wl_run (o := ⟨some 67, _, _, _, _, _⟩) rfl (.int .i64 (Q0 : Int)) (run_lenZ 9 (.tmp 66) q rfl Tryd.underlying9 rfl hQ0.out) ?_)
          | (with_reducible refine wl_build1 (o := ⟨some 65, _, _, _, _, _⟩) rfl 27 (.tmp 64) rfl 40 il (.slice none 0 0) (.slice Al l.length cl) Tryd.underlying27 hil hlz hls rfl rfl rfl ?_; intro g6 w6 r6 p6 l6 b6; have rr6 := rr.later b6)
          | (with_reducible refine wl_build rfl 32 [(0, .tmp 65), (2, .tmp 67)] rfl [(0, .slice (some ⟨g6, 0, none⟩) 1 1), (2, .int .i64 (Q0 : Int))] rfl [.slice (some ⟨g6, 0, none⟩) 1 1, .int .i64 0, .int .i64 (Q0 : Int)] (fdOk _ _) ?_)
          | (refine wl_store_row rfl 32 (.tmp 2) (.tmp 68) g2 32 _ [.slice (some ⟨g6, 0, none⟩) 1 1, .int .i64 0, .int .i64 (Q0 : Int)] rfl rfl rfl rr6 szFd rfl (hone2 g6) ?_; intro w9 r9 o9))
        have hg62 : g6 ≠ g2 := by omega
        refine bodyPost_ret (results_rt1 Tryd.results18 _ _ g2 32 _ _ rfl r9 Tryd.underlying32 rfl szFd) rfl ?_
        refine ⟨b2.trans (((BW.mono b2.size).trans (b6.mono (Nat.le_trans b2.size hwb))).trans (o9.below p2)), ?_⟩
        rw [hR.out]
        refine ⟨_, g6, by rw [hQ0.out], r6.only o9 hg62, by omega, ?_⟩
        have o6 := own_later own9.out b6
        exact ownsRow_lo (own_at o6 fun k hk => o9.block k (fun e => by have := (own9.out.lt k hk).1; omega)) b2.size
    · have heB : ((er : Int) == 0) = false := by rw [beq_eq_false_iff_ne]; omega
      have hc9 := hide hc
      by_cases hin : i < n
      · have hinI : (i : Int) < (n : Int) := by omega
        have hone := hone (er : Int)
        clear hc hi hll hq hin hne
        go_wp2_with (first
          | (with_reducible refine wl_build rfl 32 [(1, .tmp 62)] rfl [(1, .int .i64 (er : Int))] rfl [.slice none 0 0, .int .i64 (er : Int), .int .i64 0] (fdErr _) ?_)
          | (refine wl_store_row rfl 32 (.tmp 2) (.tmp 63) g2 32 _ [.slice none 0 0, .int .i64 (er : Int), .int .i64 0] rfl rfl rfl rr szFd rfl hone ?_; intro w9 r9 o9))
        refine bodyPost_ret (results_rt1 Tryd.results18 _ _ g2 32 _ _ rfl r9 Tryd.underlying32 rfl szFd) rfl ?_
        refine ⟨b2.trans ((BW.mono b2.size).trans (o9.below p2)), ?_⟩
        rw [hc9.out]
      · have hinI : ¬ (i : Int) < (n : Int) := by omega
        have hone := hone (er : Int)
        clear hc hi hll hq hin hne
        go_wp2_with (first
          | (with_reducible refine wl_build rfl 32 [(1, .tmp 62)] rfl [(1, .int .i64 (er : Int))] rfl [.slice none 0 0, .int .i64 (er : Int), .int .i64 0] (fdErr _) ?_)
          | (refine wl_store_row rfl 32 (.tmp 2) (.tmp 63) g2 32 _ [.slice none 0 0, .int .i64 (er : Int), .int .i64 0] rfl rfl rfl rr szFd rfl hone ?_; intro w9 r9 o9))
        refine bodyPost_ret (results_rt1 Tryd.results18 _ _ g2 32 _ _ rfl r9 Tryd.underlying32 rfl szFd) rfl ?_
        refine ⟨b2.trans ((BW.mono b2.size).trans (o9.below p2)), ?_⟩
        rw [hc9.out]
end Go.Proofs.YthjcmgjmdjihnaaDoor
