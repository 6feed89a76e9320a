/-
  The law RespCommands: the walk. Own work.
-/
import Derived.Test.YthjcmgjmdjihnaaDoorRespS
namespace Go.Proofs.YthjcmgjmdjihnaaDoor
open Go.RowKit Go.Shelf
set_option linter.unusedVariables false
set_option linter.unusedSimpArgs false
/-- 'append(l, src...)' of bytes, however long: the row is one's own, the source lies wherever, or is nil. -/
theorem wl_append_bsW {P : Program} {w : World} {ops : Array Oper} {rest : List Oper} {o : Oper} {a : Act} {Q : Exit → Act → World → Prop} (hgd : o.guard = none) (s x : Operand) (t : TypeId) (ho : o.op = .call { callee := .builtin .append, args := #[s, x], argTypes := #[t, t] })
    (base : Nat) (e : TypeId) (i : TypeInfo) (ht : P.underlying t = some (.slice e)) (hi : P.info? e = some i) (hz : i.zero = some (.int .u8 0)) (hsz : i.size = 1) (hby : i.bytes = 1)
    (v : Value) (n : Nat) (xs : List Int) (hs : a.eval s = v) (hown : w.ownsRow base e 1 v n (bv xs)) (B : Nat) (A : Option Addr) (m c : Nat) (ys : List Int) (hx : a.eval x = .slice A m c) (hr : Bs w B A m ys) (hroom : n + m ≤ 150000000000000) (hbase : base ≤ w.heap.size)
    (N : Nat) (zs : List Int) (hN : n + m = N) (hzs : xs ++ ys = zs)
    (hk : ∀ v' w', w'.ownsRow base e 1 v' N (bv zs) → w.grownBy w' v.ownBlock → wpList P ops Q rest (a.put o.dst v') w') : wpList P ops Q (o :: rest) a w := by
  subst hN
  subst hzs
  refine wpList_plain hgd fun K hK => ?_
  have key : ∃ v' w', (Builtin.append_ #[t, t] o.type #[v, .slice A m c]).run P w = .ok v' w' ∧ w'.ownsRow base e 1 v' (n + m) (bv (xs ++ ys)) ∧ w.grownBy w' v.ownBlock := by
    rcases A with _ | ad
    · obtain rfl : m = 0 := by
        rcases Nat.eq_zero_or_pos m with h0 | h0
        · exact h0
        · obtain ⟨_, _, h, _⟩ := hr.2 h0; cases h
      obtain rfl : ys = [] := List.eq_nil_of_length_eq_zero hr.1
      refine ⟨v, w, ?_, by simpa using hown, ⟨rfl, rfl, rfl, Nat.le_refl _, fun _ _ _ => rfl⟩⟩
      rcases hown.2 with ⟨rfl, rfl⟩ | ⟨g, cap, cur, rfl, _, _, hnc, _⟩
      · simp [Builtin.append_, run_underlying ht, sizeOf, typeInfo, hi, Builtin.lenOf, Builtin.firstCells]
      · simp [Builtin.append_, run_underlying ht, sizeOf, typeInfo, hi, Builtin.lenOf, Builtin.firstCells, hnc, storeCells]
    · obtain ⟨v', w', r1, r2, r3, _⟩ := run_append_own_wide (P := P) w base t o.type e i _ 1 1 ht hi hz hsz hby rfl (by decide) v n (bv xs) hown ad m c (bv ys) (by rw [bv_len, hr.1, Nat.mul_one]) (fun j u hu => hr.cells rfl j u hu) (bv_one ys) (by simp only [maxLen]; omega) (by omega) hbase
      exact ⟨v', w', r1, by rw [bv, List.map_append]; exact r2, r3⟩
  obtain ⟨v', w', hrun, h2, h3⟩ := key
  unfold Oper.wp execOp
  simp only [ho, resolve, invoke, builtin, Sem.run_bind, Sem.run_pure, Result.andThen_ok, List.map_toArray, List.map_cons, List.map_nil, hs, hx, hrun]
  exact hK _ _ (hk v' w' h2 h3)
def mayN (n : Nat) : Bool := decide (1 ≤ n ∧ n ≤ 40)
def okN (l : List Wd) : Bool := l.all fun a => decide (a.length ≤ 512)
theorem okN_snoc (l : List Wd) (a : Wd) : okN (l ++ [a]) = (okN l && decide (a.length ≤ 512)) := by simp [okN]
theorem take_snoc {α : Type} {l : List α} {i : Nat} {a : α} (h : l[i]? = some a) : l.take (i + 1) = l.take i ++ [a] := by
  obtain ⟨hi, rfl⟩ := List.getElem?_eq_some_iff.1 h
  rw [List.take_succ_eq_append_getElem hi]
def SRc11 (A A2 : Option Addr) (N2 c c2 : Nat) (ws : List Wd) (C : Wd) (opn : Nat) (v : Value) : Prop :=
  match opn with
  | 0 => v = .slice A2 N2 c2
  | 1 | 3 => v = encStr C
  | 2 => v = .slice A ws.length c
  | 4 => v = .bool false
  | _ => True

set_option maxRecDepth 100000 in
set_option maxHeartbeats 4000000 in
theorem rescmd_any (W : World) (v : Value) (ws : List Wd) (m : Wd) (A1 : Option Addr) (c1 : Nat) (hs : StV W v ws) (hz : ∀ a ∈ ws, a.length ≤ 140737488351232) (hm : Bs W W.heap.size A1 m.length (nb m)) (hT : TabV W) :
    Calls Tryd.prog 5 #[v, .slice A1 m.length c1] W fun e w' => e = .returned (.bool true) ∧ Below W.heap.size W w' := by
  obtain ⟨A, c, rfl, x1⟩ := id hs
  clear x1
  have hTb := hide (TabB.of hT)
  have HA := hide (fun (w : World) (hw : Below W.heap.size W w) => awake_any w (hTb.out.below hw).here)
  have hs9 := hide hs
  have hm9 := hide hm
  have hT9 := hide hT
  have hz9 := hide hz
  obtain ⟨N1, hN1⟩ : ∃ n, n = m.length := ⟨_, rfl⟩
  rw [← hN1] at hm9 ⊢
  replace hN1 := hide hN1
  clear hs hm hT hz
  go_enter Tryd.func5, Tryd.ntmps5
  go_wp2_with fail
  go_loopw [5, 6] (fun sv iv wr => ∃ i : Nat, i ≤ ws.length ∧ i ≤ 60 ∧ smL (ws.take i) ≤ 6000 ∧ iv = .int .i64 (i : Int) ∧ sv = .int .i64 (smL (ws.take i) : Int) ∧ W = wr) (fun _ iv _ => 100 - (intOf iv).toNat)
  case atStart => exact ⟨0, by omega, by omega, by rw [List.take_zero]; simp [smL], rfl, by rw [List.take_zero]; rfl, (by first | rfl | trivial)⟩
  case round =>
    obtain ⟨i, hi, hi6, hsm, rfl, rfl, rfl⟩ := hrel
    have HAW := HA.out W (Below.refl _ _)
    by_cases hlt : i < ws.length
    · have hltI : (i : Int) < (ws.length : Int) := by omega
      by_cases h60 : i < 60
      · have h60I : (i : Int) < 60 := by omega
        obtain ⟨a, ha⟩ : ∃ a, ws[i]? = some a := ⟨_, List.getElem?_eq_getElem hlt⟩
        obtain ⟨x1, g, off, rfl, cc⟩ := hs9.out.at ha
        have hst := hide (take_snoc ha)
        have hmn := hide (show min (a.length : Int) 6000 = ((min a.length 6000 : Nat) : Int) by omega)
        have hadd := hide (show IntKind.i64.wrap ((smL (ws.take i) : Int) + ((min a.length 6000 : Nat) : Int)) = (smL (ws.take (i + 1)) : Int) by
          rw [hst.out, smL_snoc]
          have : min a.length 6000 ≤ 6000 := Nat.min_le_right _ _
          rw [← Int.natCast_add]
          exact wrap_id (by omega) (by omega) (by omega))
        obtain ⟨S0, hS0⟩ : ∃ s, s = smL (ws.take i) := ⟨_, rfl⟩
        obtain ⟨S1, hS1⟩ : ∃ s, s = smL (ws.take (i + 1)) := ⟨_, rfl⟩
        rw [← hS0, ← hS1] at hadd
        rw [← hS0]
        have hi9 := hide hi
        replace hS1 := hide hS1
        clear x1 ha hi hsm hS0
        by_cases hb : 6000 < S1
        · have hbI : (6000 : Int) < (S1 : Int) := by omega
          go_wp2_with (first
            | (with_reducible refine wl_run (o := ⟨some 25, _, _, _, _, _⟩) rfl (.pointer (some ⟨g, off + i * 1, none⟩)) (run_idxO 40 (.tmp 23) (.tmp 24) 9 1 g off ws.length c i rfl Tryd.underlying40 Tryd.sizeOf9 rfl rfl hlt) ?_)
            | (with_reducible refine wl_run (o := ⟨some 27, _, _, _, _, _⟩) rfl (.int .i64 (a.length : Int)) (run_lenStr 9 (.tmp 26) a rfl Tryd.underlying9 rfl) ?_)
            | (with_reducible refine wl_run (o := ⟨some 28, _, _, _, _, _⟩) rfl (.int .i64 ((min a.length 6000 : Nat) : Int)) (run_min2 (.tmp 27) (.const (.int .i64 6000)) 3 3 rfl rfl rfl hmn.out) ?_)
            | (with_reducible refine wl_run (o := ⟨some 29, _, _, _, _, _⟩) rfl (.int .i64 (S1 : Int)) (run_addZ (.tmp 22) (.tmp 28) rfl rfl rfl hadd.out) ?_))
          refine HAW.mono ?_
          rintro e w5 ⟨rfl, b5⟩
          go_wp2_with fail
          go_ret
          exact ⟨rfl, b5⟩
        · have hbI : ¬ (6000 : Int) < (S1 : Int) := by omega
          go_wp2_with (first
            | (with_reducible refine wl_run (o := ⟨some 25, _, _, _, _, _⟩) rfl (.pointer (some ⟨g, off + i * 1, none⟩)) (run_idxO 40 (.tmp 23) (.tmp 24) 9 1 g off ws.length c i rfl Tryd.underlying40 Tryd.sizeOf9 rfl rfl hlt) ?_)
            | (with_reducible refine wl_run (o := ⟨some 27, _, _, _, _, _⟩) rfl (.int .i64 (a.length : Int)) (run_lenStr 9 (.tmp 26) a rfl Tryd.underlying9 rfl) ?_)
            | (with_reducible refine wl_run (o := ⟨some 28, _, _, _, _, _⟩) rfl (.int .i64 ((min a.length 6000 : Nat) : Int)) (run_min2 (.tmp 27) (.const (.int .i64 6000)) 3 3 rfl rfl rfl hmn.out) ?_)
            | (with_reducible refine wl_run (o := ⟨some 29, _, _, _, _, _⟩) rfl (.int .i64 (S1 : Int)) (run_addZ (.tmp 22) (.tmp 28) rfl rfl rfl hadd.out) ?_))
          go_roundw
          case rel => exact ⟨i + 1, hlt, by omega, by rw [← hS1.out]; omega, by go_num, by rw [← hS1.out], (by first | rfl | trivial)⟩
          case measure => simp [intOf]; omega
      · have h60I : ¬ (i : Int) < 60 := by omega
        have hbI : (60 : Int) < (ws.length : Int) := by omega
        clear hsm hi hi6 hlt h60
        generalize smL (ws.take i) = S0
        go_wp2_with fail
        refine HAW.mono ?_
        rintro e w5 ⟨rfl, b5⟩
        go_wp2_with fail
        go_ret
        exact ⟨rfl, b5⟩
    · obtain rfl : i = ws.length := by omega
      rw [List.take_length] at hsm ⊢
      have hbI : ¬ (60 : Int) < (ws.length : Int) := by omega
      have hle9 := hide hi6
      by_cases hm6 : m.length ≤ 6000
      · have hmI : ¬ (6000 : Int) < (N1 : Int) := by rw [hN1.out]; omega
        obtain ⟨q1, q2, q3⟩ := cmd_fits (m := m) hi6 hsm hz9.out hm6
        have HC := cmd_any W _ ws hs9.out q3 (by omega) hT9.out
        have HRC0 := hide (fun (w1 : World) (hb : Below W.heap.size W w1) => rcmd_any w1 _ ws (hs9.out.later hb) (by omega) (by omega))
        have hpc0 : (mayN ws.length && okN ws) = true → (pars (cmdB ws ++ m)).1 = ws :: (pars m).1 := by
          intro h
          rw [Bool.and_eq_true] at h
          have h1 := of_decide_eq_true h.1
          rw [pars_cmd h1.2 (fun a ha => of_decide_eq_true (List.all_eq_true.1 h.2 a ha)) (by rintro rfl; simp at h1)]
        unfold PutRes at HC
        obtain ⟨C, hC⟩ : ∃ C, C = cmdB ws := ⟨_, rfl⟩
        rw [← hC] at HC HRC0 hpc0 q1 q2
        obtain ⟨S, hS⟩ : ∃ S, S = C ++ m := ⟨_, rfl⟩
        have hSb := hide (show nb C ++ nb m = nb S by rw [hS, nb_app])
        have hSl0 : C.length + N1 = S.length := by rw [hS, hN1.out, List.length_append]
        rw [← hS] at q1 q2 hpc0
        have hcnt := hide q1
        have hlenS := hide q2
        have hpc9 := hide hpc0
        obtain ⟨N2, hN2⟩ : ∃ n, n = C.length := ⟨_, rfl⟩
        rw [← hN2] at hSl0
        have hSl := hide hSl0
        have hroom := hide (show N2 + N1 ≤ 150000000000000 by omega)
        have hcv : PutRes W W.heap.size C = PutRes W W.heap.size C := rfl
        replace hN2 := hide hN2
        generalize smL ws = S0
        clear hsm q1 q2 q3 hpc0 hC hS hSl0 hm6 hcv hlt hi hi6
        go_wp2_with fail
        refine HC.mono ?_
        rintro e w2 ⟨v2, rfl, own2, b2⟩
        clear HC
        unfold OwnB at own2
        obtain ⟨A2, c2, rfl, bs2, _, _⟩ := ownsRow_bs own2
        rw [← hN2.out] at own2 bs2 ⊢
        have hbs2 := hide (fun (w1 : World) (hb : Below w2.heap.size w2 w1) => bs2.later hb)
        have HRC := hide (fun (w1 : World) (hb : Below w2.heap.size w2 w1) => HRC0.out w1 (b2.trans (hb.mono b2.size)))
        have own29 := hide own2
        clear own2 bs2
        go_wp2_with fail
        rename_i K6 hK6
        refine wp_region_vals [3] (SRc11 A A2 N2 c c2 ws C) (fun _ _ wz => Below w2.heap.size w2 wz) (by kernel_rfl) (by kernel_rfl) (by kernel_rfl) (by kernel_rfl) (by kernel_rfl) ((Below.refl _ _).drew) ?obs6 ?he6
        case obs6 =>
          refine ⟨?_, ?_, ?_, ?_, ?_, trivial⟩
          · exact .inl ⟨by kernel_rfl, fun L a1 w1 n h => ⟨_, rfl, run_move (.tmp 7) rfl (h.var n 7 (by kernel_rfl))⟩⟩
          · exact .inl ⟨by kernel_rfl, fun L a1 w1 n h => ⟨_, rfl, run_toTxt 26 9 5 (.tmp 44) rfl (h.dep n 0 44 (by kernel_rfl) rfl) (hbs2.out w1 h.inv) Tryd.underlying26 Tryd.underlying5 Tryd.underlying9⟩⟩
          · exact .inl ⟨by kernel_rfl, fun L a1 w1 n h => ⟨_, rfl, run_move (.tmp 0) rfl (h.var n 0 (by kernel_rfl))⟩⟩
          · refine .inr fun L a1 w1 n h K hK => ?_
            have e0 : a1.eval (.tmp 46) = .slice A ws.length c := h.dep n 2 46 (by kernel_rfl) rfl
            refine st_call 14 _ _ #[.slice A ws.length c] rfl Tryd.call14 ?_ (HRC.out w1 h.inv) ?_
            · simp only [List.map_toArray, List.map_cons, List.map_nil, e0]
            · rintro e w3 ⟨rfl, b9⟩
              exact ⟨_, rfl, hK _ w3 rfl (h.inv.trans (b9.mono h.inv.size))⟩
          · exact .inl ⟨by kernel_rfl, fun L a1 w1 n h => ⟨_, rfl, run_neStr (.tmp 45) (.tmp 47) rfl (h.dep n 1 45 (by kernel_rfl) rfl) (h.dep n 3 47 (by kernel_rfl) rfl) (by simp)⟩⟩
        case he6 =>
          intro V w7 hV hJ
          have b7 : Below w2.heap.size w2 w7 := hJ
          have hE : V 4 = .bool false := hV 4 _ rfl
          clear hV hJ
          simp only [putOps, List.setIfInBounds_toArray, List.set_cons_succ, List.set_cons_zero, Nat.reduceAdd]
          rw [hE]
          have own7 := hide (own_later own29.out b7)
          have B7 := hide (show Below W.heap.size W w7 from b2.trans (b7.mono b2.size))
          clear HRC HRC0 hbs2 own29 HAW hE
          rcases (show ws.length = 0 ∨ (1 ≤ ws.length ∧ ws.length ≤ 40) ∨ 40 < ws.length by omega) with h13 | h13 | h13
          · have i1 : ¬ (1 : Int) ≤ (ws.length : Int) := by omega
            have hst0 := hide (show mayN ws.length = false from decide_eq_false (by omega))
            clear h13
            go_wp2_with fail
            clear i1
            go_loopw [8, 9] (fun mv iv wr => ∃ i : Nat, i ≤ ws.length ∧ iv = .int .i64 (i : Int) ∧ mv = .bool (mayN ws.length && okN (ws.take i)) ∧ wr = w7) (fun _ iv _ => 100 - (intOf iv).toNat)
            case atStart => exact ⟨0, by omega, rfl, by rw [List.take_zero, hst0.out]; rfl, (by first | rfl | trivial)⟩
            case round =>
              obtain ⟨i, hi, rfl, rfl, rfl⟩ := hrel
              by_cases hlt : i < ws.length
              · have hltI : (i : Int) < (ws.length : Int) := by omega
                obtain ⟨a, ha⟩ : ∃ a, ws[i]? = some a := ⟨_, List.getElem?_eq_getElem hlt⟩
                obtain ⟨x1, g, off, rfl, cc⟩ := (hs9.out.later B7.out).at ha
                have hst := hide (take_snoc ha)
                have hi9 := hide hi
                clear x1 ha hi
                cases hM : (mayN ws.length && okN (ws.take i)) with
                | false =>
                  go_wp2_with fail
                  go_roundw
                  case rel => exact ⟨i + 1, hlt, by go_num, by rw [hst.out, okN_snoc, ← Bool.and_assoc, hM]; rfl, (by first | rfl | trivial)⟩
                  case measure => have := hle9.out; simp [intOf]; omega
                | true =>
                  have HX := hide hM
                  by_cases hal : a.length ≤ 512
                  · have halI : (a.length : Int) ≤ 512 := by omega
                    go_wp2_with (first
                      | (with_reducible refine wg_run (o := ⟨some 67, _, _, _, _, _⟩) 1 true 64 rfl rfl rfl (.pointer (some ⟨g, off + i * 1, none⟩)) (run_idxO 40 (.tmp 65) (.tmp 66) 9 1 g off ws.length c i rfl Tryd.underlying40 Tryd.sizeOf9 rfl rfl hlt) ?_)
                      | (with_reducible refine wg_run (o := ⟨some 69, _, _, _, _, _⟩) 1 true 64 rfl rfl rfl (.int .i64 (a.length : Int)) (run_lenStr 9 (.tmp 68) a rfl Tryd.underlying9 rfl) ?_))
                    go_roundw
                    case rel => exact ⟨i + 1, hlt, by go_num, by rw [hst.out, okN_snoc, ← Bool.and_assoc, HX.out, decide_eq_true hal]; rfl, (by first | rfl | trivial)⟩
                    case measure => have := hle9.out; simp [intOf]; omega
                  · have halI : ¬ (a.length : Int) ≤ 512 := by omega
                    go_wp2_with (first
                      | (with_reducible refine wg_run (o := ⟨some 67, _, _, _, _, _⟩) 1 true 64 rfl rfl rfl (.pointer (some ⟨g, off + i * 1, none⟩)) (run_idxO 40 (.tmp 65) (.tmp 66) 9 1 g off ws.length c i rfl Tryd.underlying40 Tryd.sizeOf9 rfl rfl hlt) ?_)
                      | (with_reducible refine wg_run (o := ⟨some 69, _, _, _, _, _⟩) 1 true 64 rfl rfl rfl (.int .i64 (a.length : Int)) (run_lenStr 9 (.tmp 68) a rfl Tryd.underlying9 rfl) ?_))
                    go_roundw
                    case rel => exact ⟨i + 1, hlt, by go_num, by rw [hst.out, okN_snoc, ← Bool.and_assoc, HX.out, decide_eq_false hal]; rfl, (by first | rfl | trivial)⟩
                    case measure => have := hle9.out; simp [intOf]; omega
              · obtain rfl : i = ws.length := by omega
                rw [List.take_length]
                clear hlt hi
                obtain ⟨M, hM0⟩ : ∃ M, M = (mayN ws.length && okN ws) := ⟨_, rfl⟩
                rw [← hM0]
                have hpc := hide (show M = true → (pars S).1 = ws :: (pars m).1 from hM0 ▸ hpc9.out)
                clear hM0
                go_wp2_with fail
                refine (new_ps wr).mono ?_
                rintro e w8 ⟨gp, rfl, ps8, p8, l8, b8⟩
                have B8 := B7.out.trans (b8.mono B7.out.size)
                have own8 := own_later own7.out b8
                have hw8 := b8.size
                have hm8 := hm9.out.later B8
                obtain ⟨i8, hi8, hz8, hsz8, hby8⟩ := u8_infoR
                go_wp2_with (first
                  | ((at_builtin; with_reducible refine wl_append_bsW (o := ⟨some 76, _, _, _, _, _⟩) rfl (.tmp 74) (.tmp 75) 26 rfl W.heap.size 5 i8 Tryd.underlying26 hi8 hz8 hsz8 hby8 (.slice A2 N2 c2) _ (nb C) rfl own8 w8.heap.size A1 N1 c1 (nb m) rfl hm8 hroom.out B8.size S.length (nb S) hSl.out hSb.out ?_); intro v9 w9 own9 gr9))
                have hgp : gp ∉ ownL (.slice A2 N2 c2) := by
                  intro hm
                  unfold ownL at hm
                  cases ho : (Value.slice A2 N2 c2).ownBlock with
                  | none => rw [ho] at hm; simp at hm
                  | some q =>
                    rw [ho] at hm
                    simp at hm
                    subst hm
                    have := (own7.out.lt _ ho).2
                    omega
                have bz9 : ButZ (ownL (.slice A2 N2 c2)) w8 w9 := ButZ.own gr9 (fun k hk => hk)
                have ps9 := ps8.butz bz9 hgp (by intro k _ h; cases h)
                have B89 : Below W.heap.size w8 w9 := (Below.refl W.heap.size w8).grown gr9 B8.size fun k hk => (own8.lt k hk).1
                have B9 := B8.trans B89
                have hw9 := bz9.size
                obtain ⟨A9, c9, rfl, bs9, _, _⟩ := ownsRow_bs own9
                have HF := feed_go w9 gp wr.heap.size _ [] S A9 c9 ps9 bs9 ((hTb.out.below B9).up B7.out.size) p8 (by rw [List.nil_append]; exact hcnt.out) (by
                  have := hlenS.out
                  rw [List.nil_append]
                  simp only [List.length_nil, Nat.zero_add]
                  exact this.imp id fun h => ⟨trivial, h⟩)
                unfold FeedRes at HF
                rw [feed_first] at HF
                clear ps8 ps9 own8 own9 bs9 hm8
                go_wp2_with fail
                refine HF.mono ?_
                rintro e w10 ⟨lv, vp, rfl, oc10, pp10, hv10, bz10⟩
                clear HF
                have B910 : Below wr.heap.size w9 w10 := bz10.below (by intro k hk; simp [ownL, Value.ownBlock] at hk; omega) (Nat.le_trans b8.size hw9)
                have B10 : Below W.heap.size W w10 := B9.trans (B910.mono B7.out.size)
                have cm := oc10.cmv
                clear oc10 pp10 hv10 bz10
                cases M with
                | false =>
                  have HA10 := HA.out w10 B10
                  obtain ⟨Ac, cp, rfl, xc⟩ := id cm
                  clear xc cm
                  go_wp2_with fail
                  refine HA10.mono ?_
                  rintro e w11 ⟨rfl, b11⟩
                  go_wp2_with fail
                  go_ret
                  exact ⟨rfl, B10.trans (b11.mono B10.size)⟩
                | true =>
                  rw [hpc.out rfl] at cm
                  obtain ⟨Ac, cp, rfl, xc⟩ := id cm
                  obtain ⟨x2, gc, oc, u, rfl, cu, su⟩ := cm.at (i := 0) (l := ws) rfl
                  clear xc x2 cm
                  have h0L : 0 < (ws :: (pars m).1).length := Nat.succ_pos _
                  have h0I : (0 : Int) < ((ws :: (pars m).1).length : Int) := by omega
                  rw [Nat.add_zero] at cu
                  have HSm := sameW_any w10 u (.slice A ws.length c) ws su (hs9.out.later B10) (Nat.le_trans hle9.out (by decide))
                  obtain ⟨L, hL⟩ : ∃ L, L = (ws :: (pars m).1).length := ⟨_, rfl⟩
                  rw [← hL] at h0L h0I ⊢
                  clear hL
                  have su9 := hide su
                  clear su
                  go_wp2_with (first
                    | (with_reducible refine wg_run (o := ⟨some 88, _, _, _, _, _⟩) 6 true 86 rfl rfl rfl (.pointer (some ⟨gc, oc, none⟩)) (run_idxO0 27 (.tmp 87) (.const (.int .i64 0)) 40 1 gc oc L cp rfl Tryd.underlying27 Tryd.sizeOf40 rfl rfl h0L) ?_))
                  refine HSm.mono ?_
                  rintro e w11 ⟨rfl, b11⟩
                  have B11 := B10.trans (b11.mono B10.size)
                  have HA11 := HA.out w11 B11
                  clear HSm
                  go_wp2_with fail
                  refine HA11.mono ?_
                  rintro e w12 ⟨rfl, b12⟩
                  go_wp2_with fail
                  go_ret
                  exact ⟨rfl, B11.trans (b12.mono B11.size)⟩
          · have i1 : (1 : Int) ≤ (ws.length : Int) := by omega
            have i2 : (ws.length : Int) ≤ 40 := by omega
            have hst0 := hide (show mayN ws.length = true from decide_eq_true h13)
            clear h13
            go_wp2_with fail
            clear i1 i2
            go_loopw [8, 9] (fun mv iv wr => ∃ i : Nat, i ≤ ws.length ∧ iv = .int .i64 (i : Int) ∧ mv = .bool (mayN ws.length && okN (ws.take i)) ∧ wr = w7) (fun _ iv _ => 100 - (intOf iv).toNat)
            case atStart => exact ⟨0, by omega, rfl, by rw [List.take_zero, hst0.out]; rfl, (by first | rfl | trivial)⟩
            case round =>
              obtain ⟨i, hi, rfl, rfl, rfl⟩ := hrel
              by_cases hlt : i < ws.length
              · have hltI : (i : Int) < (ws.length : Int) := by omega
                obtain ⟨a, ha⟩ : ∃ a, ws[i]? = some a := ⟨_, List.getElem?_eq_getElem hlt⟩
                obtain ⟨x1, g, off, rfl, cc⟩ := (hs9.out.later B7.out).at ha
                have hst := hide (take_snoc ha)
                have hi9 := hide hi
                clear x1 ha hi
                cases hM : (mayN ws.length && okN (ws.take i)) with
                | false =>
                  go_wp2_with fail
                  go_roundw
                  case rel => exact ⟨i + 1, hlt, by go_num, by rw [hst.out, okN_snoc, ← Bool.and_assoc, hM]; rfl, (by first | rfl | trivial)⟩
                  case measure => have := hle9.out; simp [intOf]; omega
                | true =>
                  have HX := hide hM
                  by_cases hal : a.length ≤ 512
                  · have halI : (a.length : Int) ≤ 512 := by omega
                    go_wp2_with (first
                      | (with_reducible refine wg_run (o := ⟨some 67, _, _, _, _, _⟩) 1 true 64 rfl rfl rfl (.pointer (some ⟨g, off + i * 1, none⟩)) (run_idxO 40 (.tmp 65) (.tmp 66) 9 1 g off ws.length c i rfl Tryd.underlying40 Tryd.sizeOf9 rfl rfl hlt) ?_)
                      | (with_reducible refine wg_run (o := ⟨some 69, _, _, _, _, _⟩) 1 true 64 rfl rfl rfl (.int .i64 (a.length : Int)) (run_lenStr 9 (.tmp 68) a rfl Tryd.underlying9 rfl) ?_))
                    go_roundw
                    case rel => exact ⟨i + 1, hlt, by go_num, by rw [hst.out, okN_snoc, ← Bool.and_assoc, HX.out, decide_eq_true hal]; rfl, (by first | rfl | trivial)⟩
                    case measure => have := hle9.out; simp [intOf]; omega
                  · have halI : ¬ (a.length : Int) ≤ 512 := by omega
                    go_wp2_with (first
                      | (with_reducible refine wg_run (o := ⟨some 67, _, _, _, _, _⟩) 1 true 64 rfl rfl rfl (.pointer (some ⟨g, off + i * 1, none⟩)) (run_idxO 40 (.tmp 65) (.tmp 66) 9 1 g off ws.length c i rfl Tryd.underlying40 Tryd.sizeOf9 rfl rfl hlt) ?_)
                      | (with_reducible refine wg_run (o := ⟨some 69, _, _, _, _, _⟩) 1 true 64 rfl rfl rfl (.int .i64 (a.length : Int)) (run_lenStr 9 (.tmp 68) a rfl Tryd.underlying9 rfl) ?_))
                    go_roundw
                    case rel => exact ⟨i + 1, hlt, by go_num, by rw [hst.out, okN_snoc, ← Bool.and_assoc, HX.out, decide_eq_false hal]; rfl, (by first | rfl | trivial)⟩
                    case measure => have := hle9.out; simp [intOf]; omega
              · obtain rfl : i = ws.length := by omega
                rw [List.take_length]
                clear hlt hi
                obtain ⟨M, hM0⟩ : ∃ M, M = (mayN ws.length && okN ws) := ⟨_, rfl⟩
                rw [← hM0]
                have hpc := hide (show M = true → (pars S).1 = ws :: (pars m).1 from hM0 ▸ hpc9.out)
                clear hM0
                go_wp2_with fail
                refine (new_ps wr).mono ?_
                rintro e w8 ⟨gp, rfl, ps8, p8, l8, b8⟩
                have B8 := B7.out.trans (b8.mono B7.out.size)
                have own8 := own_later own7.out b8
                have hw8 := b8.size
                have hm8 := hm9.out.later B8
                obtain ⟨i8, hi8, hz8, hsz8, hby8⟩ := u8_infoR
                go_wp2_with (first
                  | ((at_builtin; with_reducible refine wl_append_bsW (o := ⟨some 76, _, _, _, _, _⟩) rfl (.tmp 74) (.tmp 75) 26 rfl W.heap.size 5 i8 Tryd.underlying26 hi8 hz8 hsz8 hby8 (.slice A2 N2 c2) _ (nb C) rfl own8 w8.heap.size A1 N1 c1 (nb m) rfl hm8 hroom.out B8.size S.length (nb S) hSl.out hSb.out ?_); intro v9 w9 own9 gr9))
                have hgp : gp ∉ ownL (.slice A2 N2 c2) := by
                  intro hm
                  unfold ownL at hm
                  cases ho : (Value.slice A2 N2 c2).ownBlock with
                  | none => rw [ho] at hm; simp at hm
                  | some q =>
                    rw [ho] at hm
                    simp at hm
                    subst hm
                    have := (own7.out.lt _ ho).2
                    omega
                have bz9 : ButZ (ownL (.slice A2 N2 c2)) w8 w9 := ButZ.own gr9 (fun k hk => hk)
                have ps9 := ps8.butz bz9 hgp (by intro k _ h; cases h)
                have B89 : Below W.heap.size w8 w9 := (Below.refl W.heap.size w8).grown gr9 B8.size fun k hk => (own8.lt k hk).1
                have B9 := B8.trans B89
                have hw9 := bz9.size
                obtain ⟨A9, c9, rfl, bs9, _, _⟩ := ownsRow_bs own9
                have HF := feed_go w9 gp wr.heap.size _ [] S A9 c9 ps9 bs9 ((hTb.out.below B9).up B7.out.size) p8 (by rw [List.nil_append]; exact hcnt.out) (by
                  have := hlenS.out
                  rw [List.nil_append]
                  simp only [List.length_nil, Nat.zero_add]
                  exact this.imp id fun h => ⟨trivial, h⟩)
                unfold FeedRes at HF
                rw [feed_first] at HF
                clear ps8 ps9 own8 own9 bs9 hm8
                go_wp2_with fail
                refine HF.mono ?_
                rintro e w10 ⟨lv, vp, rfl, oc10, pp10, hv10, bz10⟩
                clear HF
                have B910 : Below wr.heap.size w9 w10 := bz10.below (by intro k hk; simp [ownL, Value.ownBlock] at hk; omega) (Nat.le_trans b8.size hw9)
                have B10 : Below W.heap.size W w10 := B9.trans (B910.mono B7.out.size)
                have cm := oc10.cmv
                clear oc10 pp10 hv10 bz10
                cases M with
                | false =>
                  have HA10 := HA.out w10 B10
                  obtain ⟨Ac, cp, rfl, xc⟩ := id cm
                  clear xc cm
                  go_wp2_with fail
                  refine HA10.mono ?_
                  rintro e w11 ⟨rfl, b11⟩
                  go_wp2_with fail
                  go_ret
                  exact ⟨rfl, B10.trans (b11.mono B10.size)⟩
                | true =>
                  rw [hpc.out rfl] at cm
                  obtain ⟨Ac, cp, rfl, xc⟩ := id cm
                  obtain ⟨x2, gc, oc, u, rfl, cu, su⟩ := cm.at (i := 0) (l := ws) rfl
                  clear xc x2 cm
                  have h0L : 0 < (ws :: (pars m).1).length := Nat.succ_pos _
                  have h0I : (0 : Int) < ((ws :: (pars m).1).length : Int) := by omega
                  rw [Nat.add_zero] at cu
                  have HSm := sameW_any w10 u (.slice A ws.length c) ws su (hs9.out.later B10) (Nat.le_trans hle9.out (by decide))
                  obtain ⟨L, hL⟩ : ∃ L, L = (ws :: (pars m).1).length := ⟨_, rfl⟩
                  rw [← hL] at h0L h0I ⊢
                  clear hL
                  have su9 := hide su
                  clear su
                  go_wp2_with (first
                    | (with_reducible refine wg_run (o := ⟨some 88, _, _, _, _, _⟩) 6 true 86 rfl rfl rfl (.pointer (some ⟨gc, oc, none⟩)) (run_idxO0 27 (.tmp 87) (.const (.int .i64 0)) 40 1 gc oc L cp rfl Tryd.underlying27 Tryd.sizeOf40 rfl rfl h0L) ?_))
                  refine HSm.mono ?_
                  rintro e w11 ⟨rfl, b11⟩
                  have B11 := B10.trans (b11.mono B10.size)
                  have HA11 := HA.out w11 B11
                  clear HSm
                  go_wp2_with fail
                  refine HA11.mono ?_
                  rintro e w12 ⟨rfl, b12⟩
                  go_wp2_with fail
                  go_ret
                  exact ⟨rfl, B11.trans (b12.mono B11.size)⟩
          · have i1 : (1 : Int) ≤ (ws.length : Int) := by omega
            have i2 : ¬ (ws.length : Int) ≤ 40 := by omega
            have hst0 := hide (show mayN ws.length = false from decide_eq_false (by omega))
            clear h13
            go_wp2_with fail
            clear i1 i2
            go_loopw [8, 9] (fun mv iv wr => ∃ i : Nat, i ≤ ws.length ∧ iv = .int .i64 (i : Int) ∧ mv = .bool (mayN ws.length && okN (ws.take i)) ∧ wr = w7) (fun _ iv _ => 100 - (intOf iv).toNat)
            case atStart => exact ⟨0, by omega, rfl, by rw [List.take_zero, hst0.out]; rfl, (by first | rfl | trivial)⟩
            case round =>
              obtain ⟨i, hi, rfl, rfl, rfl⟩ := hrel
              by_cases hlt : i < ws.length
              · have hltI : (i : Int) < (ws.length : Int) := by omega
                obtain ⟨a, ha⟩ : ∃ a, ws[i]? = some a := ⟨_, List.getElem?_eq_getElem hlt⟩
                obtain ⟨x1, g, off, rfl, cc⟩ := (hs9.out.later B7.out).at ha
                have hst := hide (take_snoc ha)
                have hi9 := hide hi
                clear x1 ha hi
                cases hM : (mayN ws.length && okN (ws.take i)) with
                | false =>
                  go_wp2_with fail
                  go_roundw
                  case rel => exact ⟨i + 1, hlt, by go_num, by rw [hst.out, okN_snoc, ← Bool.and_assoc, hM]; rfl, (by first | rfl | trivial)⟩
                  case measure => have := hle9.out; simp [intOf]; omega
                | true =>
                  have HX := hide hM
                  by_cases hal : a.length ≤ 512
                  · have halI : (a.length : Int) ≤ 512 := by omega
                    go_wp2_with (first
                      | (with_reducible refine wg_run (o := ⟨some 67, _, _, _, _, _⟩) 1 true 64 rfl rfl rfl (.pointer (some ⟨g, off + i * 1, none⟩)) (run_idxO 40 (.tmp 65) (.tmp 66) 9 1 g off ws.length c i rfl Tryd.underlying40 Tryd.sizeOf9 rfl rfl hlt) ?_)
                      | (with_reducible refine wg_run (o := ⟨some 69, _, _, _, _, _⟩) 1 true 64 rfl rfl rfl (.int .i64 (a.length : Int)) (run_lenStr 9 (.tmp 68) a rfl Tryd.underlying9 rfl) ?_))
                    go_roundw
                    case rel => exact ⟨i + 1, hlt, by go_num, by rw [hst.out, okN_snoc, ← Bool.and_assoc, HX.out, decide_eq_true hal]; rfl, (by first | rfl | trivial)⟩
                    case measure => have := hle9.out; simp [intOf]; omega
                  · have halI : ¬ (a.length : Int) ≤ 512 := by omega
                    go_wp2_with (first
                      | (with_reducible refine wg_run (o := ⟨some 67, _, _, _, _, _⟩) 1 true 64 rfl rfl rfl (.pointer (some ⟨g, off + i * 1, none⟩)) (run_idxO 40 (.tmp 65) (.tmp 66) 9 1 g off ws.length c i rfl Tryd.underlying40 Tryd.sizeOf9 rfl rfl hlt) ?_)
                      | (with_reducible refine wg_run (o := ⟨some 69, _, _, _, _, _⟩) 1 true 64 rfl rfl rfl (.int .i64 (a.length : Int)) (run_lenStr 9 (.tmp 68) a rfl Tryd.underlying9 rfl) ?_))
                    go_roundw
                    case rel => exact ⟨i + 1, hlt, by go_num, by rw [hst.out, okN_snoc, ← Bool.and_assoc, HX.out, decide_eq_false hal]; rfl, (by first | rfl | trivial)⟩
                    case measure => have := hle9.out; simp [intOf]; omega
              · obtain rfl : i = ws.length := by omega
                rw [List.take_length]
                clear hlt hi
                obtain ⟨M, hM0⟩ : ∃ M, M = (mayN ws.length && okN ws) := ⟨_, rfl⟩
                rw [← hM0]
                have hpc := hide (show M = true → (pars S).1 = ws :: (pars m).1 from hM0 ▸ hpc9.out)
                clear hM0
                go_wp2_with fail
                refine (new_ps wr).mono ?_
                rintro e w8 ⟨gp, rfl, ps8, p8, l8, b8⟩
                have B8 := B7.out.trans (b8.mono B7.out.size)
                have own8 := own_later own7.out b8
                have hw8 := b8.size
                have hm8 := hm9.out.later B8
                obtain ⟨i8, hi8, hz8, hsz8, hby8⟩ := u8_infoR
                go_wp2_with (first
                  | ((at_builtin; with_reducible refine wl_append_bsW (o := ⟨some 76, _, _, _, _, _⟩) rfl (.tmp 74) (.tmp 75) 26 rfl W.heap.size 5 i8 Tryd.underlying26 hi8 hz8 hsz8 hby8 (.slice A2 N2 c2) _ (nb C) rfl own8 w8.heap.size A1 N1 c1 (nb m) rfl hm8 hroom.out B8.size S.length (nb S) hSl.out hSb.out ?_); intro v9 w9 own9 gr9))
                have hgp : gp ∉ ownL (.slice A2 N2 c2) := by
                  intro hm
                  unfold ownL at hm
                  cases ho : (Value.slice A2 N2 c2).ownBlock with
                  | none => rw [ho] at hm; simp at hm
                  | some q =>
                    rw [ho] at hm
                    simp at hm
                    subst hm
                    have := (own7.out.lt _ ho).2
                    omega
                have bz9 : ButZ (ownL (.slice A2 N2 c2)) w8 w9 := ButZ.own gr9 (fun k hk => hk)
                have ps9 := ps8.butz bz9 hgp (by intro k _ h; cases h)
                have B89 : Below W.heap.size w8 w9 := (Below.refl W.heap.size w8).grown gr9 B8.size fun k hk => (own8.lt k hk).1
                have B9 := B8.trans B89
                have hw9 := bz9.size
                obtain ⟨A9, c9, rfl, bs9, _, _⟩ := ownsRow_bs own9
                have HF := feed_go w9 gp wr.heap.size _ [] S A9 c9 ps9 bs9 ((hTb.out.below B9).up B7.out.size) p8 (by rw [List.nil_append]; exact hcnt.out) (by
                  have := hlenS.out
                  rw [List.nil_append]
                  simp only [List.length_nil, Nat.zero_add]
                  exact this.imp id fun h => ⟨trivial, h⟩)
                unfold FeedRes at HF
                rw [feed_first] at HF
                clear ps8 ps9 own8 own9 bs9 hm8
                go_wp2_with fail
                refine HF.mono ?_
                rintro e w10 ⟨lv, vp, rfl, oc10, pp10, hv10, bz10⟩
                clear HF
                have B910 : Below wr.heap.size w9 w10 := bz10.below (by intro k hk; simp [ownL, Value.ownBlock] at hk; omega) (Nat.le_trans b8.size hw9)
                have B10 : Below W.heap.size W w10 := B9.trans (B910.mono B7.out.size)
                have cm := oc10.cmv
                clear oc10 pp10 hv10 bz10
                cases M with
                | false =>
                  have HA10 := HA.out w10 B10
                  obtain ⟨Ac, cp, rfl, xc⟩ := id cm
                  clear xc cm
                  go_wp2_with fail
                  refine HA10.mono ?_
                  rintro e w11 ⟨rfl, b11⟩
                  go_wp2_with fail
                  go_ret
                  exact ⟨rfl, B10.trans (b11.mono B10.size)⟩
                | true =>
                  rw [hpc.out rfl] at cm
                  obtain ⟨Ac, cp, rfl, xc⟩ := id cm
                  obtain ⟨x2, gc, oc, u, rfl, cu, su⟩ := cm.at (i := 0) (l := ws) rfl
                  clear xc x2 cm
                  have h0L : 0 < (ws :: (pars m).1).length := Nat.succ_pos _
                  have h0I : (0 : Int) < ((ws :: (pars m).1).length : Int) := by omega
                  rw [Nat.add_zero] at cu
                  have HSm := sameW_any w10 u (.slice A ws.length c) ws su (hs9.out.later B10) (Nat.le_trans hle9.out (by decide))
                  obtain ⟨L, hL⟩ : ∃ L, L = (ws :: (pars m).1).length := ⟨_, rfl⟩
                  rw [← hL] at h0L h0I ⊢
                  clear hL
                  have su9 := hide su
                  clear su
                  go_wp2_with (first
                    | (with_reducible refine wg_run (o := ⟨some 88, _, _, _, _, _⟩) 6 true 86 rfl rfl rfl (.pointer (some ⟨gc, oc, none⟩)) (run_idxO0 27 (.tmp 87) (.const (.int .i64 0)) 40 1 gc oc L cp rfl Tryd.underlying27 Tryd.sizeOf40 rfl rfl h0L) ?_))
                  refine HSm.mono ?_
                  rintro e w11 ⟨rfl, b11⟩
                  have B11 := B10.trans (b11.mono B10.size)
                  have HA11 := HA.out w11 B11
                  clear HSm
                  go_wp2_with fail
                  refine HA11.mono ?_
                  rintro e w12 ⟨rfl, b12⟩
                  go_wp2_with fail
                  go_ret
                  exact ⟨rfl, B11.trans (b12.mono B11.size)⟩
      · have hmI : (6000 : Int) < (N1 : Int) := by rw [hN1.out]; omega
        generalize smL ws = S0
        clear hsm hi hi6 hlt hm6
        go_wp2_with fail
        refine HAW.mono ?_
        rintro e w5 ⟨rfl, b5⟩
        go_wp2_with fail
        go_ret
        exact ⟨rfl, b5⟩
end Go.Proofs.YthjcmgjmdjihnaaDoor
