/-
  Commands: the document's Find. Contract. Own work.
-/
import Derived.Test.YtolmomnocfkhoaaDoorVerbZd
import Derived.Test.YtolmomnocfkhoaaDoorVerbZb
namespace Go.Proofs.YtolmomnocfkhoaaDoor
open Go.RowKit
set_option linter.unusedVariables false
set_option linter.unusedSimpArgs false
theorem run_idxSlU {P : Program} {w : World} {a : Act} {o : Oper} (t : TypeId) (x y : Operand) (e : TypeId) (b len cap i : Nat)
    (ho : o.op = .indexAddr t x y) (hu : P.underlying t = some (.slice e)) (hs : ∀ w, (sizeOf e).run P w = .ok 1 w) (hx : a.eval x = .slice (some ⟨b, 0, none⟩) len cap) (hy : a.eval y = .int .i64 i) (hi : i < len) :
    (execOp a.eval o).run P w = .ok (.value (.pointer (some ⟨b, i, none⟩))) w := by
  have := run_idxSl0 (w := w) t x y e 1 b len cap i ho hu hs hx hy hi
  rwa [Nat.mul_one] at this
abbrev rfC (u : List UInt8) (r : RowT) : List Value := [encStr u, .int .i64 r.lo, .int .i64 r.hi, .bool r.wr, .int .i64 r.f, .int .i64 r.l, .int .i64 r.s, .bool r.od, .bool r.ev]
def rfO (u : List UInt8) : Option RowT → List Value
  | some r => rfC u r
  | none => [encStr [], .int .i64 0, .int .i64 0, .bool false, .int .i64 0, .int .i64 0, .int .i64 0, .bool false, .bool false]
theorem szRf (a b c d e f g h i : Value) : (Tryd.prog.info? 30).map (·.size) = some [a, b, c, d, e, f, g, h, i].length := by kernel_rfl
theorem szRw (a b c d e f g h i : Value) : (Tryd.prog.info? 53).map (·.size) = some [a, b, c, d, e, f, g, h, i].length := by kernel_rfl
theorem builtRf (u : List UInt8) (a b : Int) (c : Bool) (d e f : Int) (x y : Bool) : Tryd.prog.built 30 [(0, encStr u), (1, .int .i64 a), (2, .int .i64 b), (3, .bool c), (4, .int .i64 d), (5, .int .i64 e), (6, .int .i64 f), (7, .bool x), (8, .bool y)] = some ([encStr u, .int .i64 a, .int .i64 b, .bool c, .int .i64 d, .int .i64 e, .int .i64 f, .bool x, .bool y] : List Value).toArray := by kernel_rfl
theorem find_at {α : Type} {p : α → Bool} : ∀ {l : List α} {i : Nat} {x : α}, l[i]? = some x → p x = true → (∀ (j : Nat) (y : α), j < i → l[j]? = some y → p y = false) → l.find? p = some x
  | [], i, x, h, _, _ => by simp at h
  | a :: r, 0, x, h, hp, _ => by
    obtain rfl : a = x := by simpa using h
    rw [List.find?_cons_of_pos hp]
  | a :: r, i + 1, x, h, hp, hn => by
    have h0 := hn 0 a (by omega) rfl
    rw [List.find?_cons_of_neg (by rw [h0]; decide)]
    exact find_at (i := i) (by simpa using h) hp fun j y hj hy => hn (j + 1) y (by omega) (by simpa using hy)
theorem find_none {α : Type} {p : α → Bool} {l : List α} (hn : ∀ (j : Nat) (y : α), j < l.length → l[j]? = some y → p y = false) : l.find? p = none := by
  rw [List.find?_eq_none]
  intro x hx e
  obtain ⟨j, hj⟩ := List.mem_iff_getElem?.1 hx
  rw [hn j x (List.getElem?_eq_some_iff.1 hj).1 hj] at e
  cases e
theorem ns_14 : (tbT.all fun r => decide (r.ns.length ≤ 14)) = true := by decide
set_option maxRecDepth 100000 in
set_option maxHeartbeats 8000000 in
theorem rfind_any (w : World) (name : List UInt8) (hl : name.length ≤ 1000000) : Calls Tryd.prog 11 #[encStr name] w fun e w' => e = .returned (.tuple #[.agg (rfO (upL name) (rowOf (upL name))).toArray, .bool (rowOf (upL name)).isSome]) ∧ Below w.heap.size w w' := by
  have HT := table_any
  have HU := fun w => rupper_any w name hl
  generalize upL name = U at *
  obtain ⟨O, hO⟩ : ∃ O, O = rowOf U := ⟨_, rfl⟩
  rw [← hO]
  replace hO := hide hO
  clear hl
  go_enter Tryd.func11, Tryd.ntmps11
  go_wp2_with (first
    | ((with_reducible refine wl_alloc (o := ⟨some 2, _, _, _, _, _⟩) rfl 30 _ [encStr [], .int .i64 0, .int .i64 0, .bool false, .int .i64 0, .int .i64 0, .int .i64 0, .bool false, .bool false] rfl rfl rfl ?_); intro g2 w2 r2 p2 l2 b2))
  refine (HT w2).mono ?_
  rintro e w3 ⟨⟨g, rfl, tb⟩, b3⟩
  clear HT
  go_wp2_with fail
  refine (HU w3).mono ?_
  rintro e w4 ⟨rfl, b4⟩
  clear HU
  have tb4 := tb.later b4
  have r24 := (r2.later b3).later b4
  have B4 := b2.trans ((b3.trans (b4.mono b3.size)).mono b2.size)
  have p2' := p2
  clear tb r2 b2 b3 b4
  replace tb4 := hide tb4
  replace r24 := hide r24
  go_wp2_with fail
  go_loopw [6] (fun iv wr => ∃ i : Nat, iv = .int .i64 (i : Int) ∧ i ≤ 20 ∧ (∀ (j : Nat) (r : RowT), j < i → tbT[j]? = some r → r.ns.contains U = false) ∧ w4 = wr) (fun iv _ => 20 - (intOf iv).toNat)
  case atStart => exact ⟨0, rfl, by decide, fun j r h => by omega, rfl⟩
  case round =>
    obtain ⟨i, rfl, hi, hno, rfl⟩ := hrel
    replace hno := hide hno
    by_cases hi2 : i < 20
    · have hiI : (i : Int) < 20 := by omega
      have hi20 := hide hi2
      obtain ⟨r, hr⟩ : ∃ r, tbT[i]? = some r := ⟨_, List.getElem?_eq_getElem (by rw [tbT_len]; exact hi2)⟩
      obtain ⟨q, hc, hq, hg⟩ := tb4.out.row hr
      have c0 : w4.cell? ⟨g, i * 9, none⟩ = some (.slice (some ⟨q, 0, none⟩) r.ns.length r.ns.length) := hc 0 _ rfl
      have hcs := hide hc
      have hqs := hide hq
      replace hr := hide hr
      obtain ⟨NL, hNL⟩ : ∃ NL, NL = r.ns.length := ⟨_, rfl⟩
      rw [← hNL] at c0
      have hn14 : NL ≤ 14 := by
        have h9 := of_decide_eq_true (List.all_eq_true.1 ns_14 r (List.mem_of_getElem? hr.out))
        rw [hNL]; exact h9
      have hn14I : (NL : Int) ≤ 14 := by omega
      replace hNL := hide hNL
      clear hc hq
      go_wp2_with (first
        | (with_reducible refine wl_run (o := ⟨some 14, _, _, _, _, _⟩) rfl (.int .i64 ((20 : Nat) : Int)) (run_lenSl 50 (.tmp 13) (some ⟨g, 0, none⟩) 20 20 rfl ⟨_, Tryd.underlying50⟩ rfl) ?_))
      go_loopw [7] (fun kv wr => ∃ k : Nat, kv = .int .i64 (k : Int) ∧ k ≤ NL ∧ (∀ m, m < k → r.ns[m]? ≠ some U) ∧ w4 = wr) (fun kv _ => NL - (intOf kv).toNat)
      case atStart => exact ⟨0, rfl, Nat.zero_le _, fun m h => by omega, rfl⟩
      case round =>
        obtain ⟨k, rfl, hk, hm, rfl⟩ := hrel
        replace hm := hide hm
        by_cases hk2 : k < NL
        · have hkI : (k : Int) < (NL : Int) := by omega
          have hkN := hide hk2
          obtain ⟨nm, hnm⟩ : ∃ nm, r.ns[k]? = some nm := ⟨_, List.getElem?_eq_getElem (by have := hNL.out; omega)⟩
          have cn : w4.cell? ⟨q, k, none⟩ = some (encStr nm) := hqs.out.cell (by rw [List.getElem?_map, hnm]; rfl)
          replace hnm := hide hnm
          by_cases he : nm = U
          · have heb := hide (show decide (nm = U) = true from decide_eq_true he)
            have hOr : O = some r := by
              rw [hO.out]
              exact find_at hr.out (List.contains_iff_mem.2 (he ▸ List.mem_of_getElem? hnm.out)) fun j y hj hy => hno.out j y hj hy
            clear he
            subst hOr
            go_wp2_with (first
              | (with_reducible refine wl_run (o := ⟨some 21, _, _, _, _, _⟩) rfl (.pointer (some ⟨g, i * 9, none⟩)) (run_idxSl0 50 (.tmp 19) (.tmp 20) 53 9 g 20 20 i rfl Tryd.underlying50 Tryd.sizeOf53 rfl rfl hi20.out) ?_)
              | (with_reducible refine wl_run (o := ⟨some 23, _, _, _, _, _⟩) rfl (.slice (some ⟨q, 0, none⟩) NL NL) (run_load1 36 (.tmp 22) g (i * 9) _ rfl Tryd.isAgg36 rfl c0) ?_)
              | (with_reducible refine wl_run (o := ⟨some 24, _, _, _, _, _⟩) rfl (.int .i64 (NL : Int)) (run_lenSl 36 (.tmp 23) (some ⟨q, 0, none⟩) NL NL rfl ⟨_, Tryd.underlying36⟩ rfl) ?_)
              | (with_reducible refine wl_run (o := ⟨some 30, _, _, _, _, _⟩) rfl (.pointer (some ⟨g, i * 9, none⟩)) (run_idxSl0 50 (.tmp 28) (.tmp 29) 53 9 g 20 20 i rfl Tryd.underlying50 Tryd.sizeOf53 rfl rfl hi20.out) ?_)
              | (with_reducible refine wl_run (o := ⟨some 32, _, _, _, _, _⟩) rfl (.slice (some ⟨q, 0, none⟩) NL NL) (run_load1 36 (.tmp 31) g (i * 9) _ rfl Tryd.isAgg36 rfl c0) ?_)
              | (with_reducible refine wl_run (o := ⟨some 34, _, _, _, _, _⟩) rfl (.pointer (some ⟨q, k, none⟩)) (run_idxSlU 36 (.tmp 32) (.tmp 33) 9 q NL NL k rfl Tryd.underlying36 Tryd.sizeOf9 rfl rfl hkN.out) ?_)
              | (with_reducible refine wl_run (o := ⟨some 35, _, _, _, _, _⟩) rfl (encStr nm) (run_load1 9 (.tmp 34) q k _ rfl Tryd.isAgg9 rfl cn) ?_)
              | (with_reducible refine wl_run (o := ⟨some 37, _, _, _, _, _⟩) rfl (.bool true) (run_eqStr (.tmp 35) (.tmp 36) rfl rfl rfl heb.out) ?_)
              | (with_reducible refine wl_run (o := ⟨some 40, _, _, _, _, _⟩) rfl (.pointer (some ⟨g, i * 9, none⟩)) (run_idxSl0 50 (.tmp 38) (.tmp 39) 53 9 g 20 20 i rfl Tryd.underlying50 Tryd.sizeOf53 rfl rfl hi20.out) ?_)
              | ((with_reducible refine wl_at 41 rfl ?_); (refine wl_run rfl (.agg (rcC q r).toArray) (run_loadC 53 (.tmp 40) g (i * 9) (rcC q r) _ rfl rfl hcs.out Tryd.underlying53 rfl (szRw _ _ _ _ _ _ _ _ _)) ?_))
              | ((with_reducible refine wl_alloc (o := ⟨some 8, _, _, _, _, _⟩) rfl 53 _ [.slice none 0 0, .int .i64 0, .int .i64 0, .bool false, .int .i64 0, .int .i64 0, .int .i64 0, .bool false, .bool false] rfl rfl rfl ?_); intro g8 w8 r8 p8 l8 b8)
              | ((with_reducible refine wl_store_row rfl 53 (.tmp 8) (.tmp 41) g8 53 _ (rcC q r) rfl rfl rfl r8 (szRw _ _ _ _ _ _ _ _ _) rfl (by simp [Value.oneCell']) ?_); intro w9 r9 o9; have e1 := r9.cell (j := 1) rfl; have e2 := r9.cell (j := 2) rfl; have e3 := r9.cell (j := 3) rfl; have e4 := r9.cell (j := 4) rfl; have e5 := r9.cell (j := 5) rfl; have e6 := r9.cell (j := 6) rfl; have e7 := r9.cell (j := 7) rfl; have e8 := r9.cell (j := 8) rfl; have r29 := (r24.out.later b8).only o9 (Nat.ne_of_lt (Nat.lt_of_lt_of_le r24.out.lt p8)))
              | ((with_reducible refine wl_build (o := ⟨some 59, _, _, _, _, _⟩) rfl 30 [(0, .tmp 42), (1, .tmp 44), (2, .tmp 46), (3, .tmp 48), (4, .tmp 50), (5, .tmp 52), (6, .tmp 54), (7, .tmp 56), (8, .tmp 58)] rfl [(0, encStr U), (1, .int .i64 r.lo), (2, .int .i64 r.hi), (3, .bool r.wr), (4, .int .i64 r.f), (5, .int .i64 r.l), (6, .int .i64 r.s), (7, .bool r.od), (8, .bool r.ev)] rfl (rfC U r) (builtRf _ _ _ _ _ _ _ _ _) ?_))
              | ((with_reducible refine wl_store_row rfl 30 (.tmp 2) (.tmp 59) g2 30 _ (rfC U r) rfl rfl rfl r29 (szRf _ _ _ _ _ _ _ _ _) rfl (by simp [Value.oneCell']) ?_); intro wz rz oz))
            refine bodyPost_ret (v := .tuple #[.agg (rfC U r).toArray, .bool true]) ?_ rfl ⟨rfl, (B4.trans ((b8.trans (o9.below p8)).mono B4.size)).trans (oz.below p2')⟩
            exact results_rt2 Tryd.results11 _ _ g2 30 _ _ _ rfl rz Tryd.underlying30 rfl (szRf _ _ _ _ _ _ _ _ _) rfl
          · have heb := hide (show decide (nm = U) = false from decide_eq_false he)
            have hm2 : ∀ m, m < k + 1 → r.ns[m]? ≠ some U := fun m h1 h2 => by
              rcases Nat.lt_or_ge m k with h | h
              · exact hm.out m h h2
              · obtain rfl : m = k := by omega
                rw [hnm.out] at h2
                exact he (Option.some.inj h2)
            replace hm2 := hide hm2
            clear he
            go_wp2_with (first
          | (with_reducible refine wl_run (o := ⟨some 21, _, _, _, _, _⟩) rfl (.pointer (some ⟨g, i * 9, none⟩)) (run_idxSl0 50 (.tmp 19) (.tmp 20) 53 9 g 20 20 i rfl Tryd.underlying50 Tryd.sizeOf53 rfl rfl hi20.out) ?_)
          | (with_reducible refine wl_run (o := ⟨some 23, _, _, _, _, _⟩) rfl (.slice (some ⟨q, 0, none⟩) NL NL) (run_load1 36 (.tmp 22) g (i * 9) _ rfl Tryd.isAgg36 rfl c0) ?_)
          | (with_reducible refine wl_run (o := ⟨some 24, _, _, _, _, _⟩) rfl (.int .i64 (NL : Int)) (run_lenSl 36 (.tmp 23) (some ⟨q, 0, none⟩) NL NL rfl ⟨_, Tryd.underlying36⟩ rfl) ?_)
          | (with_reducible refine wl_run (o := ⟨some 30, _, _, _, _, _⟩) rfl (.pointer (some ⟨g, i * 9, none⟩)) (run_idxSl0 50 (.tmp 28) (.tmp 29) 53 9 g 20 20 i rfl Tryd.underlying50 Tryd.sizeOf53 rfl rfl hi20.out) ?_)
          | (with_reducible refine wl_run (o := ⟨some 32, _, _, _, _, _⟩) rfl (.slice (some ⟨q, 0, none⟩) NL NL) (run_load1 36 (.tmp 31) g (i * 9) _ rfl Tryd.isAgg36 rfl c0) ?_)
          | (with_reducible refine wl_run (o := ⟨some 34, _, _, _, _, _⟩) rfl (.pointer (some ⟨q, k, none⟩)) (run_idxSlU 36 (.tmp 32) (.tmp 33) 9 q NL NL k rfl Tryd.underlying36 Tryd.sizeOf9 rfl rfl hkN.out) ?_)
          | (with_reducible refine wl_run (o := ⟨some 35, _, _, _, _, _⟩) rfl (encStr nm) (run_load1 9 (.tmp 34) q k _ rfl Tryd.isAgg9 rfl cn) ?_)
          | (with_reducible refine wl_run (o := ⟨some 37, _, _, _, _, _⟩) rfl (.bool false) (run_eqStr (.tmp 35) (.tmp 36) rfl rfl rfl heb.out) ?_))
            go_roundw
            case rel => exact ⟨k + 1, by go_num, hk2, hm2.out, trivial⟩
            case measure => simp [intOf]; omega
        · obtain rfl : k = NL := by omega
          have hno2 : ∀ (j : Nat) (r : RowT), j < i + 1 → tbT[j]? = some r → r.ns.contains U = false := fun j r' h1 h2 => by
            rcases Nat.lt_or_ge j i with h | h
            · exact hno.out j r' h h2
            · obtain rfl : j = i := by omega
              rw [hr.out] at h2
              obtain rfl := Option.some.inj h2
              rw [Bool.eq_false_iff]
              intro e
              obtain ⟨m, h3⟩ := List.mem_iff_getElem?.1 (List.contains_iff_mem.1 e)
              exact hm.out m (by have := (List.getElem?_eq_some_iff.1 h3).1; have := hNL.out; omega) h3
          replace hno2 := hide hno2
          go_wp2_with (first
          | (with_reducible refine wl_run (o := ⟨some 21, _, _, _, _, _⟩) rfl (.pointer (some ⟨g, i * 9, none⟩)) (run_idxSl0 50 (.tmp 19) (.tmp 20) 53 9 g 20 20 i rfl Tryd.underlying50 Tryd.sizeOf53 rfl rfl hi20.out) ?_)
          | (with_reducible refine wl_run (o := ⟨some 23, _, _, _, _, _⟩) rfl (.slice (some ⟨q, 0, none⟩) k k) (run_load1 36 (.tmp 22) g (i * 9) _ rfl Tryd.isAgg36 rfl c0) ?_)
          | (with_reducible refine wl_run (o := ⟨some 24, _, _, _, _, _⟩) rfl (.int .i64 (k : Int)) (run_lenSl 36 (.tmp 23) (some ⟨q, 0, none⟩) k k rfl ⟨_, Tryd.underlying36⟩ rfl) ?_))
          go_roundw
          case rel => exact ⟨i + 1, by go_num, by omega, hno2.out, trivial⟩
          case measure => simp [intOf]; omega
    · obtain rfl : i = 20 := by omega
      have hOn : O = none := by
        rw [hO.out]
        exact find_none fun j y hj hy => hno.out j y (by rw [tbT_len] at hj; exact hj) hy
      subst hOn
      go_wp2_with (first
        | (with_reducible refine wl_run (o := ⟨some 14, _, _, _, _, _⟩) rfl (.int .i64 ((20 : Nat) : Int)) (run_lenSl 50 (.tmp 13) (some ⟨g, 0, none⟩) 20 20 rfl ⟨_, Tryd.underlying50⟩ rfl) ?_)
        | ((with_reducible refine wl_build (o := ⟨some 60, _, _, _, _, _⟩) rfl 30 [] rfl [] rfl [encStr [], .int .i64 0, .int .i64 0, .bool false, .int .i64 0, .int .i64 0, .int .i64 0, .bool false, .bool false] (by kernel_rfl) ?_))
        | ((with_reducible refine wl_store_row rfl 30 (.tmp 2) (.tmp 60) g2 30 _ [encStr [], .int .i64 0, .int .i64 0, .bool false, .int .i64 0, .int .i64 0, .int .i64 0, .bool false, .bool false] rfl rfl rfl r24.out (szRf _ _ _ _ _ _ _ _ _) rfl (by simp [Value.oneCell']) ?_); intro wz rz oz))
      refine bodyPost_ret (v := .tuple #[.agg ([encStr [], .int .i64 0, .int .i64 0, .bool false, .int .i64 0, .int .i64 0, .int .i64 0, .bool false, .bool false] : List Value).toArray, .bool false]) ?_ rfl ⟨rfl, B4.trans (oz.below p2')⟩
      exact results_rt2 Tryd.results11 _ _ g2 30 _ _ _ rfl rz Tryd.underlying30 rfl (szRf _ _ _ _ _ _ _ _ _) rfl
end Go.Proofs.YtolmomnocfkhoaaDoor
