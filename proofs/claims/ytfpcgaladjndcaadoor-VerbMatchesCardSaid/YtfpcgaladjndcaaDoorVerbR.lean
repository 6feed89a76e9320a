/-
  Patterns: the document's side: what brackets tell, where they end, a first part. Contracts. Own work.
-/
import Derived.Test.YtfpcgaladjndcaaDoorVerbF
namespace Go.Proofs.YtfpcgaladjndcaaDoor
open Go.RowKit
set_option linter.unusedVariables false
set_option linter.unusedSimpArgs false
/-- What stands from a place on, in brackets. -/
theorem tells_at3 {s : List UInt8} {i : Nat} {a b c : UInt8} (h0 : s[i]? = some a) (h1 : s[i + 1]? = some 45) (h2 : s[i + 2]? = some b) : tellsL (s.drop i) c = ((decide (a ≤ c) && decide (c ≤ b)) || tellsL (s.drop (i + 3)) c) := by
  rw [drop_cons h0, drop_cons h1, drop_cons h2]
  exact tells_long a 45 b _ c rfl
theorem tells_at1 {s : List UInt8} {i : Nat} {a c : UInt8} (h0 : s[i]? = some a) (h : ¬ (i + 2 < s.length ∧ s[i + 1]? = some 45)) : tellsL (s.drop i) c = (a == c || tellsL (s.drop (i + 1)) c) := by
  rw [drop_cons h0, tells_short a _ c, ← self_tells]
  rintro ⟨h1, h2⟩
  refine h ⟨?_, ?_⟩
  · have := lt_of_get h0
    simp at h1; omega
  · rw [List.getElem?_drop] at h2; exact h2
set_option maxRecDepth 100000 in
set_option maxHeartbeats 4000000 in
theorem in_any (w : World) (s : List UInt8) (c : UInt8) (hl : s.length ≤ 1000000) :
    Calls Tryd.prog 52 #[encStr s, .int .u8 (c.toNat : Int)] w fun e w' => e = .returned (.bool (tellsL s c)) ∧ w = w' := by
  have hlI : (s.length : Int) ≤ 1000000 := by omega
  have hcb := u8_lt c
  obtain ⟨T, hT⟩ : ∃ T, T = tellsL s c := ⟨_, rfl⟩
  rw [← hT]
  go_enter Tryd.func52, Tryd.ntmps52
  go_wp2_with fail
  go_loopw [5, 6, 7] (fun bv kv iv wr => ∃ (B : Bool) (k i : Nat), bv = .bool B ∧ kv = .int .i64 (k : Int) ∧ iv = .int .i64 (i : Int) ∧ k ≤ 2 ∧ i + k ≤ s.length ∧ T = (B || tellsL (s.drop (i + k)) c) ∧ w = wr) (fun _ _ iv _ => s.length - (intOf iv).toNat)
  case atStart => exact ⟨false, 0, 0, rfl, rfl, rfl, by decide, Nat.zero_le _, by rw [hT]; rfl, rfl⟩
  case round =>
    obtain ⟨B, k, i, rfl, rfl, rfl, hk2, hik, ht, rfl⟩ := hrel
    clear hT
    replace ht := hide ht
    by_cases hi : i < s.length
    · have hiI : (i : Int) < (s.length : Int) := by omega
      by_cases hk : 0 < k
      · have hkI : (0 : Int) < (k : Int) := by omega
        obtain ⟨q, hq⟩ : ∃ q, k = q + 1 := ⟨k - 1, by omega⟩
        have hz := hide (show IntKind.i64.wrap ((k : Int) - 1) = (q : Int) from wrap_id (by omega) (by omega) (by omega))
        replace hq := hide hq
        go_wp2_with (first
          | (with_reducible refine wl_run (o := ⟨some 10, _, _, _, _, _⟩) rfl (.int .i64 (s.length : Int)) (run_lenStr 9 (.tmp 9) s rfl Tryd.underlying9 rfl) ?_)
          | (with_reducible refine wl_run (o := ⟨some 17, _, _, _, _, _⟩) rfl (.int .i64 (q : Int)) (run_subZ (.tmp 16) (.const (.int .i64 1)) rfl rfl rfl hz.out) ?_))
        go_roundw
        case rel => exact ⟨B, q, i + 1, rfl, rfl, by go_num, by have := hq.out; omega, by have := hq.out; omega, by rw [ht.out, show i + k = i + 1 + q by have := hq.out; omega], trivial⟩
        case measure => simp [intOf]; omega
      · obtain rfl : k = 0 := by omega
        obtain ⟨a, ha⟩ : ∃ a, s[i]? = some a := ⟨_, List.getElem?_eq_getElem hi⟩
        have hab := u8_lt a
        obtain ⟨j, hj⟩ : ∃ j, j = i + 1 := ⟨_, rfl⟩
        obtain ⟨m, hm⟩ : ∃ m, m = i + 2 := ⟨_, rfl⟩
        have hjz := hide (show IntKind.i64.wrap ((i : Int) + 1) = (j : Int) from wrap_id (by omega) (by omega) (by omega))
        have hmz := hide (show IntKind.i64.wrap ((i : Int) + 2) = (m : Int) from wrap_id (by omega) (by omega) (by omega))
        have hk0 : ¬ (0 : Int) < ((0 : Nat) : Int) := by decide
        by_cases hg : i + 2 < s.length ∧ s[i + 1]? = some 45
        · obtain ⟨hg1, hg2⟩ := hg
          have hmI : (m : Int) < (s.length : Int) := by omega
          obtain ⟨b, hb⟩ : ∃ b, s[i + 2]? = some b := ⟨_, List.getElem?_eq_getElem hg1⟩
          have hbb := u8_lt b
          have ht3 := tells_at3 (c := c) ha hg2 hb
          rw [← hj] at hg2
          rw [← hm] at hb
          have ht4 := hide (show T = (B || ((decide (a ≤ c) && decide (c ≤ b)) || tellsL (s.drop (j + 2)) c)) by rw [ht.out, Nat.add_zero, ht3, hj])
          replace ha := hide ha
          replace hg2 := hide hg2
          replace hb := hide hb
          replace hj := hide hj
          replace hm := hide hm
          clear ht3
          cases B with
          | true =>
            go_wp2_with (first
              | (with_reducible refine wl_run (o := ⟨some 10, _, _, _, _, _⟩) rfl (.int .i64 (s.length : Int)) (run_lenStr 9 (.tmp 9) s rfl Tryd.underlying9 rfl) ?_)
              | (with_reducible refine wl_run (o := ⟨some 19, _, _, _, _, _⟩) rfl (.int .i64 (m : Int)) (run_addZ (.tmp 18) (.const (.int .i64 2)) rfl rfl rfl hmz.out) ?_)
              | (with_reducible refine wl_run (o := ⟨some 21, _, _, _, _, _⟩) rfl (.int .i64 (s.length : Int)) (run_lenStr 9 (.tmp 20) s rfl Tryd.underlying9 rfl) ?_)
              | (refine wg_run (o := ⟨some 26, _, _, _, _, _⟩) 5 true 23 rfl rfl rfl (.int .i64 (j : Int)) (run_addZ (.tmp 25) (.const (.int .i64 1)) rfl rfl rfl hjz.out) ?_)
              | (refine wg_run (o := ⟨some 27, _, _, _, _, _⟩) 5 true 23 rfl rfl rfl (.int .u8 ((45 : UInt8).toNat : Int)) (run_idxStr 9 (.tmp 24) (.tmp 26) s j (45 : UInt8) rfl Tryd.underlying9 rfl rfl hg2.out) ?_)
              | (refine wg_run (o := ⟨some 34, _, _, _, _, _⟩) 1 false 31 rfl rfl rfl (.int .u8 (a.toNat : Int)) (run_idxStr 9 (.tmp 32) (.tmp 33) s i a rfl Tryd.underlying9 rfl rfl ha.out) ?_)
              | (refine wg_run (o := ⟨some 41, _, _, _, _, _⟩) 7 true 37 rfl rfl rfl (.int .i64 (m : Int)) (run_addZ (.tmp 40) (.const (.int .i64 2)) rfl rfl rfl hmz.out) ?_)
              | (refine wg_run (o := ⟨some 42, _, _, _, _, _⟩) 7 true 37 rfl rfl rfl (.int .u8 (b.toNat : Int)) (run_idxStr 9 (.tmp 39) (.tmp 41) s m b rfl Tryd.underlying9 rfl rfl hb.out) ?_)
              | (refine wg_run (o := ⟨some 50, _, _, _, _, _⟩) 1 false 47 rfl rfl rfl (.int .u8 (a.toNat : Int)) (run_idxStr 9 (.tmp 48) (.tmp 49) s i a rfl Tryd.underlying9 rfl rfl ha.out) ?_)
              | (with_reducible refine wl_run (o := ⟨some 13, _, _, _, _, _⟩) rfl (.int .i64 (j : Int)) (run_addZ (.tmp 12) (.const (.int .i64 1)) rfl rfl rfl hjz.out) ?_))
            go_roundw
            case rel => exact ⟨true, 2, j, rfl, rfl, rfl, by decide, by have := hj.out; omega, by rw [ht4.out]; rfl, trivial⟩
            case measure => have := hj.out; simp [intOf]; omega
          | false =>
            by_cases q1 : (a.toNat : Int) ≤ (c.toNat : Int)
            · by_cases q2 : (c.toNat : Int) ≤ (b.toNat : Int)
              · go_wp2_with (first
                  | (with_reducible refine wl_run (o := ⟨some 10, _, _, _, _, _⟩) rfl (.int .i64 (s.length : Int)) (run_lenStr 9 (.tmp 9) s rfl Tryd.underlying9 rfl) ?_)
                  | (with_reducible refine wl_run (o := ⟨some 19, _, _, _, _, _⟩) rfl (.int .i64 (m : Int)) (run_addZ (.tmp 18) (.const (.int .i64 2)) rfl rfl rfl hmz.out) ?_)
                  | (with_reducible refine wl_run (o := ⟨some 21, _, _, _, _, _⟩) rfl (.int .i64 (s.length : Int)) (run_lenStr 9 (.tmp 20) s rfl Tryd.underlying9 rfl) ?_)
                  | (refine wg_run (o := ⟨some 26, _, _, _, _, _⟩) 5 true 23 rfl rfl rfl (.int .i64 (j : Int)) (run_addZ (.tmp 25) (.const (.int .i64 1)) rfl rfl rfl hjz.out) ?_)
                  | (refine wg_run (o := ⟨some 27, _, _, _, _, _⟩) 5 true 23 rfl rfl rfl (.int .u8 ((45 : UInt8).toNat : Int)) (run_idxStr 9 (.tmp 24) (.tmp 26) s j (45 : UInt8) rfl Tryd.underlying9 rfl rfl hg2.out) ?_)
                  | (refine wg_run (o := ⟨some 34, _, _, _, _, _⟩) 1 false 31 rfl rfl rfl (.int .u8 (a.toNat : Int)) (run_idxStr 9 (.tmp 32) (.tmp 33) s i a rfl Tryd.underlying9 rfl rfl ha.out) ?_)
                  | (refine wg_run (o := ⟨some 41, _, _, _, _, _⟩) 7 true 37 rfl rfl rfl (.int .i64 (m : Int)) (run_addZ (.tmp 40) (.const (.int .i64 2)) rfl rfl rfl hmz.out) ?_)
                  | (refine wg_run (o := ⟨some 42, _, _, _, _, _⟩) 7 true 37 rfl rfl rfl (.int .u8 (b.toNat : Int)) (run_idxStr 9 (.tmp 39) (.tmp 41) s m b rfl Tryd.underlying9 rfl rfl hb.out) ?_)
                  | (refine wg_run (o := ⟨some 50, _, _, _, _, _⟩) 1 false 47 rfl rfl rfl (.int .u8 (a.toNat : Int)) (run_idxStr 9 (.tmp 48) (.tmp 49) s i a rfl Tryd.underlying9 rfl rfl ha.out) ?_)
                  | (with_reducible refine wl_run (o := ⟨some 13, _, _, _, _, _⟩) rfl (.int .i64 (j : Int)) (run_addZ (.tmp 12) (.const (.int .i64 1)) rfl rfl rfl hjz.out) ?_))
                go_roundw
                case rel => exact ⟨true, 2, j, rfl, rfl, rfl, by decide, by have := hj.out; omega, by rw [ht4.out]; rw [decide_eq_true ((u8_le _ _).1 q1), decide_eq_true ((u8_le _ _).1 q2)]; rfl, trivial⟩
                case measure => have := hj.out; simp [intOf]; omega
              · go_wp2_with (first
                  | (with_reducible refine wl_run (o := ⟨some 10, _, _, _, _, _⟩) rfl (.int .i64 (s.length : Int)) (run_lenStr 9 (.tmp 9) s rfl Tryd.underlying9 rfl) ?_)
                  | (with_reducible refine wl_run (o := ⟨some 19, _, _, _, _, _⟩) rfl (.int .i64 (m : Int)) (run_addZ (.tmp 18) (.const (.int .i64 2)) rfl rfl rfl hmz.out) ?_)
                  | (with_reducible refine wl_run (o := ⟨some 21, _, _, _, _, _⟩) rfl (.int .i64 (s.length : Int)) (run_lenStr 9 (.tmp 20) s rfl Tryd.underlying9 rfl) ?_)
                  | (refine wg_run (o := ⟨some 26, _, _, _, _, _⟩) 5 true 23 rfl rfl rfl (.int .i64 (j : Int)) (run_addZ (.tmp 25) (.const (.int .i64 1)) rfl rfl rfl hjz.out) ?_)
                  | (refine wg_run (o := ⟨some 27, _, _, _, _, _⟩) 5 true 23 rfl rfl rfl (.int .u8 ((45 : UInt8).toNat : Int)) (run_idxStr 9 (.tmp 24) (.tmp 26) s j (45 : UInt8) rfl Tryd.underlying9 rfl rfl hg2.out) ?_)
                  | (refine wg_run (o := ⟨some 34, _, _, _, _, _⟩) 1 false 31 rfl rfl rfl (.int .u8 (a.toNat : Int)) (run_idxStr 9 (.tmp 32) (.tmp 33) s i a rfl Tryd.underlying9 rfl rfl ha.out) ?_)
                  | (refine wg_run (o := ⟨some 41, _, _, _, _, _⟩) 7 true 37 rfl rfl rfl (.int .i64 (m : Int)) (run_addZ (.tmp 40) (.const (.int .i64 2)) rfl rfl rfl hmz.out) ?_)
                  | (refine wg_run (o := ⟨some 42, _, _, _, _, _⟩) 7 true 37 rfl rfl rfl (.int .u8 (b.toNat : Int)) (run_idxStr 9 (.tmp 39) (.tmp 41) s m b rfl Tryd.underlying9 rfl rfl hb.out) ?_)
                  | (refine wg_run (o := ⟨some 50, _, _, _, _, _⟩) 1 false 47 rfl rfl rfl (.int .u8 (a.toNat : Int)) (run_idxStr 9 (.tmp 48) (.tmp 49) s i a rfl Tryd.underlying9 rfl rfl ha.out) ?_)
                  | (with_reducible refine wl_run (o := ⟨some 13, _, _, _, _, _⟩) rfl (.int .i64 (j : Int)) (run_addZ (.tmp 12) (.const (.int .i64 1)) rfl rfl rfl hjz.out) ?_))
                go_roundw
                case rel => exact ⟨false, 2, j, rfl, rfl, rfl, by decide, by have := hj.out; omega, by rw [ht4.out]; rw [decide_eq_false (fun h => q2 ((u8_le _ _).2 h)), Bool.and_false]; rfl, trivial⟩
                case measure => have := hj.out; simp [intOf]; omega
            · go_wp2_with (first
                | (with_reducible refine wl_run (o := ⟨some 10, _, _, _, _, _⟩) rfl (.int .i64 (s.length : Int)) (run_lenStr 9 (.tmp 9) s rfl Tryd.underlying9 rfl) ?_)
                | (with_reducible refine wl_run (o := ⟨some 19, _, _, _, _, _⟩) rfl (.int .i64 (m : Int)) (run_addZ (.tmp 18) (.const (.int .i64 2)) rfl rfl rfl hmz.out) ?_)
                | (with_reducible refine wl_run (o := ⟨some 21, _, _, _, _, _⟩) rfl (.int .i64 (s.length : Int)) (run_lenStr 9 (.tmp 20) s rfl Tryd.underlying9 rfl) ?_)
                | (refine wg_run (o := ⟨some 26, _, _, _, _, _⟩) 5 true 23 rfl rfl rfl (.int .i64 (j : Int)) (run_addZ (.tmp 25) (.const (.int .i64 1)) rfl rfl rfl hjz.out) ?_)
                | (refine wg_run (o := ⟨some 27, _, _, _, _, _⟩) 5 true 23 rfl rfl rfl (.int .u8 ((45 : UInt8).toNat : Int)) (run_idxStr 9 (.tmp 24) (.tmp 26) s j (45 : UInt8) rfl Tryd.underlying9 rfl rfl hg2.out) ?_)
                | (refine wg_run (o := ⟨some 34, _, _, _, _, _⟩) 1 false 31 rfl rfl rfl (.int .u8 (a.toNat : Int)) (run_idxStr 9 (.tmp 32) (.tmp 33) s i a rfl Tryd.underlying9 rfl rfl ha.out) ?_)
                | (refine wg_run (o := ⟨some 41, _, _, _, _, _⟩) 7 true 37 rfl rfl rfl (.int .i64 (m : Int)) (run_addZ (.tmp 40) (.const (.int .i64 2)) rfl rfl rfl hmz.out) ?_)
                | (refine wg_run (o := ⟨some 42, _, _, _, _, _⟩) 7 true 37 rfl rfl rfl (.int .u8 (b.toNat : Int)) (run_idxStr 9 (.tmp 39) (.tmp 41) s m b rfl Tryd.underlying9 rfl rfl hb.out) ?_)
                | (refine wg_run (o := ⟨some 50, _, _, _, _, _⟩) 1 false 47 rfl rfl rfl (.int .u8 (a.toNat : Int)) (run_idxStr 9 (.tmp 48) (.tmp 49) s i a rfl Tryd.underlying9 rfl rfl ha.out) ?_)
                | (with_reducible refine wl_run (o := ⟨some 13, _, _, _, _, _⟩) rfl (.int .i64 (j : Int)) (run_addZ (.tmp 12) (.const (.int .i64 1)) rfl rfl rfl hjz.out) ?_))
              go_roundw
              case rel => exact ⟨false, 2, j, rfl, rfl, rfl, by decide, by have := hj.out; omega, by rw [ht4.out]; rw [decide_eq_false (fun h => q1 ((u8_le _ _).2 h)), Bool.false_and]; rfl, trivial⟩
              case measure => have := hj.out; simp [intOf]; omega
        · have ht1 := tells_at1 (c := c) ha hg
          have ht4 := hide (show T = (B || (a == c || tellsL (s.drop j) c)) by rw [ht.out, Nat.add_zero, ht1, hj])
          clear ht1
          replace ha := hide ha
          by_cases hm2 : i + 2 < s.length
          · obtain ⟨x, hx⟩ : ∃ x, s[i + 1]? = some x := ⟨_, List.getElem?_eq_getElem (by omega)⟩
            have hx5 : ((x.toNat : Int) == 45) = false := by
              refine beq_eq_false_iff_ne.2 fun h => hg ⟨hm2, ?_⟩
              have : x = 45 := UInt8.toNat_inj.1 (by show x.toNat = 45; omega)
              rw [hx, this]
            have hmI : (m : Int) < (s.length : Int) := by omega
            rw [← hj] at hx
            replace hx := hide hx
            replace hj := hide hj
            replace hm := hide hm
            clear hg hm2
            cases B with
            | true =>
              go_wp2_with (first
                | (with_reducible refine wl_run (o := ⟨some 10, _, _, _, _, _⟩) rfl (.int .i64 (s.length : Int)) (run_lenStr 9 (.tmp 9) s rfl Tryd.underlying9 rfl) ?_)
                | (with_reducible refine wl_run (o := ⟨some 19, _, _, _, _, _⟩) rfl (.int .i64 (m : Int)) (run_addZ (.tmp 18) (.const (.int .i64 2)) rfl rfl rfl hmz.out) ?_)
                | (with_reducible refine wl_run (o := ⟨some 21, _, _, _, _, _⟩) rfl (.int .i64 (s.length : Int)) (run_lenStr 9 (.tmp 20) s rfl Tryd.underlying9 rfl) ?_)
                | (refine wg_run (o := ⟨some 26, _, _, _, _, _⟩) 5 true 23 rfl rfl rfl (.int .i64 (j : Int)) (run_addZ (.tmp 25) (.const (.int .i64 1)) rfl rfl rfl hjz.out) ?_)
                | (refine wg_run (o := ⟨some 27, _, _, _, _, _⟩) 5 true 23 rfl rfl rfl (.int .u8 (x.toNat : Int)) (run_idxStr 9 (.tmp 24) (.tmp 26) s j x rfl Tryd.underlying9 rfl rfl hx.out) ?_)
                | (refine wg_run (o := ⟨some 50, _, _, _, _, _⟩) 1 false 47 rfl rfl rfl (.int .u8 (a.toNat : Int)) (run_idxStr 9 (.tmp 48) (.tmp 49) s i a rfl Tryd.underlying9 rfl rfl ha.out) ?_)
                | (with_reducible refine wl_run (o := ⟨some 13, _, _, _, _, _⟩) rfl (.int .i64 (j : Int)) (run_addZ (.tmp 12) (.const (.int .i64 1)) rfl rfl rfl hjz.out) ?_))
              go_roundw
              case rel => exact ⟨true, 0, j, rfl, rfl, rfl, by decide, by have := hj.out; omega, by rw [ht4.out]; rfl, trivial⟩
              case measure => have := hj.out; simp [intOf]; omega
            | false =>
              obtain ⟨E, hE⟩ : ∃ E, E = (a == c) := ⟨_, rfl⟩
              have hEI : ((a.toNat : Int) == (c.toNat : Int)) = E := by
                rw [hE, Bool.eq_iff_iff]
                simp only [beq_iff_eq, ← UInt8.toNat_inj]
                omega
              replace hE := hide hE
              go_wp2_with (first
                | (with_reducible refine wl_run (o := ⟨some 10, _, _, _, _, _⟩) rfl (.int .i64 (s.length : Int)) (run_lenStr 9 (.tmp 9) s rfl Tryd.underlying9 rfl) ?_)
                | (with_reducible refine wl_run (o := ⟨some 19, _, _, _, _, _⟩) rfl (.int .i64 (m : Int)) (run_addZ (.tmp 18) (.const (.int .i64 2)) rfl rfl rfl hmz.out) ?_)
                | (with_reducible refine wl_run (o := ⟨some 21, _, _, _, _, _⟩) rfl (.int .i64 (s.length : Int)) (run_lenStr 9 (.tmp 20) s rfl Tryd.underlying9 rfl) ?_)
                | (refine wg_run (o := ⟨some 26, _, _, _, _, _⟩) 5 true 23 rfl rfl rfl (.int .i64 (j : Int)) (run_addZ (.tmp 25) (.const (.int .i64 1)) rfl rfl rfl hjz.out) ?_)
                | (refine wg_run (o := ⟨some 27, _, _, _, _, _⟩) 5 true 23 rfl rfl rfl (.int .u8 (x.toNat : Int)) (run_idxStr 9 (.tmp 24) (.tmp 26) s j x rfl Tryd.underlying9 rfl rfl hx.out) ?_)
                | (refine wg_run (o := ⟨some 50, _, _, _, _, _⟩) 1 false 47 rfl rfl rfl (.int .u8 (a.toNat : Int)) (run_idxStr 9 (.tmp 48) (.tmp 49) s i a rfl Tryd.underlying9 rfl rfl ha.out) ?_)
                | (with_reducible refine wl_run (o := ⟨some 13, _, _, _, _, _⟩) rfl (.int .i64 (j : Int)) (run_addZ (.tmp 12) (.const (.int .i64 1)) rfl rfl rfl hjz.out) ?_))
              go_roundw
              case rel => exact ⟨E, 0, j, rfl, rfl, rfl, by decide, by have := hj.out; omega, by rw [ht4.out]; rw [← hE.out]; rfl, trivial⟩
              case measure => have := hj.out; simp [intOf]; omega
          · have hmI : ¬ (m : Int) < (s.length : Int) := by omega
            replace hj := hide hj
            replace hm := hide hm
            clear hg hm2
            cases B with
            | true =>
              go_wp2_with (first
                | (with_reducible refine wl_run (o := ⟨some 10, _, _, _, _, _⟩) rfl (.int .i64 (s.length : Int)) (run_lenStr 9 (.tmp 9) s rfl Tryd.underlying9 rfl) ?_)
                | (with_reducible refine wl_run (o := ⟨some 19, _, _, _, _, _⟩) rfl (.int .i64 (m : Int)) (run_addZ (.tmp 18) (.const (.int .i64 2)) rfl rfl rfl hmz.out) ?_)
                | (with_reducible refine wl_run (o := ⟨some 21, _, _, _, _, _⟩) rfl (.int .i64 (s.length : Int)) (run_lenStr 9 (.tmp 20) s rfl Tryd.underlying9 rfl) ?_)
                | (refine wg_run (o := ⟨some 26, _, _, _, _, _⟩) 5 true 23 rfl rfl rfl (.int .i64 (j : Int)) (run_addZ (.tmp 25) (.const (.int .i64 1)) rfl rfl rfl hjz.out) ?_)
                | (refine wg_run (o := ⟨some 50, _, _, _, _, _⟩) 1 false 47 rfl rfl rfl (.int .u8 (a.toNat : Int)) (run_idxStr 9 (.tmp 48) (.tmp 49) s i a rfl Tryd.underlying9 rfl rfl ha.out) ?_)
                | (with_reducible refine wl_run (o := ⟨some 13, _, _, _, _, _⟩) rfl (.int .i64 (j : Int)) (run_addZ (.tmp 12) (.const (.int .i64 1)) rfl rfl rfl hjz.out) ?_))
              go_roundw
              case rel => exact ⟨true, 0, j, rfl, rfl, rfl, by decide, by have := hj.out; omega, by rw [ht4.out]; rfl, trivial⟩
              case measure => have := hj.out; simp [intOf]; omega
            | false =>
              obtain ⟨E, hE⟩ : ∃ E, E = (a == c) := ⟨_, rfl⟩
              have hEI : ((a.toNat : Int) == (c.toNat : Int)) = E := by
                rw [hE, Bool.eq_iff_iff]
                simp only [beq_iff_eq, ← UInt8.toNat_inj]
                omega
              replace hE := hide hE
              go_wp2_with (first
                | (with_reducible refine wl_run (o := ⟨some 10, _, _, _, _, _⟩) rfl (.int .i64 (s.length : Int)) (run_lenStr 9 (.tmp 9) s rfl Tryd.underlying9 rfl) ?_)
                | (with_reducible refine wl_run (o := ⟨some 19, _, _, _, _, _⟩) rfl (.int .i64 (m : Int)) (run_addZ (.tmp 18) (.const (.int .i64 2)) rfl rfl rfl hmz.out) ?_)
                | (with_reducible refine wl_run (o := ⟨some 21, _, _, _, _, _⟩) rfl (.int .i64 (s.length : Int)) (run_lenStr 9 (.tmp 20) s rfl Tryd.underlying9 rfl) ?_)
                | (refine wg_run (o := ⟨some 26, _, _, _, _, _⟩) 5 true 23 rfl rfl rfl (.int .i64 (j : Int)) (run_addZ (.tmp 25) (.const (.int .i64 1)) rfl rfl rfl hjz.out) ?_)
                | (refine wg_run (o := ⟨some 50, _, _, _, _, _⟩) 1 false 47 rfl rfl rfl (.int .u8 (a.toNat : Int)) (run_idxStr 9 (.tmp 48) (.tmp 49) s i a rfl Tryd.underlying9 rfl rfl ha.out) ?_)
                | (with_reducible refine wl_run (o := ⟨some 13, _, _, _, _, _⟩) rfl (.int .i64 (j : Int)) (run_addZ (.tmp 12) (.const (.int .i64 1)) rfl rfl rfl hjz.out) ?_))
              go_roundw
              case rel => exact ⟨E, 0, j, rfl, rfl, rfl, by decide, by have := hj.out; omega, by rw [ht4.out]; rw [← hE.out]; rfl, trivial⟩
              case measure => have := hj.out; simp [intOf]; omega
    · obtain rfl : i = s.length := by omega
      obtain rfl : k = 0 := by omega
      have hB : T = B := by rw [ht.out, Nat.add_zero, List.drop_length]; simp [tellsL]
      go_wp2_with (first
        | (with_reducible refine wl_run (o := ⟨some 10, _, _, _, _, _⟩) rfl (.int .i64 (s.length : Int)) (run_lenStr 9 (.tmp 9) s rfl Tryd.underlying9 rfl) ?_))
      go_ret
      exact ⟨by rw [hB]; rfl, rfl⟩
end Go.Proofs.YtfpcgaladjndcaaDoor
