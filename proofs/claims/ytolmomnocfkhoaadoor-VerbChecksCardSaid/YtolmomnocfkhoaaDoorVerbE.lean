/-
  Patterns: whether a part takes a byte; matching. Contracts. Own work.
-/
import Derived.Test.YtolmomnocfkhoaaDoorVerbD
namespace Go.Proofs.YtolmomnocfkhoaaDoor
open Go.RowKit
set_option linter.unusedVariables false
set_option linter.unusedSimpArgs false
set_option maxRecDepth 100000 in
theorem takes_any (w : World) (p : Pt) (c : UInt8) (hl : p.t.length ≤ 1000000) (hk : p.k ≤ 1000) :
    Calls Tryd.prog 37 #[p.val, .int .u8 (c.toNat : Int)] w fun e w' => e = .returned (.bool (p.takes c)) ∧ Below w.heap.size w w' := by
  obtain ⟨k, t⟩ := p
  have hT := fun w => tells_any w t c hl
  have hkI : (k : Int) ≤ 1000 := by have : k ≤ 1000 := hk; omega
  clear hk hl
  by_cases h0 : k = 0
  · have e : Pt.takes ⟨k, t⟩ c = tellsL t c := by unfold Pt.takes; rw [if_pos h0]
    rw [e]
    clear e
    have q0 : ((k : Int) == 0) = true := by rw [beq_iff_eq]; omega
    generalize tellsL t c = B at *
    go_enter Tryd.func37, Tryd.ntmps37
    go_wp2_with (first
      | (with_reducible refine wl_box (o := ⟨some 2, _, _, _, _, _⟩) rfl 64 (.tmp 0) _ [.int .i64 (k : Int), encStr t] rfl rfl rfl ?_; intro g2 w2 r2 p2 l2 b2; have c1 := r2.cell (j := 0) rfl; have c2 := r2.cell (j := 1) rfl))
    refine (hT w2).mono ?_
    rintro e w3 ⟨rfl, b3⟩
    go_wp2_with fail
    go_ret
    exact ⟨rfl, b2.trans (b3.mono b2.size)⟩
  · by_cases h1 : k = 1
    · have e : Pt.takes ⟨k, t⟩ c = !tellsL t c := by unfold Pt.takes; rw [if_neg h0, if_pos h1]
      rw [e]
      clear e
      have q0 : ((k : Int) == 0) = false := beq_eq_false_iff_ne.2 (by omega)
      have q1 : ((k : Int) == 1) = true := by rw [beq_iff_eq]; omega
      generalize tellsL t c = B at *
      go_enter Tryd.func37, Tryd.ntmps37
      go_wp2_with (first
        | (with_reducible refine wl_box (o := ⟨some 2, _, _, _, _, _⟩) rfl 64 (.tmp 0) _ [.int .i64 (k : Int), encStr t] rfl rfl rfl ?_; intro g2 w2 r2 p2 l2 b2; have c1 := r2.cell (j := 0) rfl; have c2 := r2.cell (j := 1) rfl))
      refine (hT w2).mono ?_
      rintro e w3 ⟨rfl, b3⟩
      go_wp2_with fail
      go_ret
      exact ⟨rfl, b2.trans (b3.mono b2.size)⟩
    · have e : Pt.takes ⟨k, t⟩ c = decide (k = 2) := by unfold Pt.takes; rw [if_neg h0, if_neg h1]
      rw [e]
      clear e
      have q0 : ((k : Int) == 0) = false := beq_eq_false_iff_ne.2 (by omega)
      have q1 : ((k : Int) == 1) = false := beq_eq_false_iff_ne.2 (by omega)
      obtain ⟨B, hB⟩ : ∃ B : Bool, B = decide (k = 2) := ⟨_, rfl⟩
      rw [← hB]
      have q2 : ((k : Int) == 2) = B := by
        rw [hB, Bool.eq_iff_iff, beq_iff_eq, decide_eq_true_eq]; omega
      clear hB
      go_enter Tryd.func37, Tryd.ntmps37
      go_wp2_with (first
        | (with_reducible refine wl_box (o := ⟨some 2, _, _, _, _, _⟩) rfl 64 (.tmp 0) _ [.int .i64 (k : Int), encStr t] rfl rfl rfl ?_; intro g2 w2 r2 p2 l2 b2; have c1 := r2.cell (j := 0) rfl; have c2 := r2.cell (j := 1) rfl))
      go_ret
      exact ⟨rfl, b2⟩
/-- A part of a list in memory. -/
theorem pts_cell {w : World} {B e n : Nat} {A : Option Addr} {m c : Nat} {ps : List Pt} (h : w.ownsRow B e 2 (.slice A m c) n (ptsC ps)) (hn : n = ps.length) {i : Nat} {p : Pt} (hi : ps[i]? = some p) :
    ∃ b, A = some ⟨b, 0, none⟩ ∧ b < w.heap.size ∧ w.cell? ⟨b, i * 2, none⟩ = some (.int .i64 (p.k : Int)) ∧ w.cell? ⟨b, i * 2 + 1, none⟩ = some (encStr p.t) := by
  have hlt := lt_of_get hi
  obtain ⟨a1, a2⟩ := ptsC_at ps i p hi
  rcases h.2 with ⟨_, rfl⟩ | ⟨g, cap, cur, hv, h1, hg, hrest⟩
  · omega
  · cases hv
    have hb := (h.lt g rfl).2
    refine ⟨g, rfl, hb, ?_, ?_⟩
    · rw [h.cellAt _ (by omega)]; exact a1
    · rw [h.cellAt _ (by omega)]; exact a2
theorem pts_len {w : World} {B e : Nat} {v : Value} {ps : List Pt} (h : w.ownsRow B e 2 v ps.length (ptsC ps)) : ∃ A c, v = .slice A ps.length c := by
  rcases h.2 with ⟨rfl, h0⟩ | ⟨g, cap, cur, hv, _⟩
  · exact ⟨none, 0, by rw [h0]⟩
  · exact ⟨_, cap, hv⟩
end Go.Proofs.YtolmomnocfkhoaaDoor
