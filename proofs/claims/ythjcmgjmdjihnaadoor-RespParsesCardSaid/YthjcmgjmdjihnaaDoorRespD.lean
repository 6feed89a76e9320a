/-
  A decoder: numbers, commands. Contracts. Own work.
-/
import Derived.Test.YthjcmgjmdjihnaaDoorRespC
namespace Go.Proofs.YthjcmgjmdjihnaaDoor
open Go.RowKit Go.Shelf
set_option linter.unusedVariables false
set_option linter.unusedSimpArgs false
/-- The library's tables, whatever befalls from block B on. -/
def TabB (w : World) (B : Nat) : Prop := ∀ w', Below B w w' → TabV w'
theorem TabB.of {w : World} (h : TabV w) : TabB w w.heap.size := fun w' hb => h.later hb
theorem TabB.below {w w' : World} {B : Nat} (h : TabB w B) (hb : Below B w w') : TabB w' B := fun w2 h2 => h w2 (hb.trans h2)
theorem TabB.here {w : World} {B : Nat} (h : TabB w B) : TabV w := h w (Below.refl _ _)
theorem DecAt.lt {w : World} {g B : Nat} {s : Wd} (h : DecAt w g B s) : g < w.heap.size ∧ B ≤ g := by
  obtain ⟨A, c, r, h1, h2, h3⟩ := h
  exact ⟨r.lt, h3⟩
theorem But.bl {g B : Nat} {w w' : World} {s : Wd} (h : But g w w') (hd : DecAt w g B s) : Below B w w' := h.below hd.lt.2 hd.hB
def cntP (sg : UInt8) (most : Nat) (p : UInt8 × Wd) (q : Wd) : Except Nat (Nat × Wd) := if p.1 = sg ∧ (intL p.2).2 = true ∧ 0 ≤ (intL p.2).1 ∧ (intL p.2).1 ≤ 999999999 then (if most < (intL p.2).1.toNat then .error 5 else .ok ((intL p.2).1.toNat, q)) else .error 3
theorem lineL_len {s r q : Wd} {c : UInt8} (h : lineL s = .ok ((c, r), q)) : r.length ≤ 16 ∧ q.length ≤ s.length := by
  unfold lineL at h
  split at h
  · cases h
  · rename_i i hq
    obtain ⟨h1, h2, _⟩ := nlAt_some hq
    split at h
    · cases h
      simp only [List.length_drop, List.length_take]
      omega
    · cases h
theorem intL_bounds (s : Wd) : -9223372036854775808 ≤ (intL s).1 ∧ (intL s).1 ≤ 9223372036854775807 := by
  unfold intL
  split
  · rename_i n hn
    have := Lib.atoiAll_bounds hn
    split
    · exact this
    · simp
  · simp
def CntRes (w : World) (g B : Nat) (sg : UInt8) (most : Nat) (s : Wd) : Ending → World → Prop := DRes w g B (cntL sg most s) (fun n v w' => v = .int .i64 (n : Int))
set_option maxRecDepth 100000 in
set_option maxHeartbeats 1000000 in
theorem count_dec (g B : Nat) (sg : UInt8) (most : Nat) (s : Wd) (w : World) (h : DecAt w g B s) (hs : s.length ≤ 150000000000000) (hT : TabB w B) (hm : most ≤ 1000) :
    Calls Tryd.prog 31 #[.pointer (some ⟨g, 0, none⟩), .int .u8 (sg.toNat : Int), .int .i64 (most : Int)] w (CntRes w g B sg most s) := by
  have HL := line_dec g B s w h hs
  have hc := hide (cntL_line2 sg most s)
  have hbl := hide (fun (w' : World) (hb : But g w w') => hT.below (hb.bl h))
  have hmI : (most : Int) ≤ 1000 := by omega
  clear hs hT h hm
  go_enter Tryd.func31, Tryd.ntmps31
  go_wp2_with fail
  refine HL.mono ?_
  intro e w1 hr
  clear HL
  cases hq : lineL s with
  | error er =>
    unfold LineRes at hr
    rw [hq] at hr
    obtain ⟨bu, rfl⟩ := hr
    have hR : cntL sg most s = .error er := by rw [hc.out]; exact bindE_err hq
    replace hR := hide hR
    clear hq
    go_wp2_with fail
    exact ⟨rfl, DRes.err hR.out bu⟩
  | ok p =>
    obtain ⟨⟨c, r⟩, q⟩ := p
    unfold LineRes at hr
    rw [hq] at hr
    obtain ⟨bu, ⟨v, rfl, hv⟩, d1⟩ := hr
    simp only at hv
    subst hv
    have hR : cntL sg most s = cntP sg most (c, r) q := by rw [hc.out]; exact bindE_ok hq
    have hl := (lineL_len hq).1
    have HI := int_any r (by omega) w1 (hbl.out w1 bu).here
    unfold cntP at hR
    obtain ⟨x0, x1⟩ := intL_bounds r
    obtain ⟨I, hI⟩ : ∃ I, I = intL r := ⟨_, rfl⟩
    rw [← hI] at HI x0 x1
    simp only at hR
    rw [← hI] at hR
    obtain ⟨x, ok⟩ := I
    simp only at HI hR x0 x1
    replace hR := hide hR
    clear hq hI hl
    go_wp2_with fail
    refine HI.mono ?_
    rintro e w2 ⟨rfl, b2⟩
    have bu2 := bu.trans (But.of b2 g)
    have d2 := d1.below b2
    clear HI d1 bu b2
    by_cases hcs : c = sg
    · subst hcs
      have hbeq : ((c.toNat : Int) == (c.toNat : Int)) = true := by simp
      cases ok with
      | false =>
        have hR2 : cntL c most s = .error 3 := by rw [hR.out]; exact if_neg (fun h => by cases h.2.1)
        replace hR2 := hide hR2
        go_wp2_with fail
        refine (need_no w2).mono ?_
        rintro e w3 ⟨rfl, rfl⟩
        go_wp2_with fail
        exact ⟨rfl, DRes.err hR2.out bu2⟩
      | true =>
        by_cases hx0 : 0 ≤ x
        · by_cases hx9 : x ≤ 999999999
          · by_cases hxm : (most : Int) < x
            · have hR2 : cntL c most s = .error 5 := by rw [hR.out, if_pos ⟨rfl, rfl, hx0, hx9⟩, if_pos (by omega)]
              replace hR2 := hide hR2
              go_wp2_with fail
              refine (need_yes w2).mono ?_
              rintro e w3 ⟨rfl, rfl⟩
              go_wp2_with fail
              refine (giveUp_any 5 w2).mono ?_
              rintro e w3 ⟨rfl, rfl⟩
              go_wp2_with fail
              exact ⟨rfl, DRes.err hR2.out bu2⟩
            · have hR2 : cntL c most s = .ok (x.toNat, q) := by rw [hR.out, if_pos ⟨rfl, rfl, hx0, hx9⟩, if_neg (by omega)]
              have hxv : (Value.int .i64 x) = .int .i64 ((x.toNat : Nat) : Int) := congrArg (Value.int .i64) (by omega)
              replace hR2 := hide hR2
              replace hxv := hide hxv
              go_wp2_with fail
              refine (need_yes w2).mono ?_
              rintro e w3 ⟨rfl, rfl⟩
              go_wp2_with fail
              go_ret
              exact DRes.ok hR2.out bu2 hxv.out d2
          · have hR2 : cntL c most s = .error 3 := by rw [hR.out]; exact if_neg (fun h => hx9 h.2.2.2)
            replace hR2 := hide hR2
            go_wp2_with fail
            rw [decide_eq_false (show ¬ x ≤ 999999999 by omega)]
            refine (need_no w2).mono ?_
            rintro e w3 ⟨rfl, rfl⟩
            go_wp2_with fail
            exact ⟨rfl, DRes.err hR2.out bu2⟩
        · have hR2 : cntL c most s = .error 3 := by rw [hR.out]; exact if_neg (fun h => hx0 h.2.2.1)
          replace hR2 := hide hR2
          go_wp2_with fail
          refine (need_no w2).mono ?_
          rintro e w3 ⟨rfl, rfl⟩
          go_wp2_with fail
          exact ⟨rfl, DRes.err hR2.out bu2⟩
    · have hbeq : ((c.toNat : Int) == (sg.toNat : Int)) = false := by
        rw [beq_eq_false_iff_ne]
        exact fun e => hcs (UInt8.toNat_inj.1 (by omega))
      have hR2 : cntL sg most s = .error 3 := by rw [hR.out]; exact if_neg (fun h => hcs h.1)
      replace hR2 := hide hR2
      clear hcs
      go_wp2_with fail
      refine (need_no w2).mono ?_
      rintro e w3 ⟨rfl, rfl⟩
      go_wp2_with fail
      exact ⟨rfl, DRes.err hR2.out bu2⟩
end Go.Proofs.YthjcmgjmdjihnaaDoor
