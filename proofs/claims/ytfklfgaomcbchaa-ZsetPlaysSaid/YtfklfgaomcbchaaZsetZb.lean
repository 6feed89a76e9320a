/-
  The law ZsetPlays. Own work.
-/
import Derived.Test.YtfklfgaomcbchaaZsetZa
namespace Go.Proofs.Ytfklfgaomcbchaa
open Go.RowKit Go.Shelf
set_option linter.unusedVariables false
set_option linter.unusedSimpArgs false
/-- The whole list, as Range tells it. -/
theorem rng_all (l : List Sc) : (l.drop (min (0 : Int).toNat l.length)).take (min ((l.length : Nat) : Int).toNat l.length - min (0 : Int).toNat l.length) = l := by
  rw [show min (0 : Int).toNat l.length = 0 by simp, List.drop_zero, show min ((l.length : Nat) : Int).toNat l.length - 0 = l.length by simp, List.take_of_length_le (Nat.le_refl _)]
theorem idxS_some {L : List Sc} {m : Nm} {s : Int} (hr : Rising L) (h : scoreOf L m = some s) : L[nAhead ⟨m, s⟩ L]? = some ⟨m, s⟩ ∧ idxS m L = ((nAhead ⟨m, s⟩ L : Nat) : Int) := by
  obtain ⟨P, C, rfl, hA⟩ := scoreOf_some h
  have h1 : (P ++ ⟨m, s⟩ :: C)[P.length]? = some ⟨m, s⟩ := by rw [List.getElem?_append_right (Nat.le_refl _), Nat.sub_self]; rfl
  rw [nAhead_at hr h1]
  refine ⟨h1, idxS_at h1 rfl fun j b hj hb => ?_⟩
  rw [List.getElem?_append_left hj] at hb
  exact hA b (List.mem_of_getElem? hb)
theorem idxS_noneS {L : List Sc} {m : Nm} (h : scoreOf L m = none) : idxS m L = -1 :=
  idxS_none fun j b hb => scoreOf_none.1 h b (List.mem_of_getElem? hb)
set_option maxRecDepth 100000 in
set_option maxHeartbeats 1000000 in
theorem zsetPlays_any (w : World) (A : Option Addr) (n c : Nat) (f : Nat → ZA) (m : Nm) (h : ZActs w w.heap.size A n f) : Calls Try.prog 3 #[.slice A n c, encStr m] w fun e w' => e = .returned (.bool true) ∧ Below w.heap.size w w' := by
  have HF := few_any w A n c f w.heap.size h
  have HA := awake_any
  have hsz : (⟨m.toArray⟩ : ByteArray).size = m.length := by show m.toArray.size = _; simp
  by_cases hml : m.length ≤ 100
  · have hmI : ¬ (100 : Int) < (m.length : Int) := by omega
    have hm9 := hide (show m.length ≤ maxLen by simp only [maxLen]; omega)
    go_enter Try.func3, Try.ntmps3
    go_wp2_with fail
    refine HF.mono ?_
    rintro e w1 ⟨⟨b, rfl, hb⟩, rfl⟩
    clear HF
    cases b with
    | false =>
      clear hb
      go_wp2_with fail
      refine (HA w).mono ?_
      rintro e w2 ⟨rfl, b2⟩
      go_wp2_with fail
      go_ret
      exact ⟨rfl, b2⟩
    | true =>
      have hfew := hb rfl
      clear hb
      go_wp2_with fail
      refine (lmade_any w A n c f h hfew).mono ?_
      rintro e w2 ⟨gz, mb, hd, Ls, v, rfl, hz, own, hll, hnm, hfold, B2⟩
      have hwb := B2.size
      have hLs : Ls.length ≤ 120 := Nat.le_trans hll hfew.1
      have hsl : (scs Ls).length = Ls.length := by simp
      clear hfold hfew
      obtain ⟨Ax, cx, rfl⟩ := (own_scv own).sl
      have own := hide own
      rw [hsl]
      have HR := range_any w2 w.heap.size gz mb hd Ls 0 ((Ls.length : Nat) : Int) hz (by omega)
      have e9 := rng_all (scs Ls)
      rw [hsl] at e9
      rw [e9] at HR
      clear e9
      go_wp2_with fail
      refine HR.mono ?_
      rintro e w3 ⟨v3, rfl, own3, b3⟩
      have own' := own_later own.out b3
      have B3 := B2.trans (b3.mono hwb)
      have hwb3 := B3.size
      have hz3 := hz.later b3
      have hs3 : ScV w3 (.slice Ax Ls.length cx) (scs Ls) := by have q := own_scv (T := w.heap.size) own'; rw [hsl] at q; exact q
      go_wp2_with fail
      refine (rsame_any w3 v3 _ _ _ (own_scv own3) hs3 (by omega) (by omega)).mono ?_
      rintro e w5 ⟨rfl, b5⟩
      have B5 := B3.trans (b5.mono hwb3)
      have hwb5 := B5.size
      have hz5 := hz3.later b5
      have hs5 := hs3.later b5
      rw [show decide (scs Ls = scs Ls) = true from decide_eq_true rfl]
      clear own3 own' own hz hz3 hs3
      go_wp2_with fail
      have hlx : (scs Ls).length ≤ 1000000 := by omega
      cases hsc : scoreOf (scs Ls) m with
      | none =>
        have HS := score_any w5 w.heap.size gz mb hd Ls m hz5 hm9.out
        have HK := rank_no w5 w.heap.size gz mb hd Ls m hz5 hm9.out hsc
        have HI := rfind_any w5 (.slice Ax Ls.length cx) (scs Ls) m hs5 hlx
        rw [hsc] at HS
        rw [idxS_noneS hsc] at HI
        clear hsc hz5
        refine HS.mono ?_
        rintro e w6 ⟨rfl, rfl⟩
        go_wp2_with fail
        refine HK.mono ?_
        rintro e w6 ⟨rfl, rfl⟩
        go_wp2_with fail
        refine HI.mono ?_
        rintro e w6 ⟨rfl, rfl⟩
        go_wp2_with fail
        refine (HA w5).mono ?_
        rintro e w6 ⟨rfl, b6⟩
        go_wp2_with fail
        go_ret
        exact ⟨rfl, B5.trans (b6.mono hwb5)⟩
      | some sc =>
        have HS := score_any w5 w.heap.size gz mb hd Ls m hz5 hm9.out
        have HK := rank_yes w5 w.heap.size gz mb hd Ls m sc hz5 hm9.out (by omega) hsc
        obtain ⟨hat, hidx⟩ := idxS_some hz5.rise hsc
        have HI := fun w6 (b6 : Below w5.heap.size w5 w6) => rfind_any w6 (.slice Ax Ls.length cx) (scs Ls) m (hs5.later b6) hlx
        rw [hsc] at HS
        rw [hidx] at HI
        have hkl : nAhead ⟨m, sc⟩ (scs Ls) < (scs Ls).length := (List.getElem?_eq_some_iff.1 hat).1
        obtain ⟨k, hk⟩ : ∃ k, k = nAhead ⟨m, sc⟩ (scs Ls) := ⟨_, rfl⟩
        rw [← hk] at HK HI hat hkl
        rw [hsl] at hkl
        have hk0 : ¬ (k : Int) < 0 := by omega
        clear hsc hz5 hk hidx
        refine HS.mono ?_
        rintro e w6 ⟨rfl, rfl⟩
        go_wp2_with fail
        refine HK.mono ?_
        rintro e w6 ⟨rfl, b6⟩
        have hs6 := hs5.later b6
        have B6 := B5.trans (b6.mono hwb5)
        have hwb6 := B6.size
        go_wp2_with fail
        refine (HI w6 b6).mono ?_
        rintro e w7 ⟨rfl, rfl⟩
        obtain ⟨g, cap, e, hg, x0, c1, x2⟩ := hs6.at hat
        injection e with q1 q2 q3
        subst q1
        subst q3
        clear q2 x0 x2
        go_wp2_with (first
          | (with_reducible refine wl_run (o := ⟨some 76, _, _, _, _, _⟩) rfl (.pointer (some ⟨g, 0 + k * 2, none⟩)) (run_indexSlN 26 (.tmp 74) (.tmp 75) 35 2 g 0 Ls.length cx k rfl Try.underlying26 Try.sizeOf35 rfl rfl hkl) ?_))
        refine (HA w6).mono ?_
        rintro e w8 ⟨rfl, b8⟩
        go_wp2_with fail
        go_ret
        exact ⟨rfl, B6.trans (b8.mono hwb6)⟩
  · have hmI : (100 : Int) < (m.length : Int) := by omega
    go_enter Try.func3, Try.ntmps3
    go_wp2_with fail
    refine HF.mono ?_
    rintro e w1 ⟨⟨b, rfl, hb⟩, rfl⟩
    clear HF hb
    cases b with
    | false =>
      go_wp2_with fail
      refine (HA w).mono ?_
      rintro e w2 ⟨rfl, b2⟩
      go_wp2_with fail
      go_ret
      exact ⟨rfl, b2⟩
    | true =>
      go_wp2_with fail
      refine (HA w).mono ?_
      rintro e w2 ⟨rfl, b2⟩
      go_wp2_with fail
      go_ret
      exact ⟨rfl, b2⟩
end Go.Proofs.Ytfklfgaomcbchaa
