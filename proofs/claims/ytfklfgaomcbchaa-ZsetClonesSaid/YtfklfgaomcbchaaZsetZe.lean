/-
  A set's Clone: contract. Own work.
-/
import Derived.Test.YtfklfgaomcbchaaZsetY
namespace Go.Proofs.Ytfklfgaomcbchaa
open Go.RowKit Go.Shelf
set_option linter.unusedVariables false
set_option linter.unusedSimpArgs false
theorem takeWhile_all {p : Sc → Bool} : ∀ {L : List Sc}, (∀ a ∈ L, p a = true) → (L.takeWhile p).length = L.length
  | [], _ => rfl
  | a :: r, h => by
    rw [List.takeWhile_cons, if_pos (h a (by simp)), List.length_cons, List.length_cons, takeWhile_all fun b hb => h b (by simp [hb])]
/-- What stands behind all is put in at the end. -/
theorem putS_last {L : List Sc} {x : Sc} (hr : Rising (L ++ [x])) (hu : Uniq (L ++ [x])) : putS L x = L ++ [x] := by
  have h1 : ∀ a ∈ L, a.m ≠ x.m := fun a ha => (List.pairwise_append.1 hu).2.2 a ha x (by simp)
  unfold putS
  rw [dropS_none h1]
  have h2 : nAhead x L = L.length := by
    unfold nAhead
    exact takeWhile_all fun a ha => (List.pairwise_append.1 hr).2.2 a ha x (by simp)
  rw [h2]
  unfold putAt
  rw [List.take_length, List.drop_length]
set_option maxRecDepth 100000 in
set_option maxHeartbeats 1000000 in
theorem clone_any (w : World) (B gz mb : Nat) (hd : Nd) (Ls : List Nd) (h : ZSet w B gz mb hd Ls) (hl : Ls.length ≤ 900000) (hnm : ∀ a ∈ scs Ls, a.m.length ≤ 1000000) : Calls Try.prog 26 #[ptr gz] w fun e w' => ∃ gc mc hc Lc, e = .returned (ptr gc) ∧ ZSet w' w.heap.size gc mc hc Lc ∧ scs Lc = scs Ls ∧ Below w.heap.size w w' := by
  have HM := made_any w gz mb _ h.row
  have HL := fun w1 (hb1 : Below w.heap.size w w1) => len_any w1 B gz mb hd Ls (h.later hb1)
  have hsl : (scs Ls).length = Ls.length := by simp
  have HR : ∀ w1, Below w.heap.size w w1 → Calls Try.prog 13 #[ptr gz, .int .i64 0, .int .i64 (Ls.length : Int)] w1 fun e w' => ∃ v, e = .returned v ∧ OwnS w' w1.heap.size v (scs Ls) ∧ Below w1.heap.size w1 w' := by
    intro w1 hb1
    have := range_any w1 B gz mb hd Ls 0 ((Ls.length : Nat) : Int) (h.later hb1) (by omega)
    have e9 : ((scs Ls).drop (min (0 : Int).toNat Ls.length)).take (min ((Ls.length : Nat) : Int).toNat Ls.length - min (0 : Int).toNat Ls.length) = scs Ls := by
      rw [show min (0 : Int).toNat Ls.length = 0 by simp, List.drop_zero, show min ((Ls.length : Nat) : Int).toNat Ls.length - 0 = Ls.length by simp, ← hsl, List.take_of_length_le (Nat.le_refl _)]
    rw [e9] at this
    exact this
  have hrise := h.rise
  have huniq := h.uniq
  have hlI : (Ls.length : Int) ≤ 900000 := by omega
  clear h
  go_enter Try.func26, Try.ntmps26
  go_wp2_with fail
  refine HM.mono ?_
  rintro e w1 ⟨rfl, rfl⟩
  clear HM
  go_wp2_with fail
  refine (new_any w).mono ?_
  rintro e w2 ⟨gc, mc, hc, rfl, z2, B2⟩
  have hB2 := B2.size
  go_wp2_with fail
  refine (HL w2 B2).mono ?_
  rintro e w3 ⟨rfl, rfl⟩
  go_wp2_with fail
  refine (HR w2 B2).mono ?_
  rintro e w4 ⟨v4, rfl, own4, b4⟩
  have z4 := z2.later b4
  have B4 := B2.trans (b4.mono hB2)
  have hs4 := own_scv own4
  obtain ⟨Av, cv, rfl⟩ := hs4.sl
  have own4 := own_lo (base2 := w.heap.size) own4 hB2
  replace own4 := hide own4
  clear z2 HR HL B2 b4
  rw [hsl] at hs4 ⊢
  go_wp2_with fail
  go_loopw [15] (fun iv wr => ∃ (i : Nat) (Lc : List Nd), i ≤ Ls.length ∧ iv = .int .i64 (i : Int) ∧ ZSet wr w.heap.size gc mc hc Lc ∧ scs Lc = (scs Ls).take i ∧ OwnS wr w.heap.size (.slice Av (scs Ls).length cv) (scs Ls) ∧ Below w.heap.size w wr) (fun iv _ => Ls.length - (intOf iv).toNat)
  case atStart => exact ⟨0, [], by omega, rfl, z4, by rw [List.take_zero]; rfl, own4.out, B4⟩
  case round =>
    clear z4 B4 hs4 own4
    obtain ⟨i, Lc, hi, rfl, hz, hsc, own, BW⟩ := hrel
    have hwb := BW.size
    by_cases hlt : i < Ls.length
    · have hltI : (i : Int) < (Ls.length : Int) := by omega
      obtain ⟨a, ha⟩ : ∃ a, (scs Ls)[i]? = some a := ⟨_, List.getElem?_eq_getElem (by omega)⟩
      have htk := take_more ha
      have hlc : Lc.length = i := by
        have := congrArg List.length hsc
        rw [List.length_map, List.length_take, hsl] at this
        omega
      have hput : putS (scs Lc) a = (scs Ls).take (i + 1) := by
        have e : (scs Ls).take (i + 1) = scs Lc ++ [a] := by rw [htk, hsc]
        rw [e]
        refine putS_last ?_ ?_
        · rw [← e]; exact List.Pairwise.sublist (List.take_sublist _ _) hrise
        · rw [← e]; exact List.Pairwise.sublist (List.take_sublist _ _) huniq
      have hml := hide (hnm a (List.mem_of_getElem? ha))
      have hsr := own_scv own
      rw [hsl] at hsr
      obtain ⟨g, cap, e, hg, c0, c1, hcs⟩ := hsr.at ha
      injection e with q1 q2 q3
      subst q1
      subst q3
      clear q2 c0 c1 ha htk
      obtain ⟨am, as'⟩ := a
      have HP := fun w1 (hb1 : Below wr.heap.size wr w1) => put_any w1 w.heap.size gc mc hc Lc am as' (hz.later hb1) hml.out (by omega) (Nat.le_trans hwb hb1.size)
      have hcs0 : ∀ j u, [encStr am, Value.int .i64 as'][j]? = some u → wr.cell? ⟨g, 0 + i * 2 + j, none⟩ = some u := fun j u hj => by rw [Nat.zero_add]; exact hcs j u hj
      replace hput := hide hput
      replace hsc := hide hsc
      replace own := hide own
      go_wp2_with (first
        | (with_reducible refine wl_run (o := ⟨some 17, _, _, _, _, _⟩) rfl (.pointer (some ⟨g, 0 + i * 2, none⟩)) (run_indexSlN 26 (.tmp 13) (.tmp 15) 35 2 g 0 Ls.length cv i rfl Try.underlying26 Try.sizeOf35 rfl rfl hlt) ?_)
        | (with_reducible refine wl_load_cells (o := ⟨some 18, _, _, _, _, _⟩) rfl 35 (.tmp 17) g (i * 2) [encStr am, .int .i64 as'] _ rfl rfl hcs Try.underlying35 rfl (szSc ⟨am, as'⟩) ?_)
        | (with_reducible refine wl_load_cells (o := ⟨some 18, _, _, _, _, _⟩) rfl 35 (.tmp 17) g (0 + i * 2) [encStr am, .int .i64 as'] _ rfl rfl hcs0 Try.underlying35 rfl (szSc ⟨am, as'⟩) ?_)
        | (with_reducible refine wl_alloc (o := ⟨some 5, _, _, _, _, _⟩) rfl 35 _ [encStr [], .int .i64 0] rfl rfl rfl ?_; intro g5 w4 r4 p4 l4 b4)
        | (with_reducible refine wl_store_row rfl 35 (.tmp 5) (.tmp 18) g5 35 _ [encStr am, .int .i64 as'] rfl rfl rfl r4 (szSc ⟨am, as'⟩) rfl (by simp [Value.oneCell', encStr]) ?_; intro w5 r5 o5; have b5 : Below wr.heap.size wr w5 := b4.trans (o5.below p4); have c50 := r5.cell (j := 0) rfl; have c51 := r5.cell (j := 1) rfl))
      refine (HP w5 b5).mono ?_
      rintro e w6 ⟨L2, rfl, z6, s6, b6, l6⟩
      go_wp2_with fail
      go_roundw
      case rel =>
        have hz5 := hz.later b5
        exact ⟨i + 1, L2, by omega, by go_num, z6, by rw [s6]; exact hput.out, own_butS hz5 (own_later own.out b5) b6, (BW.trans (b5.mono hwb)).trans (b6.below hz5.lo_zB (Nat.le_trans hwb b5.size))⟩
      case measure => simp [intOf]; omega
    · obtain rfl : i = Ls.length := by omega
      go_wp2_with fail
      go_ret
      exact ⟨gc, mc, hc, Lc, rfl, hz, by rw [hsc, ← hsl, List.take_of_length_le (Nat.le_refl _)], BW⟩
end Go.Proofs.Ytfklfgaomcbchaa
