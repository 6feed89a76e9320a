/-
  A set's calls: contracts. Own work.
-/
import Derived.Test.YtfklfgaomcbchaaZsetM
namespace Go.Proofs.Ytfklfgaomcbchaa
open Go.RowKit Go.Shelf
set_option linter.unusedVariables false
set_option linter.unusedSimpArgs false
theorem szSet (a b : Value) : (Try.prog.info? 52).map (·.size) = some [a, b].length := by kernel_rfl
theorem builtSet (m : Nat) (g : Nat) : Try.prog.built 52 [(0, .map (some m)), (1, ptr g)] = some [.map (some m), ptr g].toArray := by kernel_rfl
theorem builtHead (b : Nat) : Try.prog.built 67 [(1, .slice (some ⟨b, 0, none⟩) 16 16)] = some (nodeC ⟨[], 0⟩ b 16).toArray := by kernel_rfl
theorem builtSc (m : Nm) (s : Int) : Try.prog.built 35 [(0, encStr m), (1, .int .i64 s)] = some [encStr m, .int .i64 s].toArray := by kernel_rfl
set_option maxRecDepth 100000 in
/-- New. -/
theorem new_any (w : World) : Calls Try.prog 21 #[] w fun e w' => ∃ gz mb hd, e = .returned (ptr gz) ∧ ZSet w' w.heap.size gz mb hd [] ∧ Below w.heap.size w w' := by
  obtain ⟨i0, hi, hz, hs, hb⟩ := linkI
  go_enter Try.func21, Try.ntmps21
  go_wp2_with (first
    | (with_reducible refine wl_makeMap rfl rfl ?_; intro mb w1 m1 p1 b1)
    | (with_reducible refine wl_makeN rfl 65 _ _ rfl 70 i0 _ 2 Try.underlying65 hi hz hs 16 rfl rfl (by rw [hb]; omega) (by omega) ?_; intro g2 w2 r2 p2 l2 b2)
    | (with_reducible refine wl_build (o := ⟨some 3, _, _, _, _, _⟩) rfl 67 [(1, .tmp 2)] rfl [(1, .slice (some ⟨g2, 0, none⟩) 16 16)] rfl (nodeC ⟨[], 0⟩ g2 16) (builtHead g2) ?_)
    | (with_reducible refine wl_box (o := ⟨some 4, _, _, _, _, _⟩) rfl 67 (.tmp 3) _ (nodeC ⟨[], 0⟩ g2 16) rfl rfl rfl ?_; intro g4 w4 r4 p4 l4 b4)
    | (with_reducible refine wl_build (o := ⟨some 5, _, _, _, _, _⟩) rfl 52 [(0, .tmp 1), (1, .tmp 4)] rfl [(0, .map (some mb)), (1, ptr g4)] rfl [.map (some mb), ptr g4] (builtSet mb g4) ?_)
    | (with_reducible refine wl_box (o := ⟨some 6, _, _, _, _, _⟩) rfl 52 (.tmp 5) _ [.map (some mb), ptr g4] rfl rfl rfl ?_; intro g6 w6 r6 p6 l6 b6))
  go_ret
  have B2 := b1.trans (b2.mono b1.size)
  have B4 := B2.trans (b4.mono B2.size)
  have B6 := B4.trans (b6.mono B4.size)
  have s1 := b1.size
  have s2 := b2.size
  have s4 := b4.size
  rw [made_links] at r2
  have rl := (r2.later b4).later b6
  have rn := r4.later b6
  refine ⟨g6, mb, ⟨⟨[], 0⟩, g4, g2, 16⟩, rfl, ⟨r6, ⟨[], ((m1.later b2).later b4).later b6, rfl, fun m => rfl⟩, ⟨fun c n h => ?_, fun c n h => ?_, fun c n h => ?_, fun c d n m h1 h2 => ?_, fun c d n m h1 h2 hne => ?_⟩, rfl, List.Pairwise.nil, List.Pairwise.nil, ⟨by omega, p1⟩⟩, B6⟩
  · match c with
    | 0 => obtain rfl := Option.some.inj h; exact rn
    | c + 1 => simp at h
  · match c with
    | 0 =>
      obtain rfl := Option.some.inj h
      have e : (List.range 16).map (full [] 0) = List.replicate 16 noLk := by
        rw [List.eq_replicate_iff]
        exact ⟨by simp, fun b hb => by obtain ⟨j, _, rfl⟩ := List.mem_map.1 hb; rfl⟩
      rw [e]; exact rl
    | c + 1 => simp at h
  · match c with
    | 0 => obtain rfl := Option.some.inj h; exact ⟨by show w.heap.size ≤ g4; omega, by show w.heap.size ≤ g2; omega, by show 1 ≤ 16; decide, by show 16 ≤ 16; decide⟩
    | c + 1 => simp at h
  · match c, d with
    | 0, 0 =>
      obtain rfl := Option.some.inj h1
      obtain rfl := Option.some.inj h2
      show g4 ≠ g2
      have := r2.lt; omega
    | c + 1, _ => simp at h1
    | _, d + 1 => simp at h2
  · match c, d with
    | 0, 0 => exact absurd rfl hne
    | c + 1, _ => simp at h1
    | _, d + 1 => simp at h2
set_option maxRecDepth 100000 in
/-- Len. -/
theorem len_any (w : World) (B gz mb : Nat) (hd : Nd) (Ls : List Nd) (h : ZSet w B gz mb hd Ls) : Calls Try.prog 24 #[ptr gz] w fun e w' => e = .returned (.int .i64 (Ls.length : Int)) ∧ w = w' := by
  obtain ⟨es, hm, hl, hs⟩ := h.map
  have c0 := h.row.cell (j := 0) rfl
  rw [← hl]
  clear hl hs
  go_enter Try.func24, Try.ntmps24
  go_wp2_with (first
    | (with_reducible refine wl_mapLen rfl (.tmp 8) mb es rfl rfl hm ?_))
  go_ret
  exact ⟨rfl, rfl⟩
set_option maxRecDepth 100000 in
/-- Score. -/
theorem score_any (w : World) (B gz mb : Nat) (hd : Nd) (Ls : List Nd) (m : Nm) (h : ZSet w B gz mb hd Ls) (hm : m.length ≤ maxLen) : Calls Try.prog 14 #[ptr gz, encStr m] w fun e w' => e = .returned (.tuple #[.int .i64 ((scoreOf (scs Ls) m).getD 0), .bool (scoreOf (scs Ls) m).isSome]) ∧ w = w' := by
  obtain ⟨es, hM, hl, hs⟩ := h.map
  have c0 := h.row.cell (j := 0) rfl
  have e1 : (atE es m).getD zF = .int .i64 ((scoreOf (scs Ls) m).getD 0) := by rw [hs]; cases scoreOf (scs Ls) m <;> rfl
  have e2 : (atE es m).isSome = (scoreOf (scs Ls) m).isSome := by rw [hs, Option.isSome_map]
  generalize (scoreOf (scs Ls) m).getD 0 = q at *
  generalize (scoreOf (scs Ls) m).isSome = t at *
  replace e1 := hide e1
  replace e2 := hide e2
  clear hl hs h
  go_enter Try.func14, Try.ntmps14
  go_wp2_with (first
    | (with_reducible refine wl_lookE rfl (.tmp 14) (.tmp 15) m mb es (.int .i64 q) t e1.out e2.out rfl rfl rfl hM hm ?_))
  go_ret2
  exact ⟨rfl, rfl⟩
set_option maxRecDepth 100000 in
set_option maxHeartbeats 1000000 in
/-- Drop of what is not there. -/
theorem drop_no (w : World) (B gz mb : Nat) (hd : Nd) (Ls : List Nd) (m : Nm) (h : ZSet w B gz mb hd Ls) (hm : m.length ≤ maxLen) (hn : scoreOf (scs Ls) m = none) : Calls Try.prog 22 #[ptr gz, encStr m] w fun e w' => e = .returned (.bool false) ∧ w = w' := by
  have HS := score_any w B gz mb hd Ls m h hm
  rw [hn] at HS
  clear hn h
  go_enter Try.func22, Try.ntmps22
  go_wp2_with fail
  refine HS.mono ?_
  rintro e w1 ⟨rfl, rfl⟩
  go_wp2_with fail
  go_ret
  exact ⟨rfl, rfl⟩

theorem Mem_only {w w' : World} {g : Nat} {S : List Nat} (o : Only g w w') (h : g ∈ S) : ButZ S w w' := (ButZ.of (Below.refl _ _)).only o (.inr h)
theorem ZSet.mb_ne {w : World} {B gz mb : Nat} {hd : Nd} {Ls : List Nd} (h : ZSet w B gz mb hd Ls) : (∀ (c : Nat) (n : Nd), (hd :: Ls)[c]? = some n → n.g ≠ mb ∧ n.b ≠ mb) ∧ gz ≠ mb := by
  obtain ⟨es, hm, _, _⟩ := h.map
  exact ⟨fun c n hc => ⟨Ne.symm (hm.ne_row (h.z.node c n hc)), Ne.symm (hm.ne_row (h.z.link c n hc))⟩, Ne.symm (hm.ne_row h.row)⟩
theorem row_ne {w : World} {t t' g g' : Nat} {vs vs' : List Value} (h : Row w t g vs) (h' : Row w t' g' vs') (ht : t ≠ t') : g ≠ g' := by
  intro e
  subst e
  have := (show w.heap[g]? = _ from h).symm.trans h'
  simp at this
  exact ht this.2
theorem ZSet.gz_ne {w : World} {B gz mb : Nat} {hd : Nd} {Ls : List Nd} (h : ZSet w B gz mb hd Ls) : ∀ n ∈ hd :: Ls, n.b ≠ gz := by
  intro n hn
  obtain ⟨c, hc⟩ := List.getElem?_of_mem hn
  exact Ne.symm (row_ne h.row (h.z.link c n hc) (by decide))
set_option maxRecDepth 100000 in
set_option maxHeartbeats 1000000 in
/-- Drop of what is there. -/
theorem drop_yes (w : World) (B gz mb : Nat) (hd : Nd) (Ls : List Nd) (m : Nm) (s : Int) (h : ZSet w B gz mb hd Ls) (hm : m.length ≤ maxLen) (hl : Ls.length ≤ 999998) (hn : scoreOf (scs Ls) m = some s) : Calls Try.prog 22 #[ptr gz, encStr m] w fun e w' => ∃ Ls', e = .returned (.bool true) ∧ ZSet w' B gz mb hd Ls' ∧ scs Ls' = dropS (scs Ls) m ∧ ButZ (zB mb hd Ls) w w' ∧ Ls'.length + 1 = Ls.length ∧ ∀ n ∈ Ls', n ∈ Ls := by
  have HS := score_any w B gz mb hd Ls m h hm
  rw [hn] at HS
  obtain ⟨A, C, hsp, hA⟩ := scoreOf_some hn
  obtain ⟨A', nd, C', rfl, rfl, hnd, rfl⟩ := scs_split hsp
  obtain ⟨es, hM, hel, hes⟩ := h.map
  have hlen : (delE es m).length + 1 = es.length := delE_len_some es m (rise_ne hM.rise before_irrefl) (by rw [hes, hn]; rfl)
  obtain ⟨hmb, hgm⟩ := h.mb_ne
  have hzz : ZAt w B (hd :: putL (A' ++ C') A'.length nd) (full (putL (A' ++ C') A'.length nd)) := by rw [putL_mid]; exact h.z
  have hrise : Rising (scs (putL (A' ++ C') A'.length nd)) := by rw [putL_mid]; exact h.rise
  have hdrop : dropS (scs (A' ++ nd :: C')) m = scs (A' ++ C') := by
    rw [hsp, dropS_mid (by rw [← hsp]; exact h.uniq), scs_app]
  have hkl : A'.length ≤ (A' ++ C').length := by rw [List.length_append]; omega
  have hl2 : (A' ++ C').length + 1 = (A' ++ nd :: C').length := by rw [List.length_append, List.length_append, List.length_cons]; omega
  have HR := fun w1 (o : Only mb w w1) => remove_any w1 B A'.length hd nd (A' ++ C') hkl (hzz.only o fun c n hc => by rw [putL_mid] at hc; exact hmb c n hc) h.h16 (by omega) hrise
  have c0 := h.row.cell (j := 0) rfl
  obtain ⟨⟨nm, ns⟩, gn, bn, hn2⟩ := nd
  obtain ⟨rfl, rfl⟩ : nm = m ∧ ns = s := by injection hnd with e1 e2; exact ⟨e1, e2⟩
  have HR := hide HR
  have H := hide h
  have Hes := hide hes
  replace hdrop := hide hdrop
  replace hl2 := hide hl2
  replace hlen := hide hlen
  replace hel := hide hel
  replace hmb := hide hmb
  clear hsp hnd hzz hrise hA hes h hn
  go_enter Try.func22, Try.ntmps22
  go_wp2_with fail
  refine HS.mono ?_
  rintro e w1 ⟨rfl, rfl⟩
  go_wp2_with (first
    | (with_reducible refine wl_del rfl (.tmp 17) (.tmp 18) nm mb es rfl rfl rfl hM hm ?_; intro w2 m2 o2; have r2 := H.out.row.only o2 hgm; have c21 := r2.cell (j := 1) rfl)
    | (with_reducible refine wl_build (o := ⟨some 25, _, _, _, _, _⟩) rfl 35 [(0, .tmp 23), (1, .tmp 24)] rfl [(0, encStr nm), (1, .int .i64 ns)] rfl [encStr nm, .int .i64 ns] (builtSc nm ns) ?_))
  refine (HR.out _ o2).mono ?_
  rintro e w3 ⟨rfl, hz3, B3⟩
  go_wp2_with fail
  go_ret
  have hS3 : ∀ k ∈ (hd :: putL (A' ++ C') A'.length ⟨⟨nm, ns⟩, gn, bn, hn2⟩).map Nd.b, k ≠ gz ∧ k ≠ mb := by
    intro k hk
    rw [putL_mid] at hk
    obtain ⟨n, hn, rfl⟩ := List.mem_map.1 hk
    obtain ⟨c, hc⟩ := List.getElem?_of_mem hn
    exact ⟨H.out.gz_ne n hn, (hmb.out c n hc).2⟩
  have r3 : Row w3 52 gz [.map (some mb), ptr hd.g] := (B3.block gz r2.lt fun hk => (hS3 gz hk).1 rfl).trans r2
  have m3 : MapAt w3 mb (delE es nm) := m2.same (B3.block mb m2.lt fun hk => (hS3 mb hk).2 rfl)
  have hsc := scoreOf_drop (scs (A' ++ ⟨⟨nm, ns⟩, gn, bn, hn2⟩ :: C')) nm
  rw [hdrop.out] at hsc
  refine ⟨A' ++ C', rfl, ⟨r3, ⟨delE es nm, m3, by have h1 := hlen.out; have h2 := hel.out; have h3 := hl2.out; omega, fun q => ?_⟩, hz3, H.out.h16, ?_, ?_, H.out.lo⟩, hdrop.out.symm, ?_, hl2.out, ?_⟩
  · rw [atE_del, hsc q, Hes.out]
    by_cases hq : q = nm
    · rw [if_pos hq, if_pos hq]; rfl
    · rw [if_neg hq, if_neg hq]
  · rw [← hdrop.out]; exact dropS_rise H.out.rise
  · rw [← hdrop.out]; exact dropS_uniq H.out.uniq
  · refine (Mem_only o2 (by simp)).trans (B3.sub fun k hk => ?_)
    rw [putL_mid] at hk
    exact List.mem_cons_of_mem _ hk
  · intro n hn
    rcases List.mem_append.1 hn with e | e
    · exact List.mem_append.2 (.inl e)
    · exact List.mem_append.2 (.inr (List.mem_cons_of_mem _ e))
end Go.Proofs.Ytfklfgaomcbchaa
