/-
  Several own texts in one: ValPi, ValPj, ValPk, ValPl, ValPm, ValPx, ValPy, ValPn. Own work.
-/
import Derived.Test.YtpbkejmffddelaaGreatGP
set_option linter.unusedVariables false
set_option linter.unusedSimpArgs false
/-
  The document's calls on plain data: looking for a field, an element; without one. Own work.
-/
namespace Go.Proofs.YtpbkejmffddelaaGreat
open Go.RowKit Go.Shelf Go.Maps
theorem prAt_hit {ps : List Pr} {i : Nat} {q : Pr} {f : Nm} (h : prAt (ps.take i) f = none) (hq : ps[i]? = some q) (e : q.f = f) : prAt ps f = some q := by
  have hlt := (List.getElem?_eq_some_iff.1 hq).1
  have hs : ps = ps.take i ++ q :: ps.drop (i + 1) := by
    have := (List.getElem?_eq_some_iff.1 hq).2
    rw [← this, ← List.drop_eq_getElem_cons hlt, List.take_append_drop]
  rw [hs]
  unfold prAt at h ⊢
  rw [List.find?_append, h]
  simp [e]
theorem prAt_miss {ps : List Pr} {i : Nat} {q : Pr} {f : Nm} (h : prAt (ps.take i) f = none) (hq : ps[i]? = some q) (e : q.f ≠ f) : prAt (ps.take (i + 1)) f = none := by
  rw [take_more hq]
  unfold prAt at h ⊢
  rw [List.find?_append, h]
  simp [e]
def FieldR (ps : List Pr) (f : Nm) (r : Int) : Prop := (r = -1 ∧ prAt ps f = none) ∨ ∃ (i : Nat) (q : Pr), r = (i : Int) ∧ ps[i]? = some q ∧ prAt ps f = some q
set_option maxRecDepth 100000 in
set_option maxHeartbeats 1000000 in
theorem rfield_any (w : World) (x : Vl) (vp vl vs : Value) (f : Nm) (h : SlV Pr.cells 2 w w.heap.size vp x.ps) (hl : x.ps.length ≤ 1000000) :
    Calls Tryz.prog 68 #[vlV x vp vl vs, encStr f] w fun e w' => (∃ r, e = .returned (.int .i64 r) ∧ FieldR x.ps f r) ∧ Below w.heap.size w w' := by
  obtain ⟨A0, c0, hvp⟩ := h.sl
  subst hvp
  have hlI : (x.ps.length : Int) ≤ 1000000 := by omega
  go_enter Tryz.func68, Tryz.ntmps68
  go_wp2_with (first
    | ((with_reducible refine wl_box (o := ⟨some 2, _, _, _, _, _⟩) rfl 26 (.tmp 0) _ (vlC x (.slice A0 x.ps.length c0) vl vs) rfl rfl rfl ?_); intro g2 w2 r2 p2 l2 b2))
  go_loopw [5] (fun iv wr => ∃ i : Nat, i ≤ x.ps.length ∧ iv = .int .i64 (i : Int) ∧ prAt (x.ps.take i) f = none ∧ Below w2.heap.size w2 wr) (fun iv _ => x.ps.length - (intOf iv).toNat)
  case atStart => exact ⟨0, by omega, rfl, rfl, Below.refl _ _⟩
  case round =>
    obtain ⟨i, hi, rfl, hno, BW⟩ := hrel
    have r2w := r2.later BW
    have c2 := r2w.cell (j := 2) rfl
    have B := b2.trans (BW.mono b2.size)
    by_cases hlt : i < x.ps.length
    · have hltI : (i : Int) < (x.ps.length : Int) := by omega
      obtain ⟨q, hq⟩ : ∃ q, x.ps[i]? = some q := ⟨_, List.getElem?_eq_getElem hlt⟩
      obtain ⟨x1, ga, oa, rfl, hga, hca⟩ := (h.later B).at hq
      have q0 := hca 0 _ rfl
      rw [Nat.add_zero] at q0
      have hlt9 := hide hlt
      by_cases he : q.f = f
      · have hr := hide (show FieldR x.ps f (i : Int) from .inr ⟨i, q, rfl, hq, prAt_hit hno hq he⟩)
        have heq : (q.f == f) = true := by simp [he]
        replace he := hide he
        clear hno hq hca x1 hga
        go_wp2_with (first
          | (with_reducible refine wl_run (o := ⟨some 16, _, _, _, _, _⟩) rfl (.pointer (some ⟨ga, oa + i * 2, none⟩)) (run_idxO 22 (.tmp 14) (.tmp 15) 87 2 ga oa x.ps.length c0 i rfl Tryz.underlying22 Tryz.sizeOf87 rfl rfl hlt) ?_))
        go_ret
        exact ⟨⟨_, rfl, hr.out⟩, B⟩
      · have hno' := hide (prAt_miss hno hq he)
        have heq : (q.f == f) = false := by simp [he]
        replace he := hide he
        clear hno hq hca x1 hga
        go_wp2_with (first
          | (with_reducible refine wl_run (o := ⟨some 16, _, _, _, _, _⟩) rfl (.pointer (some ⟨ga, oa + i * 2, none⟩)) (run_idxO 22 (.tmp 14) (.tmp 15) 87 2 ga oa x.ps.length c0 i rfl Tryz.underlying22 Tryz.sizeOf87 rfl rfl hlt) ?_))
        go_roundw
        case rel => exact ⟨i + 1, by have := hlt9.out; omega, by go_num, hno'.out, BW⟩
        case measure => have := hlt9.out; simp [intOf]; omega
    · obtain rfl : i = x.ps.length := by omega
      rw [List.take_length] at hno
      have hno9 := hide hno
      clear hno
      go_wp2_with fail
      go_ret
      exact ⟨⟨-1, rfl, .inl ⟨rfl, hno9.out⟩⟩, B⟩
theorem mem_hit {us : List Nm} {i : Nat} {q f : Nm} (hq : us[i]? = some q) (e : q = f) : decide (f ∈ us) = true := decide_eq_true (e ▸ List.mem_of_getElem? hq)
theorem mem_miss {us : List Nm} {i : Nat} {q f : Nm} (h : f ∉ us.take i) (hq : us[i]? = some q) (e : q ≠ f) : f ∉ us.take (i + 1) := by
  rw [take_more hq]
  intro hm
  rcases List.mem_append.1 hm with hm | hm
  · exact h hm
  · exact e ((List.mem_singleton.1 hm).symm)
set_option maxRecDepth 100000 in
set_option maxHeartbeats 1000000 in
theorem rhas_any (w : World) (v : Value) (us : List Nm) (f : Nm) (h : SlV cS 1 w w.heap.size v us) (hl : us.length ≤ 1000000) :
    Calls Tryz.prog 71 #[v, encStr f] w fun e w' => e = .returned (.bool (decide (f ∈ us))) ∧ Below w.heap.size w w' := by
  obtain ⟨A0, c0, hvp⟩ := h.sl
  subst hvp
  have hlI : (us.length : Int) ≤ 1000000 := by omega
  obtain ⟨d, hd⟩ : ∃ d, d = decide (f ∈ us) := ⟨_, rfl⟩
  rw [← hd]
  replace hd := hide hd
  go_enter Tryz.func71, Tryz.ntmps71
  go_wp2_with fail
  go_loopw [5] (fun iv wr => ∃ i : Nat, i ≤ us.length ∧ iv = .int .i64 (i : Int) ∧ f ∉ us.take i ∧ Below w.heap.size w wr) (fun iv _ => us.length - (intOf iv).toNat)
  case atStart => exact ⟨0, by omega, rfl, by simp, Below.refl _ _⟩
  case round =>
    obtain ⟨i, hi, rfl, hno, BW⟩ := hrel
    replace hno := hide hno
    by_cases hlt : i < us.length
    · have hltI : (i : Int) < (us.length : Int) := by omega
      obtain ⟨q, hq⟩ : ∃ q, us[i]? = some q := ⟨_, List.getElem?_eq_getElem hlt⟩
      obtain ⟨x1, ga, oa, rfl, hga, hca⟩ := (h.later BW).at hq
      have q0 := hca 0 _ rfl
      rw [Nat.add_zero, Nat.mul_one] at q0
      have hlt9 := hide hlt
      by_cases he : q = f
      · have hr := hide (hd.out.trans (mem_hit hq he))
        have heq : (q == f) = true := by simp [he]
        replace he := hide he
        clear hno hq hca x1 hga
        go_wp2_with (first
          | (with_reducible refine wl_run (o := ⟨some 14, _, _, _, _, _⟩) rfl (.pointer (some ⟨ga, oa + i * 1, none⟩)) (run_idxO 23 (.tmp 12) (.tmp 13) 9 1 ga oa us.length c0 i rfl Tryz.underlying23 Tryz.sizeOf9 rfl rfl hlt) ?_))
        go_ret
        exact ⟨by rw [hr.out]; rfl, BW⟩
      · have hno' := hide (mem_miss hno.out hq he)
        have heq : (q == f) = false := by simp [he]
        replace he := hide he
        clear hno hq hca x1 hga
        go_wp2_with (first
          | (with_reducible refine wl_run (o := ⟨some 14, _, _, _, _, _⟩) rfl (.pointer (some ⟨ga, oa + i * 1, none⟩)) (run_idxO 23 (.tmp 12) (.tmp 13) 9 1 ga oa us.length c0 i rfl Tryz.underlying23 Tryz.sizeOf9 rfl rfl hlt) ?_))
        go_roundw
        case rel => exact ⟨i + 1, by have := hlt9.out; omega, by go_num, hno'.out, BW⟩
        case measure => have := hlt9.out; simp [intOf]; omega
    · obtain rfl : i = us.length := by omega
      have hno9 := hno.out
      rw [List.take_length] at hno9
      have hr := hide (hd.out.trans (decide_eq_false hno9))
      clear hno hno9
      go_wp2_with fail
      go_ret
      exact ⟨by rw [hr.out]; rfl, BW⟩
end Go.Proofs.YtpbkejmffddelaaGreat

/-
  The document's calls on plain data: without an element; the place where one stands. Own work.
-/
namespace Go.Proofs.YtpbkejmffddelaaGreat
open Go.RowKit Go.Shelf Go.Maps
theorem cutN_more {us : List Nm} {i : Nat} {q f : Nm} (hq : us[i]? = some q) : cutN (us.take (i + 1)) f = cutN (us.take i) f ++ (if q = f then [] else [q]) := by
  rw [take_more hq]
  unfold cutN
  rw [List.filter_append]
  congr 1
  by_cases h : q = f <;> simp [h]
theorem cutF_more {ps : List Pr} {i : Nat} {q : Pr} {f : Nm} (hq : ps[i]? = some q) : cutF (ps.take (i + 1)) f = cutF (ps.take i) f ++ (if q.f = f then [] else [q]) := by
  rw [take_more hq]
  unfold cutF
  rw [List.filter_append]
  congr 1
  by_cases h : q.f = f <;> simp [h]
theorem cutN_le (us : List Nm) (f : Nm) : (cutN us f).length ≤ us.length := List.length_filter_le _ _
theorem cutF_le (ps : List Pr) (f : Nm) : (cutF ps f).length ≤ ps.length := List.length_filter_le _ _
/-- How many stand ahead of a text. -/
def nbN (us : List Nm) (f : Nm) : Nat := (us.takeWhile fun q => bytesBefore q f).length
theorem nbN_le (us : List Nm) (f : Nm) : nbN us f ≤ us.length := (List.takeWhile_sublist _).length_le
theorem insN_at : ∀ {us : List Nm} {f : Nm}, f ∉ us → insN f us = us.take (nbN us f) ++ f :: us.drop (nbN us f)
  | [], f, _ => rfl
  | y :: r, f, h => by
    have hne : y ≠ f := fun e => h (by simp [e])
    unfold insN nbN
    rw [List.takeWhile_cons]
    cases hb : bytesBefore f y with
    | true =>
      rw [before_asymm hb]
      rfl
    | false =>
      rw [before_total hb hne.symm]
      have := insN_at (us := r) (f := f) (fun hm => h (by simp [hm]))
      simp only [Bool.false_eq_true, if_false, if_true, List.length_cons, List.take_succ_cons, List.drop_succ_cons, List.cons_append]
      rw [this]
      rfl
/-- In a rising list just the first ones stand ahead of a text. -/
theorem nbN_iff : ∀ {us : List Nm} {f : Nm} {i : Nat} {q : Nm}, us.Pairwise (fun a b => bytesBefore a b = true) → us[i]? = some q → (bytesBefore q f = true ↔ i < nbN us f)
  | [], f, i, q, _, hq => by simp at hq
  | y :: r, f, i, q, h, hq => by
    obtain ⟨h1, h2⟩ := List.pairwise_cons.1 h
    unfold nbN
    rw [List.takeWhile_cons]
    cases hb : bytesBefore y f with
    | true =>
      simp only [if_true, List.length_cons]
      match i with
      | 0 =>
        obtain rfl : y = q := by simpa using hq
        simp [hb]
      | j + 1 =>
        have := nbN_iff (f := f) h2 (show r[j]? = some q by simpa using hq)
        rw [this]
        unfold nbN
        omega
    | false =>
      simp only [Bool.false_eq_true, if_false, List.length_nil, Nat.not_lt_zero, iff_false]
      match i with
      | 0 =>
        obtain rfl : y = q := by simpa using hq
        simp [hb]
      | j + 1 =>
        have hm : q ∈ r := List.mem_of_getElem? (show r[j]? = some q by simpa using hq)
        intro hqf
        rw [before_trans (h1 q hm) hqf] at hb
        cases hb
theorem cutN_not (us : List Nm) (f : Nm) : f ∉ cutN us f := by
  intro h
  have := (List.mem_filter.1 h).2
  simp at this
theorem cutN_rise {us : List Nm} {f : Nm} (h : us.Pairwise fun a b => bytesBefore a b = true) : (cutN us f).Pairwise fun a b => bytesBefore a b = true := h.filter _
theorem insN_mem (x : Nm) : ∀ {us : List Nm} {y : Nm}, y ∈ insN x us → y = x ∨ y ∈ us
  | [], y, h => .inl (by simpa [insN] using h)
  | z :: r, y, h => by
    unfold insN at h
    split at h
    · rcases List.mem_cons.1 h with h | h
      · exact .inl h
      · exact .inr h
    · rcases List.mem_cons.1 h with h | h
      · exact .inr (by simp [h])
      · rcases insN_mem x h with h | h
        · exact .inl h
        · exact .inr (by simp [h])
theorem insN_rise {f : Nm} : ∀ {us : List Nm}, us.Pairwise (fun a b => bytesBefore a b = true) → f ∉ us → (insN f us).Pairwise fun a b => bytesBefore a b = true
  | [], _, _ => by simp [insN]
  | y :: r, h, hf => by
    obtain ⟨h1, h2⟩ := List.pairwise_cons.1 h
    have hne : y ≠ f := fun e => hf (by simp [e])
    unfold insN
    split
    · rename_i hb
      refine List.pairwise_cons.2 ⟨fun z hz => ?_, h⟩
      rcases List.mem_cons.1 hz with rfl | hz
      · exact hb
      · exact before_trans hb (h1 z hz)
    · rename_i hb
      have hb' : bytesBefore f y = false := by simpa using hb
      refine List.pairwise_cons.2 ⟨fun z hz => ?_, insN_rise h2 (fun hm => hf (by simp [hm]))⟩
      rcases insN_mem f hz with rfl | hz
      · exact before_total hb' hne.symm
      · exact h1 z hz
theorem putN_rise {us : List Nm} {f : Nm} (h : us.Pairwise fun a b => bytesBefore a b = true) : (putN us f).Pairwise fun a b => bytesBefore a b = true := insN_rise (cutN_rise h) (cutN_not us f)
theorem insF_names (x : Pr) : ∀ ps : List Pr, (insF x ps).map Pr.f = insN x.f (ps.map Pr.f)
  | [] => rfl
  | y :: r => by
    show (if bytesBefore x.f y.f then x :: y :: r else y :: insF x r).map Pr.f = if bytesBefore x.f y.f then x.f :: y.f :: r.map Pr.f else y.f :: insN x.f (r.map Pr.f)
    split
    · rfl
    · rw [List.map_cons, insF_names x r]
theorem cutF_names (ps : List Pr) (f : Nm) : (cutF ps f).map Pr.f = cutN (ps.map Pr.f) f := by
  unfold cutF cutN
  rw [List.filter_map]
  rfl
theorem insF_at : ∀ {ps : List Pr} {x : Pr}, x.f ∉ ps.map Pr.f → insF x ps = ps.take (nbN (ps.map Pr.f) x.f) ++ x :: ps.drop (nbN (ps.map Pr.f) x.f)
  | [], x, _ => rfl
  | y :: r, x, h => by
    have hne : y.f ≠ x.f := fun e => h (by simp [e])
    unfold insF nbN
    rw [List.map_cons, List.takeWhile_cons]
    cases hb : bytesBefore x.f y.f with
    | true =>
      rw [before_asymm hb]
      rfl
    | false =>
      rw [before_total hb hne.symm]
      have := insF_at (ps := r) (x := x) (fun hm => h (by simp only [List.map_cons, List.mem_cons]; exact .inr hm))
      simp only [Bool.false_eq_true, if_false, if_true, List.length_cons, List.take_succ_cons, List.drop_succ_cons, List.cons_append]
      rw [this]
      rfl
set_option maxRecDepth 100000 in
set_option maxHeartbeats 1000000 in
theorem rcut_any (w : World) (v : Value) (us : List Nm) (f : Nm) (h : SlV cS 1 w w.heap.size v us) (hl : us.length ≤ 1000000) :
    Calls Tryz.prog 73 #[v, encStr f] w fun e w' => ∃ v', e = .returned v' ∧ OwnW w' w.heap.size v' (cutN us f) ∧ Below w.heap.size w w' := by
  obtain ⟨iw, hiw, hzw, hsw, hbw⟩ := wordI
  obtain ⟨A0, c0, hvp⟩ := h.sl
  subst hvp
  have hlI : (us.length : Int) ≤ 1000000 := by omega
  go_enter Tryz.func73, Tryz.ntmps73
  go_wp2_with fail
  go_loopw [5, 6] (fun ov iv wr => ∃ i : Nat, i ≤ us.length ∧ iv = .int .i64 (i : Int) ∧ OwnW wr w.heap.size ov (cutN (us.take i) f) ∧ Below w.heap.size w wr) (fun _ iv _ => us.length - (intOf iv).toNat)
  case atStart => exact ⟨0, by omega, rfl, World.ownsRow_nil _ _ _ _, Below.refl _ _⟩
  case round =>
    rename_i ov iv
    obtain ⟨i, hi, rfl, own, BW⟩ := hrel
    by_cases hlt : i < us.length
    · have hltI : (i : Int) < (us.length : Int) := by omega
      obtain ⟨q, hq⟩ : ∃ q, us[i]? = some q := ⟨_, List.getElem?_eq_getElem hlt⟩
      obtain ⟨x1, ga, oa, rfl, hga, hca⟩ := (h.later BW).at hq
      have q0 := hca 0 _ rfl
      rw [Nat.add_zero, Nat.mul_one] at q0
      have hlt9 := hide hlt
      have hmore := hide (cutN_more (f := f) hq)
      have hcl := cutN_le (us.take i) f
      have htl : (us.take i).length = i := by rw [List.length_take]; omega
      have hm1 := hide (show (cutN (us.take i) f).length + 1 ≤ maxLen by simp only [maxLen]; omega)
      have hm2 := hide (show ((cutN (us.take i) f).length + 1) * 16 ≤ 140737488355328 by omega)
      have hszw := BW.size
      have hone : ∀ u ∈ [encStr q], u.oneCell' = true := by simp [Value.oneCell', encStr]
      by_cases he : q = f
      · have heq : (q == f) = true := by simp [he]
        have hne : (q != f) = false := by simp [he]
        replace he := hide he
        clear hq hca x1 hga hcl htl
        go_wp2_with (first
          | (with_reducible refine wl_run (o := ⟨some 15, _, _, _, _, _⟩) rfl (.pointer (some ⟨ga, oa + i * 1, none⟩)) (run_idxO 23 (.tmp 13) (.tmp 14) 9 1 ga oa us.length c0 i rfl Tryz.underlying23 Tryz.sizeOf9 rfl rfl hlt) ?_))
        go_roundw
        case rel => exact ⟨i + 1, by have := hlt9.out; omega, by go_num, by rw [hmore.out, if_pos he.out, List.append_nil]; exact own, BW⟩
        case measure => have := hlt9.out; simp [intOf]; omega
      · have heq : (q == f) = false := by simp [he]
        have hne : (q != f) = true := by simp [he]
        replace he := hide he
        clear hq hca x1 hga hcl htl
        go_wp2_with (first
          | (with_reducible refine wl_run (o := ⟨some 15, _, _, _, _, _⟩) rfl (.pointer (some ⟨ga, oa + i * 1, none⟩)) (run_idxO 23 (.tmp 13) (.tmp 14) 9 1 ga oa us.length c0 i rfl Tryz.underlying23 Tryz.sizeOf9 rfl rfl hlt) ?_)
          | (with_reducible refine wl_run (o := ⟨some 22, _, _, _, _, _⟩) rfl (.pointer (some ⟨ga, oa + i * 1, none⟩)) (run_idxO 23 (.tmp 20) (.tmp 21) 9 1 ga oa us.length c0 i rfl Tryz.underlying23 Tryz.sizeOf9 rfl rfl hlt) ?_)
          | ((with_reducible refine wl_build1 (o := ⟨some 24, _, _, _, _, _⟩) rfl 23 (.tmp 23) rfl 9 iw _ (encStr q) Tryz.underlying23 hiw hzw hsw rfl rfl rfl ?_); intro g10 w10 r10 p10 l10 b10; have own10 := own_later own b10; have hs10 := Nat.le_trans hszw b10.size)
          | ((at_builtin; with_reducible refine wl_append_at (o := ⟨some 25, _, _, _, _, _⟩) rfl (.tmp 19) (.tmp 24) 23 rfl w.heap.size 9 iw _ 1 16 Tryz.underlying23 hiw hzw hsw hbw rfl (by decide) u5 _ _ rfl own10 ⟨g10, 0, none⟩ 1 1 [encStr q] rfl rfl (row_src r10) hone hm1.out hm2.out hs10 ?_); intro v11 w11 own11 gr11 at11))
        have B11 := (BW.trans (b10.mono BW.size)).trans (below_of_grP gr11 own10 hs10)
        have own12 : OwnW w11 w.heap.size v11 (cutN (us.take i) f ++ [q]) := by rw [OwnW, List.length_append, List.map_append]; exact own11
        go_roundw
        case rel => exact ⟨i + 1, by have := hlt9.out; omega, by go_num, by rw [hmore.out, if_neg he.out]; exact own12, B11⟩
        case measure => have := hlt9.out; simp [intOf]; omega
    · obtain rfl : i = us.length := by omega
      rw [List.take_length] at own
      go_wp2_with fail
      go_ret
      exact ⟨_, rfl, own, BW⟩
end Go.Proofs.YtpbkejmffddelaaGreat

/-
  The document's calls on plain data: with an element; elements, rising. Own work.
-/
namespace Go.Proofs.YtpbkejmffddelaaGreat
open Go.RowKit Go.Shelf Go.Maps
theorem own_src {w : World} {B e size n : Nat} {v : Value} {xs : List Value} (h : w.ownsRow B e size v n xs) : ∃ A c, v = .slice A n c ∧ n ≤ c ∧ (A = none → n = 0) ∧ ∀ ad, A = some ad → ∃ g, ad = ⟨g, 0, none⟩ ∧ B ≤ g ∧ ∀ j u, xs[j]? = some u → w.cell? ⟨g, j, none⟩ = some u := by
  rcases h.2 with ⟨rfl, rfl⟩ | ⟨g, cap, cur, rfl, hB, hg, h1, h2, h3, h4⟩
  · exact ⟨none, 0, rfl, Nat.le_refl _, (fun _ => rfl), (fun ad e => nomatch e)⟩
  · refine ⟨_, cap, rfl, h1, (fun e => nomatch e), fun ad e => ⟨g, (Option.some.inj e).symm, hB, fun j u hj => ?_⟩⟩
    have hjl := (List.getElem?_eq_some_iff.1 hj).1
    rw [← h4] at hj
    rw [List.getElem?_take] at hj
    split at hj
    · rw [cell_of_row w g _ cur _ (0, 0) hg, ← Array.getElem?_toList]
      exact hj
    · cases hj
/-- 'x[I:]' of a slice, elements of any size. -/
theorem run_sliceFromP {P : Program} (w : World) (T e z : Nat) (hu : P.underlying T = some (.slice e)) (hs : ∀ w, (sizeOf e).run P w = .ok z w) (A : Option Addr) (len cap : Nat) (kl : IntKind) (I : Nat) (h1 : I ≤ len) :
    (Instr.sliceAt T (.slice A len cap) (some (.int kl I)) none none).run P w = .ok (.slice (if cap = I then A else A.map (·.add (I * z))) (len - I) (cap - I)) w := by
  have h3 : (0 : Int) ≤ I := by omega
  simp [Instr.sliceAt, Instr.slice, underlying, hu, Instr.sliceBounds, Instr.sliceBound, asIntOf, h1, h3, hs]
theorem cutW_len (us : List Nm) : (us.map encStr).length = us.length * 1 := by simp
set_option maxRecDepth 100000 in
set_option maxHeartbeats 2000000 in
theorem radd_any (w : World) (v : Value) (us : List Nm) (f : Nm) (h : SlV cS 1 w w.heap.size v us) (hl : us.length ≤ 999999) (hr : us.Pairwise fun a b => bytesBefore a b = true) :
    Calls Tryz.prog 72 #[v, encStr f] w fun e w' => ∃ v', e = .returned v' ∧ OwnW w' w.heap.size v' (putN us f) ∧ Below w.heap.size w w' := by
  obtain ⟨iw, hiw, hzw, hsw, hbw⟩ := wordI
  have HD := rcut_any w v us f h (by omega)
  have hrL := cutN_rise (f := f) hr
  have hlL := Nat.le_trans (cutN_le us f) hl
  have hins := insN_at (cutN_not us f)
  unfold putN
  rw [hins]
  generalize cutN us f = Lx at *
  have hah := fun (i : Nat) (q : Nm) (hq : Lx[i]? = some q) => nbN_iff (f := f) hrL hq
  obtain ⟨k, hk⟩ : ∃ k, k = nbN Lx f := ⟨_, rfl⟩
  have hkl : k ≤ Lx.length := by rw [hk]; exact nbN_le _ _
  rw [← hk] at hah ⊢
  have hlI : (Lx.length : Int) ≤ 999999 := by omega
  replace hah := hide hah
  clear hk h hl hr hrL hins
  go_enter Tryz.func72, Tryz.ntmps72
  go_wp2_with fail
  refine HD.mono ?_
  rintro e w1 ⟨v1, rfl, own1, B1⟩
  clear HD
  obtain ⟨A, c, rfl, hcap, hA0, hsrcA⟩ := own_src own1
  replace hsrcA := hide hsrcA
  replace hA0 := hide hA0
  replace hcap := hide hcap
  go_wp2_with fail
  go_loopw [5, 6] (fun av iv wr => ∃ i : Nat, i ≤ Lx.length ∧ iv = .int .i64 (i : Int) ∧ av = .int .i64 ((min i k : Nat) : Int) ∧ Below w1.heap.size w1 wr) (fun _ iv _ => Lx.length - (intOf iv).toNat)
  case atStart => exact ⟨0, by omega, rfl, by rw [Nat.zero_min]; rfl, Below.refl _ _⟩
  case round =>
    obtain ⟨i, hi, rfl, rfl, BW⟩ := hrel
    by_cases hlt : i < Lx.length
    · have hltI : (i : Int) < (Lx.length : Int) := by omega
      obtain ⟨q, hq⟩ : ∃ q, Lx[i]? = some q := ⟨_, List.getElem?_eq_getElem hlt⟩
      obtain ⟨x1, ga, oa, rfl, hga, hca⟩ := (OwnW.slv (own_later own1 BW)).at hq
      have q0 := hca 0 _ rfl
      rw [Nat.add_zero, Nat.mul_one] at q0
      obtain ⟨rr, hrr⟩ : ∃ rr, bytesBefore q f = rr := ⟨_, rfl⟩
      have hik := hah.out i q hq
      rw [hrr] at hik
      have hbl : Op.bytesLess q f = rr := (less_before q f).trans hrr
      replace hik := hide hik
      have hlt9 := hide hlt
      clear hq hca x1 hga
      cases rr with
      | true =>
        go_wp2_with (first
          | (with_reducible refine wl_run (o := ⟨some 19, _, _, _, _, _⟩) rfl (.pointer (some ⟨ga, oa + i * 1, none⟩)) (run_idxO 23 (.tmp 17) (.tmp 18) 9 1 ga oa Lx.length c i rfl Tryz.underlying23 Tryz.sizeOf9 rfl rfl hlt) ?_))
        go_roundw
        case rel =>
          have hik := hik.out.1 rfl
          exact ⟨i + 1, by have := hlt9.out; omega, by go_num, by rw [show min (i + 1) k = i + 1 by omega]; go_num, BW⟩
        case measure => have := hlt9.out; simp [intOf]; omega
      | false =>
        go_wp2_with (first
          | (with_reducible refine wl_run (o := ⟨some 19, _, _, _, _, _⟩) rfl (.pointer (some ⟨ga, oa + i * 1, none⟩)) (run_idxO 23 (.tmp 17) (.tmp 18) 9 1 ga oa Lx.length c i rfl Tryz.underlying23 Tryz.sizeOf9 rfl rfl hlt) ?_))
        go_roundw
        case rel =>
          have hik : ¬ i < k := fun h => by have := hik.out.2 h; cases this
          exact ⟨i + 1, by have := hlt9.out; omega, by go_num, by rw [show min (i + 1) k = min i k by omega], BW⟩
        case measure => have := hlt9.out; simp [intOf]; omega
    · obtain rfl : i = Lx.length := by omega
      rw [show min Lx.length k = k by omega]
      have hsplit : Lx.map encStr = (Lx.take k).map encStr ++ (Lx.drop k).map encStr := by rw [← List.map_append, List.take_append_drop]
      have htl : ((Lx.take k).map encStr).length = k * 1 := by rw [List.length_map, List.length_take, Nat.min_eq_left hkl, Nat.mul_one]
      have hdl : ((Lx.drop k).map encStr).length = (Lx.length - k) * 1 := by rw [List.length_map, List.length_drop, Nat.mul_one]
      have hA1 : A = none → k = 0 := fun e => by have := hA0.out e; omega
      have hsrc : ∀ wz, Below w1.heap.size w1 wz → ∀ ad, A = some ad → ∃ g, ad = ⟨g, 0, none⟩ ∧ ∀ j u, (Lx.map encStr)[j]? = some u → wz.cell? ⟨g, j, none⟩ = some u := fun wz hz ad e => by
        obtain ⟨g, e2, _, hc⟩ := hsrcA.out ad e
        exact ⟨g, e2, fun j u hj => (hz.cell (p := ⟨g, j, none⟩) (block_lt_of_cell (hc j u hj))).trans (hc j u hj)⟩
      have hsrc1 : ∀ ad, A = some ad → ∀ j u, ((Lx.take k).map encStr)[j]? = some u → wr.cell? (ad.add j) = some u := by
        intro ad e j u hj
        obtain ⟨g, rfl, hc⟩ := hsrc wr BW ad e
        rw [addr_plain, Nat.zero_add]
        refine hc j u ?_
        rw [hsplit, List.getElem?_append_left (List.getElem?_eq_some_iff.1 hj).1]; exact hj
      have hcapo := hcap.out
      have hA2 : (if c = k then A else A.map (·.add (k * 1))) = none → Lx.length - k = 0 := fun e => by
        by_cases hck : c = k
        · omega
        · rw [if_neg hck] at e
          cases hAA : A with
          | none => have := hA0.out hAA; omega
          | some ad => rw [hAA] at e; cases e
      have hsrc2 : ∀ wz, Below wr.heap.size wr wz → ∀ ad, (if c = k then A else A.map (·.add (k * 1))) = some ad → ∀ j u, ((Lx.drop k).map encStr)[j]? = some u → wz.cell? (ad.add j) = some u := by
        intro wz hbz ad e j u hj
        have hjl := (List.getElem?_eq_some_iff.1 hj).1
        have hck : c ≠ k := by omega
        rw [if_neg hck] at e
        cases hAA : A with
        | none => rw [hAA] at e; cases e
        | some ad0 =>
          obtain ⟨g, rfl, hc⟩ := hsrc wz (BW.trans (hbz.mono BW.size)) ad0 hAA
          rw [hAA] at e
          obtain rfl := Option.some.inj e
          show wz.cell? (Addr.add (Addr.add ⟨g, 0, none⟩ (k * 1)) j) = _
          rw [addr_plain, addr_plain, Nat.zero_add]
          refine hc (k * 1 + j) u ?_
          rw [hsplit, List.getElem?_append_right (by omega), htl, show k * 1 + j - k * 1 = j by omega]; exact hj
      have hS1 := fun w => run_sliceTo (P := Tryz.prog) w 23 9 1 Tryz.underlying23 Tryz.sizeOf9 A Lx.length c .i64 (k : Int) k rfl (Nat.le_trans hkl hcapo)
      have hS2 := fun w => run_sliceFromP (P := Tryz.prog) w 23 9 1 Tryz.underlying23 Tryz.sizeOf9 A Lx.length c .i64 k hkl
      have ho1 : ∀ u ∈ (Lx.take k).map encStr, u.oneCell' = true := by intro u hu; obtain ⟨x, _, rfl⟩ := List.mem_map.1 hu; rfl
      have ho2 : ∀ u ∈ (Lx.drop k).map encStr, u.oneCell' = true := by intro u hu; obtain ⟨x, _, rfl⟩ := List.mem_map.1 hu; rfl
      have hm1 : 0 + k ≤ maxLen := by simp only [maxLen]; omega
      have hb1 : (0 + k) * 16 ≤ 140737488355328 := by omega
      have hm2 : 0 + k + 1 ≤ maxLen := by simp only [maxLen]; omega
      have hb2 : (0 + k + 1) * 16 ≤ 140737488355328 := by omega
      have hm3 : 0 + k + 1 + (Lx.length - k) ≤ maxLen := by simp only [maxLen]; omega
      have hb3 : (0 + k + 1 + (Lx.length - k)) * 16 ≤ 140737488355328 := by omega
      generalize (if c = k then A else A.map (·.add (k * 1))) = A2 at *
      have hhl := hide hkl
      generalize hT : (Lx.take k).map encStr = T1 at *
      generalize hD : (Lx.drop k).map encStr = T2 at *
      replace hT := hide hT
      replace hD := hide hD
      replace hsrc1 := hide hsrc1
      replace hsrc2 := hide hsrc2
      replace hA1 := hide hA1
      replace hA2 := hide hA2
      replace htl := hide htl
      replace hdl := hide hdl
      replace ho1 := hide ho1
      replace ho2 := hide ho2
      have hkI : (k : Int) ≤ (Lx.length : Int) := by omega
      clear hsrc hsplit hcapo
      go_wp2_with (first
        | ((at_builtin; with_reducible refine wl_append_src (o := ⟨some 29, _, _, _, _, _⟩) rfl (.tmp 25) (.tmp 28) 23 rfl wr.heap.size 9 iw _ 1 16 Tryz.underlying23 hiw hzw hsw hbw rfl (by decide) (.slice none 0 0) 0 [] rfl (World.ownsRow_nil _ _ _ _) A k c T1 rfl htl.out hA1.out hsrc1.out ho1.out hm1 hb1 (Nat.le_refl _) ?_); intro v8 w8 own8 gr8; have B8 : Below wr.heap.size wr w8 := (Below.refl _ _).grown gr8 (Nat.le_refl _) (fun k hk => by cases hk); have z8 := B8.size)
        | ((with_reducible refine wl_build1 (o := ⟨some 32, _, _, _, _, _⟩) rfl 23 (.tmp 31) rfl 9 iw _ (encStr f) Tryz.underlying23 hiw hzw hsw rfl rfl rfl ?_); intro g9 w9 r9 p9 l9 b9; have own9 := own_later own8 b9; have B9 := B8.trans (b9.mono z8); have z9 := B9.size)
        | ((at_builtin; with_reducible refine wl_append_at (o := ⟨some 33, _, _, _, _, _⟩) rfl (.tmp 30) (.tmp 32) 23 rfl wr.heap.size 9 iw _ 1 16 Tryz.underlying23 hiw hzw hsw hbw rfl (by decide) v8 _ _ rfl own9 ⟨g9, 0, none⟩ 1 1 [encStr f] rfl rfl (row_src r9) (by simp [Value.oneCell']) hm2 hb2 z9 ?_); intro v10 w10 own10 gr10 at10; have B10 := B9.grown gr10 z9 (fun k hk => (own9.lt k hk).1); have z10 := B10.size; have hs10 := hsrc2.out w10 B10)
        | ((at_builtin; with_reducible refine wl_append_src (o := ⟨some 38, _, _, _, _, _⟩) rfl (.tmp 34) (.tmp 37) 23 rfl wr.heap.size 9 iw _ 1 16 Tryz.underlying23 hiw hzw hsw hbw rfl (by decide) v10 _ _ rfl own10 A2 (Lx.length - k) (c - k) T2 rfl hdl.out hA2.out hs10 ho2.out hm3 hb3 z10 ?_); intro v12 w12 own12 gr12; have B12 := B10.grown gr12 z10 (fun k hk => (own10.lt k hk).1)))
      go_ret
      have BB := B1.trans (BW.mono B1.size)
      refine ⟨_, rfl, own_lo (w := w12) (base := wr.heap.size) ?_ BB.size, BB.trans (B12.mono BB.size)⟩
      have e1 : (Lx.take k ++ f :: Lx.drop k).map encStr = [] ++ T1 ++ [encStr f] ++ T2 := by
        rw [← hT.out, ← hD.out, List.nil_append, List.map_append, List.map_cons, List.append_assoc]
        rfl
      have e2 : (Lx.take k ++ f :: Lx.drop k).length = 0 + k + 1 + (Lx.length - k) := by
        have := hhl.out
        rw [List.length_append, List.length_cons, List.length_take, List.length_drop]
        omega
      rw [e1, e2]
      exact own12
end Go.Proofs.YtpbkejmffddelaaGreat

/-
  The document's calls on plain data: elements, rising; a hash without a field. Own work.
-/
namespace Go.Proofs.YtpbkejmffddelaaGreat
open Go.RowKit Go.Shelf Go.Maps
theorem foldN_rise : ∀ (l : List Nm) {us : List Nm}, us.Pairwise (fun a b => bytesBefore a b = true) → (l.foldl putN us).Pairwise fun a b => bytesBefore a b = true
  | [], us, h => h
  | f :: r, us, h => foldN_rise r (putN_rise h)
set_option maxRecDepth 100000 in
set_option maxHeartbeats 1000000 in
theorem rrising_any (w : World) (v : Value) (l : List Nm) (h : SlV cS 1 w w.heap.size v l) (hl : l.length ≤ 1000) :
    Calls Tryz.prog 74 #[v] w fun e w' => ∃ v', e = .returned v' ∧ OwnW w' w.heap.size v' (l.foldl putN []) ∧ Below w.heap.size w w' := by
  obtain ⟨A0, c0, hvp⟩ := h.sl
  subst hvp
  have hlI : (l.length : Int) ≤ 1000 := by omega
  go_enter Tryz.func74, Tryz.ntmps74
  go_wp2_with fail
  go_loopw [3, 4] (fun ov iv wr => ∃ i : Nat, i ≤ l.length ∧ iv = .int .i64 (i : Int) ∧ OwnW wr w.heap.size ov ((l.take i).foldl putN []) ∧ Below w.heap.size w wr) (fun _ iv _ => l.length - (intOf iv).toNat)
  case atStart => exact ⟨0, by omega, rfl, World.ownsRow_nil _ _ _ _, Below.refl _ _⟩
  case round =>
    rename_i ov iv
    obtain ⟨i, hi, rfl, own, BW⟩ := hrel
    by_cases hlt : i < l.length
    · have hltI : (i : Int) < (l.length : Int) := by omega
      obtain ⟨q, hq⟩ : ∃ q, l[i]? = some q := ⟨_, List.getElem?_eq_getElem hlt⟩
      obtain ⟨x1, ga, oa, rfl, hga, hca⟩ := (h.later BW).at hq
      have q0 := hca 0 _ rfl
      rw [Nat.add_zero, Nat.mul_one] at q0
      have hlt9 := hide hlt
      have hmore := hide (foldN_more hq)
      have hfn := foldN_len (l.take i) []
      have htl : (l.take i).length = i := by rw [List.length_take]; omega
      have hfl : ((l.take i).foldl putN []).length ≤ 999999 := by simp only [List.length_nil] at hfn; omega
      have HA := radd_any wr u3 _ q (OwnW.slv own) hfl (foldN_rise _ List.Pairwise.nil)
      rw [← hmore.out] at HA
      replace HA := hide HA
      clear hq hca x1 hga hfn htl hfl
      go_wp2_with (first
        | (with_reducible refine wl_run (o := ⟨some 14, _, _, _, _, _⟩) rfl (.pointer (some ⟨ga, oa + i * 1, none⟩)) (run_idxO 23 (.tmp 12) (.tmp 13) 9 1 ga oa l.length c0 i rfl Tryz.underlying23 Tryz.sizeOf9 rfl rfl hlt) ?_))
      refine HA.out.mono ?_
      rintro e w5 ⟨v5, rfl, own5, b5⟩
      go_wp2_with fail
      go_roundw
      case rel => exact ⟨i + 1, by have := hlt9.out; omega, by go_num, own_low own5 BW.size, BW.trans (b5.mono BW.size)⟩
      case measure => have := hlt9.out; simp [intOf]; omega
    · obtain rfl : i = l.length := by omega
      rw [List.take_length] at own
      go_wp2_with fail
      go_ret
      exact ⟨_, rfl, own, BW⟩
set_option maxRecDepth 100000 in
set_option maxHeartbeats 1000000 in
theorem rcutF_any (w : World) (x : Vl) (vp vl vs : Value) (f : Nm) (h : SlV Pr.cells 2 w w.heap.size vp x.ps) (hone : ∀ u ∈ vlC x vp vl vs, u.oneCell' = true) (hl : x.ps.length ≤ 1000000) :
    Calls Tryz.prog 70 #[vlV x vp vl vs, encStr f] w fun e w' => ∃ v', e = .returned (vlV ⟨x.k, x.t, cutF x.ps f, x.ls, x.ss⟩ v' vl vs) ∧ OwnP w' w.heap.size v' (cutF x.ps f) ∧ Below w.heap.size w w' := by
  obtain ⟨ip, hip, hiz, his, hib⟩ := pairI
  obtain ⟨A0, c0, hvp⟩ := h.sl
  subst hvp
  have hlI : (x.ps.length : Int) ≤ 1000000 := by omega
  replace hone := hide hone
  go_enter Tryz.func70, Tryz.ntmps70
  go_wp2_with (first
    | ((with_reducible refine wl_box (o := ⟨some 2, _, _, _, _, _⟩) rfl 26 (.tmp 0) _ (vlC x (.slice A0 x.ps.length c0) vl vs) rfl rfl rfl ?_); intro g2 w2 r2 p2 l2 b2)
    | ((with_reducible refine wl_alloc (o := ⟨some 4, _, _, _, _, _⟩) rfl 26 _ [.int .i64 0, encStr [], nilS, nilS, nilS] rfl zeroVl rfl ?_); intro g4 w4 r4 p4 l4 b4; have r24 := r2.later b4; have B4 := b2.trans (b4.mono b2.size)))
  have n24 : g2 ≠ g4 := Nat.ne_of_lt (Nat.lt_of_lt_of_le r2.lt p4)
  have hg4w : w.heap.size ≤ g4 := Nat.le_trans b2.size p4
  go_loopw [5, 6] (fun ov iv wr => ∃ i : Nat, i ≤ x.ps.length ∧ iv = .int .i64 (i : Int) ∧ OwnP wr w4.heap.size ov (cutF (x.ps.take i) f) ∧ Below w4.heap.size w4 wr) (fun _ iv _ => x.ps.length - (intOf iv).toNat)
  case atStart => exact ⟨0, by omega, rfl, World.ownsRow_nil _ _ _ _, Below.refl _ _⟩
  case round =>
    rename_i ov iv
    obtain ⟨i, hi, rfl, own, BW⟩ := hrel
    have r2w := r24.later BW
    have c2 := r2w.cell (j := 2) rfl
    have B := B4.trans (BW.mono B4.size)
    by_cases hlt : i < x.ps.length
    · have hltI : (i : Int) < (x.ps.length : Int) := by omega
      obtain ⟨q, hq⟩ : ∃ q, x.ps[i]? = some q := ⟨_, List.getElem?_eq_getElem hlt⟩
      obtain ⟨x1, ga, oa, rfl, hga, hca⟩ := (h.later B).at hq
      have q0 := hca 0 _ rfl
      rw [Nat.add_zero] at q0
      have hlt9 := hide hlt
      have hmore := hide (cutF_more (f := f) hq)
      have hcl := cutF_le (x.ps.take i) f
      have htl : (x.ps.take i).length = i := by rw [List.length_take]; omega
      have hm1 := hide (show (cutF (x.ps.take i) f).length + 1 ≤ maxLen by simp only [maxLen]; omega)
      have hm2 := hide (show ((cutF (x.ps.take i) f).length + 1) * 32 ≤ 140737488355328 by omega)
      have hszw := BW.size
      have szq := szPr q
      have oneq := onePr q
      by_cases he : q.f = f
      · have heq : (q.f == f) = true := by simp [he]
        have hne : (q.f != f) = false := by simp [he]
        replace he := hide he
        clear hq hca x1 hga hcl htl
        go_wp2_with (first
          | (with_reducible refine wl_run (o := ⟨some 17, _, _, _, _, _⟩) rfl (.pointer (some ⟨ga, oa + i * 2, none⟩)) (run_idxO 22 (.tmp 15) (.tmp 16) 87 2 ga oa x.ps.length c0 i rfl Tryz.underlying22 Tryz.sizeOf87 rfl rfl hlt) ?_))
        go_roundw
        case rel => exact ⟨i + 1, by have := hlt9.out; omega, by go_num, by rw [hmore.out, if_pos he.out, List.append_nil]; exact own, BW⟩
        case measure => have := hlt9.out; simp [intOf]; omega
      · have heq : (q.f == f) = false := by simp [he]
        have hne : (q.f != f) = true := by simp [he]
        replace he := hide he
        clear hq x1 hga hcl htl
        go_wp2_with (first
          | (with_reducible refine wl_run (o := ⟨some 17, _, _, _, _, _⟩) rfl (.pointer (some ⟨ga, oa + i * 2, none⟩)) (run_idxO 22 (.tmp 15) (.tmp 16) 87 2 ga oa x.ps.length c0 i rfl Tryz.underlying22 Tryz.sizeOf87 rfl rfl hlt) ?_)
          | (with_reducible refine wl_run (o := ⟨some 26, _, _, _, _, _⟩) rfl (.pointer (some ⟨ga, oa + i * 2, none⟩)) (run_idxO 22 (.tmp 24) (.tmp 25) 87 2 ga oa x.ps.length c0 i rfl Tryz.underlying22 Tryz.sizeOf87 rfl rfl hlt) ?_)
          | (with_reducible refine wl_load_cells (o := ⟨some 27, _, _, _, _, _⟩) rfl 87 (.tmp 26) ga (oa + i * 2) q.cells _ rfl rfl hca Tryz.underlying87 rfl szq ?_)
          | ((with_reducible refine wl_build1B (o := ⟨some 28, _, _, _, _, _⟩) rfl 22 (.tmp 27) rfl 87 ip _ q.cells 2 Tryz.underlying22 hip hiz rfl his rfl (by decide) (by decide) rfl ?_); intro g10 w10 r10 p10 l10 b10; have own10 := own_later own b10; have hs10 := Nat.le_trans hszw b10.size)
          | ((at_builtin; with_reducible refine wl_append_at (o := ⟨some 29, _, _, _, _, _⟩) rfl (.tmp 22) (.tmp 28) 22 rfl w4.heap.size 87 ip _ 2 32 Tryz.underlying22 hip hiz his hib rfl (by decide) u5 _ _ rfl own10 ⟨g10, 0, none⟩ 1 1 q.cells rfl rfl (row_src r10) oneq hm1.out hm2.out hs10 ?_); intro v11 w11 own11 gr11 at11))
        have B11 := (BW.trans (b10.mono BW.size)).trans (below_of_grP gr11 own10 hs10)
        have own12 : OwnP w11 w4.heap.size v11 (cutF (x.ps.take i) f ++ [q]) := by rw [OwnP, List.length_append, prC_app]; exact own11
        go_roundw
        case rel => exact ⟨i + 1, by have := hlt9.out; omega, by go_num, by rw [hmore.out, if_neg he.out]; exact own12, B11⟩
        case measure => have := hlt9.out; simp [intOf]; omega
    · obtain rfl : i = x.ps.length := by omega
      rw [List.take_length] at own
      have onev := own_one own
      have r4w := r4.later BW
      have one5 : ∀ u ∈ [Value.int .i64 x.k, encStr x.t, u5, vl, vs], u.oneCell' = true := by
        intro u hu
        have ho := hone.out
        simp only [List.mem_cons, List.not_mem_nil, or_false] at hu
        rcases hu with rfl | rfl | rfl | rfl | rfl
        · rfl
        · rfl
        · exact onev
        · exact ho _ (by simp)
        · exact ho _ (by simp)
      go_wp2_with (first
        | ((with_reducible refine wl_store rfl 22 (.tmp 31) (.tmp 30) g2 2 26 (vlC x (.slice A0 x.ps.length c0) vl vs) u5 rfl (by kernel_rfl) rfl rfl r2w (by simp) onev ?_); intro w7 r7 o7; replace r7 : Row w7 26 g2 [.int .i64 x.k, encStr x.t, u5, vl, vs] := r7; have r47 := r4w.only o7 n24.symm)
        | (with_reducible refine wl_load_row (o := ⟨some 32, _, _, _, _, _⟩) rfl 26 (.tmp 2) g2 26 [.int .i64 x.k, encStr x.t, u5, vl, vs] _ rfl rfl r7 Tryz.underlying26 rfl (by kernel_rfl) ?_)
        | ((with_reducible refine wl_store_row rfl 26 (.tmp 4) (.tmp 32) g4 26 _ [.int .i64 x.k, encStr x.t, u5, vl, vs] rfl rfl rfl r47 (by kernel_rfl) rfl one5 ?_); intro w8 r8 o8))
      have own8 := own_at_but (own_at_but own r2w (by decide) (But.only o7)) r47 (by decide) (But.only o8)
      refine bodyPost_ret (v := .agg [.int .i64 x.k, encStr x.t, u5, vl, vs].toArray) ?_ rfl ⟨u5, rfl, own_low own8 B4.size, (B.trans (o7.below p2)).trans (o8.below hg4w)⟩
      exact results_cell_row Tryz.results70 _ _ g4 26 _ (0, 0) _ rfl r8 Tryz.underlying26 rfl (by kernel_rfl)
end Go.Proofs.YtpbkejmffddelaaGreat

/-
  The document's calls on plain data: a hash with a text by a field. Own work.
-/
namespace Go.Proofs.YtpbkejmffddelaaGreat
open Go.RowKit Go.Shelf Go.Maps
theorem prC_split (a b : List Pr) : prC (a ++ b) = prC a ++ prC b := prC_app a b
theorem cutF_not (ps : List Pr) (f : Nm) : f ∉ (cutF ps f).map Pr.f := by rw [cutF_names]; exact cutN_not _ _
theorem one_prs (l : List Pr) : ∀ u ∈ prC l, u.oneCell' = true := by
  intro u hu
  obtain ⟨c, hc, h⟩ := List.mem_flatten.1 hu
  obtain ⟨a, _, rfl⟩ := List.mem_map.1 hc
  exact onePr a u h
theorem names_rise {ps : List Pr} (h : riseE (hE ps)) : (ps.map Pr.f).Pairwise fun a b => bytesBefore a b = true := by
  rw [List.pairwise_map]
  unfold riseE hE at h
  rw [List.pairwise_map] at h
  exact h
theorem rise_names {ps : List Pr} (h : (ps.map Pr.f).Pairwise fun a b => bytesBefore a b = true) : riseE (hE ps) := by
  unfold riseE hE
  rw [List.pairwise_map]
  rw [List.pairwise_map] at h
  exact h
set_option maxRecDepth 100000 in
set_option maxHeartbeats 2000000 in
theorem rsetF_any (w : World) (x : Vl) (vp vl vs : Value) (f t : Nm) (h : SlV Pr.cells 2 w w.heap.size vp x.ps) (hone : ∀ u ∈ vlC x vp vl vs, u.oneCell' = true) (hl : x.ps.length ≤ 999999) (hr : riseE (hE x.ps)) :
    Calls Tryz.prog 69 #[vlV x vp vl vs, encStr f, encStr t] w fun e w' => ∃ v', e = .returned (vlV ⟨x.k, x.t, putF x.ps f t, x.ls, x.ss⟩ v' vl vs) ∧ OwnP w' w.heap.size v' (putF x.ps f t) ∧ Below w.heap.size w w' := by
  obtain ⟨ip, hip, hiz, his, hib⟩ := pairI
  have hszv := szVl x vp vl vs
  have HD := fun wz (hz : Below w.heap.size w wz) => rcutF_any wz x vp vl vs f (h.later hz) hone (by omega)
  have hrL : (cutF x.ps f).map Pr.f |>.Pairwise fun a b => bytesBefore a b = true := by rw [cutF_names]; exact cutN_rise (names_rise hr)
  have hlL := Nat.le_trans (cutF_le x.ps f) hl
  have hins := insF_at (x := ⟨f, t⟩) (cutF_not x.ps f)
  have honev : vl.oneCell' = true ∧ vs.oneCell' = true := ⟨hone _ (by simp), hone _ (by simp)⟩
  obtain ⟨onevl, onevs⟩ := honev
  unfold putF
  rw [hins]
  generalize cutF x.ps f = Lx at *
  have hah := fun (i : Nat) (q : Pr) (hq : Lx[i]? = some q) => nbN_iff (f := f) hrL (show (Lx.map Pr.f)[i]? = some q.f by rw [List.getElem?_map, hq]; rfl)
  obtain ⟨k, hk⟩ : ∃ k, k = nbN (Lx.map Pr.f) f := ⟨_, rfl⟩
  have hkl : k ≤ Lx.length := by rw [hk]; exact Nat.le_trans (nbN_le _ _) (by rw [List.length_map]; exact Nat.le_refl _)
  simp only
  rw [← hk] at hah ⊢
  have hlI : (Lx.length : Int) ≤ 999999 := by omega
  have hbu := builtPr f t
  have oneN : ∀ u ∈ [encStr f, encStr t], u.oneCell' = true := by simp [Value.oneCell', encStr]
  replace hah := hide hah
  replace HD := hide HD
  replace hone := hide hone
  clear hk hl hr hrL hins
  go_enter Tryz.func69, Tryz.ntmps69
  go_wp2_with (first
    | ((with_reducible refine wl_box (o := ⟨some 3, _, _, _, _, _⟩) rfl 26 (.tmp 0) _ (vlC x vp vl vs) rfl rfl rfl ?_); intro g3 wa r3 p3 l3 ba)
    | ((with_reducible refine wl_alloc (o := ⟨some 6, _, _, _, _, _⟩) rfl 26 _ [.int .i64 0, encStr [], nilS, nilS, nilS] rfl zeroVl rfl ?_); intro g6 wb r6 p6 l6 bb; have r3b := r3.later bb; have Bb := ba.trans (bb.mono ba.size))
    | (with_reducible refine wl_load_row (o := ⟨some 10, _, _, _, _, _⟩) rfl 26 (.tmp 3) g3 26 (vlC x vp vl vs) _ rfl rfl r3b Tryz.underlying26 rfl hszv ?_))
  have hg6w : w.heap.size ≤ g6 := Nat.le_trans ba.size p6
  have n36 : g3 ≠ g6 := Nat.ne_of_lt (Nat.lt_of_lt_of_le r3.lt p6)
  refine (HD.out wb Bb).mono ?_
  rintro e wc ⟨v1, rfl, own1, bc⟩
  have own1x := own_one own1
  have one5 : ∀ u ∈ [Value.int .i64 x.k, encStr x.t, v1, vl, vs], u.oneCell' = true := by
    intro u hu
    simp only [List.mem_cons, List.not_mem_nil, or_false] at hu
    rcases hu with rfl | rfl | rfl | rfl | rfl
    · rfl
    · rfl
    · exact own1x
    · exact onevl
    · exact onevs
  have r3c := r3b.later bc
  have r6c := r6.later bc
  have Bc := Bb.trans (bc.mono Bb.size)
  go_wp2_with (first
    | ((with_reducible refine wl_store_row rfl 26 (.tmp 3) (.tmp 12) g3 26 _ [.int .i64 x.k, encStr x.t, v1, vl, vs] rfl rfl rfl r3c (by kernel_rfl) rfl one5 ?_); intro w1 r31 o1))
  have r61 := r6c.only o1 n36.symm
  have B1 := Bc.trans (o1.below p3)
  have own1 : OwnP w1 w.heap.size v1 Lx := own_low (own_at_but own1 r3c (by decide) (But.only o1)) Bb.size
  obtain ⟨A, c, rfl, hcap, hA0, hsrcA⟩ := own_src own1
  replace hsrcA := hide hsrcA
  replace hA0 := hide hA0
  replace hcap := hide hcap
  clear r3 r3b r3c r6 r6c ba bb bc o1 HD
  go_loopw [7, 8] (fun av iv wr => ∃ i : Nat, i ≤ Lx.length ∧ iv = .int .i64 (i : Int) ∧ av = .int .i64 ((min i k : Nat) : Int) ∧ Below w1.heap.size w1 wr) (fun _ iv _ => Lx.length - (intOf iv).toNat)
  case atStart => exact ⟨0, by omega, rfl, by rw [Nat.zero_min]; rfl, Below.refl _ _⟩
  case round =>
    obtain ⟨i, hi, rfl, rfl, BW⟩ := hrel
    have r3w := r31.later BW
    have r6w := r61.later BW
    have c2 := r3w.cell (j := 2) rfl
    by_cases hlt : i < Lx.length
    · have hltI : (i : Int) < (Lx.length : Int) := by omega
      obtain ⟨q, hq⟩ : ∃ q, Lx[i]? = some q := ⟨_, List.getElem?_eq_getElem hlt⟩
      obtain ⟨x1, ga, oa, rfl, hga, hca⟩ := (OwnP.slv (own_later own1 BW)).at hq
      have q0 := hca 0 _ rfl
      rw [Nat.add_zero] at q0
      obtain ⟨rr, hrr⟩ : ∃ rr, bytesBefore q.f f = rr := ⟨_, rfl⟩
      have hik := hah.out i q hq
      rw [hrr] at hik
      have hbl : Op.bytesLess q.f f = rr := (less_before q.f f).trans hrr
      replace hik := hide hik
      have hlt9 := hide hlt
      clear hq hca x1 hga r6w
      cases rr with
      | true =>
        go_wp2_with (first
          | (with_reducible refine wl_run (o := ⟨some 23, _, _, _, _, _⟩) rfl (.pointer (some ⟨ga, oa + i * 2, none⟩)) (run_idxO 22 (.tmp 21) (.tmp 22) 87 2 ga oa Lx.length c i rfl Tryz.underlying22 Tryz.sizeOf87 rfl rfl hlt) ?_))
        go_roundw
        case rel =>
          have hik := hik.out.1 rfl
          exact ⟨i + 1, by have := hlt9.out; omega, by go_num, by rw [show min (i + 1) k = i + 1 by omega]; go_num, BW⟩
        case measure => have := hlt9.out; simp [intOf]; omega
      | false =>
        go_wp2_with (first
          | (with_reducible refine wl_run (o := ⟨some 23, _, _, _, _, _⟩) rfl (.pointer (some ⟨ga, oa + i * 2, none⟩)) (run_idxO 22 (.tmp 21) (.tmp 22) 87 2 ga oa Lx.length c i rfl Tryz.underlying22 Tryz.sizeOf87 rfl rfl hlt) ?_))
        go_roundw
        case rel =>
          have hik : ¬ i < k := fun h => by have := hik.out.2 h; cases this
          exact ⟨i + 1, by have := hlt9.out; omega, by go_num, by rw [show min (i + 1) k = min i k by omega], BW⟩
        case measure => have := hlt9.out; simp [intOf]; omega
    · obtain rfl : i = Lx.length := by omega
      rw [show min Lx.length k = k by omega]
      have hsplit : prC Lx = prC (Lx.take k) ++ prC (Lx.drop k) := by rw [← prC_app, List.take_append_drop]
      have htl : (prC (Lx.take k)).length = k * 2 := by rw [prC_len, List.length_take, Nat.min_eq_left hkl]
      have hdl : (prC (Lx.drop k)).length = (Lx.length - k) * 2 := by rw [prC_len, List.length_drop]
      have hA1 : A = none → k = 0 := fun e => by have := hA0.out e; omega
      have hsrc : ∀ wz, Below w1.heap.size w1 wz → ∀ ad, A = some ad → ∃ g, ad = ⟨g, 0, none⟩ ∧ ∀ j u, (prC Lx)[j]? = some u → wz.cell? ⟨g, j, none⟩ = some u := fun wz hz ad e => by
        obtain ⟨g, e2, _, hc⟩ := hsrcA.out ad e
        exact ⟨g, e2, fun j u hj => (hz.cell (p := ⟨g, j, none⟩) (block_lt_of_cell (hc j u hj))).trans (hc j u hj)⟩
      have hsrc1 : ∀ ad, A = some ad → ∀ j u, (prC (Lx.take k))[j]? = some u → wr.cell? (ad.add j) = some u := by
        intro ad e j u hj
        obtain ⟨g, rfl, hc⟩ := hsrc wr BW ad e
        rw [addr_plain, Nat.zero_add]
        refine hc j u ?_
        rw [hsplit, List.getElem?_append_left (List.getElem?_eq_some_iff.1 hj).1]; exact hj
      have hcapo := hcap.out
      have hA2 : (if c = k then A else A.map (·.add (k * 2))) = none → Lx.length - k = 0 := fun e => by
        by_cases hck : c = k
        · omega
        · rw [if_neg hck] at e
          cases hAA : A with
          | none => have := hA0.out hAA; omega
          | some ad => rw [hAA] at e; cases e
      have hsrc2 : ∀ wz, Below wr.heap.size wr wz → ∀ ad, (if c = k then A else A.map (·.add (k * 2))) = some ad → ∀ j u, (prC (Lx.drop k))[j]? = some u → wz.cell? (ad.add j) = some u := by
        intro wz hbz ad e j u hj
        have hjl := (List.getElem?_eq_some_iff.1 hj).1
        have hck : c ≠ k := by omega
        rw [if_neg hck] at e
        cases hAA : A with
        | none => rw [hAA] at e; cases e
        | some ad0 =>
          obtain ⟨g, rfl, hc⟩ := hsrc wz (BW.trans (hbz.mono BW.size)) ad0 hAA
          rw [hAA] at e
          obtain rfl := Option.some.inj e
          show wz.cell? (Addr.add (Addr.add ⟨g, 0, none⟩ (k * 2)) j) = _
          rw [addr_plain, addr_plain, Nat.zero_add]
          refine hc (k * 2 + j) u ?_
          rw [hsplit, List.getElem?_append_right (by omega), htl, show k * 2 + j - k * 2 = j by omega]; exact hj
      have hS1 := fun w => run_sliceTo (P := Tryz.prog) w 22 87 2 Tryz.underlying22 Tryz.sizeOf87 A Lx.length c .i64 (k : Int) k rfl (Nat.le_trans hkl hcapo)
      have hS2 := fun w => run_sliceFromP (P := Tryz.prog) w 22 87 2 Tryz.underlying22 Tryz.sizeOf87 A Lx.length c .i64 k hkl
      have ho1 : ∀ u ∈ prC (Lx.take k), u.oneCell' = true := one_prs _
      have ho2 : ∀ u ∈ prC (Lx.drop k), u.oneCell' = true := one_prs _
      have hm1 : 0 + k ≤ maxLen := by simp only [maxLen]; omega
      have hb1 : (0 + k) * 32 ≤ 140737488355328 := by omega
      have hm2 : 0 + k + 1 ≤ maxLen := by simp only [maxLen]; omega
      have hb2 : (0 + k + 1) * 32 ≤ 140737488355328 := by omega
      have hm3 : 0 + k + 1 + (Lx.length - k) ≤ maxLen := by simp only [maxLen]; omega
      have hb3 : (0 + k + 1 + (Lx.length - k)) * 32 ≤ 140737488355328 := by omega
      generalize (if c = k then A else A.map (·.add (k * 2))) = A2 at *
      have hhl := hide hkl
      generalize hT : prC (Lx.take k) = T1 at *
      generalize hD : prC (Lx.drop k) = T2 at *
      replace hT := hide hT
      replace hD := hide hD
      replace hsrc1 := hide hsrc1
      replace hsrc2 := hide hsrc2
      replace hA1 := hide hA1
      replace hA2 := hide hA2
      replace htl := hide htl
      replace hdl := hide hdl
      replace ho1 := hide ho1
      replace ho2 := hide ho2
      have hkI : (k : Int) ≤ (Lx.length : Int) := by omega
      clear hsrc hsplit hcapo
      go_wp2_with (first
        | ((at_builtin; with_reducible refine wl_append_src (o := ⟨some 35, _, _, _, _, _⟩) rfl (.tmp 30) (.tmp 34) 22 rfl wr.heap.size 87 ip _ 2 32 Tryz.underlying22 hip hiz his hib rfl (by decide) (.slice none 0 0) 0 [] rfl (World.ownsRow_nil _ _ _ _) A k c T1 rfl htl.out hA1.out hsrc1.out ho1.out hm1 hb1 (Nat.le_refl _) ?_); intro v8 w8 own8 gr8; have B8 : Below wr.heap.size wr w8 := (Below.refl _ _).grown gr8 (Nat.le_refl _) (fun k hk => by cases hk); have z8 := B8.size)
        | (with_reducible refine wl_build (o := ⟨some 39, _, _, _, _, _⟩) rfl 87 [(0, .tmp 37), (1, .tmp 38)] rfl [(0, encStr f), (1, encStr t)] rfl [encStr f, encStr t] hbu ?_)
        | ((with_reducible refine wl_build1B (o := ⟨some 40, _, _, _, _, _⟩) rfl 22 (.tmp 39) rfl 87 ip _ [encStr f, encStr t] 2 Tryz.underlying22 hip hiz rfl his rfl (by decide) (by decide) rfl ?_); intro g9 w9 r9 p9 l9 b9; have own9 := own_later own8 b9; have B9 := B8.trans (b9.mono z8); have z9 := B9.size)
        | ((at_builtin; with_reducible refine wl_append_at (o := ⟨some 41, _, _, _, _, _⟩) rfl (.tmp 36) (.tmp 40) 22 rfl wr.heap.size 87 ip _ 2 32 Tryz.underlying22 hip hiz his hib rfl (by decide) v8 _ _ rfl own9 ⟨g9, 0, none⟩ 1 1 [encStr f, encStr t] rfl rfl (row_src r9) oneN hm2 hb2 z9 ?_); intro v10 w10 own10 gr10 at10; have B10 := B9.grown gr10 z9 (fun k hk => (own9.lt k hk).1); have z10 := B10.size; have hs10 := hsrc2.out w10 B10; have r310 := r3w.later B10; have d2 := r310.cell (j := 2) rfl)
        | ((at_builtin; with_reducible refine wl_append_src (o := ⟨some 47, _, _, _, _, _⟩) rfl (.tmp 42) (.tmp 46) 22 rfl wr.heap.size 87 ip _ 2 32 Tryz.underlying22 hip hiz his hib rfl (by decide) v10 _ _ rfl own10 A2 (Lx.length - k) (c - k) T2 rfl hdl.out hA2.out hs10 ho2.out hm3 hb3 z10 ?_); intro v12 w12 own12 gr12; have B12 := B10.grown gr12 z10 (fun k hk => (own10.lt k hk).1); have r312 := r3w.later B12; have r612 := r6w.later B12; have one12 := own_one own12)
        | ((with_reducible refine wl_store rfl 22 (.tmp 48) (.tmp 47) g3 2 26 [.int .i64 x.k, encStr x.t, .slice A Lx.length c, vl, vs] v12 rfl (by kernel_rfl) rfl rfl r312 (by simp) one12 ?_); intro w13 r13 o13; replace r13 : Row w13 26 g3 [.int .i64 x.k, encStr x.t, v12, vl, vs] := r13; have r613 := r612.only o13 n36.symm; have one5' : ∀ u ∈ [Value.int .i64 x.k, encStr x.t, v12, vl, vs], u.oneCell' = true := fun u hu => by simp only [List.mem_cons, List.not_mem_nil, or_false] at hu; rcases hu with rfl | rfl | rfl | rfl | rfl <;> first | rfl | exact one12 | exact onevl | exact onevs)
        | (with_reducible refine wl_load_row (o := ⟨some 49, _, _, _, _, _⟩) rfl 26 (.tmp 3) g3 26 [.int .i64 x.k, encStr x.t, v12, vl, vs] _ rfl rfl r13 Tryz.underlying26 rfl (by kernel_rfl) ?_)
        | ((with_reducible refine wl_store_row rfl 26 (.tmp 6) (.tmp 49) g6 26 _ [.int .i64 x.k, encStr x.t, v12, vl, vs] rfl rfl rfl r613 (by kernel_rfl) rfl one5' ?_); intro w14 r14 o14))
      have BB := B1.trans (BW.mono B1.size)
      have own14 := own_at_but (own_at_but own12 r312 (by decide) (But.only o13)) r613 (by decide) (But.only o14)
      have hg6 : w.heap.size ≤ g6 := hg6w
      have e1 : prC (Lx.take k ++ ⟨f, t⟩ :: Lx.drop k) = [] ++ T1 ++ [encStr f, encStr t] ++ T2 := by
        rw [← hT.out, ← hD.out, List.nil_append, prC_app, show (⟨f, t⟩ :: Lx.drop k : List Pr) = [⟨f, t⟩] ++ Lx.drop k from rfl, prC_app, List.append_assoc]
        rfl
      have e2 : (Lx.take k ++ (⟨f, t⟩ : Pr) :: Lx.drop k).length = 0 + k + 1 + (Lx.length - k) := by
        have := hhl.out
        rw [List.length_append, List.length_cons, List.length_take, List.length_drop]
        omega
      refine bodyPost_ret (v := .agg [.int .i64 x.k, encStr x.t, v12, vl, vs].toArray) ?_ rfl ⟨v12, rfl, ?_, ((BB.trans (B12.mono BB.size)).trans (o13.below p3)).trans (o14.below hg6)⟩
      · exact results_cell_row Tryz.results69 _ _ g6 26 _ (0, 0) _ rfl r14 Tryz.underlying26 rfl (by kernel_rfl)
      · rw [OwnP, e1, e2]
        exact own_low own14 BB.size
end Go.Proofs.YtpbkejmffddelaaGreat

/-
  The document's sets: Drop: contract. Own work.
-/
namespace Go.Proofs.YtpbkejmffddelaaGreat
open Go.RowKit Go.Shelf
theorem filter_more {p : Sc → Bool} {l : List Sc} {i : Nat} {a : Sc} (h : l[i]? = some a) : (l.take (i + 1)).filter p = (l.take i).filter p ++ (if p a = true then [a] else []) := by
  rw [take_more h, List.filter_append, List.filter_cons]
  by_cases hp : p a = true
  · rw [if_pos hp, if_pos hp]; rfl
  · rw [if_neg hp, if_neg hp]; rfl
set_option maxRecDepth 100000 in
set_option maxHeartbeats 1000000 in
theorem rdrop_any (w : World) (v : Value) (l : List Sc) (m : Nm) (h : ScV w v l) (hl : l.length ≤ 1000000) : Calls Tryz.prog 78 #[v, encStr m] w fun e w' => ∃ v', e = .returned v' ∧ OwnS w' w.heap.size v' (l.filter (fun a => !(a.m == m))) ∧ Below w.heap.size w w' := by
  obtain ⟨A, c, rfl⟩ := h.sl
  obtain ⟨ip, hip, hiz, his, hib⟩ := score_info
  have hlI : (l.length : Int) ≤ 1000000 := by omega
  go_enter Tryz.func78, Tryz.ntmps78
  go_wp2_with fail
  go_loopw [5, 6] (fun ov iv wr => ∃ i : Nat, i ≤ l.length ∧ iv = .int .i64 (i : Int) ∧ OwnS wr w.heap.size ov ((l.take i).filter (fun a => !(a.m == m))) ∧ Below w.heap.size w wr) (fun _ iv _ => l.length - (intOf iv).toNat)
  case atStart => exact ⟨0, by omega, rfl, World.ownsRow_nil _ _ _ _, Below.refl _ _⟩
  case round =>
    obtain ⟨i, hi, rfl, own, BW⟩ := hrel
    have hwb := BW.size
    by_cases hlt : i < l.length
    · have hltI : (i : Int) < (l.length : Int) := by omega
      obtain ⟨a, ha⟩ : ∃ a, l[i]? = some a := ⟨_, List.getElem?_eq_getElem hlt⟩
      obtain ⟨g, cap, e, hg, c0, c1, hcs⟩ := (h.later BW).at ha
      injection e with q1 q2 q3
      subst q1
      subst q3
      obtain ⟨am, as'⟩ := a
      have hf := filter_more (p := (fun a => !(a.m == m))) ha
      replace ha := hide ha
      have hlen : ((l.take i).filter (fun a => !(a.m == m))).length ≤ i := Nat.le_trans (List.length_filter_le _ _) (by rw [List.length_take]; omega)
      have hm1 : ((l.take i).filter (fun a => !(a.m == m))).length + 1 ≤ maxLen := by simp only [maxLen]; omega
      have hm2 : (((l.take i).filter (fun a => !(a.m == m))).length + 1) * 24 ≤ 140737488355328 := by omega
      generalize u5 = ov at *
      have h02 : 0 < 2 := by decide
      by_cases he : am = m
      · rw [if_neg (by simp [he])] at hf
        have hb : (!decide (am = m)) = false := by simp [he]
        replace he := hide he
        replace hf := hide hf
        go_wp2_with (first
          | (with_reducible refine wl_run (o := ⟨some 15, _, _, _, _, _⟩) rfl (.pointer (some ⟨g, 0 + i * 2, none⟩)) (run_indexSlN 24 (.tmp 13) (.tmp 14) 99 2 g 0 l.length c i rfl Tryz.underlying24 Tryz.sizeOf99 rfl rfl hlt) ?_)
          | (with_reducible refine wl_run (o := ⟨some 19, _, _, _, _, _⟩) rfl (.bool false) (run_neStr (.tmp 17) (.tmp 18) rfl rfl rfl hb) ?_))
        go_roundw
        case rel => exact ⟨i + 1, by omega, by go_num, by rw [hf.out, List.append_nil]; exact own, BW⟩
        case measure => simp [intOf]; omega
      · rw [if_pos (by simp [he])] at hf
        have hb : (!decide (am = m)) = true := by simp [he]
        replace he := hide he
        replace hf := hide hf
        go_wp2_with (first
          | (with_reducible refine wl_run (o := ⟨some 15, _, _, _, _, _⟩) rfl (.pointer (some ⟨g, 0 + i * 2, none⟩)) (run_indexSlN 24 (.tmp 13) (.tmp 14) 99 2 g 0 l.length c i rfl Tryz.underlying24 Tryz.sizeOf99 rfl rfl hlt) ?_)
          | (with_reducible refine wl_run (o := ⟨some 19, _, _, _, _, _⟩) rfl (.bool true) (run_neStr (.tmp 17) (.tmp 18) rfl rfl rfl hb) ?_)
          | (with_reducible refine wl_run (o := ⟨some 23, _, _, _, _, _⟩) rfl (.pointer (some ⟨g, 0 + i * 2, none⟩)) (run_indexSlN 24 (.tmp 21) (.tmp 22) 99 2 g 0 l.length c i rfl Tryz.underlying24 Tryz.sizeOf99 rfl rfl hlt) ?_)
          | (with_reducible refine wl_load_cells (o := ⟨some 24, _, _, _, _, _⟩) rfl 99 (.tmp 23) g (i * 2) [encStr am, .int .i64 as'] _ rfl rfl hcs Tryz.underlying99 rfl (szSc ⟨am, as'⟩) ?_)
          | ((with_reducible refine wl_build1B (o := ⟨some 25, _, _, _, _, _⟩) rfl 24 (.tmp 24) rfl 99 ip _ [encStr am, .int .i64 as'] 2 Tryz.underlying24 hip hiz rfl his rfl h02 (by decide) rfl ?_); intro g6 w6 r6 p6 l6 b6; have own6 := own_later own b6; have hwb6 := Nat.le_trans hwb b6.size)
          | ((at_builtin; with_reducible refine wl_append_at (o := ⟨some 26, _, _, _, _, _⟩) rfl (.tmp 20) (.tmp 25) 24 rfl w.heap.size 99 ip _ 2 24 Tryz.underlying24 hip hiz his hib rfl h02 ov _ _ rfl own6 ⟨g6, 0, none⟩ 1 1 [encStr am, .int .i64 as'] rfl rfl (row_src r6) (by simp [Value.oneCell']) hm1 hm2 hwb6 ?_); intro v7 w7 own7 gr7 at7; have B7 : Below w.heap.size w w7 := (BW.trans (b6.mono hwb)).grown gr7 hwb6 (fun k hk => (own6.lt k hk).1)))
        go_roundw
        case rel =>
          refine ⟨i + 1, by omega, by go_num, ?_, B7⟩
          rw [hf.out, OwnS, scsC_app, List.length_append]
          exact own7
        case measure => simp [intOf]; omega
    · obtain rfl : i = l.length := by omega
      go_wp2_with fail
      go_ret
      rw [List.take_of_length_le (Nat.le_refl _)] at own
      exact ⟨_, rfl, own, BW⟩

end Go.Proofs.YtpbkejmffddelaaGreat

/-
  The document's sets: Put: contract. Own work.
-/
namespace Go.Proofs.YtpbkejmffddelaaGreat
open Go.RowKit Go.Shelf
theorem scsC_get : ∀ (l : List Sc) (j : Nat) (u : Value), (scsC l)[j]? = some u → ∃ i a q, l[i]? = some a ∧ a.cells[q]? = some u ∧ j = i * 2 + q
  | [], j, u, h => by simp at h
  | b :: r, j, u, h => by
    have h : (b.cells ++ scsC r)[j]? = some u := h
    by_cases hj : j < 2
    · rw [List.getElem?_append_left hj] at h
      exact ⟨0, b, j, rfl, h, by omega⟩
    · rw [List.getElem?_append_right (by show 2 ≤ j; omega)] at h
      obtain ⟨i, a, q, h1, h2, h3⟩ := scsC_get r (j - 2) u h
      exact ⟨i + 1, a, q, by simpa using h1, h2, by omega⟩
theorem ScV.src {w : World} {A : Option Addr} {n c : Nat} {l : List Sc} (h : ScV w (.slice A n c) l) : n = l.length ∧ l.length ≤ c ∧ (l ≠ [] → ∃ g, A = some ⟨g, 0, none⟩ ∧ ∀ j u, (scsC l)[j]? = some u → w.cell? ⟨g, j, none⟩ = some u) := by
  rcases h with ⟨rfl, A', c', e⟩ | ⟨g, cap, e, hg, hc, h⟩
  · injection e with q1 q2 q3
    exact ⟨q2, Nat.zero_le _, fun h => absurd rfl h⟩
  · injection e with q1 q2 q3
    subst q3
    refine ⟨q2, hc, fun _ => ⟨g, q1, fun j u hj => ?_⟩⟩
    obtain ⟨i, a, q, h1, h2, h3⟩ := scsC_get l j u hj
    rw [h3]; exact h i a h1 q u h2
theorem one_scs (l : List Sc) : ∀ u ∈ scsC l, u.oneCell' = true := by
  intro u hu
  obtain ⟨a, _, h⟩ := List.mem_flatMap.1 hu
  exact one_sc a u h
def SPt7 (ga g7 i c : Nat) (Lx : List Sc) (a : Sc) (m : Nm) (s : Int) (rr : Bool) (opn : Nat) (v : Value) : Prop :=
  match opn with
  | 0 => v = .slice (some ⟨ga, 0, none⟩) Lx.length c
  | 1 => v = .int .i64 (i : Int)
  | 2 => v = .pointer (some ⟨ga, 0 + i * 2, none⟩)
  | 3 => v = .agg a.cells.toArray
  | 4 => v = .agg [encStr m, .int .i64 s].toArray
  | 5 => v = .bool rr
  | _ => True

set_option maxRecDepth 100000 in
set_option maxHeartbeats 2000000 in
/-- Put. -/
theorem rput_any (w : World) (v : Value) (l : List Sc) (m : Nm) (s : Int) (h : ScV w v l) (hl : l.length ≤ 999999) (hr : Rising l) : Calls Tryz.prog 76 #[v, encStr m, .int .i64 s] w fun e w' => ∃ v', e = .returned v' ∧ OwnS w' w.heap.size v' (putS l ⟨m, s⟩) ∧ Below w.heap.size w w' := by
  obtain ⟨ip, hip, hiz, his, hib⟩ := score_info
  have HD := rdrop_any w v l m h (by omega)
  have hrL : Rising (dropS l m) := dropS_rise hr
  have hlL : (dropS l m).length ≤ 999999 := Nat.le_trans (List.length_filter_le _ _) hl
  unfold putS
  rw [show l.filter (fun a => !(a.m == m)) = dropS l m from rfl] at HD
  show Calls _ _ _ _ fun e w' => ∃ v', e = .returned v' ∧ OwnS w' w.heap.size v' (putAt (dropS l m) (nAhead ⟨m, s⟩ (dropS l m)) ⟨m, s⟩) ∧ Below w.heap.size w w'
  generalize dropS l m = Lx at *
  have hah := fun i a h => ahead_iff (x := ⟨m, s⟩) hrL i a h
  obtain ⟨k, hk⟩ : ∃ k, k = nAhead ⟨m, s⟩ Lx := ⟨_, rfl⟩
  have hkl : k ≤ Lx.length := by rw [hk]; exact nAhead_le _ _
  rw [← hk] at hah ⊢
  have hlI : (Lx.length : Int) ≤ 999999 := by omega
  replace hah := hide hah
  clear hk h hl hr hrL
  go_enter Tryz.func76, Tryz.ntmps76
  go_wp2_with fail
  refine HD.mono ?_
  rintro e w1 ⟨v1, rfl, own1, B1⟩
  clear HD
  have hv1 := own_scv own1
  obtain ⟨A, c, rfl⟩ := hv1.sl
  go_wp2_with (first
    | (with_reducible refine wl_build (o := ⟨some 16, _, _, _, _, _⟩) rfl 99 [(0, .tmp 14), (1, .tmp 15)] rfl [(0, encStr m), (1, .int .i64 s)] rfl [encStr m, .int .i64 s] (builtSc m s) ?_)
    | (with_reducible refine wl_alloc (o := ⟨some 7, _, _, _, _, _⟩) rfl 99 _ [encStr [], .int .i64 0] rfl rfl rfl ?_; intro g7 w4 r4 p4 l4 b4)
    | (with_reducible refine wl_store_row rfl 99 (.tmp 7) (.tmp 16) g7 99 _ [encStr m, .int .i64 s] rfl rfl rfl r4 (szSc ⟨m, s⟩) rfl (by simp [Value.oneCell', encStr]) ?_; intro w5 r5 o5))
  have B5 : Below w1.heap.size w1 w5 := b4.trans (o5.below p4)
  have hv5 := hv1.later B5
  have BW5 := B1.trans (B5.mono B1.size)
  clear hv1 own1 b4 o5 r4 p4 l4 B1 B5
  go_loopw [8, 9] (fun av iv wr => ∃ i : Nat, i ≤ Lx.length ∧ iv = .int .i64 (i : Int) ∧ av = .int .i64 ((min i k : Nat) : Int) ∧ Below w5.heap.size w5 wr) (fun _ iv _ => Lx.length - (intOf iv).toNat)
  case atStart => exact ⟨0, by omega, rfl, by rw [Nat.zero_min]; rfl, Below.refl _ _⟩
  case round =>
    obtain ⟨i, hi, rfl, rfl, BW⟩ := hrel
    have hwb := BW.size
    have r7 := r5.later BW
    have hvr := hv5.later BW
    by_cases hlt : i < Lx.length
    · have hltI : (i : Int) < (Lx.length : Int) := by omega
      obtain ⟨a, ha⟩ : ∃ a, Lx[i]? = some a := ⟨_, List.getElem?_eq_getElem hlt⟩
      obtain ⟨ga, ca, e, hga, x1, x2, x3⟩ := hvr.at ha
      injection e with q1 q2 q3
      subst q1
      subst q3
      clear q2 x1 x2 x3
      have hac : ∀ w1, Below wr.heap.size wr w1 → ∀ j u, a.cells[j]? = some u → w1.cell? ⟨ga, (0 + i * 2) + j, none⟩ = some u := by
        intro w1 hb1 j u hj
        obtain ⟨g, cc, e, _, _, _, hc⟩ := (hvr.later hb1).at ha
        injection e with q1 q2 q3
        injection q1 with q1
        injection q1 with q1
        subst q1
        rw [Nat.zero_add]; exact hc j u hj
      obtain ⟨rr, hrr⟩ : ∃ rr, rr = a.less ⟨m, s⟩ := ⟨_, rfl⟩
      have HLs := fun w => rless_any w a ⟨m, s⟩
      rw [← hrr] at HLs
      rw [hah.out i a ha] at hrr
      replace hlt := hide hlt
      replace ha := hide ha
      replace hrr := hide hrr
      go_wp2_with fail
      rename_i K6 hK6
      refine wp_region_vals [5] (SPt7 ga g7 i c Lx a m s rr) (fun _ _ wz => Below wr.heap.size wr wz) (by kernel_rfl) (by kernel_rfl) (by kernel_rfl) (by kernel_rfl) (by kernel_rfl) ((Below.refl _ _).drew) ?obs6 ?he6
      case obs6 =>
        refine ⟨?_, ?_, ?_, ?_, ?_, ?_, trivial⟩
        · exact .inl ⟨by kernel_rfl, fun L a1 w1 n h => ⟨_, rfl, run_move (.tmp 0) rfl (h.var n 0 (by kernel_rfl))⟩⟩
        · exact .inl ⟨by kernel_rfl, fun L a1 w1 n h => ⟨_, rfl, run_move (.tmp 9) rfl (h.var n 9 (by kernel_rfl))⟩⟩
        · exact .inl ⟨by kernel_rfl, fun L a1 w1 n h => ⟨_, rfl, run_indexSlN 24 (.tmp 23) (.tmp 24) 99 2 ga 0 Lx.length c i rfl Tryz.underlying24 Tryz.sizeOf99 (h.dep n 0 23 (by kernel_rfl) rfl) (h.dep n 1 24 (by kernel_rfl) rfl) hlt.out⟩⟩
        · exact .inl ⟨by kernel_rfl, fun L a1 w1 n h => ⟨_, rfl, run_loadCs 99 (.tmp 25) ga (0 + i * 2) a.cells _ rfl (h.dep n 2 25 (by kernel_rfl) rfl) (hac w1 h.inv) Tryz.underlying99 rfl (szSc a)⟩⟩
        · exact .inl ⟨by kernel_rfl, fun L a1 w1 n h => ⟨_, rfl, run_loadRow 99 (.tmp 7) g7 99 [encStr m, .int .i64 s] _ rfl (h.var n 7 (by kernel_rfl)) (Row.later r7 h.inv) Tryz.underlying99 rfl (szSc ⟨m, s⟩)⟩⟩
        · refine .inr fun L a1 w1 n h K hK => ?_
          have e0 : a1.eval (.tmp 26) = .agg a.cells.toArray := h.dep n 3 26 (by kernel_rfl) rfl
          have e1 : a1.eval (.tmp 27) = .agg [encStr m, .int .i64 s].toArray := h.dep n 4 27 (by kernel_rfl) rfl
          refine st_call 118 _ _ #[.agg a.cells.toArray, .agg [encStr m, .int .i64 s].toArray] rfl Tryz.call118 ?_ (HLs w1) ?_
          · simp only [List.map_toArray, List.map_cons, List.map_nil, e0, e1]
          · rintro e w3 ⟨rfl, b9⟩
            exact ⟨_, rfl, hK _ w3 rfl (h.inv.trans (b9.mono h.inv.size))⟩
      case he6 =>
        intro V w11 hV hJ
        have b11 : Below wr.heap.size wr w11 := hJ
        have hE : V 5 = .bool rr := hV 5 _ rfl
        clear hV hJ HLs
        simp only [putOps, List.setIfInBounds_toArray, List.set_cons_succ, List.set_cons_zero, Nat.reduceAdd]
        rw [hE]
        refine hK6 _ _ ?_
        have B11 := BW.trans (b11.mono hwb)
        cases rr with
        | true =>
          go_wp2_with fail
          go_roundw
          case rel =>
            have : i < k := by have := hrr.out; simpa using this.symm
            exact ⟨i + 1, by have := hlt.out; omega, by go_num, by rw [show min (i + 1) k = i + 1 by omega]; go_num, B11⟩
          case measure => have := hlt.out; simp [intOf]; omega
        | false =>
          go_wp2_with fail
          go_roundw
          case rel =>
            have : ¬ i < k := by have := hrr.out; simpa using this.symm
            exact ⟨i + 1, by have := hlt.out; omega, by go_num, by rw [show min (i + 1) k = min i k by omega], B11⟩
          case measure => have := hlt.out; simp [intOf]; omega
    · obtain rfl : i = Lx.length := by omega
      rw [show min Lx.length k = k by omega]
      obtain ⟨_, hcap, hsrc⟩ := hvr.src
      have hsplit : scsC Lx = scsC (Lx.take k) ++ scsC (Lx.drop k) := by rw [← scsC_app, List.take_append_drop]
      have htl : (scsC (Lx.take k)).length = k * 2 := by rw [scsC_len, List.length_take, Nat.min_eq_left hkl]
      have hdl : (scsC (Lx.drop k)).length = (Lx.length - k) * 2 := by rw [scsC_len, List.length_drop]
      have hA1 : A = none → k = 0 := fun e => by
        by_cases hne : Lx = []
        · rw [hne] at hkl; simpa using hkl
        · obtain ⟨g, e2, _⟩ := hsrc hne; rw [e] at e2; cases e2
      have hsrc1 : ∀ ad, A = some ad → ∀ j u, (scsC (Lx.take k))[j]? = some u → wr.cell? (ad.add j) = some u := by
        intro ad e j u hj
        by_cases hne : Lx = []
        · rw [hne] at hj; simp at hj
        · obtain ⟨g, e2, hc⟩ := hsrc hne
          obtain rfl := Option.some.inj (e.symm.trans e2)
          rw [addr_plain, Nat.zero_add]
          refine hc j u ?_
          rw [hsplit, List.getElem?_append_left (List.getElem?_eq_some_iff.1 hj).1]; exact hj
      have hA2 : (if c = k then A else A.map (·.add (k * 2))) = none → Lx.length - k = 0 := fun e => by
        by_cases hne : Lx = []
        · rw [hne]; simp
        · obtain ⟨g, e2, _⟩ := hsrc hne
          by_cases hck : c = k
          · omega
          · rw [if_neg hck, e2] at e; cases e
      have hsrc2 : ∀ wz, Below wr.heap.size wr wz → ∀ ad, (if c = k then A else A.map (·.add (k * 2))) = some ad → ∀ j u, (scsC (Lx.drop k))[j]? = some u → wz.cell? (ad.add j) = some u := by
        intro wz hbz ad e j u hj
        have hjl := (List.getElem?_eq_some_iff.1 hj).1
        by_cases hne : Lx = []
        · rw [hne] at hj; simp at hj
        · obtain ⟨g, e2, hc⟩ := ((hvr.later hbz).src).2.2 hne
          rw [if_neg (by omega), e2] at e
          obtain rfl := Option.some.inj e
          show wz.cell? (Addr.add (Addr.add ⟨g, 0, none⟩ (k * 2)) j) = _
          rw [addr_plain, addr_plain, Nat.zero_add]
          refine hc (k * 2 + j) u ?_
          rw [hsplit, List.getElem?_append_right (by omega), htl, show k * 2 + j - k * 2 = j by omega]; exact hj
      have hS1 := fun w => run_sliceTo (P := Tryz.prog) w 24 99 2 Tryz.underlying24 Tryz.sizeOf99 A Lx.length c .i64 (k : Int) k rfl (Nat.le_trans hkl hcap)
      have hS2 := fun w => run_sliceFromP (P := Tryz.prog) w 24 99 2 Tryz.underlying24 Tryz.sizeOf99 A Lx.length c .i64 k hkl
      have ho1 := one_scs (Lx.take k)
      have ho2 := one_scs (Lx.drop k)
      have h02 : 0 < 2 := by decide
      have hm1 : 0 + k ≤ maxLen := by simp only [maxLen]; omega
      have hb1 : (0 + k) * 24 ≤ 140737488355328 := by omega
      have hm2 : 0 + k + 1 ≤ maxLen := by simp only [maxLen]; omega
      have hb2 : (0 + k + 1) * 24 ≤ 140737488355328 := by omega
      have hm3 : 0 + k + 1 + (Lx.length - k) ≤ maxLen := by simp only [maxLen]; omega
      have hb3 : (0 + k + 1 + (Lx.length - k)) * 24 ≤ 140737488355328 := by omega
      generalize (if c = k then A else A.map (·.add (k * 2))) = A2 at *
      have hvr2 := hide hvr
      have hcap2 := hide hcap
      have hsp := hide hsplit
      have hhl := hide hkl
      generalize hT : scsC (Lx.take k) = T1 at *
      generalize hD : scsC (Lx.drop k) = T2 at *
      replace hT := hide hT
      replace hD := hide hD
      replace hsrc1 := hide hsrc1
      replace hsrc2 := hide hsrc2
      replace hA1 := hide hA1
      replace hA2 := hide hA2
      replace htl := hide htl
      replace hdl := hide hdl
      replace ho1 := hide ho1
      replace ho2 := hide ho2
      have hkI : (k : Int) ≤ (Lx.length : Int) := by omega
      clear hvr hcap hsrc hsplit
      go_wp2_with (first
        | ((at_builtin; with_reducible refine wl_append_src (o := ⟨some 35, _, _, _, _, _⟩) rfl (.tmp 31) (.tmp 34) 24 rfl wr.heap.size 99 ip _ 2 24 Tryz.underlying24 hip hiz his hib rfl h02 (.slice none 0 0) 0 [] rfl (World.ownsRow_nil _ _ _ _) A k c T1 rfl htl.out hA1.out hsrc1.out ho1.out hm1 hb1 (Nat.le_refl _) ?_); intro v8 w8 own8 gr8; have B8 : Below wr.heap.size wr w8 := (Below.refl _ _).grown gr8 (Nat.le_refl _) (fun k hk => by cases hk); have r78 := r7.later B8; have z8 := B8.size)
        | (with_reducible refine wl_load_row (o := ⟨some 37, _, _, _, _, _⟩) rfl 99 (.tmp 7) g7 99 [encStr m, .int .i64 s] _ rfl rfl r78 Tryz.underlying99 rfl (szSc ⟨m, s⟩) ?_)
        | ((with_reducible refine wl_build1B (o := ⟨some 38, _, _, _, _, _⟩) rfl 24 (.tmp 37) rfl 99 ip _ [encStr m, .int .i64 s] 2 Tryz.underlying24 hip hiz rfl his rfl h02 (by decide) rfl ?_); intro g9 w9 r9 p9 l9 b9; have own9 := own_later own8 b9; have B9 := B8.trans (b9.mono z8); have z9 := B9.size)
        | ((at_builtin; with_reducible refine wl_append_at (o := ⟨some 39, _, _, _, _, _⟩) rfl (.tmp 36) (.tmp 38) 24 rfl wr.heap.size 99 ip _ 2 24 Tryz.underlying24 hip hiz his hib rfl h02 v8 _ _ rfl own9 ⟨g9, 0, none⟩ 1 1 [encStr m, .int .i64 s] rfl rfl (row_src r9) (by simp [Value.oneCell']) hm2 hb2 z9 ?_); intro v10 w10 own10 gr10 at10; have B10 := B9.grown gr10 z9 (fun k hk => (own9.lt k hk).1); have z10 := B10.size; have hs10 := hsrc2.out w10 B10)
        | ((at_builtin; with_reducible refine wl_append_src (o := ⟨some 44, _, _, _, _, _⟩) rfl (.tmp 40) (.tmp 43) 24 rfl wr.heap.size 99 ip _ 2 24 Tryz.underlying24 hip hiz his hib rfl h02 v10 _ _ rfl own10 A2 (Lx.length - k) (c - k) T2 rfl hdl.out hA2.out hs10 ho2.out hm3 hb3 z10 ?_); intro v12 w12 own12 gr12; have B12 := B10.grown gr12 z10 (fun k hk => (own10.lt k hk).1)))
      go_ret
      have BB := BW5.trans (BW.mono BW5.size)
      refine ⟨_, rfl, own_lo (w := w12) (base := wr.heap.size) ?_ BB.size, BB.trans (B12.mono BB.size)⟩
      have e1 : scsC (putAt Lx k ⟨m, s⟩) = [] ++ T1 ++ [encStr m, .int .i64 s] ++ T2 := by
        rw [← hT.out, ← hD.out, List.nil_append]
        show scsC (Lx.take k ++ ([⟨m, s⟩] ++ Lx.drop k)) = _
        rw [scsC_app, scsC_app, List.append_assoc]
        rfl
      have e2 : (putAt Lx k ⟨m, s⟩).length = 0 + k + 1 + (Lx.length - k) := by rw [putAt_len]; have := hhl.out; omega
      rw [e1, e2]
      exact own12
end Go.Proofs.YtpbkejmffddelaaGreat

/-
  A value of any kind, and plain data beside it. Own work.
-/
namespace Go.Proofs.YtpbkejmffddelaaGreat
open Go.RowKit Go.Shelf Go.Maps
theorem scsC_atP : ∀ (l : List Sc) (i j : Nat) (a : Sc) (u : Value), l[i]? = some a → a.cells[j]? = some u → (scsC l)[i * 2 + j]? = some u := by
  intro l
  induction l with
  | nil => intro i j a u h; simp at h
  | cons b r ih =>
    intro i j a u hi hj
    have hjl : j < 2 := (List.getElem?_eq_some_iff.1 hj).1
    match i with
    | 0 =>
      obtain rfl : b = a := by simpa using hi
      show (b.cells ++ scsC r)[0 * 2 + j]? = _
      rw [List.getElem?_append_left (by show 0 * 2 + j < 2; omega), Nat.zero_mul, Nat.zero_add, hj]
    | i + 1 =>
      show (b.cells ++ scsC r)[(i + 1) * 2 + j]? = _
      rw [List.getElem?_append_right (by show 2 ≤ _; omega), show (i + 1) * 2 + j - b.cells.length = i * 2 + j by show (i + 1) * 2 + j - 2 = _; omega]
      exact ih i j a u (by simpa using hi) hj
theorem own_scv_sl {w : World} {T : Nat} {v : Value} {l : List Sc} (h : OwnS w T v l) : SlV Sc.cells 2 w w.heap.size v l := by
  rcases h.2 with ⟨rfl, h0⟩ | ⟨g, cap, cur, rfl, hT, hg, h1, h2, h3, h4⟩
  · exact ⟨none, 0, by rw [h0], fun h => by omega⟩
  · refine ⟨_, cap, rfl, fun _ => ⟨g, 0, rfl, (Array.getElem?_eq_some_iff.1 hg).1, fun i a hi j u hj => ?_⟩⟩
    have hil : i < l.length := (List.getElem?_eq_some_iff.1 hi).1
    have hjl : j < 2 := (List.getElem?_eq_some_iff.1 hj).1
    have e2 : (cur.toList.take (l.length * 2))[i * 2 + j]? = some u := by rw [h4]; exact scsC_atP l i j a u hi hj
    rw [List.getElem?_take, if_pos (by omega)] at e2
    rw [show 0 + i * 2 + j = i * 2 + j by omega, cell_of_row w g _ cur _ (0, 0) hg, ← Array.getElem?_toList]
    exact e2
/-- Plain data whose lists are rows of one's own. -/
structure XM (w : World) (B : Nat) (x : Vl) (vp vl vs : Value) : Prop where
  p : OwnP w B vp x.ps
  l : OwnW w B vl x.ls
  s : OwnS w B vs x.ss
section
variable {w w' : World} {B : Nat} {x : Vl} {vp vl vs : Value}
theorem XM.later (h : XM w B x vp vl vs) (hb : Below w.heap.size w w') : XM w' B x vp vl vs := ⟨own_later h.p hb, own_later h.l hb, own_later h.s hb⟩
theorem XM.trn (h : XM w B x vp vl vs) (t : Trn w w') : XM w' B x vp vl vs := ⟨Trn.own h.p t (.inl rfl), Trn.own h.l t (.inr (.inl rfl)), Trn.own h.s t (.inr (.inr (.inl rfl)))⟩
theorem XM.vlm (h : XM w B x vp vl vs) : VlM w w.heap.size x vp vl vs := ⟨OwnP.slv h.p, OwnW.slv h.l, own_scv_sl h.s⟩
theorem XM.one (h : XM w B x vp vl vs) : ∀ u ∈ vlC x vp vl vs, u.oneCell' = true := h.vlm.one
end
/-- A value of one of the kinds. -/
inductive VX (w : World) (B gv : Nat) : Vl → Prop
  | k1 (t : Nm) : V1 w B gv t → VX w B gv ⟨1, t, [], [], []⟩
  | k2 (mb : Nat) (ps : List Pr) : V2 w B gv mb ps → VX w B gv ⟨2, [], ps, [], []⟩
  | k3 (lv : Value) (ls : List Nm) : V3 w B gv lv ls → VX w B gv ⟨3, [], [], ls, []⟩
  | k4 (sb : Nat) (us : List Nm) : V4 w B gv sb us → VX w B gv ⟨4, [], [], us, []⟩
  | k5 (gz mb : Nat) (hd : Nd) (Ls : List Nd) : V5 w B gv gz mb hd Ls → VX w B gv ⟨5, [], [], [], scs Ls⟩
theorem VX.later {w w' : World} {B gv : Nat} {x : Vl} (h : VX w B gv x) (hb : Below w.heap.size w w') : VX w' B gv x := by
  cases h with
  | k1 t h => exact .k1 t (h.later hb)
  | k2 mb ps h => exact .k2 mb ps (h.later hb)
  | k3 lv ls h => exact .k3 lv ls (h.later hb)
  | k4 sb us h => exact .k4 sb us (h.later hb)
  | k5 gz mb hd Ls h => exact .k5 gz mb hd Ls (h.later hb)
/-- Its block, as far as each kind says. -/
theorem VX.row {w : World} {B gv : Nat} {x : Vl} (h : VX w B gv x) : ∃ hm lv sm zp, VRow w gv x.k x.t hm lv sm zp ∧ (x.k ≠ 2 → hm = none) ∧ (x.k ≠ 4 → sm = none) ∧ (x.k ≠ 5 → zp = nilP) := by
  cases h with
  | k1 t h => exact ⟨_, _, _, _, h.v, fun _ => rfl, fun _ => rfl, fun _ => rfl⟩
  | k2 mb ps h => exact ⟨_, _, _, _, h.v, fun h => absurd rfl h, fun _ => rfl, fun _ => rfl⟩
  | k3 lv ls h => exact ⟨_, _, _, _, h.v, fun _ => rfl, fun _ => rfl, fun _ => rfl⟩
  | k4 sb us h => exact ⟨_, _, _, _, h.v, fun _ => rfl, fun h => absurd rfl h, fun _ => rfl⟩
  | k5 gz mb hd Ls h => exact ⟨_, _, _, _, h.v, fun _ => rfl, fun _ => rfl, fun h => absurd rfl h⟩
theorem VX.rng {w : World} {B gv : Nat} {x : Vl} (h : VX w B gv x) : 1 ≤ x.k ∧ x.k ≤ 5 := by cases h <;> exact ⟨by simp, by simp⟩
/-- What an act makes of plain data of a kind. -/
def actX (x : Vl) (a : VA) : Vl :=
  ⟨x.k, if x.k = 1 ∧ a.k % 8 = 0 then a.a else x.t,
   if x.k = 2 ∧ a.k % 8 = 1 then putF x.ps a.a a.b else if a.k % 8 = 2 then cutF x.ps a.a else x.ps,
   if x.k = 4 ∧ a.k % 8 = 3 then putN x.ls a.a else if x.k = 4 ∧ a.k % 8 = 4 then cutN x.ls a.a else if x.k = 3 ∧ a.k % 8 = 5 then a.l else if x.k = 4 ∧ a.k % 8 = 5 then a.l.foldl putN [] else x.ls,
   if x.k = 5 ∧ a.k % 8 = 6 then putS x.ss ⟨a.a, a.n⟩ else if a.k % 8 = 7 then dropS x.ss a.a else x.ss⟩
/-- What a call of 'do' leaves. -/
def DoPost (w : World) (B gv : Nat) (y : Vl) (en : Ending) (w' : World) : Prop :=
  ∃ vp vl vs, en = .returned (.tuple #[vlV y vp vl vs, .bool true]) ∧ VX w' B gv y ∧ XM w' B y vp vl vs ∧ TrnB B w w'
theorem VX.ps0 {w : World} {B gv : Nat} {x : Vl} (h : VX w B gv x) (hk : x.k ≠ 2) : x.ps = [] := by cases h <;> first | rfl | exact absurd rfl hk
theorem VX.ss0 {w : World} {B gv : Nat} {x : Vl} (h : VX w B gv x) (hk : x.k ≠ 5) : x.ss = [] := by cases h <;> first | rfl | exact absurd rfl hk
theorem tm8 {k m : Int} (h0 : 0 ≤ k) (h : k % 8 = m) : k.tmod 8 = m := by rw [Int.tmod_eq_emod_of_nonneg h0]; exact h
theorem XM.pl (w : World) (B : Nat) (x : Vl) : True := trivial
/-- A store into a value's plain data leaves a value. -/
theorem vx_only {w w' : World} {B gv g : Nat} {x : Vl} {vs : List Value} (h : VX w B gv x) (o : Only g w w') (r : Row w 26 g vs) : VX w' B gv x := by
  have hr : ∀ {t g' : Nat} {us : List Value}, Row w t g' us → t ≠ 26 → g' ≠ g := fun h1 ht e => by
    subst e
    have := (show w.heap[_]? = _ from h1).symm.trans r
    simp at this
    exact ht this.2
  cases h with
  | k1 t h => exact .k1 t ⟨⟨h.v.row.only o (hr h.v.row (by decide)), h.v.one⟩, h.lo⟩
  | k2 mb ps h => exact .k2 mb ps ⟨⟨h.v.row.only o (hr h.v.row (by decide)), h.v.one⟩, h.m.only o (h.m.ne_row r), h.lo⟩
  | k3 lv ls h => exact .k3 lv ls ⟨⟨h.v.row.only o (hr h.v.row (by decide)), h.v.one⟩, own_at_but h.l r (by decide) (But.only o), h.lo⟩
  | k4 sb us h => exact .k4 sb us ⟨⟨h.v.row.only o (hr h.v.row (by decide)), h.v.one⟩, h.m.only o (h.m.ne_row r), h.lo⟩
  | k5 gz mb hd Ls h =>
    refine .k5 gz mb hd Ls ⟨⟨h.v.row.only o (hr h.v.row (by decide)), h.v.one⟩, ⟨h.z.row.only o (hr h.z.row (by decide)), ?_, h.z.z.only o (fun c n e => ⟨hr (h.z.z.node c n e) (by decide), hr (h.z.z.link c n e) (by decide)⟩), h.z.h16, h.z.rise, h.z.uniq, h.z.lo⟩, h.lo⟩
    obtain ⟨es, h1, h2, h3⟩ := h.z.map
    exact ⟨es, h1.only o (h1.ne_row r), h2, h3⟩
theorem XM.only {w w' : World} {B g : Nat} {x : Vl} {vp vl vs : Value} {us : List Value} (h : XM w B x vp vl vs) (o : Only g w w') (r : Row w 26 g us) : XM w' B x vp vl vs :=
  ⟨own_at_but h.p r (by decide) (But.only o), own_at_but h.l r (by decide) (But.only o), own_at_but h.s r (by decide) (But.only o)⟩
/-- What was there below B stays; of plain data all but 'these blocks, which are new'. -/
theorem below_only {w w1 w2 : World} {B g : Nat} (h : Below B w w1) (o : Only g w1 w2) (hg : B ≤ g) : Below B w w2 := h.trans (o.below hg)
end Go.Proofs.YtpbkejmffddelaaGreat
