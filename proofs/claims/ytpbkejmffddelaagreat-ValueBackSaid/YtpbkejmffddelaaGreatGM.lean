/-
  Several own texts in one: ValFf, ValFg, ValFh, ValFi. Own work.
-/
import Derived.Test.YtpbkejmffddelaaGreatGL
import Derived.Test.YtpbkejmffddelaaGreatGA
set_option linter.unusedVariables false
set_option linter.unusedSimpArgs false
/-
  What an entry's bytes say, as lists; what was encoded is read as it was. Own work.
-/
namespace Go.Proofs.YtpbkejmffddelaaGreat
open Go.RowKit Go.Shelf
/-- Bytes as a text. -/
def bn (xs : List Int) : Nm := xs.map fun x => UInt8.ofNat x.toNat
theorem bn_len (xs : List Int) : (bn xs).length = xs.length := by simp [bn]
theorem nb_bn {xs : List Int} (h : IsBy xs) : nb (bn xs) = xs := by
  unfold nb bn
  rw [List.map_map]
  have : ∀ x ∈ xs, ((fun b : UInt8 => (b.toNat : Int)) ∘ fun x : Int => UInt8.ofNat x.toNat) x = id x := by
    intro x hx
    have := h x hx
    show ((UInt8.ofNat x.toNat).toNat : Int) = x
    rw [UInt8.toNat_ofNat']
    omega
  rw [List.map_congr_left this, List.map_id]
theorem bn_nb (t : Nm) : bn (nb t) = t := by
  unfold nb bn
  rw [List.map_map]
  have : ∀ b ∈ t, ((fun x : Int => UInt8.ofNat x.toNat) ∘ fun b : UInt8 => (b.toNat : Int)) b = id b := by
    intro b _
    show UInt8.ofNat ((b.toNat : Int)).toNat = b
    rw [Int.toNat_natCast]
    simp
  rw [List.map_congr_left this, List.map_id]
theorem str_bn {xs : List Int} (h : IsBy xs) : Value.string (strOfNums xs) = encStr (bn xs) := by rw [nb_str, nb_bn h]
theorem tkText_by {most e : Int} {xs : List Int} (h : IsBy xs) : IsBy (tkText most xs e).1 ∧ IsBy (tkText most xs e).2.1 := by
  unfold tkText
  simp only
  split
  · exact ⟨fun x hx => absurd hx (by simp), fun x hx => absurd hx (by simp)⟩
  · exact tk_by (tk_by h).2
theorem tkNum_by {most e : Int} {xs : List Int} (h : IsBy xs) : IsBy (tkNum most xs e).2.1 := by
  unfold tkNum
  simp only
  split
  · exact fun x hx => absurd hx (by simp)
  · exact (tk_by h).2
theorem tkText_len {most e : Int} {xs : List Int} (h : IsBy xs) : (tkText most xs e).1.length ≤ most.toNat := by
  unfold tkText
  simp only
  split
  · simp
  · have := (tk_len (unum 4 xs e).toNat (tk 4 xs e).2.1 (tk 4 xs e).2.2).1
    have h0 := (unum_bound (n := 4) (e := e) h).1
    omega
theorem tkNum_rng {most e : Int} {xs : List Int} (hm : 0 ≤ most) (h : IsBy xs) : 0 ≤ (tkNum most xs e).1 ∧ (tkNum most xs e).1 ≤ most := by
  have h0 := (unum_bound (n := 8) (e := e) h).1
  unfold tkNum
  simp only
  split
  · exact ⟨Int.le_refl _, hm⟩
  · exact ⟨h0, by omega⟩
/-- Where a reader stands: what is left, and the error. -/
abbrev Sr := List Int × Int
def rT (most : Int) (s : Sr) : Nm × Sr := (bn (tkText most s.1 s.2).1, (tkText most s.1 s.2).2)
def rN (most : Int) (s : Sr) : Int × Sr := tkNum most s.1 s.2
def rU (n : Nat) (s : Sr) : Int × Sr := (unum n s.1 s.2, (tk n s.1 s.2).2)
abbrev Sr.By (s : Sr) : Prop := IsBy s.1
theorem rT_by {most : Int} {s : Sr} (h : s.By) : (rT most s).2.By := (tkText_by h).2
theorem rN_by {most : Int} {s : Sr} (h : s.By) : (rN most s).2.By := tkNum_by h
theorem rU_by {n : Nat} {s : Sr} (h : s.By) : (rU n s).2.By := (tk_by h).2
theorem rT_len {most : Int} {s : Sr} (h : s.By) : (rT most s).1.length ≤ most.toNat := by
  show (bn _).length ≤ _
  rw [bn_len]
  exact tkText_len h
def dP : Nat → Sr → List Pr × Sr
  | 0, s => ([], s)
  | k + 1, s => ((dP k s).1 ++ [⟨(rT 512 (dP k s).2).1, (rT 512 (rT 512 (dP k s).2).2).1⟩], (rT 512 (rT 512 (dP k s).2).2).2)
def dL : Nat → Sr → List Nm × Sr
  | 0, s => ([], s)
  | k + 1, s => ((dL k s).1 ++ [(rT 512 (dL k s).2).1], (rT 512 (dL k s).2).2)
def dS : Nat → Sr → List Sc × Sr
  | 0, s => ([], s)
  | k + 1, s => ((dS k s).1 ++ [⟨(rT 512 (dS k s).2).1, IntKind.i64.wrap (rU 8 (rT 512 (dS k s).2).2).1⟩], (rU 8 (rT 512 (dS k s).2).2).2)
theorem dP_len : ∀ (k : Nat) (s : Sr), (dP k s).1.length = k
  | 0, s => rfl
  | k + 1, s => by rw [dP, List.length_append, dP_len k s]; rfl
theorem dL_len : ∀ (k : Nat) (s : Sr), (dL k s).1.length = k
  | 0, s => rfl
  | k + 1, s => by rw [dL, List.length_append, dL_len k s]; rfl
theorem dS_len : ∀ (k : Nat) (s : Sr), (dS k s).1.length = k
  | 0, s => rfl
  | k + 1, s => by rw [dS, List.length_append, dS_len k s]; rfl
theorem dP_by {s : Sr} (h : s.By) : ∀ k : Nat, (dP k s).2.By
  | 0 => h
  | k + 1 => rT_by (rT_by (dP_by h k))
theorem dL_by {s : Sr} (h : s.By) : ∀ k : Nat, (dL k s).2.By
  | 0 => h
  | k + 1 => rT_by (dL_by h k)
theorem dS_by {s : Sr} (h : s.By) : ∀ k : Nat, (dS k s).2.By
  | 0 => h
  | k + 1 => rU_by (rT_by (dS_by h k))
theorem wrap_isI (x : Int) : isI (IntKind.i64.wrap x) := by
  unfold isI
  simp [IntKind.wrap, IntKind.bits, IntKind.signed]
  omega
theorem dS_int (s : Sr) : ∀ (k : Nat), ∀ a ∈ (dS k s).1, isI a.s
  | 0, a, h => absurd h (by simp [dS])
  | k + 1, a, h => by
    rw [dS] at h
    rcases List.mem_append.1 h with h | h
    · exact dS_int s k a h
    · rw [List.mem_singleton] at h
      subst h
      exact wrap_isI _
/-- The value that stands next; of a kind that there is not, the kind alone counts. -/
def dV (s : Sr) : Vl × Sr :=
  let k := rU 1 s
  if k.1 = 1 then (⟨1, (rT 512 k.2).1, [], [], []⟩, (rT 512 k.2).2)
  else
    let n := rN 200 k.2
    if k.1 = 2 then (⟨2, [], (dP n.1.toNat n.2).1, [], []⟩, (dP n.1.toNat n.2).2)
    else if k.1 = 3 ∨ k.1 = 4 then (⟨k.1, [], [], (dL n.1.toNat n.2).1, []⟩, (dL n.1.toNat n.2).2)
    else if k.1 = 5 then (⟨5, [], [], [], (dS n.1.toNat n.2).1⟩, (dS n.1.toNat n.2).2)
    else (⟨k.1, [], [], [], []⟩, n.2)
/-- Key and time. -/
def dK (b : List Int) : Nm × Int × Sr := ((rT 64 (b, 0)).1, (rN 1099511627776 (rT 64 (b, 0)).2).1, (rN 1099511627776 (rT 64 (b, 0)).2).2)
end Go.Proofs.YtpbkejmffddelaaGreat

/-
  What was encoded is read as it was: as lists. Own work.
-/
namespace Go.Proofs.YtpbkejmffddelaaGreat
open Go.RowKit Go.Shelf
theorem beV_accF (l : List Int) : ∀ (b : Int), l.foldl (fun a b => a * 256 + b) b = b * 256 ^ l.length + beV l := by
  induction l with
  | nil => intro b; simp [beV]
  | cons c l ih =>
    intro b
    simp only [List.foldl_cons, List.length_cons, beV]
    rw [ih, ih (0 * 256 + c), Int.pow_succ]
    rw [Int.add_mul, Int.zero_mul, Int.zero_add, Int.mul_assoc, Int.mul_comm 256 (256 ^ l.length)]
    omega
theorem beV_highF {n : Nat} : ∀ {x : Int}, 0 ≤ x → x < 256 ^ n → beV (highB x n) = x := by
  induction n with
  | zero =>
    intro x h0 h1
    have : x = 0 := by simp at h1; omega
    subst this
    simp [highB, lowB, beV]
  | succ n ih =>
    intro x h0 h1
    rw [show highB x (n + 1) = highB (x / 256) n ++ [x % 256] from by simp [highB, lowB], beV_snoc, ih (by omega) (by rw [Int.pow_succ] at h1; omega)]
    omega
theorem tk_appF {n : Nat} (P R : List Int) (h : P.length = n) : tk n (P ++ R) 0 = (P, R, 0) := by
  subst h
  simp [tk]
theorem rN_back {m most : Int} (R : List Int) (h0 : 0 ≤ m) (h1 : m ≤ most) (h2 : most ≤ 9223372036854775807) : rN most (highB m 8 ++ R, 0) = (m, R, 0) := by
  show tkNum most (highB m 8 ++ R) 0 = _
  unfold tkNum unum
  rw [tk_appF _ _ (highB_length m 8)]
  simp only
  rw [beV_highF h0 (by rw [show (256 : Int) ^ 8 = 18446744073709551616 from by decide]; omega), if_neg (by omega)]
theorem rT_back {most : Int} (t : Nm) (R : List Int) (h : (t.length : Int) ≤ most) (h1 : most ≤ 1000000) : rT most (highB (t.length : Int) 4 ++ nb t ++ R, 0) = (t, R, 0) := by
  have e : tkText most (highB (t.length : Int) 4 ++ nb t ++ R) 0 = (nb t, R, 0) := by
    unfold tkText unum
    rw [List.append_assoc, tk_appF _ _ (highB_length _ 4)]
    simp only
    rw [beV_highF (by omega) (by rw [show (256 : Int) ^ 4 = 4294967296 from by decide]; omega), if_neg (by omega), Int.toNat_natCast, tk_appF _ _ (nb_len t)]
  show (bn (tkText most _ _).1, _) = _
  rw [e, bn_nb]
theorem rU8_back {x : Int} (R : List Int) (h0 : 0 ≤ x) (h1 : x < 18446744073709551616) : rU 8 (highB x 8 ++ R, 0) = (x, R, 0) := by
  show (unum 8 _ _, _) = _
  unfold unum
  rw [tk_appF _ _ (highB_length x 8)]
  show (beV _, _) = _
  rw [beV_highF h0 (by rw [show (256 : Int) ^ 8 = 18446744073709551616 from by decide]; omega)]
theorem rU1_back (x : Int) (R : List Int) : rU 1 ([x] ++ R, 0) = (x, R, 0) := by
  show (unum 1 _ _, _) = _
  unfold unum
  have e : tk 1 ([x] ++ R) 0 = ([x], R, 0) := tk_appF [x] R rfl
  show (beV (tk 1 ([x] ++ R) 0).1, (tk 1 ([x] ++ R) 0).2) = _
  rw [e]
  simp [beV]
theorem putT_eq (b : List Int) (t : Nm) : putT b t = b ++ putT [] t := by simp [putT]
theorem encP_app : ∀ (l : List Pr) (b : List Int), encP b l = b ++ encP [] l
  | [], b => by simp [encP]
  | p :: r, b => by
    show encP (putT (putT b p.f) p.t) r = b ++ encP (putT (putT [] p.f) p.t) r
    rw [encP_app r, encP_app r (putT (putT [] p.f) p.t), putT_eq (putT b p.f), putT_eq b, putT_eq (putT [] p.f) p.t]
    simp only [List.append_assoc]
theorem encL_app : ∀ (l : List Nm) (b : List Int), encL b l = b ++ encL [] l
  | [], b => by simp [encL]
  | p :: r, b => by
    show encL (putT b p) r = b ++ encL (putT [] p) r
    rw [encL_app r, encL_app r (putT [] p), putT_eq b]
    simp only [List.append_assoc]
theorem encS_app : ∀ (l : List Sc) (b : List Int), encS b l = b ++ encS [] l
  | [], b => by simp [encS]
  | p :: r, b => by
    show encS (putT b p.m ++ highB (IntKind.u64.wrap p.s) 8) r = b ++ encS (putT [] p.m ++ highB (IntKind.u64.wrap p.s) 8) r
    rw [encS_app r, encS_app r (putT [] p.m ++ _), putT_eq b]
    simp only [List.append_assoc]
theorem encP_cons (p : Pr) (r : List Pr) : encP [] (p :: r) = putT [] p.f ++ (putT [] p.t ++ encP [] r) := by
  show encP (putT (putT [] p.f) p.t) r = _
  rw [encP_app, putT_eq (putT [] p.f)]
  simp only [List.append_assoc]
theorem encL_cons (p : Nm) (r : List Nm) : encL [] (p :: r) = putT [] p ++ encL [] r := by
  show encL (putT [] p) r = _
  rw [encL_app]
theorem encS_cons (p : Sc) (r : List Sc) : encS [] (p :: r) = putT [] p.m ++ (highB (IntKind.u64.wrap p.s) 8 ++ encS [] r) := by
  show encS (putT [] p.m ++ highB (IntKind.u64.wrap p.s) 8) r = _
  rw [encS_app]
  simp only [List.append_assoc]
theorem rT_put {most : Int} (t : Nm) (R : List Int) (h : (t.length : Int) ≤ most) (h1 : most ≤ 1000000) : rT most (putT [] t ++ R, 0) = (t, R, 0) := by
  have := rT_back t R h h1
  simpa [putT] using this
theorem wrap_two {s : Int} (h : isI s) : IntKind.i64.wrap (IntKind.u64.wrap s) = s := by
  unfold isI at h
  simp [IntKind.wrap, IntKind.bits, IntKind.signed]
  omega
theorem drop_cons_get {α : Type} {l : List α} {k : Nat} (h : k < l.length) : l.drop k = l[k] :: l.drop (k + 1) := List.drop_eq_getElem_cons h
theorem dP_back (l : List Pr) (R : List Int) (h : ∀ p ∈ l, p.f.length ≤ 512 ∧ p.t.length ≤ 512) : ∀ k, k ≤ l.length → dP k (encP [] l ++ R, 0) = (l.take k, encP [] (l.drop k) ++ R, 0)
  | 0, _ => by simp [dP]
  | k + 1, hk => by
    have hlt : k < l.length := hk
    have hm := h l[k] (List.getElem_mem hlt)
    rw [dP, dP_back l R h k (by omega), drop_cons_get hlt, encP_cons]
    simp only [List.append_assoc]
    rw [rT_put _ _ (by have := hm.1; omega) (by decide)]
    simp only
    rw [rT_put _ _ (by have := hm.2; omega) (by decide), List.take_succ_eq_append_getElem hlt]
theorem dL_back (l : List Nm) (R : List Int) (h : ∀ p ∈ l, p.length ≤ 512) : ∀ k, k ≤ l.length → dL k (encL [] l ++ R, 0) = (l.take k, encL [] (l.drop k) ++ R, 0)
  | 0, _ => by simp [dL]
  | k + 1, hk => by
    have hlt : k < l.length := hk
    have hm := h l[k] (List.getElem_mem hlt)
    rw [dL, dL_back l R h k (by omega), drop_cons_get hlt, encL_cons]
    simp only [List.append_assoc]
    rw [rT_put _ _ (by omega) (by decide), List.take_succ_eq_append_getElem hlt]
theorem dS_back (l : List Sc) (R : List Int) (h : ∀ p ∈ l, p.m.length ≤ 512 ∧ isI p.s) : ∀ k, k ≤ l.length → dS k (encS [] l ++ R, 0) = (l.take k, encS [] (l.drop k) ++ R, 0)
  | 0, _ => by simp [dS]
  | k + 1, hk => by
    have hlt : k < l.length := hk
    have hm := h l[k] (List.getElem_mem hlt)
    have hw := wrap_u64 l[k].s
    rw [dS, dS_back l R h k (by omega), drop_cons_get hlt, encS_cons]
    simp only [List.append_assoc]
    rw [rT_put _ _ (by have := hm.1; omega) (by decide)]
    simp only
    rw [rU8_back _ hw.1 (by have := hw.2; omega), List.take_succ_eq_append_getElem hlt]
    simp only
    rw [wrap_two hm.2]
theorem own_cases {x : Vl} (h : x = x.own) : (x.k = 1 → x.ps = [] ∧ x.ls = [] ∧ x.ss = []) ∧ (x.k = 2 → x.t = [] ∧ x.ls = [] ∧ x.ss = []) ∧ ((x.k = 3 ∨ x.k = 4) → x.t = [] ∧ x.ps = [] ∧ x.ss = []) ∧ (x.k = 5 → x.t = [] ∧ x.ps = [] ∧ x.ls = []) := by
  obtain ⟨k, t, ps, ls, ss⟩ := x
  unfold Vl.own at h
  simp only [Vl.mk.injEq, true_and] at h
  obtain ⟨h1, h2, h3, h4⟩ := h
  refine ⟨?_, ?_, ?_, ?_⟩
  · rintro rfl
    exact ⟨h2, h3, h4⟩
  · rintro rfl
    exact ⟨h1, h3, h4⟩
  · rintro (rfl | rfl)
    · exact ⟨h1, h2, h4⟩
    · exact ⟨h1, h2, h4⟩
  · rintro rfl
    exact ⟨h1, h2, h3⟩
theorem rchk_kind {x : Vl} (h : x.rchk = 0) : 1 ≤ x.k ∧ x.k ≤ 5 := by
  unfold Vl.rchk rchk at h
  split at h
  · cases h
  · omega
theorem wrap_u8 {k : Int} (h0 : 0 ≤ k) (h1 : k < 256) : IntKind.u8.wrap k = k := by
  simp [IntKind.wrap, IntKind.bits, IntKind.signed]
  omega
/-- What was encoded is decoded as it was, and nothing is left. -/
theorem dV_back (x : Vl) (h : x.rchk = 0) (hs : ∀ a ∈ x.ss, isI a.s) (hb : List Int) (he : hb = [IntKind.u8.wrap x.k] ++ (if x.k = 1 then putT [] x.t else highB (max ((x.ps.length : Int) + x.ls.length + x.ss.length) 0) 8 ++ (encP [] x.ps ++ (encL [] x.ls ++ encS [] x.ss)))) :
    dV (hb, 0) = (x, [], 0) := by
  subst he
  obtain ⟨ho, hl⟩ := rchk_ok h
  have hn := rchk_few h
  obtain ⟨k1, k5⟩ := rchk_kind h
  have hk := own_cases ho
  have htx : ∀ t ∈ x.texts, t.length ≤ 512 := fun t ht => lng_at hl ht
  rw [wrap_u8 (by omega) (by omega)]
  unfold dV
  rw [rU1_back]
  simp only
  obtain ⟨k, t, ps, ls, ss⟩ := x
  simp only at *
  by_cases e1 : k = 1
  · subst e1
    obtain ⟨rfl, rfl, rfl⟩ := hk.1 rfl
    rw [if_pos rfl, if_pos rfl]
    have hR := rT_put (most := 512) t [] (by have := htx t (by simp [Vl.texts]); omega) (by decide)
    rw [List.append_nil] at hR
    rw [hR]
  · rw [if_neg e1, if_neg e1]
    have hmax : max ((ps.length : Int) + ls.length + ss.length) 0 = (ps.length : Int) + ls.length + ss.length := by omega
    rw [hmax, rN_back _ (by omega) (by omega) (by decide)]
    simp only
    by_cases e2 : k = 2
    · subst e2
      obtain ⟨rfl, rfl, rfl⟩ := hk.2.1 rfl
      rw [if_pos rfl]
      have hh : ∀ p ∈ ps, p.f.length ≤ 512 ∧ p.t.length ≤ 512 := fun p hp => ⟨htx _ (by simp [Vl.texts, mem_prT hp]), htx _ (by simp [Vl.texts, mem_prT hp])⟩
      have hB := dP_back ps [] hh ps.length (Nat.le_refl _)
      rw [List.take_length, List.drop_length] at hB
      have e : (((ps.length : Int) + ([] : List Nm).length + ([] : List Sc).length)).toNat = ps.length := by simp
      rw [e]
      have e' : encP [] ps ++ (encL [] [] ++ encS [] []) = encP [] ps ++ [] := rfl
      rw [e', hB]
      rfl
    · rw [if_neg e2]
      by_cases e3 : k = 3 ∨ k = 4
      · obtain ⟨rfl, rfl, rfl⟩ := hk.2.2.1 e3
        rw [if_pos e3]
        have hh : ∀ p ∈ ls, p.length ≤ 512 := fun p hp => htx _ (by simp [Vl.texts, hp])
        have hB := dL_back ls [] hh ls.length (Nat.le_refl _)
        rw [List.take_length, List.drop_length] at hB
        have e : ((([] : List Pr).length : Int) + ls.length + ([] : List Sc).length).toNat = ls.length := by simp
        rw [e]
        have e' : encP [] [] ++ (encL [] ls ++ encS [] []) = encL [] ls ++ [] := rfl
        rw [e', hB]
        rfl
      · rw [if_neg e3]
        have e5 : k = 5 := by omega
        subst e5
        obtain ⟨rfl, rfl, rfl⟩ := hk.2.2.2 rfl
        rw [if_pos rfl]
        have hh : ∀ p ∈ ss, p.m.length ≤ 512 ∧ isI p.s := fun p hp => ⟨htx _ (by simp only [Vl.texts, List.mem_append, List.mem_map]; exact .inr ⟨p, hp, rfl⟩), hs p hp⟩
        have hB := dS_back ss [] hh ss.length (Nat.le_refl _)
        rw [List.take_length, List.drop_length] at hB
        have e : ((([] : List Pr).length : Int) + ([] : List Nm).length + ss.length).toNat = ss.length := by simp
        rw [e]
        have e' : encP [] [] ++ (encL [] [] ++ encS [] ss) = encS [] ss ++ [] := by simp [encP, encL]
        rw [e', hB]
        rfl
theorem dE_back (key : Nm) (x : Vl) (at_ : Int) (h : entC key at_ x.rchk = 0) (hs : ∀ a ∈ x.ss, isI a.s) :
    (dK (encB key x at_)).1 = key ∧ (dK (encB key x at_)).2.1 = at_ ∧ dV (dK (encB key x at_)).2.2 = (x, [], 0) := by
  obtain ⟨hx, hk, h0, h1⟩ := entC_zero h
  have e : encB key x at_ = putT [] key ++ (highB at_ 8 ++ ([IntKind.u8.wrap x.k] ++ (if x.k = 1 then putT [] x.t else highB (max ((x.ps.length : Int) + x.ls.length + x.ss.length) 0) 8 ++ (encP [] x.ps ++ (encL [] x.ls ++ encS [] x.ss))))) := by
    have hm : max at_ 0 = at_ := by omega
    unfold encB encC encH
    rw [hm]
    split
    · rw [putT_eq]
      simp only [List.append_assoc]
    · rw [encS_app, encL_app, encP_app]
      simp only [List.append_assoc]
  unfold dK
  rw [e, rT_put _ _ (by omega) (by decide)]
  simp only [true_and]
  rw [rN_back _ h0 h1 (by decide)]
  exact ⟨rfl, dV_back x hx hs _ rfl⟩
end Go.Proofs.YtpbkejmffddelaaGreat

/-
  A region whose order is open that calls what turns one block, builds an element, appends it to a row of one's own, and stores the row in its struct. Own work.
-/
namespace Go.Proofs.YtpbkejmffddelaaGreat
open Go.RowKit Go.Shelf
/-- What is between: by the bits of the call, the literal, the append, the store. -/
def JD (wb : World) (g : Nat) (D0 : World → Prop) (D1 : Value → World → Prop) (D2 : World → Prop) (e size n : Nat) (v : Value) (xs news : List Value) (T3 g3 : Nat) (A C : List Value) (bs : List Bool) (vs : List Value) (w : World) : Prop :=
  ButZ [g, g3] wb w ∧ (bs.getD 0 false = false → D0 w) ∧ (bs.getD 0 false = true → bs.getD 2 false = false → D1 (vs.getD 0 undef) w) ∧
  (bs.getD 1 false = true → bs.getD 2 false = false → ∃ g2, vs.getD 1 undef = .slice (some ⟨g2, 0, none⟩) 1 1 ∧ Row w e g2 news) ∧
  (bs.getD 2 false = false → w.ownsRow wb.heap.size e size v n xs) ∧
  (bs.getD 2 false = true → w.ownsRow wb.heap.size e size (vs.getD 2 undef) (n + 1) (xs ++ news) ∧ D2 w) ∧
  (bs.getD 3 false = false → Row w T3 g3 (A ++ v :: C)) ∧ (bs.getD 3 false = true → Row w T3 g3 (A ++ vs.getD 2 undef :: C))
theorem own_butB {w w' : World} {base e size n : Nat} {v : Value} {xs : List Value} {S : List Nat} (h : w.ownsRow base e size v n xs) (hb : ButZ S w w') (hS : ∀ k ∈ S, k < base) : w'.ownsRow base e size v n xs := by
  refine ⟨h.1, ?_⟩
  rcases h.2 with h2 | ⟨g, cap, cur, hv, hg, hh, r⟩
  · exact .inl h2
  · exact .inr ⟨g, cap, cur, hv, hg, (hb.block g (Array.getElem?_eq_some_iff.1 hh).1 (fun hm => by have := hS g hm; omega)).trans hh, r⟩
theorem Row.butz' {w w' : World} {t g : Nat} {vs : List Value} {S : List Nat} (h : Row w t g vs) (hb : ButZ S w w') (hg : g ∉ S) : Row w' t g vs := (hb.block g h.lt hg).trans h
theorem ButZ.trans2 {wb w w' : World} {S : List Nat} {e size n : Nat} {v : Value} {xs : List Value} (h : ButZ S wb w) (gr : w.grownBy w' v.ownBlock) (o : w.ownsRow wb.heap.size e size v n xs) : ButZ S wb w' :=
  ⟨gr.os.trans h.os, gr.tape.trans h.tape, gr.output.trans h.output, Nat.le_trans h.size gr.size, fun k hk hn => (gr.block k (Nat.lt_of_lt_of_le hk h.size) (fun hkv => by have := (o.lt k hkv.symm).1; omega)).trans (h.block k hk hn)⟩
section
variable {wb w w' : World} {g : Nat} {D0 : World → Prop} {D1 : Value → World → Prop} {D2 : World → Prop} {e size n : Nat} {v : Value} {xs news : List Value} {T3 g3 : Nat} {A C : List Value} {bs bs' : List Bool} {vs vs' : List Value}
theorem JD.start (h0 : D0 w.drew) (hU : ButZ [g, g3] wb w) (own : w.ownsRow wb.heap.size e size v n xs) (r : Row w T3 g3 (A ++ v :: C)) :
    JD wb g D0 D1 D2 e size n v xs news T3 g3 A C [false, false, false, false] vs w.drew :=
  ⟨⟨hU.os, hU.tape, hU.output, hU.size, hU.block⟩, fun _ => h0, fun h => absurd h (by decide), fun h => absurd h (by decide), fun _ => own, fun h => absurd h (by decide), fun _ => r, fun h => absurd h (by decide)⟩
theorem JD.called (h : JD wb g D0 D1 D2 e size n v xs news T3 g3 A C bs vs w) (hz : ButZ [g] w w') (hD : D1 (vs'.getD 0 undef) w') (hg : g < wb.heap.size) (hg3 : g3 ≠ g)
    (b2 : bs.getD 2 false = false) (b3 : bs.getD 3 false = false) (c0 : bs'.getD 0 false = true) (c1 : bs'.getD 1 false = false) (c2 : bs'.getD 2 false = false) (c3 : bs'.getD 3 false = false) :
    JD wb g D0 D1 D2 e size n v xs news T3 g3 A C bs' vs' w' := by
  obtain ⟨hU, _, _, _, h4, _, h6, _⟩ := h
  refine ⟨hU.trans ⟨hz.os, hz.tape, hz.output, hz.size, fun k hk hn => hz.block k hk (fun hm => hn (by simp only [List.mem_singleton] at hm; simp [hm]))⟩, fun h => absurd (c0.symm.trans h) (by decide), fun _ _ => hD, fun h => absurd (c1.symm.trans h) (by decide), fun _ => own_butB (h4 b2) hz (fun k hk => by simp only [List.mem_singleton] at hk; omega), fun h => absurd (c2.symm.trans h) (by decide), fun _ => (h6 b3).butz' hz (by simpa using hg3), fun h => absurd (c3.symm.trans h) (by decide)⟩
theorem JD.built (h : JD wb g D0 D1 D2 e size n v xs news T3 g3 A C bs vs w) (hb : Below w.heap.size w w') {g2 : Nat} (hv : vs'.getD 1 undef = .slice (some ⟨g2, 0, none⟩) 1 1) (hr : Row w' e g2 news) (hD : ∀ u, D1 u w → D1 u w')
    (b0 : bs.getD 0 false = true) (b2 : bs.getD 2 false = false) (b3 : bs.getD 3 false = false) (v0 : vs'.getD 0 undef = vs.getD 0 undef) (c0 : bs'.getD 0 false = true) (c2 : bs'.getD 2 false = false) (c3 : bs'.getD 3 false = false) :
    JD wb g D0 D1 D2 e size n v xs news T3 g3 A C bs' vs' w' := by
  obtain ⟨hU, _, h1, _, h4, _, h6, _⟩ := h
  refine ⟨hU.trans (.of hb), fun h => absurd (c0.symm.trans h) (by decide), fun _ _ => by rw [v0]; exact hD _ (h1 b0 b2), fun _ _ => ⟨g2, hv, hr⟩, fun _ => own_later (h4 b2) hb, fun h => absurd (c2.symm.trans h) (by decide), fun _ => (h6 b3).later hb, fun h => absurd (c3.symm.trans h) (by decide)⟩
theorem JD.appended (h : JD wb g D0 D1 D2 e size n v xs news T3 g3 A C bs vs w) (gr : w.grownBy w' v.ownBlock) (own : w'.ownsRow wb.heap.size e size (vs'.getD 2 undef) (n + 1) (xs ++ news)) (hT : T3 ≠ e)
    (hD : ∀ u, D1 u w → Below wb.heap.size w w' → D2 w') (b0 : bs.getD 0 false = true) (b2 : bs.getD 2 false = false) (b3 : bs.getD 3 false = false) (c0 : bs'.getD 0 false = true) (c2 : bs'.getD 2 false = true) (c3 : bs'.getD 3 false = false) :
    JD wb g D0 D1 D2 e size n v xs news T3 g3 A C bs' vs' w' := by
  obtain ⟨hU, _, h1, _, h4, _, h6, _⟩ := h
  have o := h4 b2
  have hb : Below wb.heap.size w w' := ⟨gr.os, gr.tape, gr.output, gr.size, fun k hk => gr.block k (Nat.lt_of_lt_of_le hk hU.size) (fun hkv => by have := (o.lt k hkv.symm).1; omega)⟩
  refine ⟨hU.trans2 gr o, fun h => absurd (c0.symm.trans h) (by decide), fun _ h => absurd (c2.symm.trans h) (by decide), fun _ h => absurd (c2.symm.trans h) (by decide), fun h => absurd (c2.symm.trans h) (by decide), fun _ => ⟨own, hD _ (h1 b0 b2) hb⟩, fun _ => (h6 b3).grownS o hT gr, fun h => absurd (c3.symm.trans h) (by decide)⟩
theorem JD.stored (h : JD wb g D0 D1 D2 e size n v xs news T3 g3 A C bs vs w) (o3 : Only g3 w w') (hr : Row w' T3 g3 (A ++ vs.getD 2 undef :: C)) (hg3 : g3 < wb.heap.size) (hD : D2 w → D2 w')
    (b2 : bs.getD 2 false = true) (v2 : vs'.getD 2 undef = vs.getD 2 undef) (c0 : bs'.getD 0 false = true) (c2 : bs'.getD 2 false = true) (c3 : bs'.getD 3 false = true) :
    JD wb g D0 D1 D2 e size n v xs news T3 g3 A C bs' vs' w' := by
  obtain ⟨hU, _, _, _, _, h5, _, _⟩ := h
  have hz : ButZ [g3] w w' := ⟨o3.os, o3.tape, o3.output, Nat.le_of_eq o3.size.symm, fun k _ hn => o3.block k (fun e => hn (by simp [e]))⟩
  refine ⟨hU.only o3 (.inr (by simp)), fun h => absurd (c0.symm.trans h) (by decide), fun _ h => absurd (c2.symm.trans h) (by decide), fun _ h => absurd (c2.symm.trans h) (by decide), fun h => absurd (c2.symm.trans h) (by decide), fun _ => ⟨by rw [v2]; exact own_butB (h5 b2).1 hz (fun k hk => by simp only [List.mem_singleton] at hk; omega), hD (h5 b2).2⟩, fun h => absurd (c3.symm.trans h) (by decide), fun _ => by rw [v2]; exact hr⟩
end
end Go.Proofs.YtpbkejmffddelaaGreat

/-
  What reads a value: contract. Own work.
-/
namespace Go.Proofs.YtpbkejmffddelaaGreat
open Go.RowKit Go.Shelf
theorem st_callF0 {o : Oper} {a : Act} {w : World} {K : Act → World → Prop} {Q : Exit → Act → World → Prop} (f : FuncId) (x : Operand) (caps : Array Value) (ho : o.op = .call { callee := .value x, args := #[], argTypes := #[] }) (hx : a.eval x = .func (.func f) #[] caps)
    (hf : ∀ (xs : Array Value) (w : World), (callFunc f xs).run Tryz.prog w = .ok (.enter f xs) w)
    {R : Ending → World → Prop} (hc : Calls Tryz.prog f caps w R) (hk : ∀ e w', R e w' → ∃ v, e = .returned v ∧ K (a.put o.dst v) w') : o.wp Tryz.prog a w K Q := by
  unfold Oper.wp execOp
  simp only [ho, resolve, hx, Deferred.ofValue]
  go_simp
  refine hc.mono fun e w' h => ?_
  obtain ⟨v, rfl, h2⟩ := hk e w' h
  exact h2
theorem callT1 : ∀ (xs : Array Value) (w : World), (callFunc 114 xs).run Tryz.prog w = .ok (.enter 114 xs) w := fun xs w => by kernel_rfl
theorem ButZ.gr {w w' : World} {g : Nat} (h : w.grownBy w' (some g)) : ButZ [g] w w' := ⟨h.os, h.tape, h.output, h.size, fun k hk hn => h.block k hk (fun e => hn (by simp [Option.some.inj e]))⟩
theorem But.gr {w w' : World} {g : Nat} (h : w.grownBy w' (some g)) : But g w w' := ⟨h.os, h.tape, h.output, h.size, fun k hk hn => h.block k hk (fun e => hn (Option.some.inj e))⟩
theorem Rd.low {w w' : World} {lo g B : Nat} {xs : List Int} {e : Int} (h : Rd w lo g xs e) (hb : Below B w w') (hB : g < B) : Rd w' lo g xs e := by
  obtain ⟨A, n, c, h0, h1, h2, h3, h4, h5⟩ := h
  exact ⟨A, n, c, h0, h1.below hb hB, ⟨h2.1, fun h0 => let ⟨b, o, e, h6, h7, hc⟩ := h2.2 h0; ⟨b, o, e, h6, h7, fun j hj => (hb.cell (p := ⟨b, o + j, none⟩) (show b < B by omega)).trans (hc j hj)⟩⟩, h3, h4, h5⟩
theorem Rd.lt {w : World} {lo g : Nat} {xs : List Int} {e : Int} (h : Rd w lo g xs e) : lo ≤ g ∧ g < w.heap.size := by
  obtain ⟨A, n, c, h0, h1, _⟩ := h
  exact ⟨h0, h1.lt⟩
theorem grown_only {w w' : World} {g : Nat} (h : Only g w w') : w.grownBy w' (some g) := ⟨h.os, h.tape, h.output, Nat.le_of_eq h.size.symm, fun k _ hn => h.block k (fun e => hn (by rw [e]))⟩
/-- A reader, and the variable that holds it. -/
def RdV (lo g g1 : Nat) (s : Sr) (w : World) : Prop := Rd w lo g s.1 s.2 ∧ Row w 101 g1 [ptr g]
theorem RdV.low {lo g g1 B : Nat} {s : Sr} {w w' : World} (h : RdV lo g g1 s w) (hb : Below B w w') (hB : g < B) (hB1 : g1 < B) : RdV lo g g1 s w' := ⟨h.1.low hb hB, (hb.block g1 hB1).trans h.2⟩
theorem RdV.only {lo g g1 g3 : Nat} {s : Sr} {w w' : World} (h : RdV lo g g1 s w) (o : Only g3 w w') (h3 : g < g3) (h13 : g1 ≠ g3) : RdV lo g g1 s w' := ⟨h.1.grown (grown_only o) (.inr h3), (o.block g1 h13).trans h.2⟩
theorem RdV.later {lo g g1 : Nat} {s : Sr} {w w' : World} (h : RdV lo g g1 s w) (hb : Below w.heap.size w w') : RdV lo g g1 s w' := ⟨h.1.later hb, h.2.later hb⟩
theorem DL1 {lo g g1 : Nat} {s : Sr} {c v : Value} {w w' : World} (h : v = c ∧ RdV lo g g1 s w) (hb : Below w.heap.size w w') : v = c ∧ RdV lo g g1 s w' := ⟨h.1, h.2.later hb⟩
theorem DA1 {lo g g1 B : Nat} {s : Sr} {c v : Value} {w w' : World} (h : v = c ∧ RdV lo g g1 s w) (hb : Below B w w') (hB : g < B) (hB1 : g1 < B) : RdV lo g g1 s w' := h.2.low hb hB hB1
theorem ButZ.more {w w' : World} {g g3 : Nat} (h : ButZ [g] w w') : ButZ [g, g3] w w' := ⟨h.os, h.tape, h.output, h.size, fun k hk hn => h.block k hk (fun hm => hn (by simp only [List.mem_singleton] at hm; simp [hm]))⟩
theorem ButZ.old {a b c : World} {g g3 : Nat} (h : ButZ [g] a b) (k : ButZ [g, g3] b c) (h3 : a.heap.size ≤ g3) : ButZ [g] a c :=
  ⟨k.os.trans h.os, k.tape.trans h.tape, k.output.trans h.output, Nat.le_trans h.size k.size, fun i hi hn => (k.block i (Nat.lt_of_lt_of_le hi h.size) (fun hm => by simp only [List.mem_cons, List.not_mem_nil, or_false] at hm; rcases hm with rfl | rfl; exact hn (by simp); omega)).trans (h.block i hi hn)⟩
theorem own_cap {w : World} {B e size n : Nat} {v : Value} {xs : List Value} (h : w.ownsRow B e size v n xs) : ∃ A c, v = .slice A n c ∧ n ≤ c := by
  rcases h.2 with ⟨rfl, rfl⟩ | ⟨g, cap, cur, rfl, _, _, hc, _⟩
  · exact ⟨none, 0, rfl, Nat.le_refl _⟩
  · exact ⟨_, _, rfl, hc⟩
theorem scsC_atV : ∀ (l : List Sc) (i j : Nat) (a : Sc) (u : Value), l[i]? = some a → a.cells[j]? = some u → (scsC l)[i * 2 + j]? = some u := by
  intro l
  induction l with
  | nil => intro i j a u h; simp at h
  | cons b r ih =>
    intro i j a u hi hj
    have hjl : j < 2 := (List.getElem?_eq_some_iff.1 hj).1
    match i with
    | 0 =>
      obtain rfl : b = a := by simpa using hi
      show (b.cells ++ scsC r)[0 * 2 + j]? = _
      rw [List.getElem?_append_left (by show 0 * 2 + j < 2; omega), Nat.zero_mul, Nat.zero_add, hj]
    | i + 1 =>
      show (b.cells ++ scsC r)[(i + 1) * 2 + j]? = _
      rw [List.getElem?_append_right (by show 2 ≤ _; omega), show (i + 1) * 2 + j - b.cells.length = i * 2 + j by show (i + 1) * 2 + j - 2 = _; omega]
      exact ih i j a u (by simpa using hi) hj
theorem OwnS.slvS {w : World} {T : Nat} {v : Value} {l : List Sc} (h : OwnS w T v l) : SlV Sc.cells 2 w w.heap.size v l := by
  rcases h.2 with ⟨rfl, h0⟩ | ⟨g, cap, cur, rfl, hT, hg, h1, h2, h3, h4⟩
  · exact ⟨none, 0, by rw [h0], fun h => by omega⟩
  · refine ⟨_, cap, rfl, fun _ => ⟨g, 0, rfl, (Array.getElem?_eq_some_iff.1 hg).1, fun i a hi j u hj => ?_⟩⟩
    have hil : i < l.length := (List.getElem?_eq_some_iff.1 hi).1
    have hjl : j < 2 := (List.getElem?_eq_some_iff.1 hj).1
    have e2 : (cur.toList.take (l.length * 2))[i * 2 + j]? = some u := by rw [h4]; exact scsC_atV l i j a u hi hj
    rw [List.getElem?_take, if_pos (by omega)] at e2
    rw [show 0 + i * 2 + j = i * 2 + j by omega, cell_of_row w g _ cur _ (0, 0) hg, ← Array.getElem?_toList]
    exact e2
theorem below_of_gr {w w' : World} {B e size n : Nat} {v : Value} {xs : List Value} (gr : w.grownBy w' v.ownBlock) (o : w.ownsRow B e size v n xs) (hB : B ≤ w.heap.size) : Below B w w' :=
  ⟨gr.os, gr.tape, gr.output, gr.size, fun k hk => gr.block k (Nat.lt_of_lt_of_le hk hB) (fun hkv => by have := (o.lt k hkv.symm).1; omega)⟩
theorem Only.butZ {g : Nat} {w w' : World} (o : Only g w w') : ButZ [g] w w' := ⟨o.os, o.tape, o.output, Nat.le_of_eq o.size.symm, fun k _ hn => o.block k (fun e => hn (by simp [e]))⟩
abbrev cTx (g1 : Nat) : Value := .func (.func 114) #[] #[ptr g1]
theorem rtextR_any {lo g g1 : Nat} {s : Sr} (w : World) (h : RdV lo g g1 s w) (hx : s.By) :
    Calls Tryz.prog 114 #[ptr g1] w fun en w' => en = .returned (encStr (rT 512 s).1) ∧ Rd w' lo g (rT 512 s).2.1 (rT 512 s).2.2 ∧ w.grownBy w' (some g) :=
  (rtext_any w h.1 hx h.2).mono fun en w' ⟨e, hR, hg⟩ => ⟨by rw [e, str_bn (tkText_by hx).1]; rfl, hR, hg⟩
theorem u8R_any {lo g : Nat} {s : Sr} (w : World) (h : Rd w lo g s.1 s.2) (hx : s.By) :
    Calls Tryz.prog 113 #[ptr g] w fun en w' => en = .returned (.int .i64 (rU 1 s).1) ∧ Rd w' lo g (rU 1 s).2.1 (rU 1 s).2.2 ∧ w.grownBy w' (some g) := u8_any w h hx
theorem numR_any {lo g : Nat} {s : Sr} (w : World) (h : Rd w lo g s.1 s.2) (hx : s.By) (most : Int) (m0 : 0 ≤ most) (m1 : most ≤ 9223372036854775807) :
    Calls Tryz.prog 57 #[ptr g, .int .i64 most] w fun en w' => en = .returned (.int .i64 (rN most s).1) ∧ Rd w' lo g (rN most s).2.1 (rN most s).2.2 ∧ w.grownBy w' (some g) := num_any w h hx most (by omega) m1
theorem u64R_any {lo g : Nat} {s : Sr} (w : World) (h : Rd w lo g s.1 s.2) (hx : s.By) :
    Calls Tryz.prog 112 #[ptr g] w fun en w' => en = .returned (.int .u64 (rU 8 s).1) ∧ Rd w' lo g (rU 8 s).2.1 (rU 8 s).2.2 ∧ w.grownBy w' (some g) := u64_any w h hx
theorem dP_succ {k : Nat} {s s3 s4 s5 : Sr} {ls : List Pr} {f t : Nm} (h : dP k s = (ls, s3)) (hf : rT 512 s3 = (f, s4)) (ht : rT 512 s4 = (t, s5)) : dP (k + 1) s = (ls ++ [⟨f, t⟩], s5) := by rw [dP, h]; simp only [hf, ht]
theorem dL_succ {k : Nat} {s s3 s4 : Sr} {ls : List Nm} {f : Nm} (h : dL k s = (ls, s3)) (hf : rT 512 s3 = (f, s4)) : dL (k + 1) s = (ls ++ [f], s4) := by rw [dL, h]; simp only [hf]
theorem dS_succ {k : Nat} {s s3 s4 s5 : Sr} {ls : List Sc} {f : Nm} {u : Int} (h : dS k s = (ls, s3)) (hf : rT 512 s3 = (f, s4)) (ht : rU 8 s4 = (u, s5)) : dS (k + 1) s = (ls ++ [⟨f, IntKind.i64.wrap u⟩], s5) := by rw [dS, h]; simp only [hf, ht]
theorem dV_1 {s s1 : Sr} (h : rU 1 s = (1, s1)) : dV s = (⟨1, (rT 512 s1).1, [], [], []⟩, (rT 512 s1).2) := by unfold dV; rw [h]; rfl
theorem dV_2 {s s1 s2 : Sr} {n : Int} (h : rU 1 s = (2, s1)) (hn : rN 200 s1 = (n, s2)) : dV s = (⟨2, [], (dP n.toNat s2).1, [], []⟩, (dP n.toNat s2).2) := by unfold dV; rw [h]; simp only [hn]; rfl
theorem dV_L {s s1 s2 : Sr} {k n : Int} (hk : k = 3 ∨ k = 4) (h : rU 1 s = (k, s1)) (hn : rN 200 s1 = (n, s2)) : dV s = (⟨k, [], [], (dL n.toNat s2).1, []⟩, (dL n.toNat s2).2) := by unfold dV; rw [h]; simp only [hn]; rcases hk with rfl | rfl <;> rfl
theorem dV_5 {s s1 s2 : Sr} {n : Int} (h : rU 1 s = (5, s1)) (hn : rN 200 s1 = (n, s2)) : dV s = (⟨5, [], [], [], (dS n.toNat s2).1⟩, (dS n.toNat s2).2) := by unfold dV; rw [h]; simp only [hn]; rfl
theorem dV_no {s s1 : Sr} {k : Int} (h : rU 1 s = (k, s1)) : (dV s).1.k = k := by
  unfold dV
  rw [h]
  simp only
  split
  · rename_i e; exact e.symm
  · split
    · rename_i e; exact e.symm
    · split
      · rfl
      · split
        · rename_i e; exact e.symm
        · rfl
def SDVp (g1 g3 : Nat) (f t : Nm) (ov : Value) (opn : Nat) (v : Value) : Prop :=
  match opn with
  | 0 | 8 => v = .pointer (some ⟨g3, 2, none⟩)
  | 1 => v = ov
  | 2 => v = encStr f
  | 3 => v = cTx g1
  | 4 => v = encStr t
  | 5 => v = .agg [encStr f, encStr t].toArray
  | _ => True

def SDVs (g g1 g3 : Nat) (f : Nm) (u : Int) (ov : Value) (opn : Nat) (v : Value) : Prop :=
  match opn with
  | 0 | 9 => v = .pointer (some ⟨g3, 4, none⟩)
  | 1 => v = ov
  | 2 => v = encStr f
  | 3 => v = ptr g
  | 4 => v = .int .u64 u
  | 5 => v = .int .i64 (IntKind.i64.wrap u)
  | 6 => v = .agg [encStr f, .int .i64 (IntKind.i64.wrap u)].toArray
  | _ => True

theorem JD.final {wb w : World} {g : Nat} {D0 : World → Prop} {D1 : Value → World → Prop} {D2 : World → Prop} {e size n : Nat} {v : Value} {xs news : List Value} {T3 g3 : Nat} {A C : List Value} {vs : List Value} (h : JD wb g D0 D1 D2 e size n v xs news T3 g3 A C [true, true, true, true] vs w) :
    ButZ [g, g3] wb w ∧ ∃ u, w.ownsRow wb.heap.size e size u (n + 1) (xs ++ news) ∧ D2 w ∧ Row w T3 g3 (A ++ u :: C) :=
  ⟨h.1, _, (h.2.2.2.2.2.1 rfl).1, (h.2.2.2.2.2.1 rfl).2, h.2.2.2.2.2.2.2 rfl⟩
def ValPost (w : World) (g : Nat) (y : Vl) (en : Ending) (w' : World) : Prop :=
  ∃ (x : Vl) (vp vl vs : Value), en = .returned (vlV x vp vl vs) ∧ VlM w' w'.heap.size x vp vl vs ∧ (∀ (S : List Nat) (wq : World), (∀ k ∈ S, k < w.heap.size) → ButZ S w' wq → VlM wq wq.heap.size x vp vl vs) ∧ x.Few ∧ x.t.length ≤ 512 ∧ x.k = y.k ∧ (1 ≤ y.k → y.k ≤ 5 → x = y) ∧ (∃ A c, vs = .slice A x.ss.length c ∧ x.ss.length ≤ c) ∧ ButZ [g] w w'
set_option maxRecDepth 100000 in
set_option maxHeartbeats 4000000 in
theorem readVal_any {lo g : Nat} {s : Sr} (w : World) (h : Rd w lo g s.1 s.2) (hx : s.By) : Calls Tryz.prog 58 #[ptr g] w (ValPost w g (dV s).1) := by
  have hgl := h.lt
  obtain ⟨hlo, hgw⟩ := hgl
  obtain ⟨⟨k, s1⟩, h8⟩ : ∃ r, rU 1 s = r := ⟨_, rfl⟩
  obtain ⟨⟨n, s2⟩, hN⟩ : ∃ r, rN 200 s1 = r := ⟨_, rfl⟩
  have hx1 : s1.By := by have := rU_by (n := 1) hx; rw [h8] at this; exact this
  have hx2 : s2.By := by have := rN_by (most := 200) hx1; rw [hN] at this; exact this
  have hnr : 0 ≤ n ∧ n ≤ 200 := by have := tkNum_rng (most := 200) (e := s1.2) (by decide) hx1; have e : (tkNum 200 s1.1 s1.2).1 = n := congrArg Prod.fst hN; rw [e] at this; exact this
  obtain ⟨m, rfl⟩ := Int.eq_ofNat_of_zero_le hnr.1
  have hm200 : m ≤ 200 := by omega
  have H8 := fun wz (hz : Rd wz lo g s.1 s.2) => u8R_any wz hz hx
  have HN := fun wz (hz : Rd wz lo g s1.1 s1.2) => numR_any wz hz hx1 200 (by decide) (by decide)
  rw [h8] at H8
  rw [hN] at HN
  replace H8 := hide H8
  replace HN := hide HN
  replace h8 := hide h8
  replace hN := hide hN
  clear hx hnr
  obtain ⟨K, hK⟩ : ∃ K, K = ValPost w g (dV s).1 := ⟨_, rfl⟩
  rw [← hK]
  replace hK := hide hK
  go_enter Tryz.func58, Tryz.ntmps58
  go_wp2_with (first
    | ((with_reducible refine wl_box (o := ⟨some 1, _, _, _, _, _⟩) rfl 101 (.tmp 0) _ [ptr g] rfl rfl rfl ?_); intro g1 w1 r1 p1 l1 b1)
    | ((with_reducible refine wl_alloc (o := ⟨some 2, _, _, _, _, _⟩) rfl 26 _ [.int .i64 0, encStr [], nilS, nilS, nilS] rfl zeroVl rfl ?_); intro g2 w2 r2 p2 l2 b2; have r12 := r1.later b2; have c0 := r12.cell (j := 0) rfl))
  have B2 := b1.trans (b2.mono b1.size)
  have hR2 := h.later B2
  have n1 : g1 ≠ g := by omega
  have n2 : g2 ≠ g := by have := b1.size; omega
  refine (H8.out w2 hR2).mono ?_
  rintro en w3 ⟨rfl, hR3, gr3⟩
  have r13 := r12.but (But.gr gr3) n1
  have r23 := r2.but (But.gr gr3) n2
  have U3 : ButZ [g] w w3 := (ButZ.of B2).trans (ButZ.gr gr3)
  clear c0 r1 r2 r12 hR2 h H8
  by_cases k1 : k = 1
  · subst k1
    have Hd := hK.out
    rw [dV_1 h8.out] at Hd
    have HT := fun wz (hz : RdV lo g g1 s1 wz) => rtextR_any wz hz hx1
    have hTl : (rT 512 s1).1.length ≤ 512 := rT_len hx1
    generalize rT 512 s1 = r9 at HT Hd hTl
    obtain ⟨t, s9⟩ := r9
    replace HT := hide HT
    have hTl := hide hTl
    have Hd := hide Hd
    go_wp2_with (first
      | (with_reducible refine wl_build (o := ⟨some 8, _, _, _, _, _⟩) rfl 26 [(0, .tmp 7)] rfl [(0, .int .i64 1)] rfl [.int .i64 1, encStr [], nilS, nilS, nilS] (builtVl0 1) ?_)
      | ((with_reducible refine wl_alloc (o := ⟨some 3, _, _, _, _, _⟩) rfl 26 _ [.int .i64 0, encStr [], nilS, nilS, nilS] rfl zeroVl rfl ?_); intro g3 w4 r3 p3 l3 b3)
      | ((with_reducible refine wl_store_row rfl 26 (.tmp 3) (.tmp 8) g3 26 _ [.int .i64 1, encStr [], nilS, nilS, nilS] rfl rfl rfl r3 (by kernel_rfl) rfl (by simp [Value.oneCell', encStr]) ?_); intro w5 r5 o5; have b5 := b3.trans ((o5.below p3).mono (Nat.le_refl _)); have r15 := r13.later b5; have r25 := r23.later b5; have hR5 := hR3.later b5; have d0 := r5.cell (j := 0) rfl; have c0 := r15.cell (j := 0) rfl; have n3 : g3 ≠ g := Nat.ne_of_gt (Nat.lt_of_lt_of_le hR3.lt.2 p3); have n23 : g2 ≠ g3 := Nat.ne_of_lt (Nat.lt_of_lt_of_le r23.lt p3); have n13 : g1 ≠ g3 := Nat.ne_of_lt (Nat.lt_of_lt_of_le r13.lt p3)))
    refine (HT.out w5 ⟨hR5, r15⟩).mono ?_
    rintro en w6 ⟨rfl, hR6, gr6⟩
    have r36 := r5.but (But.gr gr6) n3
    have r26 := r25.but (But.gr gr6) n2
    go_wp2_with (first
      | ((with_reducible refine wl_store rfl 9 (.tmp 15) (.tmp 14) g3 1 26 [.int .i64 1, encStr [], nilS, nilS, nilS] (encStr t) rfl (by kernel_rfl) rfl rfl r36 (by simp) rfl ?_); intro w7 r7 o7; replace r7 : Row w7 26 g3 [.int .i64 1, encStr t, nilS, nilS, nilS] := r7; have r27 := r26.only o7 n23)
      | (with_reducible refine wl_load_row (o := ⟨some 16, _, _, _, _, _⟩) rfl 26 (.tmp 3) g3 26 [.int .i64 1, encStr t, nilS, nilS, nilS] _ rfl rfl r7 Tryz.underlying26 rfl (by kernel_rfl) ?_)
      | ((with_reducible refine wl_store_row rfl 26 (.tmp 2) (.tmp 16) g2 26 _ [.int .i64 1, encStr t, nilS, nilS, nilS] rfl rfl rfl r27 (by kernel_rfl) rfl (by simp [Value.oneCell', encStr]) ?_); intro w8 r8 o8))
    have U8 : ButZ [g] w w8 := ((((U3.trans (.of b5)).trans (.gr gr6)).only o7 (.inl (Nat.le_trans U3.size p3)))).only o8 (.inl (Nat.le_trans b1.size p2))
    rw [Hd.out]
    refine bodyPost_ret (v := .agg [.int .i64 1, encStr t, nilS, nilS, nilS].toArray) ?_ rfl ⟨⟨1, t, [], [], []⟩, nilS, nilS, nilS, rfl, ⟨SlV.nil _ _, SlV.nil _ _, SlV.nil _ _⟩, fun _ _ _ _ => ⟨SlV.nil _ _, SlV.nil _ _, SlV.nil _ _⟩, ⟨by simp, by simp, by simp⟩, hTl.out, rfl, fun _ _ => rfl, ⟨none, 0, rfl, Nat.le_refl _⟩, U8⟩
    exact results_cell_row Tryz.results58 _ _ g2 26 _ (0, 0) _ rfl r8 Tryz.underlying26 rfl (by kernel_rfl)
  · by_cases k2 : k = 2
    · subst k2
      have Hd := hK.out
      rw [dV_2 h8.out hN.out] at Hd
      replace Hd := hide Hd
      clear k1
      obtain ⟨ip, hip, hiz, his, hib⟩ := pairI
      go_wp2_with (first
        | (with_reducible refine wl_build (o := ⟨some 8, _, _, _, _, _⟩) rfl 26 [(0, .tmp 7)] rfl [(0, .int .i64 2)] rfl [.int .i64 2, encStr [], nilS, nilS, nilS] (builtVl0 2) ?_)
        | ((with_reducible refine wl_alloc (o := ⟨some 3, _, _, _, _, _⟩) rfl 26 _ [.int .i64 0, encStr [], nilS, nilS, nilS] rfl zeroVl rfl ?_); intro g3 w4 r3 p3 l3 b3)
        | ((with_reducible refine wl_store_row rfl 26 (.tmp 3) (.tmp 8) g3 26 _ [.int .i64 2, encStr [], nilS, nilS, nilS] rfl rfl rfl r3 (by kernel_rfl) rfl (by simp [Value.oneCell', encStr]) ?_); intro w5 r5 o5; have b5 := b3.trans ((o5.below p3).mono (Nat.le_refl _)); have r15 := r13.later b5; have r25 := r23.later b5; have hR5 := hR3.later b5; have d0 := r5.cell (j := 0) rfl; have c0 := r15.cell (j := 0) rfl; have n3 : g3 ≠ g := Nat.ne_of_gt (Nat.lt_of_lt_of_le hR3.lt.2 p3); have n23 : g2 ≠ g3 := Nat.ne_of_lt (Nat.lt_of_lt_of_le r23.lt p3); have n13 : g1 ≠ g3 := Nat.ne_of_lt (Nat.lt_of_lt_of_le r13.lt p3)))
      refine (HN.out w5 hR5).mono ?_
      rintro en w6 ⟨rfl, hR6, gr6⟩
      have r36 := r5.but (But.gr gr6) n3
      have r26 := r25.but (But.gr gr6) n2
      have r16 := r15.but (But.gr gr6) n1
      have hmI : (m : Int) ≤ 200 := by omega
      have U6 : ButZ [g] w w6 := (U3.trans (.of b5)).trans (.gr gr6)
      have hgw6 : g < w6.heap.size := hR6.lt.2
      have hg1w6 : g1 < w6.heap.size := r16.lt
      have hg2w6 : g2 < w6.heap.size := r26.lt
      have hg3w6 : g3 < w6.heap.size := r36.lt
      have hgg3 : g < g3 := Nat.lt_of_lt_of_le hR3.lt.2 p3
      clear hR5 hR3 r13 r23 r15 r25 gr3 r3 c0 d0 HN b3 o5
      go_wp2_with fail
      go_loopw [19] (fun iv wr => ∃ (i : Nat) (ov : Value), i ≤ m ∧ iv = .int .i64 (i : Int) ∧ Row wr 26 g3 [.int .i64 2, encStr [], ov, nilS, nilS] ∧ OwnP wr w6.heap.size ov (dP i s2).1 ∧ RdV lo g g1 (dP i s2).2 wr ∧ ButZ [g, g3] w6 wr) (fun iv _ => m - (intOf iv).toNat)
      case atStart => exact ⟨0, nilS, by omega, rfl, r36, World.ownsRow_nil _ _ _ _, ⟨hR6, r16⟩, ⟨rfl, rfl, rfl, Nat.le_refl _, fun _ _ _ => rfl⟩⟩
      case round =>
        clear r36
        obtain ⟨i, ov, hi, rfl, r3, own3, hD, UW⟩ := hrel
        by_cases hlt : i < m
        · have hltI : (i : Int) < (m : Int) := by omega
          have hx3 := dP_by hx2 i
          have hlen := dP_len i s2
          obtain ⟨⟨ls, s3⟩, hd⟩ : ∃ r, dP i s2 = r := ⟨_, rfl⟩
          obtain ⟨⟨f, s4⟩, hf⟩ : ∃ r, rT 512 s3 = r := ⟨_, rfl⟩
          obtain ⟨⟨t, s5⟩, ht⟩ : ∃ r, rT 512 s4 = r := ⟨_, rfl⟩
          have hstep := dP_succ hd hf ht
          have HT := fun wz (hz : RdV lo g g1 s3 wz) => rtextR_any wz hz (by rw [hd] at hx3; exact hx3)
          rw [hf] at HT
          have hx4 : s4.By := by have := rT_by (most := 512) (s := s3) (by rw [hd] at hx3; exact hx3); rw [hf] at this; exact this
          have HC := fun wz (hz : RdV lo g g1 s4 wz) => rtextR_any wz hz hx4
          rw [ht] at HC
          clear ht
          rw [hd] at own3 hD hlen
          simp only at own3 hD hlen
          have hm1 : ls.length + 1 ≤ maxLen := by simp only [maxLen]; omega
          have hm2 : (ls.length + 1) * 32 ≤ 140737488355328 := by omega
          replace HC := hide HC
          replace hstep := hide hstep
          replace hlen := hide hlen
          clear hd hf hx3 hx4
          have hlt9 := hide hlt
          go_wp2_with fail
          refine (HT wr hD).mono ?_
          rintro en w8 ⟨rfl, hR8, gr8⟩
          have r38 := r3.but (But.gr gr8) n3
          have own8 := own_butB own3 (.gr gr8) (fun k hk => by simp only [List.mem_singleton] at hk; omega)
          have r18 := hD.2.but (But.gr gr8) n1
          have U8 : ButZ [g, g3] w6 w8 := UW.trans (ButZ.gr gr8).more
          have hD8 : RdV lo g g1 s4 w8 := ⟨hR8, r18⟩
          have c0 := r38.cell (j := 0) rfl
      
          clear HT r3 own3 hD UW hR8 r18 gr8
          go_wp2_with fail
          rename_i K9 hK9
          refine wp_region_vals [4, 6, 7, 9] (SDVp g1 g3 f t ov) (JD w6 g (RdV lo g g1 s4) (fun v w => v = encStr t ∧ RdV lo g g1 s5 w) (RdV lo g g1 s5) 87 2 ls.length ov (prC ls) [encStr f, encStr t] 26 g3 [.int .i64 2, encStr []] [nilS, nilS]) (by kernel_rfl) (by kernel_rfl) (by kernel_rfl) (by kernel_rfl) (by kernel_rfl) (JD.start (hD8.later (Below.refl _ _).drew) U8 own8 r38) ?obs9 ?he9
          case obs9 =>
            have hglt := hgw6
            have hg1lt := hg1w6
            have hg3lt := hg3w6
            have hg1 := n1
            have hg3 := n3
            have hg13 := n13
            refine ⟨?_, ?_, ?_, ?_, ?_, ?_, ?_, ?_, ?_, ?_, trivial⟩
            · refine .inl ⟨by kernel_rfl, fun L a1 w1 n h => ⟨.pointer (some ⟨g3, 2, none⟩), rfl, ?_⟩⟩
              have e0 : a1.eval (.tmp 3) = _ := h.var n 3 (by kernel_rfl)
              unfold execOp
              simp only [e0]
              go_simp
            · exact .inl ⟨by kernel_rfl, fun L a1 w1 n h => ⟨_, rfl, run_load1 22 (.tmp 27) g3 2 _ rfl Tryz.isAgg22 (h.dep n 0 27 (by kernel_rfl) rfl) ((h.inv.2.2.2.2.2.2.1 ((bits_at rfl).trans (n.later (by kernel_rfl)))).cell (j := 2) rfl)⟩⟩
            · exact .inl ⟨by kernel_rfl, fun L a1 w1 n h => ⟨_, rfl, run_move (.tmp 5) rfl (h.var n 5 (by kernel_rfl))⟩⟩
            · exact .inl ⟨by kernel_rfl, fun L a1 w1 n h => ⟨_, rfl, run_move (.tmp 4) rfl (h.var n 4 (by kernel_rfl))⟩⟩
            · refine .inr fun L a1 w1 n h K hK => ?_
              have no0 : L.getD 4 false = false := n.not_yet
              have no1 : L.getD 6 false = false := n.later (by kernel_rfl)
              have no2 : L.getD 7 false = false := n.later (by kernel_rfl)
              have no3 : L.getD 9 false = false := n.later (by kernel_rfl)
              have hD := h.inv.2.1 ((bits_at rfl).trans no0)
              have y0 : a1.eval (.tmp 30) = cTx g1 := h.dep n 3 30 (by kernel_rfl) rfl
              refine st_callF0 114 (.tmp 30) #[ptr g1] rfl y0 callT1 (HC.out w1 hD) ?_
              rintro e9 w9 ⟨rfl, hR9, gr9⟩
              exact ⟨_, rfl, hK _ w9 rfl (JD.called h.inv (ButZ.gr gr9) ⟨rfl, ⟨hR9, hD.2.but (But.gr gr9) hg1⟩⟩ hglt hg3 ((bits_at rfl).trans no2) ((bits_at rfl).trans no3) rfl no1 no2 no3)⟩
            · refine .inl ⟨by kernel_rfl, fun L a1 w1 n h => ⟨.agg [encStr f, encStr t].toArray, rfl, ?_⟩⟩
              have e0 : a1.eval (.tmp 29) = encStr f := h.dep n 2 29 (by kernel_rfl) rfl
              have e1 : a1.eval (.tmp 31) = encStr t := h.dep n 4 31 (by kernel_rfl) rfl
              exact run_buildX 87 [(0, .tmp 29), (1, .tmp 31)] rfl [(0, encStr f), (1, encStr t)] (by simp only [List.map_cons, List.map_nil, e0, e1]) _ (builtPr f t)
            · refine .inr fun L a1 w1 n h K hK => ?_
              have yes0 : L.getD 4 false = true := n.dep (by kernel_rfl)
              have no2 : L.getD 7 false = false := n.later (by kernel_rfl)
              have no3 : L.getD 9 false = false := n.later (by kernel_rfl)
              have y0 : a1.eval (.tmp 32) = .agg [encStr f, encStr t].toArray := h.dep n 5 32 (by kernel_rfl) rfl
              refine st_build1B 22 (.tmp 32) rfl 87 ip _ [encStr f, encStr t] 2 Tryz.underlying22 hip hiz rfl his rfl (by decide) (by decide) y0 ?_
              intro g9 w9 r9 p9 l9 b9
              exact hK _ w9 trivial (JD.built h.inv b9 rfl r9 (fun u hu => DL1 hu b9) ((bits_at rfl).trans yes0) ((bits_at rfl).trans no2) ((bits_at rfl).trans no3) rfl yes0 no2 no3)
            · refine .inr fun L a1 w1 n h K hK => ?_
              have yes0 : L.getD 4 false = true := n.dep (by kernel_rfl)
              have yes1 : L.getD 6 false = true := n.dep (by kernel_rfl)
              have no2 : L.getD 7 false = false := n.not_yet
              have no3 : L.getD 9 false = false := n.later (by kernel_rfl)
              obtain ⟨g2, eu, r2⟩ := h.inv.2.2.2.1 ((bits_at rfl).trans yes1) ((bits_at rfl).trans no2)
              have own2 := h.inv.2.2.2.2.1 ((bits_at rfl).trans no2)
              have hsz2 := h.inv.1.size
              refine st_append_at (.tmp 28) (.tmp 33) 22 rfl _ 87 ip _ 2 32 Tryz.underlying22 hip hiz his hib rfl (by decide) ov ls.length (prC ls) (h.dep n 1 28 (by kernel_rfl) rfl) own2 ⟨g2, 0, none⟩ 1 1 [encStr f, encStr t] eu rfl (row_src r2) (by simp [Value.oneCell', encStr]) hm1 hm2 hsz2 ?_
              intro v9 w9 own9 gr9 at9
              exact hK _ w9 trivial (JD.appended h.inv gr9 own9 (by decide) (fun u hu b => (fun hu b => DA1 hu b hglt hg1lt) hu b) ((bits_at rfl).trans yes0) ((bits_at rfl).trans no2) ((bits_at rfl).trans no3) yes0 rfl no3)
            · refine .inl ⟨by kernel_rfl, fun L a1 w1 n h => ⟨.pointer (some ⟨g3, 2, none⟩), rfl, ?_⟩⟩
              have e0 : a1.eval (.tmp 3) = _ := h.var n 3 (by kernel_rfl)
              unfold execOp
              simp only [e0]
              go_simp
            · refine .inr fun L a1 w1 n h K hK => ?_
              have yes0 : L.getD 4 false = true := n.dep (by kernel_rfl)
              have yes2 : L.getD 7 false = true := n.dep (by kernel_rfl)
              have no3 : L.getD 9 false = false := n.not_yet
              have own2 := (h.inv.2.2.2.2.2.1 ((bits_at rfl).trans yes2)).1
              refine st_store 22 (.tmp 35) (.tmp 34) g3 2 26 ([.int .i64 2, encStr []] ++ ov :: [nilS, nilS]) (a1.eval (.tmp 34)) rfl (by kernel_rfl) (h.dep n 8 35 (by kernel_rfl) rfl) rfl (h.inv.2.2.2.2.2.2.1 ((bits_at rfl).trans no3)) (by simp) (own_one own2) ?_
              intro w9 r9 o9
              exact hK undef w9 trivial (JD.stored h.inv o9 r9 hg3lt (fun hu => (fun hu o => RdV.only hu o hgg3 hg13) hu o9) ((bits_at rfl).trans yes2) rfl yes0 yes2 rfl)
          case he9 =>
            intro V w9 hV hJ
            obtain ⟨U9, ov9, own9, hD9, r9⟩ := JD.final hJ
            clear hV hJ
            simp only [putOps, List.setIfInBounds_toArray, List.set_cons_succ, List.set_cons_zero, Nat.reduceAdd]
            refine hK9 _ _ ?_
            have own10 : OwnP w9 w6.heap.size ov9 (ls ++ [⟨f, t⟩]) := by rw [OwnP, List.length_append, prC_app]; exact own9
            clear own9 own8 U8 hD8 r38 c0
            go_wp2_with fail
            go_roundw
            case rel => exact ⟨i + 1, ov9, by have := hlt9.out; omega, by go_num, r9, by rw [hstep.out]; exact own10, by rw [hstep.out]; exact hD9, U9⟩
            case measure => have := hlt9.out; simp [intOf]; omega
        · obtain rfl : i = m := by omega
          have hlen := dP_len i s2
          obtain ⟨⟨ls, s3⟩, hd⟩ : ∃ r, dP i s2 = r := ⟨_, rfl⟩
          rw [hd] at own3 hD hlen
          simp only at own3 hD hlen
          have Hd := Hd.out
          rw [Int.toNat_natCast, hd] at Hd
          have onev := own_one own3
          obtain ⟨Ac, cc, hvc, hcc⟩ := own_cap own3
          have one5 : ∀ u ∈ [.int .i64 2, encStr [], ov, nilS, nilS], u.oneCell' = true := by
            intro u hu
            simp only [List.mem_cons, List.not_mem_nil, or_false] at hu
            rcases hu with rfl | rfl | rfl | rfl | rfl <;> first | exact onev | rfl
          have r2w := r26.butz' UW (by simp only [List.mem_cons, List.not_mem_nil, or_false]; omega)
          replace hlen := hide hlen
          replace hvc := hide hvc
          replace Hd := hide Hd
          replace hcc := hide hcc
          clear hd hD
          go_wp2_with (first
            | (with_reducible refine wl_load_row (o := ⟨some 58, _, _, _, _, _⟩) rfl 26 (.tmp 3) g3 26 [.int .i64 2, encStr [], ov, nilS, nilS] _ rfl rfl r3 Tryz.underlying26 rfl (by kernel_rfl) ?_)
            | ((with_reducible refine wl_store_row rfl 26 (.tmp 2) (.tmp 58) g2 26 _ [.int .i64 2, encStr [], ov, nilS, nilS] rfl rfl rfl r2w (by kernel_rfl) rfl one5 ?_); intro w9 r9 o9))
          have own9 := own_butB own3 (S := [g2]) ⟨o9.os, o9.tape, o9.output, Nat.le_of_eq o9.size.symm, fun k _ hn => o9.block k (fun e => hn (by simp [e]))⟩ (fun k hk => by simp only [List.mem_singleton] at hk; omega)
          have U9 : ButZ [g] w w9 := (ButZ.old U6 UW (Nat.le_trans U3.size p3)).only o9 (.inl (Nat.le_trans b1.size p2))
          rw [Hd.out]
          have hl := hlen.out
          refine bodyPost_ret (v := .agg [.int .i64 2, encStr [], ov, nilS, nilS].toArray) ?_ rfl ⟨⟨2, [], ls, [], []⟩, ov, nilS, nilS, rfl, ⟨OwnP.slv own9, SlV.nil _ _, SlV.nil _ _⟩, fun g0 wq h0 hq => (have own9 := own_butB own9 hq (fun k hk => by have := h0 k hk; have := U6.size; omega); ⟨OwnP.slv own9, SlV.nil _ _, SlV.nil _ _⟩), ⟨by show ls.length ≤ 220; omega, by simp, by simp⟩, by simp, rfl, fun _ _ => rfl, ⟨none, 0, rfl, Nat.le_refl _⟩, U9⟩
          exact results_cell_row Tryz.results58 _ _ g2 26 _ (0, 0) _ rfl r9 Tryz.underlying26 rfl (by kernel_rfl)
    · by_cases k5 : k = 5
      · subst k5
        have Hd := hK.out
        rw [dV_5 h8.out hN.out] at Hd
        replace Hd := hide Hd
        clear k1 k2
        obtain ⟨ip, hip, hiz, his, hib⟩ := score_info
        go_wp2_with (first
          | (with_reducible refine wl_build (o := ⟨some 8, _, _, _, _, _⟩) rfl 26 [(0, .tmp 7)] rfl [(0, .int .i64 5)] rfl [.int .i64 5, encStr [], nilS, nilS, nilS] (builtVl0 5) ?_)
          | ((with_reducible refine wl_alloc (o := ⟨some 3, _, _, _, _, _⟩) rfl 26 _ [.int .i64 0, encStr [], nilS, nilS, nilS] rfl zeroVl rfl ?_); intro g3 w4 r3 p3 l3 b3)
          | ((with_reducible refine wl_store_row rfl 26 (.tmp 3) (.tmp 8) g3 26 _ [.int .i64 5, encStr [], nilS, nilS, nilS] rfl rfl rfl r3 (by kernel_rfl) rfl (by simp [Value.oneCell', encStr]) ?_); intro w5 r5 o5; have b5 := b3.trans ((o5.below p3).mono (Nat.le_refl _)); have r15 := r13.later b5; have r25 := r23.later b5; have hR5 := hR3.later b5; have d0 := r5.cell (j := 0) rfl; have c0 := r15.cell (j := 0) rfl; have n3 : g3 ≠ g := Nat.ne_of_gt (Nat.lt_of_lt_of_le hR3.lt.2 p3); have n23 : g2 ≠ g3 := Nat.ne_of_lt (Nat.lt_of_lt_of_le r23.lt p3); have n13 : g1 ≠ g3 := Nat.ne_of_lt (Nat.lt_of_lt_of_le r13.lt p3)))
        refine (HN.out w5 hR5).mono ?_
        rintro en w6 ⟨rfl, hR6, gr6⟩
        have r36 := r5.but (But.gr gr6) n3
        have r26 := r25.but (But.gr gr6) n2
        have r16 := r15.but (But.gr gr6) n1
        have hmI : (m : Int) ≤ 200 := by omega
        have U6 : ButZ [g] w w6 := (U3.trans (.of b5)).trans (.gr gr6)
        have hgw6 : g < w6.heap.size := hR6.lt.2
        have hg1w6 : g1 < w6.heap.size := r16.lt
        have hg2w6 : g2 < w6.heap.size := r26.lt
        have hg3w6 : g3 < w6.heap.size := r36.lt
        have hgg3 : g < g3 := Nat.lt_of_lt_of_le hR3.lt.2 p3
        clear hR5 hR3 r13 r23 r15 r25 gr3 r3 c0 d0 HN b3 o5
        go_wp2_with fail
        go_loopw [19] (fun iv wr => ∃ (i : Nat) (ov : Value), i ≤ m ∧ iv = .int .i64 (i : Int) ∧ Row wr 26 g3 [.int .i64 5, encStr [], nilS, nilS, ov] ∧ OwnS wr w6.heap.size ov (dS i s2).1 ∧ RdV lo g g1 (dS i s2).2 wr ∧ ButZ [g, g3] w6 wr) (fun iv _ => m - (intOf iv).toNat)
        case atStart => exact ⟨0, nilS, by omega, rfl, r36, World.ownsRow_nil _ _ _ _, ⟨hR6, r16⟩, ⟨rfl, rfl, rfl, Nat.le_refl _, fun _ _ _ => rfl⟩⟩
        case round =>
          clear r36
          obtain ⟨i, ov, hi, rfl, r3, own3, hD, UW⟩ := hrel
          by_cases hlt : i < m
          · have hltI : (i : Int) < (m : Int) := by omega
            have hx3 := dS_by hx2 i
            have hlen := dS_len i s2
            obtain ⟨⟨ls, s3⟩, hd⟩ : ∃ r, dS i s2 = r := ⟨_, rfl⟩
            obtain ⟨⟨f, s4⟩, hf⟩ : ∃ r, rT 512 s3 = r := ⟨_, rfl⟩
            obtain ⟨⟨u, s5⟩, ht⟩ : ∃ r, rU 8 s4 = r := ⟨_, rfl⟩
            have hstep := dS_succ hd hf ht
            have HT := fun wz (hz : RdV lo g g1 s3 wz) => rtextR_any wz hz (by rw [hd] at hx3; exact hx3)
            rw [hf] at HT
            have hx4 : s4.By := by have := rT_by (most := 512) (s := s3) (by rw [hd] at hx3; exact hx3); rw [hf] at this; exact this
            have HC := fun wz (hz : RdV lo g g1 s4 wz) => u64R_any wz hz.1 hx4
            rw [ht] at HC
            clear ht
            rw [hd] at own3 hD hlen
            simp only at own3 hD hlen
            have hm1 : ls.length + 1 ≤ maxLen := by simp only [maxLen]; omega
            have hm2 : (ls.length + 1) * 24 ≤ 140737488355328 := by omega
            replace HC := hide HC
            replace hstep := hide hstep
            replace hlen := hide hlen
            clear hd hf hx3 hx4
            have hlt9 := hide hlt
            go_wp2_with fail
            refine (HT wr hD).mono ?_
            rintro en w8 ⟨rfl, hR8, gr8⟩
            have r38 := r3.but (But.gr gr8) n3
            have own8 := own_butB own3 (.gr gr8) (fun k hk => by simp only [List.mem_singleton] at hk; omega)
            have r18 := hD.2.but (But.gr gr8) n1
            have U8 : ButZ [g, g3] w6 w8 := UW.trans (ButZ.gr gr8).more
            have hD8 : RdV lo g g1 s4 w8 := ⟨hR8, r18⟩
            have c0 := r38.cell (j := 0) rfl
        
            clear HT r3 own3 hD UW hR8 r18 gr8
            go_wp2_with fail
            rename_i K9 hK9
            refine wp_region_vals [4, 7, 8, 10] (SDVs g g1 g3 f u ov) (JD w6 g (RdV lo g g1 s4) (fun v w => v = .int .u64 u ∧ RdV lo g g1 s5 w) (RdV lo g g1 s5) 99 2 ls.length ov (scsC ls) [encStr f, .int .i64 (IntKind.i64.wrap u)] 26 g3 [.int .i64 5, encStr [], nilS, nilS] []) (by kernel_rfl) (by kernel_rfl) (by kernel_rfl) (by kernel_rfl) (by kernel_rfl) (JD.start (hD8.later (Below.refl _ _).drew) U8 own8 r38) ?obs9 ?he9
            case obs9 =>
              have hglt := hgw6
              have hg1lt := hg1w6
              have hg3lt := hg3w6
              have hg1 := n1
              have hg3 := n3
              have hg13 := n13
              refine ⟨?_, ?_, ?_, ?_, ?_, ?_, ?_, ?_, ?_, ?_, ?_, trivial⟩
              · refine .inl ⟨by kernel_rfl, fun L a1 w1 n h => ⟨.pointer (some ⟨g3, 4, none⟩), rfl, ?_⟩⟩
                have e0 : a1.eval (.tmp 3) = _ := h.var n 3 (by kernel_rfl)
                unfold execOp
                simp only [e0]
                go_simp
              · exact .inl ⟨by kernel_rfl, fun L a1 w1 n h => ⟨_, rfl, run_load1 24 (.tmp 47) g3 4 _ rfl Tryz.isAgg24 (h.dep n 0 47 (by kernel_rfl) rfl) ((h.inv.2.2.2.2.2.2.1 ((bits_at rfl).trans (n.later (by kernel_rfl)))).cell (j := 4) rfl)⟩⟩
              · exact .inl ⟨by kernel_rfl, fun L a1 w1 n h => ⟨_, rfl, run_move (.tmp 5) rfl (h.var n 5 (by kernel_rfl))⟩⟩
              · exact .inl ⟨by kernel_rfl, fun L a1 w1 n h => ⟨_, rfl, run_load1 101 (.tmp 1) g1 0 _ rfl Tryz.isAgg101 (h.var n 1 (by kernel_rfl)) ((h.inv.2.1 ((bits_at rfl).trans (n.later (by kernel_rfl)))).2.cell rfl)⟩⟩
              · refine .inr fun L a1 w1 n h K hK => ?_
                have no0 : L.getD 4 false = false := n.not_yet
                have no1 : L.getD 7 false = false := n.later (by kernel_rfl)
                have no2 : L.getD 8 false = false := n.later (by kernel_rfl)
                have no3 : L.getD 10 false = false := n.later (by kernel_rfl)
                have hD := h.inv.2.1 ((bits_at rfl).trans no0)
                have y0 : a1.eval (.tmp 50) = ptr g := h.dep n 3 50 (by kernel_rfl) rfl
                refine st_call 112 _ _ #[ptr g] rfl Tryz.call112 (by simp only [List.map_toArray, List.map_cons, List.map_nil, y0]) (HC.out w1 hD) ?_
                rintro e9 w9 ⟨rfl, hR9, gr9⟩
                exact ⟨_, rfl, hK _ w9 rfl (JD.called h.inv (ButZ.gr gr9) ⟨rfl, ⟨hR9, hD.2.but (But.gr gr9) hg1⟩⟩ hglt hg3 ((bits_at rfl).trans no2) ((bits_at rfl).trans no3) rfl no1 no2 no3)⟩
              · refine .inl ⟨by kernel_rfl, fun L a1 w1 n h => ⟨.int .i64 (IntKind.i64.wrap u), rfl, ?_⟩⟩
                have e0 : a1.eval (.tmp 51) = _ := h.dep n 4 51 (by kernel_rfl) rfl
                unfold execOp
                simp only [e0]
                go_simp
              · refine .inl ⟨by kernel_rfl, fun L a1 w1 n h => ⟨.agg [encStr f, .int .i64 (IntKind.i64.wrap u)].toArray, rfl, ?_⟩⟩
                have e0 : a1.eval (.tmp 49) = encStr f := h.dep n 2 49 (by kernel_rfl) rfl
                have e1 : a1.eval (.tmp 52) = .int .i64 (IntKind.i64.wrap u) := h.dep n 5 52 (by kernel_rfl) rfl
                exact run_buildX 99 [(0, .tmp 49), (1, .tmp 52)] rfl [(0, encStr f), (1, .int .i64 (IntKind.i64.wrap u))] (by simp only [List.map_cons, List.map_nil, e0, e1]) _ (builtSc f _)
              · refine .inr fun L a1 w1 n h K hK => ?_
                have yes0 : L.getD 4 false = true := n.dep (by kernel_rfl)
                have no2 : L.getD 8 false = false := n.later (by kernel_rfl)
                have no3 : L.getD 10 false = false := n.later (by kernel_rfl)
                have y0 : a1.eval (.tmp 53) = .agg [encStr f, .int .i64 (IntKind.i64.wrap u)].toArray := h.dep n 6 53 (by kernel_rfl) rfl
                refine st_build1B 24 (.tmp 53) rfl 99 ip _ [encStr f, .int .i64 (IntKind.i64.wrap u)] 2 Tryz.underlying24 hip hiz rfl his rfl (by decide) (by decide) y0 ?_
                intro g9 w9 r9 p9 l9 b9
                exact hK _ w9 trivial (JD.built h.inv b9 rfl r9 (fun u hu => DL1 hu b9) ((bits_at rfl).trans yes0) ((bits_at rfl).trans no2) ((bits_at rfl).trans no3) rfl yes0 no2 no3)
              · refine .inr fun L a1 w1 n h K hK => ?_
                have yes0 : L.getD 4 false = true := n.dep (by kernel_rfl)
                have yes1 : L.getD 7 false = true := n.dep (by kernel_rfl)
                have no2 : L.getD 8 false = false := n.not_yet
                have no3 : L.getD 10 false = false := n.later (by kernel_rfl)
                obtain ⟨g2, eu, r2⟩ := h.inv.2.2.2.1 ((bits_at rfl).trans yes1) ((bits_at rfl).trans no2)
                have own2 := h.inv.2.2.2.2.1 ((bits_at rfl).trans no2)
                have hsz2 := h.inv.1.size
                refine st_append_at (.tmp 48) (.tmp 54) 24 rfl _ 99 ip _ 2 24 Tryz.underlying24 hip hiz his hib rfl (by decide) ov ls.length (scsC ls) (h.dep n 1 48 (by kernel_rfl) rfl) own2 ⟨g2, 0, none⟩ 1 1 [encStr f, .int .i64 (IntKind.i64.wrap u)] eu rfl (row_src r2) (by simp [Value.oneCell', encStr]) hm1 hm2 hsz2 ?_
                intro v9 w9 own9 gr9 at9
                exact hK _ w9 trivial (JD.appended h.inv gr9 own9 (by decide) (fun u hu b => (fun hu b => DA1 hu b hglt hg1lt) hu b) ((bits_at rfl).trans yes0) ((bits_at rfl).trans no2) ((bits_at rfl).trans no3) yes0 rfl no3)
              · refine .inl ⟨by kernel_rfl, fun L a1 w1 n h => ⟨.pointer (some ⟨g3, 4, none⟩), rfl, ?_⟩⟩
                have e0 : a1.eval (.tmp 3) = _ := h.var n 3 (by kernel_rfl)
                unfold execOp
                simp only [e0]
                go_simp
              · refine .inr fun L a1 w1 n h K hK => ?_
                have yes0 : L.getD 4 false = true := n.dep (by kernel_rfl)
                have yes2 : L.getD 8 false = true := n.dep (by kernel_rfl)
                have no3 : L.getD 10 false = false := n.not_yet
                have own2 := (h.inv.2.2.2.2.2.1 ((bits_at rfl).trans yes2)).1
                refine st_store 24 (.tmp 56) (.tmp 55) g3 4 26 ([.int .i64 5, encStr [], nilS, nilS] ++ ov :: []) (a1.eval (.tmp 55)) rfl (by kernel_rfl) (h.dep n 9 56 (by kernel_rfl) rfl) rfl (h.inv.2.2.2.2.2.2.1 ((bits_at rfl).trans no3)) (by simp) (own_one own2) ?_
                intro w9 r9 o9
                exact hK undef w9 trivial (JD.stored h.inv o9 r9 hg3lt (fun hu => (fun hu o => RdV.only hu o hgg3 hg13) hu o9) ((bits_at rfl).trans yes2) rfl yes0 yes2 rfl)
            case he9 =>
              intro V w9 hV hJ
              obtain ⟨U9, ov9, own9, hD9, r9⟩ := JD.final hJ
              clear hV hJ
              simp only [putOps, List.setIfInBounds_toArray, List.set_cons_succ, List.set_cons_zero, Nat.reduceAdd]
              refine hK9 _ _ ?_
              have own10 : OwnS w9 w6.heap.size ov9 (ls ++ [⟨f, IntKind.i64.wrap u⟩]) := by rw [OwnS, List.length_append, scsC_app]; exact own9
              clear own9 own8 U8 hD8 r38 c0
              go_wp2_with fail
              go_roundw
              case rel => exact ⟨i + 1, ov9, by have := hlt9.out; omega, by go_num, r9, by rw [hstep.out]; exact own10, by rw [hstep.out]; exact hD9, U9⟩
              case measure => have := hlt9.out; simp [intOf]; omega
          · obtain rfl : i = m := by omega
            have hlen := dS_len i s2
            obtain ⟨⟨ls, s3⟩, hd⟩ : ∃ r, dS i s2 = r := ⟨_, rfl⟩
            rw [hd] at own3 hD hlen
            simp only at own3 hD hlen
            have Hd := Hd.out
            rw [Int.toNat_natCast, hd] at Hd
            have onev := own_one own3
            obtain ⟨Ac, cc, hvc, hcc⟩ := own_cap own3
            have one5 : ∀ u ∈ [.int .i64 5, encStr [], nilS, nilS, ov], u.oneCell' = true := by
              intro u hu
              simp only [List.mem_cons, List.not_mem_nil, or_false] at hu
              rcases hu with rfl | rfl | rfl | rfl | rfl <;> first | exact onev | rfl
            have r2w := r26.butz' UW (by simp only [List.mem_cons, List.not_mem_nil, or_false]; omega)
            replace hlen := hide hlen
            replace hvc := hide hvc
            replace Hd := hide Hd
            replace hcc := hide hcc
            clear hd hD
            go_wp2_with (first
              | (with_reducible refine wl_load_row (o := ⟨some 58, _, _, _, _, _⟩) rfl 26 (.tmp 3) g3 26 [.int .i64 5, encStr [], nilS, nilS, ov] _ rfl rfl r3 Tryz.underlying26 rfl (by kernel_rfl) ?_)
              | ((with_reducible refine wl_store_row rfl 26 (.tmp 2) (.tmp 58) g2 26 _ [.int .i64 5, encStr [], nilS, nilS, ov] rfl rfl rfl r2w (by kernel_rfl) rfl one5 ?_); intro w9 r9 o9))
            have own9 := own_butB own3 (S := [g2]) ⟨o9.os, o9.tape, o9.output, Nat.le_of_eq o9.size.symm, fun k _ hn => o9.block k (fun e => hn (by simp [e]))⟩ (fun k hk => by simp only [List.mem_singleton] at hk; omega)
            have U9 : ButZ [g] w w9 := (ButZ.old U6 UW (Nat.le_trans U3.size p3)).only o9 (.inl (Nat.le_trans b1.size p2))
            rw [Hd.out]
            have hl := hlen.out
            refine bodyPost_ret (v := .agg [.int .i64 5, encStr [], nilS, nilS, ov].toArray) ?_ rfl ⟨⟨5, [], [], [], ls⟩, nilS, nilS, ov, rfl, ⟨SlV.nil _ _, SlV.nil _ _, OwnS.slvS own9⟩, fun g0 wq h0 hq => (have own9 := own_butB own9 hq (fun k hk => by have := h0 k hk; have := U6.size; omega); ⟨SlV.nil _ _, SlV.nil _ _, OwnS.slvS own9⟩), ⟨by simp, by simp, by show ls.length ≤ 220; omega⟩, by simp, rfl, fun _ _ => rfl, ⟨Ac, cc, hvc.out, hcc.out⟩, U9⟩
            exact results_cell_row Tryz.results58 _ _ g2 26 _ (0, 0) _ rfl r9 Tryz.underlying26 rfl (by kernel_rfl)
      · by_cases k3 : k = 3
        · subst k3
          have Hd := hK.out
          rw [dV_L (.inl rfl) h8.out hN.out] at Hd
          replace Hd := hide Hd
          clear k1 k2 k5
          obtain ⟨ip, hip, hiz, his, hib⟩ := wordI
          go_wp2_with (first
            | (with_reducible refine wl_build (o := ⟨some 8, _, _, _, _, _⟩) rfl 26 [(0, .tmp 7)] rfl [(0, .int .i64 3)] rfl [.int .i64 3, encStr [], nilS, nilS, nilS] (builtVl0 3) ?_)
            | ((with_reducible refine wl_alloc (o := ⟨some 3, _, _, _, _, _⟩) rfl 26 _ [.int .i64 0, encStr [], nilS, nilS, nilS] rfl zeroVl rfl ?_); intro g3 w4 r3 p3 l3 b3)
            | ((with_reducible refine wl_store_row rfl 26 (.tmp 3) (.tmp 8) g3 26 _ [.int .i64 3, encStr [], nilS, nilS, nilS] rfl rfl rfl r3 (by kernel_rfl) rfl (by simp [Value.oneCell', encStr]) ?_); intro w5 r5 o5; have b5 := b3.trans ((o5.below p3).mono (Nat.le_refl _)); have r15 := r13.later b5; have r25 := r23.later b5; have hR5 := hR3.later b5; have d0 := r5.cell (j := 0) rfl; have c0 := r15.cell (j := 0) rfl; have n3 : g3 ≠ g := Nat.ne_of_gt (Nat.lt_of_lt_of_le hR3.lt.2 p3); have n23 : g2 ≠ g3 := Nat.ne_of_lt (Nat.lt_of_lt_of_le r23.lt p3); have n13 : g1 ≠ g3 := Nat.ne_of_lt (Nat.lt_of_lt_of_le r13.lt p3)))
          refine (HN.out w5 hR5).mono ?_
          rintro en w6 ⟨rfl, hR6, gr6⟩
          have r36 := r5.but (But.gr gr6) n3
          have r26 := r25.but (But.gr gr6) n2
          have r16 := r15.but (But.gr gr6) n1
          have hmI : (m : Int) ≤ 200 := by omega
          have U6 : ButZ [g] w w6 := (U3.trans (.of b5)).trans (.gr gr6)
          have hgw6 : g < w6.heap.size := hR6.lt.2
          have hg1w6 : g1 < w6.heap.size := r16.lt
          have hg2w6 : g2 < w6.heap.size := r26.lt
          have hg3w6 : g3 < w6.heap.size := r36.lt
          have hgg3 : g < g3 := Nat.lt_of_lt_of_le hR3.lt.2 p3
          clear hR5 hR3 r13 r23 r15 r25 gr3 r3 c0 d0 HN b3 o5
          go_wp2_with fail
          go_loopw [19] (fun iv wr => ∃ (i : Nat) (ov : Value), i ≤ m ∧ iv = .int .i64 (i : Int) ∧ Row wr 26 g3 [.int .i64 3, encStr [], nilS, ov, nilS] ∧ OwnW wr w6.heap.size ov (dL i s2).1 ∧ RdV lo g g1 (dL i s2).2 wr ∧ ButZ [g, g3] w6 wr) (fun iv _ => m - (intOf iv).toNat)
          case atStart => exact ⟨0, nilS, by omega, rfl, r36, World.ownsRow_nil _ _ _ _, ⟨hR6, r16⟩, ⟨rfl, rfl, rfl, Nat.le_refl _, fun _ _ _ => rfl⟩⟩
          case round =>
            clear r36
            obtain ⟨i, ov, hi, rfl, r3, own3, hD, UW⟩ := hrel
            by_cases hlt : i < m
            · have hltI : (i : Int) < (m : Int) := by omega
              have hx3 := dL_by hx2 i
              have hlen := dL_len i s2
              obtain ⟨⟨ls, s3⟩, hd⟩ : ∃ r, dL i s2 = r := ⟨_, rfl⟩
              obtain ⟨⟨f, s4⟩, hf⟩ : ∃ r, rT 512 s3 = r := ⟨_, rfl⟩
              have hstep := dL_succ hd hf
              have HT := fun wz (hz : RdV lo g g1 s3 wz) => rtextR_any wz hz (by rw [hd] at hx3; exact hx3)
              rw [hf] at HT
              have hx4 : s4.By := by have := rT_by (most := 512) (s := s3) (by rw [hd] at hx3; exact hx3); rw [hf] at this; exact this
          
              rw [hd] at own3 hD hlen
              simp only at own3 hD hlen
              have hm1 : ls.length + 1 ≤ maxLen := by simp only [maxLen]; omega
              have hm2 : (ls.length + 1) * 16 ≤ 140737488355328 := by omega
              have c3 := hide hlt
              replace hstep := hide hstep
              replace hlen := hide hlen
              clear hd hf hx3 hx4
              have hlt9 := hide hlt
              go_wp2_with fail
              refine (HT wr hD).mono ?_
              rintro en w8 ⟨rfl, hR8, gr8⟩
              have r38 := r3.but (But.gr gr8) n3
              have own8 := own_butB own3 (.gr gr8) (fun k hk => by simp only [List.mem_singleton] at hk; omega)
              have r18 := hD.2.but (But.gr gr8) n1
              have U8 : ButZ [g, g3] w6 w8 := UW.trans (ButZ.gr gr8).more
              have hD8 : RdV lo g g1 s4 w8 := ⟨hR8, r18⟩
              have c0 := r38.cell (j := 0) rfl
              have c3 := r38.cell (j := 3) rfl
              have hone : ∀ u ∈ [encStr f], u.oneCell' = true := by simp [Value.oneCell', encStr]
              clear HT r3 own3 hD UW hR8 r18 gr8
              go_wp2_with (first
                | ((with_reducible refine wl_build1 (o := ⟨some 42, _, _, _, _, _⟩) rfl 23 (.tmp 41) rfl 9 ip _ (encStr f) Tryz.underlying23 hip hiz his rfl rfl rfl ?_); intro g10 w10 r10 p10 l10 b10; have own10 := own_later own8 b10; have r310 := r38.later b10; have hs10 := Nat.le_trans U8.size b10.size)
                | ((at_builtin; with_reducible refine wl_append_at (o := ⟨some 43, _, _, _, _, _⟩) rfl (.tmp 40) (.tmp 42) 23 rfl w6.heap.size 9 ip _ 1 16 Tryz.underlying23 hip hiz his hib rfl (by decide) ov _ _ rfl own10 ⟨g10, 0, none⟩ 1 1 [encStr f] rfl rfl (row_src r10) hone hm1 hm2 hs10 ?_); intro v11 w11 own11 gr11 at11; have r311 := r310.grownS own10 (by decide) gr11)
                | ((with_reducible refine wl_store rfl 23 (.tmp 44) (.tmp 43) g3 3 26 [.int .i64 3, encStr [], nilS, ov, nilS] v11 rfl (by kernel_rfl) rfl rfl r311 (by simp) (own_one own11) ?_); intro w12 r12 o12; replace r12 : Row w12 26 g3 [.int .i64 3, encStr [], nilS, v11, nilS] := r12))
              have own12 : OwnW w12 w6.heap.size v11 (ls ++ [f]) := by
                rw [OwnW, List.length_append, List.map_append]
                exact own_butB own11 (S := [g3]) ⟨o12.os, o12.tape, o12.output, Nat.le_of_eq o12.size.symm, fun k _ hn => o12.block k (fun e => hn (by simp [e]))⟩ (fun k hk => by simp only [List.mem_singleton] at hk; omega)
              have U12 : ButZ [g, g3] w6 w12 := ((U8.trans (.of b10)).trans2 gr11 own10).only o12 (.inr (by simp))
              have hD12 : RdV lo g g1 s4 w12 := ((hD8.later b10).low (below_of_gr gr11 own10 hs10) hgw6 hg1w6).only o12 hgg3 n13
              go_roundw
              case rel => exact ⟨i + 1, v11, by have := hlt9.out; omega, by go_num, r12, by rw [hstep.out]; exact own12, by rw [hstep.out]; exact hD12, U12⟩
              case measure => have := hlt9.out; simp [intOf]; omega
            · obtain rfl : i = m := by omega
              have hlen := dL_len i s2
              obtain ⟨⟨ls, s3⟩, hd⟩ : ∃ r, dL i s2 = r := ⟨_, rfl⟩
              rw [hd] at own3 hD hlen
              simp only at own3 hD hlen
              have Hd := Hd.out
              rw [Int.toNat_natCast, hd] at Hd
              have onev := own_one own3
              obtain ⟨Ac, cc, hvc, hcc⟩ := own_cap own3
              have one5 : ∀ u ∈ [.int .i64 3, encStr [], nilS, ov, nilS], u.oneCell' = true := by
                intro u hu
                simp only [List.mem_cons, List.not_mem_nil, or_false] at hu
                rcases hu with rfl | rfl | rfl | rfl | rfl <;> first | exact onev | rfl
              have r2w := r26.butz' UW (by simp only [List.mem_cons, List.not_mem_nil, or_false]; omega)
              replace hlen := hide hlen
              replace hvc := hide hvc
              replace Hd := hide Hd
              replace hcc := hide hcc
              clear hd hD
              go_wp2_with (first
                | (with_reducible refine wl_load_row (o := ⟨some 58, _, _, _, _, _⟩) rfl 26 (.tmp 3) g3 26 [.int .i64 3, encStr [], nilS, ov, nilS] _ rfl rfl r3 Tryz.underlying26 rfl (by kernel_rfl) ?_)
                | ((with_reducible refine wl_store_row rfl 26 (.tmp 2) (.tmp 58) g2 26 _ [.int .i64 3, encStr [], nilS, ov, nilS] rfl rfl rfl r2w (by kernel_rfl) rfl one5 ?_); intro w9 r9 o9))
              have own9 := own_butB own3 (S := [g2]) ⟨o9.os, o9.tape, o9.output, Nat.le_of_eq o9.size.symm, fun k _ hn => o9.block k (fun e => hn (by simp [e]))⟩ (fun k hk => by simp only [List.mem_singleton] at hk; omega)
              have U9 : ButZ [g] w w9 := (ButZ.old U6 UW (Nat.le_trans U3.size p3)).only o9 (.inl (Nat.le_trans b1.size p2))
              rw [Hd.out]
              have hl := hlen.out
              refine bodyPost_ret (v := .agg [.int .i64 3, encStr [], nilS, ov, nilS].toArray) ?_ rfl ⟨⟨3, [], [], ls, []⟩, nilS, ov, nilS, rfl, ⟨SlV.nil _ _, OwnW.slv own9, SlV.nil _ _⟩, fun g0 wq h0 hq => (have own9 := own_butB own9 hq (fun k hk => by have := h0 k hk; have := U6.size; omega); ⟨SlV.nil _ _, OwnW.slv own9, SlV.nil _ _⟩), ⟨by simp, by show ls.length ≤ 220; omega, by simp⟩, by simp, rfl, fun _ _ => rfl, ⟨none, 0, rfl, Nat.le_refl _⟩, U9⟩
              exact results_cell_row Tryz.results58 _ _ g2 26 _ (0, 0) _ rfl r9 Tryz.underlying26 rfl (by kernel_rfl)
        · by_cases k4 : k = 4
          · subst k4
            have Hd := hK.out
            rw [dV_L (.inr rfl) h8.out hN.out] at Hd
            replace Hd := hide Hd
            clear k1 k2 k5 k3
            obtain ⟨ip, hip, hiz, his, hib⟩ := wordI
            go_wp2_with (first
              | (with_reducible refine wl_build (o := ⟨some 8, _, _, _, _, _⟩) rfl 26 [(0, .tmp 7)] rfl [(0, .int .i64 4)] rfl [.int .i64 4, encStr [], nilS, nilS, nilS] (builtVl0 4) ?_)
              | ((with_reducible refine wl_alloc (o := ⟨some 3, _, _, _, _, _⟩) rfl 26 _ [.int .i64 0, encStr [], nilS, nilS, nilS] rfl zeroVl rfl ?_); intro g3 w4 r3 p3 l3 b3)
              | ((with_reducible refine wl_store_row rfl 26 (.tmp 3) (.tmp 8) g3 26 _ [.int .i64 4, encStr [], nilS, nilS, nilS] rfl rfl rfl r3 (by kernel_rfl) rfl (by simp [Value.oneCell', encStr]) ?_); intro w5 r5 o5; have b5 := b3.trans ((o5.below p3).mono (Nat.le_refl _)); have r15 := r13.later b5; have r25 := r23.later b5; have hR5 := hR3.later b5; have d0 := r5.cell (j := 0) rfl; have c0 := r15.cell (j := 0) rfl; have n3 : g3 ≠ g := Nat.ne_of_gt (Nat.lt_of_lt_of_le hR3.lt.2 p3); have n23 : g2 ≠ g3 := Nat.ne_of_lt (Nat.lt_of_lt_of_le r23.lt p3); have n13 : g1 ≠ g3 := Nat.ne_of_lt (Nat.lt_of_lt_of_le r13.lt p3)))
            refine (HN.out w5 hR5).mono ?_
            rintro en w6 ⟨rfl, hR6, gr6⟩
            have r36 := r5.but (But.gr gr6) n3
            have r26 := r25.but (But.gr gr6) n2
            have r16 := r15.but (But.gr gr6) n1
            have hmI : (m : Int) ≤ 200 := by omega
            have U6 : ButZ [g] w w6 := (U3.trans (.of b5)).trans (.gr gr6)
            have hgw6 : g < w6.heap.size := hR6.lt.2
            have hg1w6 : g1 < w6.heap.size := r16.lt
            have hg2w6 : g2 < w6.heap.size := r26.lt
            have hg3w6 : g3 < w6.heap.size := r36.lt
            have hgg3 : g < g3 := Nat.lt_of_lt_of_le hR3.lt.2 p3
            clear hR5 hR3 r13 r23 r15 r25 gr3 r3 c0 d0 HN b3 o5
            go_wp2_with fail
            go_loopw [19] (fun iv wr => ∃ (i : Nat) (ov : Value), i ≤ m ∧ iv = .int .i64 (i : Int) ∧ Row wr 26 g3 [.int .i64 4, encStr [], nilS, ov, nilS] ∧ OwnW wr w6.heap.size ov (dL i s2).1 ∧ RdV lo g g1 (dL i s2).2 wr ∧ ButZ [g, g3] w6 wr) (fun iv _ => m - (intOf iv).toNat)
            case atStart => exact ⟨0, nilS, by omega, rfl, r36, World.ownsRow_nil _ _ _ _, ⟨hR6, r16⟩, ⟨rfl, rfl, rfl, Nat.le_refl _, fun _ _ _ => rfl⟩⟩
            case round =>
              clear r36
              obtain ⟨i, ov, hi, rfl, r3, own3, hD, UW⟩ := hrel
              by_cases hlt : i < m
              · have hltI : (i : Int) < (m : Int) := by omega
                have hx3 := dL_by hx2 i
                have hlen := dL_len i s2
                obtain ⟨⟨ls, s3⟩, hd⟩ : ∃ r, dL i s2 = r := ⟨_, rfl⟩
                obtain ⟨⟨f, s4⟩, hf⟩ : ∃ r, rT 512 s3 = r := ⟨_, rfl⟩
                have hstep := dL_succ hd hf
                have HT := fun wz (hz : RdV lo g g1 s3 wz) => rtextR_any wz hz (by rw [hd] at hx3; exact hx3)
                rw [hf] at HT
                have hx4 : s4.By := by have := rT_by (most := 512) (s := s3) (by rw [hd] at hx3; exact hx3); rw [hf] at this; exact this
            
                rw [hd] at own3 hD hlen
                simp only at own3 hD hlen
                have hm1 : ls.length + 1 ≤ maxLen := by simp only [maxLen]; omega
                have hm2 : (ls.length + 1) * 16 ≤ 140737488355328 := by omega
                have c3 := hide hlt
                replace hstep := hide hstep
                replace hlen := hide hlen
                clear hd hf hx3 hx4
                have hlt9 := hide hlt
                go_wp2_with fail
                refine (HT wr hD).mono ?_
                rintro en w8 ⟨rfl, hR8, gr8⟩
                have r38 := r3.but (But.gr gr8) n3
                have own8 := own_butB own3 (.gr gr8) (fun k hk => by simp only [List.mem_singleton] at hk; omega)
                have r18 := hD.2.but (But.gr gr8) n1
                have U8 : ButZ [g, g3] w6 w8 := UW.trans (ButZ.gr gr8).more
                have hD8 : RdV lo g g1 s4 w8 := ⟨hR8, r18⟩
                have c0 := r38.cell (j := 0) rfl
                have c3 := r38.cell (j := 3) rfl
                have hone : ∀ u ∈ [encStr f], u.oneCell' = true := by simp [Value.oneCell', encStr]
                clear HT r3 own3 hD UW hR8 r18 gr8
                go_wp2_with (first
                  | ((with_reducible refine wl_build1 (o := ⟨some 42, _, _, _, _, _⟩) rfl 23 (.tmp 41) rfl 9 ip _ (encStr f) Tryz.underlying23 hip hiz his rfl rfl rfl ?_); intro g10 w10 r10 p10 l10 b10; have own10 := own_later own8 b10; have r310 := r38.later b10; have hs10 := Nat.le_trans U8.size b10.size)
                  | ((at_builtin; with_reducible refine wl_append_at (o := ⟨some 43, _, _, _, _, _⟩) rfl (.tmp 40) (.tmp 42) 23 rfl w6.heap.size 9 ip _ 1 16 Tryz.underlying23 hip hiz his hib rfl (by decide) ov _ _ rfl own10 ⟨g10, 0, none⟩ 1 1 [encStr f] rfl rfl (row_src r10) hone hm1 hm2 hs10 ?_); intro v11 w11 own11 gr11 at11; have r311 := r310.grownS own10 (by decide) gr11)
                  | ((with_reducible refine wl_store rfl 23 (.tmp 44) (.tmp 43) g3 3 26 [.int .i64 4, encStr [], nilS, ov, nilS] v11 rfl (by kernel_rfl) rfl rfl r311 (by simp) (own_one own11) ?_); intro w12 r12 o12; replace r12 : Row w12 26 g3 [.int .i64 4, encStr [], nilS, v11, nilS] := r12))
                have own12 : OwnW w12 w6.heap.size v11 (ls ++ [f]) := by
                  rw [OwnW, List.length_append, List.map_append]
                  exact own_butB own11 (S := [g3]) ⟨o12.os, o12.tape, o12.output, Nat.le_of_eq o12.size.symm, fun k _ hn => o12.block k (fun e => hn (by simp [e]))⟩ (fun k hk => by simp only [List.mem_singleton] at hk; omega)
                have U12 : ButZ [g, g3] w6 w12 := ((U8.trans (.of b10)).trans2 gr11 own10).only o12 (.inr (by simp))
                have hD12 : RdV lo g g1 s4 w12 := ((hD8.later b10).low (below_of_gr gr11 own10 hs10) hgw6 hg1w6).only o12 hgg3 n13
                go_roundw
                case rel => exact ⟨i + 1, v11, by have := hlt9.out; omega, by go_num, r12, by rw [hstep.out]; exact own12, by rw [hstep.out]; exact hD12, U12⟩
                case measure => have := hlt9.out; simp [intOf]; omega
              · obtain rfl : i = m := by omega
                have hlen := dL_len i s2
                obtain ⟨⟨ls, s3⟩, hd⟩ : ∃ r, dL i s2 = r := ⟨_, rfl⟩
                rw [hd] at own3 hD hlen
                simp only at own3 hD hlen
                have Hd := Hd.out
                rw [Int.toNat_natCast, hd] at Hd
                have onev := own_one own3
                obtain ⟨Ac, cc, hvc, hcc⟩ := own_cap own3
                have one5 : ∀ u ∈ [.int .i64 4, encStr [], nilS, ov, nilS], u.oneCell' = true := by
                  intro u hu
                  simp only [List.mem_cons, List.not_mem_nil, or_false] at hu
                  rcases hu with rfl | rfl | rfl | rfl | rfl <;> first | exact onev | rfl
                have r2w := r26.butz' UW (by simp only [List.mem_cons, List.not_mem_nil, or_false]; omega)
                replace hlen := hide hlen
                replace hvc := hide hvc
                replace Hd := hide Hd
                replace hcc := hide hcc
                clear hd hD
                go_wp2_with (first
                  | (with_reducible refine wl_load_row (o := ⟨some 58, _, _, _, _, _⟩) rfl 26 (.tmp 3) g3 26 [.int .i64 4, encStr [], nilS, ov, nilS] _ rfl rfl r3 Tryz.underlying26 rfl (by kernel_rfl) ?_)
                  | ((with_reducible refine wl_store_row rfl 26 (.tmp 2) (.tmp 58) g2 26 _ [.int .i64 4, encStr [], nilS, ov, nilS] rfl rfl rfl r2w (by kernel_rfl) rfl one5 ?_); intro w9 r9 o9))
                have own9 := own_butB own3 (S := [g2]) ⟨o9.os, o9.tape, o9.output, Nat.le_of_eq o9.size.symm, fun k _ hn => o9.block k (fun e => hn (by simp [e]))⟩ (fun k hk => by simp only [List.mem_singleton] at hk; omega)
                have U9 : ButZ [g] w w9 := (ButZ.old U6 UW (Nat.le_trans U3.size p3)).only o9 (.inl (Nat.le_trans b1.size p2))
                rw [Hd.out]
                have hl := hlen.out
                refine bodyPost_ret (v := .agg [.int .i64 4, encStr [], nilS, ov, nilS].toArray) ?_ rfl ⟨⟨4, [], [], ls, []⟩, nilS, ov, nilS, rfl, ⟨SlV.nil _ _, OwnW.slv own9, SlV.nil _ _⟩, fun g0 wq h0 hq => (have own9 := own_butB own9 hq (fun k hk => by have := h0 k hk; have := U6.size; omega); ⟨SlV.nil _ _, OwnW.slv own9, SlV.nil _ _⟩), ⟨by simp, by show ls.length ≤ 220; omega, by simp⟩, by simp, rfl, fun _ _ => rfl, ⟨none, 0, rfl, Nat.le_refl _⟩, U9⟩
                exact results_cell_row Tryz.results58 _ _ g2 26 _ (0, 0) _ rfl r9 Tryz.underlying26 rfl (by kernel_rfl)
          · have Hk := hide (dV_no h8.out)
            have e1 : (k == 1) = false := beq_eq_false_iff_ne.2 k1
            have e2 : (k == 2) = false := beq_eq_false_iff_ne.2 k2
            have e3 : (k == 3) = false := beq_eq_false_iff_ne.2 k3
            have e4 : (k == 4) = false := beq_eq_false_iff_ne.2 k4
            have e5 : (k == 5) = false := beq_eq_false_iff_ne.2 k5
            replace k1 := hide k1
            replace k2 := hide k2
            replace k3 := hide k3
            replace k4 := hide k4
            replace k5 := hide k5
            go_wp2_with (first
              | (with_reducible refine wl_build (o := ⟨some 8, _, _, _, _, _⟩) rfl 26 [(0, .tmp 7)] rfl [(0, .int .i64 k)] rfl [.int .i64 k, encStr [], nilS, nilS, nilS] (builtVl0 k) ?_)
              | ((with_reducible refine wl_alloc (o := ⟨some 3, _, _, _, _, _⟩) rfl 26 _ [.int .i64 0, encStr [], nilS, nilS, nilS] rfl zeroVl rfl ?_); intro g3 w4 r3 p3 l3 b3)
              | ((with_reducible refine wl_store_row rfl 26 (.tmp 3) (.tmp 8) g3 26 _ [.int .i64 k, encStr [], nilS, nilS, nilS] rfl rfl rfl r3 (by kernel_rfl) rfl (by simp [Value.oneCell', encStr]) ?_); intro w5 r5 o5; have b5 := b3.trans ((o5.below p3).mono (Nat.le_refl _)); have r15 := r13.later b5; have r25 := r23.later b5; have hR5 := hR3.later b5; have d0 := r5.cell (j := 0) rfl; have c0 := r15.cell (j := 0) rfl; have n3 : g3 ≠ g := Nat.ne_of_gt (Nat.lt_of_lt_of_le hR3.lt.2 p3); have n23 : g2 ≠ g3 := Nat.ne_of_lt (Nat.lt_of_lt_of_le r23.lt p3); have n13 : g1 ≠ g3 := Nat.ne_of_lt (Nat.lt_of_lt_of_le r13.lt p3)))
            refine (HN.out w5 hR5).mono ?_
            rintro en w6 ⟨rfl, hR6, gr6⟩
            have r36 := r5.but (But.gr gr6) n3
            have r26 := r25.but (But.gr gr6) n2
            have r16 := r15.but (But.gr gr6) n1
            have hmI : (m : Int) ≤ 200 := by omega
            have U6 : ButZ [g] w w6 := (U3.trans (.of b5)).trans (.gr gr6)
            clear hR5 hR3 r13 r23 r15 r25 gr3 r3 c0 d0 HN b3 o5
            go_wp2_with fail
            go_loopw [19] (fun iv wr => ∃ (i : Nat), i ≤ m ∧ iv = .int .i64 (i : Int) ∧ RdV lo g g1 (dL i s2).2 wr ∧ ButZ [g] w6 wr) (fun iv _ => m - (intOf iv).toNat)
            case atStart => exact ⟨0, by omega, rfl, ⟨hR6, r16⟩, ⟨rfl, rfl, rfl, Nat.le_refl _, fun _ _ _ => rfl⟩⟩
            case round =>
              obtain ⟨i, hi, rfl, hD, UW⟩ := hrel
              have r3w := r36.butz' UW (by simpa using n3)
              have r2w := r26.butz' UW (by simpa using n2)
              clear r36 r26
              by_cases hlt : i < m
              · have hltI : (i : Int) < (m : Int) := by omega
                have hx3 := dL_by hx2 i
                obtain ⟨⟨ls, s3⟩, hd⟩ : ∃ r, dL i s2 = r := ⟨_, rfl⟩
                obtain ⟨⟨f, s4⟩, hf⟩ : ∃ r, rT 512 s3 = r := ⟨_, rfl⟩
                have hstep := dL_succ hd hf
                have HT := fun wz (hz : RdV lo g g1 s3 wz) => rtextR_any wz hz (by rw [hd] at hx3; exact hx3)
                rw [hf] at HT
                rw [hd] at hD
                simp only at hD
                replace hstep := hide hstep
                clear hd hf hx3
                have hlt9 := hide hlt
                go_wp2_with fail
                refine (HT wr hD).mono ?_
                rintro en w8 ⟨rfl, hR8, gr8⟩
                have r38 := r3w.but (But.gr gr8) n3
                have r18 := hD.2.but (But.gr gr8) n1
                have U8 : ButZ [g] w6 w8 := UW.trans (ButZ.gr gr8)
                have c0 := r38.cell (j := 0) rfl
                have c3 := hide hlt
                clear HT r3w hD UW gr8
                go_wp2_with fail
                go_roundw
                case rel => exact ⟨i + 1, by have := hlt9.out; omega, by go_num, by rw [hstep.out]; exact ⟨hR8, r18⟩, U8⟩
                case measure => have := hlt9.out; simp [intOf]; omega
              · obtain rfl : i = m := by omega
                clear hD
                go_wp2_with (first
                  | (with_reducible refine wl_load_row (o := ⟨some 58, _, _, _, _, _⟩) rfl 26 (.tmp 3) g3 26 [.int .i64 k, encStr [], nilS, nilS, nilS] _ rfl rfl r3w Tryz.underlying26 rfl (by kernel_rfl) ?_)
                  | ((with_reducible refine wl_store_row rfl 26 (.tmp 2) (.tmp 58) g2 26 _ [.int .i64 k, encStr [], nilS, nilS, nilS] rfl rfl rfl r2w (by kernel_rfl) rfl (by simp [Value.oneCell', encStr]) ?_); intro w9 r9 o9))
                have U9 : ButZ [g] w w9 := (U6.trans UW).only o9 (.inl (Nat.le_trans b1.size p2))
                have hKK := hK.out
                rw [hKK]
                have q1 := k1.out
                have q2 := k2.out
                have q3 := k3.out
                have q4 := k4.out
                have q5 := k5.out
                refine bodyPost_ret (v := .agg [.int .i64 k, encStr [], nilS, nilS, nilS].toArray) ?_ rfl ⟨⟨k, [], [], [], []⟩, nilS, nilS, nilS, rfl, ⟨SlV.nil _ _, SlV.nil _ _, SlV.nil _ _⟩, fun _ _ _ _ => ⟨SlV.nil _ _, SlV.nil _ _, SlV.nil _ _⟩, ⟨by simp, by simp, by simp⟩, by simp, Hk.out.symm, fun a b => by rw [Hk.out] at a b; omega, ⟨none, 0, rfl, Nat.le_refl _⟩, U9⟩
                exact results_cell_row Tryz.results58 _ _ g2 26 _ (0, 0) _ rfl r9 Tryz.underlying26 rfl (by kernel_rfl)
end Go.Proofs.YtpbkejmffddelaaGreat
