/-
  The law RespCommands. Own work.
-/
import Derived.Test.YthjcmgjmdjihnaaDoorRespR
import Derived.ChangeArms
import Derived.OpenShut
import Derived.SliceStrings
namespace Go.Proofs.YthjcmgjmdjihnaaDoor
open Go.RowKit Go.Shelf Go.ChangeShapes Go.WideShapes
set_option linter.unusedVariables false
set_option linter.unusedSimpArgs false
theorem weightsAll_mem {H : Type} {P : Program} {e : TypeId} : ∀ {l : List (DataW H)} {d : DataW H}, d ∈ l → ∀ n ∈ d.weights P e, n ∈ DataW.weightsAll P e l
  | d' :: r, d, hd, n, hn => by
    simp only [DataW.weightsAll, List.mem_append]
    rcases List.mem_cons.1 hd with rfl | h
    · exact Or.inl hn
    · exact Or.inr (weightsAll_mem h n hn)
section
variable {H : Type} {enc : TypeId × Value → H} {w : World} {spare : Nat → Bool} {held : Bool}
set_option maxRecDepth 100000 in
theorem trod_words {A : Option Addr} {n c : Nat} {d : DataW H} {p : List MemPlace} (h : DataW.Trod enc Tryd.prog w 0 spare held 40 (.slice A n c) d p) (hz0 : ∀ k ∈ d.weights Tryd.prog 40, k ≤ reachBytes) :
    ∃ ws : List Wd, StV w (.slice A n c) ws ∧ ∀ a ∈ ws, a.length ≤ 140737488351232 := by
  obtain ⟨fuel, hf⟩ := h
  rcases open_strings Tryd.underlying40 Tryd.underlying9 (by kernel_rfl) hf with ⟨hcs, _⟩ | ⟨a, len, cap, ss, hcs, _, hl, hm, hz, hx0, hcell, hsz⟩
  · simp [Value.cells] at hcs
    obtain ⟨rfl, rfl, rfl⟩ := hcs
    exact ⟨[], ⟨none, 0, rfl, fun h => absurd h (by simp)⟩, by simp⟩
  · simp [Value.cells] at hcs
    obtain ⟨rfl, rfl, rfl⟩ := hcs
    have hn : n ≤ ss.length := by rw [hz]; split <;> omega
    have hlen : ((ss.take n).map fun s => s.data.toList).length = n := by simp; omega
    refine ⟨(ss.take n).map fun s => s.data.toList, ⟨some a, c, by rw [hlen], fun h0 => ?_⟩, fun a ha => ?_⟩
    case refine_2 =>
      obtain ⟨t, ht, rfl⟩ := List.mem_map.1 ha
      injection hx0 with hx1 hx2
      subst hx1
      refine hz0 _ ?_
      have hm2 : (DataW.lit (.string t.data.toList) : DataW H) ∈ strs (ss.take n) := by unfold strs; exact List.mem_map.2 ⟨t, ht, rfl⟩
      simp only [DataW.weights, Tryd.underlying40, List.mem_cons, List.mem_append]
      exact .inr (.inl (weightsAll_mem hm2 _ (by simp [DataW.weights])))
    rw [hlen] at h0
    obtain ⟨b, off, spot⟩ := a
    have hc0 := hcell 0 (by omega)
    have hspot : spot = none := by simpa [Addr.add] using World.cell?_spot hc0
    subst hspot
    refine ⟨b, off, rfl, ?_, fun i x hx => ?_⟩
    · have := block_lt_of_cell hc0
      simpa [Addr.add] using this
    · have hi : i < n := by have := (List.getElem?_eq_some_iff.1 hx).1; rw [hlen] at this; exact this
      rw [List.getElem?_map, List.getElem?_take, if_pos hi] at hx
      obtain ⟨s, hs, rfl⟩ := Option.map_eq_some_iff.1 hx
      have := hcell i (by omega)
      rw [List.getD, hs] at this
      have e : (⟨b, off, none⟩ : Addr).add i = ⟨b, off + i, none⟩ := by
        by_cases h0 : i = 0
        · subst h0; simp [Addr.add]
        · simp [Addr.add, h0]
      rw [e] at this
      simpa [encStr] using this
end
def smL (l : List Wd) : Nat := (l.map fun a => min a.length 6000).sum
theorem smL_snoc (l : List Wd) (a : Wd) : smL (l ++ [a]) = smL l + min a.length 6000 := by simp [smL]
theorem smL_take_le (l : List Wd) (i : Nat) : smL (l.take i) ≤ smL l := by
  conv => rhs; rw [← List.take_append_drop i l]
  unfold smL
  rw [List.map_append, List.sum_append]
  omega
theorem lineB_len (sg : UInt8) (n : Nat) (h : n ≤ 1000000) : (lineB sg n).length ≤ 25 := by
  unfold lineB
  have := itoa_len (n := (n : Int)) (by omega) (by omega)
  simp; omega
def lenL (l : List Wd) : Nat := (l.map List.length).sum
theorem lenL_cons (a : Wd) (l : List Wd) : lenL (a :: l) = a.length + lenL l := by simp [lenL]
theorem smL_cons (a : Wd) (l : List Wd) : smL (a :: l) = min a.length 6000 + smL l := by simp [smL]
theorem texts_len : ∀ (l : List Wd), (∀ a ∈ l, a.length ≤ 140737488355328) → (textsB l).length ≤ 27 * l.length + lenL l
  | [], h => by simp [textsB]
  | a :: l, h => by
    rw [lenL_cons]
    have ha := h a (by simp)
    have ih := texts_len l fun b hb => h b (by simp [hb])
    have hb : (lineB 36 a.length).length ≤ 25 := by
      unfold lineB
      have := itoa_len (n := (a.length : Int)) (by omega) (by omega)
      simp; omega
    simp only [textsB, textB, List.length_append, List.length_cons, List.length_nil]
    omega
/-- Few words, or one that is long and all others none. -/
theorem one_long : ∀ (l : List Wd), smL l ≤ 6000 → (∀ a ∈ l, a.length ≤ 140737488351232) → (lenL l ≤ 6000 ∧ ∀ a ∈ l, a.length ≤ 6000) ∨ (lenL l ≤ 140737488351232 ∧ ∃ l1 a l2, l = l1 ++ a :: l2 ∧ (∀ b ∈ l1, b = []) ∧ 6000 < a.length)
  | [], h, _ => .inl ⟨by simp [lenL], by simp⟩
  | a :: l, h, hz => by
    rw [smL_cons] at h
    rw [lenL_cons]
    have hnil : ∀ (m : List Wd), smL m = 0 → lenL m = 0 ∧ ∀ b ∈ m, b = [] := by
      intro m
      induction m with
      | nil => intro _; exact ⟨by simp [lenL], by simp⟩
      | cons b m ih =>
        intro hm
        rw [smL_cons] at hm
        have hb : b = [] := List.eq_nil_of_length_eq_zero (by omega)
        obtain ⟨i1, i2⟩ := ih (by omega)
        rw [lenL_cons]
        refine ⟨by rw [hb, i1]; rfl, fun c hc => ?_⟩
        rcases List.mem_cons.1 hc with rfl | hc
        · exact hb
        · exact i2 c hc
    by_cases ha : a.length ≤ 6000
    · rcases one_long l (by omega) (fun b hb => hz b (by simp [hb])) with ⟨h1, h2⟩ | ⟨h1, l1, x, l2, rfl, h2, h3⟩
      · have hle : ∀ (m : List Wd), (∀ b ∈ m, b.length ≤ 6000) → smL m = lenL m := by
          intro m
          induction m with
          | nil => intro _; rfl
          | cons b m ih =>
            intro hm
            rw [smL_cons, lenL_cons, ih fun c hc => hm c (by simp [hc])]
            have := hm b (by simp)
            omega
        have := hle l h2
        refine .inl ⟨by omega, fun b hb => ?_⟩
        rcases List.mem_cons.1 hb with rfl | hb
        · exact ha
        · exact h2 b hb
      · have hs : 6000 ≤ smL (l1 ++ x :: l2) := by
          have e : smL (l1 ++ x :: l2) = smL l1 + smL (x :: l2) := by simp [smL]
          rw [e, smL_cons]; omega
        have ha0 : a = [] := List.eq_nil_of_length_eq_zero (by omega)
        refine .inr ⟨by rw [ha0]; simpa using h1, a :: l1, x, l2, rfl, fun b hb => ?_, h3⟩
        rcases List.mem_cons.1 hb with rfl | hb
        · exact ha0
        · exact h2 b hb
    · obtain ⟨i1, i2⟩ := hnil l (by omega)
      refine .inr ⟨by rw [i1]; exact hz a (by simp), [], a, l, rfl, by simp, by omega⟩
theorem cmdB_len {ws : List Wd} (hn : ws.length ≤ 60) (hz : lenL ws ≤ 140737488351232) (ha : ∀ a ∈ ws, a.length ≤ 140737488351232) : (cmdB ws).length ≤ lenL ws + 1700 := by
  have h1 := texts_len ws (fun a h => Nat.le_trans (ha a h) (by decide))
  have h2 := lineB_len 42 ws.length (by omega)
  unfold cmdB
  rw [List.length_append]
  omega
/-- A word that is too long ends it. -/
theorem cntL_long {sg : UInt8} {most n : Nat} (hn : most < n) (h9 : n ≤ 999999999) (hsg : sg ≠ 10) (r : List UInt8) : cntL sg most (lineB sg n ++ r) = .error 5 := by
  have h := cntL_line (sg := sg) (most := n) (n := n) (Nat.le_refl _) h9 hsg r
  unfold cntL at h ⊢
  split at h
  · cases h
  · rename_i i hq
    split at h
    · rename_i hk
      split at h
      · cases h
      · injection h with h
        injection h with h1 h2
        rw [if_pos hk, if_pos (by omega)]
    · cases h
theorem lineB_big {sg : UInt8} {n i : Nat} (hsg : sg ≠ 10) {r : List UInt8} (hq : nlAt (lineB sg n ++ r) = some i) : (Lib.decDigits n).length + 2 ≤ i := by
  obtain ⟨h1, h2, h3, h4⟩ := nlAt_some hq
  rcases Nat.lt_or_ge i ((Lib.decDigits n).length + 2) with hi | hi
  · exfalso
    unfold lineB at h3
    rw [itoa_ge0] at h3
    have hd := decDigits_all n
    generalize Lib.decDigits n = D at *
    have e : (sg :: (D ++ [13, 10])) ++ r = (sg :: D) ++ (13 :: 10 :: r) := by simp
    rw [e] at h3
    by_cases h0 : i < (sg :: D).length
    · rw [List.getElem?_append_left h0] at h3
      rcases List.mem_cons.1 (List.mem_of_getElem? h3) with h5 | h5
      · exact hsg h5.symm
      · have := hd 10 h5
        simp at this
    · rw [List.getElem?_append_right (by omega)] at h3
      have : i - (sg :: D).length = 0 := by simp at h0 ⊢; omega
      rw [this] at h3
      simp at h3
  · exact hi
theorem cntL_big {n : Nat} (hn : 512 < n) {r : List UInt8} (hr : 16 ≤ r.length) : ∃ e, cntL 36 512 (lineB 36 n ++ r) = .error e ∧ e ≠ 4 := by
  rcases Nat.lt_or_ge 999999999 n with h9 | h9
  · have hd := decDigits_ge 9 n (by omega)
    refine ⟨3, ?_, by decide⟩
    unfold cntL
    cases hq : nlAt (lineB 36 n ++ r) with
    | none => simp only; rw [if_neg (by rw [List.length_append]; omega)]
    | some i =>
      have hb := lineB_big (by decide) hq
      obtain ⟨h1, h2, _, _⟩ := nlAt_some hq
      simp only
      refine if_neg fun hk => ?_
      have h5 := (intL_nine hk.2.2.2.1 hk.2.2.2.2.1).2 hk.2.2.2.2.2
      rw [List.length_drop, List.length_take] at h5
      omega
  · exact ⟨5, cntL_long hn h9 (by decide) r, by decide⟩
theorem words_stop : ∀ (l1 : List Wd) (a : Wd) (l2 : List Wd) (r : Wd), (∀ b ∈ l1, b.length ≤ 512) → 512 < a.length → ∃ e, wordsL (l1 ++ a :: l2).length (textsB (l1 ++ a :: l2) ++ r) = .error e ∧ e ≠ 4
  | [], a, l2, r, _, ha => by
    obtain ⟨e, he, h4⟩ := cntL_big (n := a.length) ha (r := (a ++ [13, 10]) ++ (textsB l2 ++ r)) (by simp; omega)
    refine ⟨e, ?_, h4⟩
    simp only [List.nil_append, List.length_cons, textsB, textB, List.append_assoc] at he ⊢
    exact bindE_err (bindE_err he)
  | b :: l1, a, l2, r, hb, ha => by
    obtain ⟨e, he, h4⟩ := words_stop l1 a l2 r (fun c hc => hb c (by simp [hc])) ha
    refine ⟨e, ?_, h4⟩
    simp only [List.cons_append, List.length_cons, textsB]
    rw [List.append_assoc]
    show bindE wordL (fun a => bindE (wordsL _) fun l q => .ok (a :: l, q)) _ = _
    rw [bindE_ok (wordL_text (hb b (by simp)) _), bindE_err he]
theorem first_long : ∀ (l : List Wd), ¬ (∀ a ∈ l, a.length ≤ 512) → ∃ l1 a l2, l = l1 ++ a :: l2 ∧ (∀ b ∈ l1, b.length ≤ 512) ∧ 512 < a.length
  | [], h => absurd (by simp) h
  | a :: l, h => by
    by_cases ha : a.length ≤ 512
    · obtain ⟨l1, x, l2, rfl, h1, h2⟩ := first_long l (fun hl => h fun b hb => by
        rcases List.mem_cons.1 hb with rfl | hb
        · exact ha
        · exact hl b hb)
      refine ⟨a :: l1, x, l2, rfl, fun b hb => ?_, h2⟩
      rcases List.mem_cons.1 hb with rfl | hb
      · exact ha
      · exact h1 b hb
    · exact ⟨[], a, l, rfl, by simp, by omega⟩
theorem cmd_stop {ws : List Wd} (hn : ws.length ≤ 60) (h : ¬ (ws.length ≤ 40 ∧ ∀ a ∈ ws, a.length ≤ 512)) (r : Wd) : ∃ e, cmdL (cmdB ws ++ r) = .error e ∧ e ≠ 4 := by
  unfold cmdB
  rw [List.append_assoc]
  by_cases h40 : ws.length ≤ 40
  · obtain ⟨l1, a, l2, rfl, h1, h2⟩ := first_long ws (fun hl => h ⟨h40, hl⟩)
    obtain ⟨e, he, h4⟩ := words_stop l1 a l2 r h1 h2
    exact ⟨e, (bindE_ok (cntL_line h40 (by decide) (by decide) _)).trans he, h4⟩
  · exact ⟨5, bindE_err (cntL_long (by omega) (by omega) (by decide) _), by decide⟩
/-- What the law asks of what is parsed. -/
theorem cmd_fits {ws : List Wd} {m : Wd} (hn : ws.length ≤ 60) (hs : smL ws ≤ 6000) (hz : ∀ a ∈ ws, a.length ≤ 140737488351232) (hm : m.length ≤ 6000) :
    (pars (cmdB ws ++ m)).1.length ≤ 100000 ∧ ((cmdB ws ++ m).length ≤ 140737488355328 ∨ ((cmdB ws ++ m).length ≤ 150000000000000 ∧ (pars (cmdB ws ++ m)).2.2 ≠ 0)) ∧ (cmdB ws).length + 50 ≤ 140737488355328 := by
  rcases one_long ws hs hz with ⟨h1, h2⟩ | ⟨h1, l1, a, l2, e, h2, h3⟩
  · have hl := cmdB_len hn (by omega) hz
    have hc := pars_count (cmdB ws ++ m)
    rw [List.length_append] at hc ⊢
    exact ⟨by omega, .inl (by omega), by omega⟩
  · have hl := cmdB_len hn h1 hz
    obtain ⟨e', he, h4⟩ := cmd_stop hn (fun hh => by
      have := hh.2 a (by rw [e]; simp)
      omega) m
    rw [pars_err he, if_neg h4]
    rw [List.length_append]
    have := cmdL_err he
    exact ⟨Nat.zero_le _, .inr ⟨by omega, by show e' ≠ 0; omega⟩, by omega⟩
theorem run_toTxt {P : Program} {w : World} {a : Act} {o : Oper} (src dst e : TypeId) (x : Operand) {B n c : Nat} {A : Option Addr} {l : Wd} (ho : o.op = .convert src dst x) (hx : a.eval x = .slice A n c) (h : Bs w B A n (nb l)) (hs : P.underlying src = some (.slice e)) (he : P.underlying e = some (.int .u8)) (hd : P.underlying dst = some .string) :
    (execOp a.eval o).run P w = .ok (.value (encStr l)) w := by
  have := run_toStr src dst e x ho hx h hs he hd
  rw [nb_str] at this
  exact this
end Go.Proofs.YthjcmgjmdjihnaaDoor
