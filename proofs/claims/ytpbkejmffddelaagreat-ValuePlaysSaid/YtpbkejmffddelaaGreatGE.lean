/-
  Several own texts in one: ValJ, ValK, ValL, ValM, ValN, ValO, ValP, ValQ, ValR. Own work.
-/
import Derived.Test.YtpbkejmffddelaaGreatGD
set_option linter.unusedVariables false
set_option linter.unusedSimpArgs false
/-
  tooLong, Size: what the closures do. Own work.
-/
namespace Go.Proofs.YtpbkejmffddelaaGreat
open Go.RowKit Go.Shelf
/-- Words stay when a block of one value that is no word turns. -/
theorem SlV.but_row {w w' : World} {tv v : Value} {ts : List Nm} {T gc : Nat} (ht : SlV cS 1 w w.heap.size tv ts) (hr : Row w T gc [v]) (hv : ∀ a, v ≠ encStr a) (hu : But gc w w') : SlV cS 1 w' w'.heap.size tv ts := by
  obtain ⟨A, c, e, h⟩ := ht
  refine ⟨A, c, e, fun h0 => ?_⟩
  obtain ⟨g, off, eA, hg, hc⟩ := h h0
  have hne : g ≠ gc := by
    rintro rfl
    obtain ⟨a, ha⟩ : ∃ a, ts[0]? = some a := ⟨_, List.getElem?_eq_getElem h0⟩
    have h1 := hc 0 a ha 0 _ rfl
    rw [cell_of_row w g _ _ T (0, 0) hr] at h1
    rcases Nat.eq_zero_or_pos (off + 0 * 1 + 0) with h2 | h2
    · rw [h2] at h1
      exact hv a (by simpa using h1)
    · rw [Array.getElem?_eq_none (by simp; omega)] at h1
      cases h1
  refine ⟨g, off, eA, Nat.lt_of_lt_of_le hg hu.size, fun i a hi j u hj => ?_⟩
  rw [← hc i a hi j u hj]
  exact World.cell?_of_block (hu.block g hg hne)
def lng (ts : List Nm) : Bool := ts.any fun a => decide (512 < a.length)
theorem lng_more {l : List Nm} {i : Nat} {a : Nm} (h : l[i]? = some a) : lng (l.take (i + 1)) = (lng (l.take i) || decide (512 < a.length)) := by
  rw [take_more h, lng, List.any_append]; simp [lng]
set_option maxRecDepth 100000 in
set_option maxHeartbeats 2000000 in
theorem long1_any (w : World) (A : Option Addr) (n c : Nat) (tv : Value) (ts : List Nm) (gc : Nat) (b : Bool) (hr : Row w 4 gc [.bool b]) (ht : SlV cS 1 w w.heap.size tv ts) (few : ts.length ≤ 441) :
    Calls Tryz.prog 143 #[.slice A n c, tv, ptr gc] w fun e w' => e = .returned (.tuple #[]) ∧ Row w' 4 gc [.bool (b || lng ts)] ∧ But gc w w' := by
  obtain ⟨A5, C5, rfl⟩ := ht.sl
  have fI : (ts.length : Int) ≤ 441 := by omega
  go_enter Tryz.func143, Tryz.ntmps143
  go_wp2_with fail
  go_loopw [9] (fun iv wr => ∃ i : Nat, i ≤ ts.length ∧ iv = .int .i64 (i : Int) ∧ Row wr 4 gc [.bool (b || lng (ts.take i))] ∧ But gc w wr) (fun iv _ => ts.length - (intOf iv).toNat)
  case atStart => exact ⟨0, by omega, rfl, by simpa [lng] using hr, But.refl _ _⟩
  case round =>
    obtain ⟨i, hi, rfl, r, UW⟩ := hrel
    by_cases hlt : i < ts.length
    · have hltI : (i : Int) < (ts.length : Int) := by omega
      obtain ⟨a, ha⟩ : ∃ a, ts[i]? = some a := ⟨_, List.getElem?_eq_getElem hlt⟩
      have hmore := hide (lng_more ha)
      obtain ⟨x1, ga, oa, rfl, hga, hca⟩ := (ht.but_row hr (by simp [encStr]) UW).at ha
      have q0 := hca 0 _ rfl
      rw [Nat.add_zero, Nat.mul_one] at q0
      have hlt9 := hide hlt
      obtain ⟨cb, hcb⟩ : ∃ cb, cb = (b || lng (ts.take i)) := ⟨_, rfl⟩
      rw [← hcb] at r
      have rc := r.cell (j := 0) rfl
      have hst := str_len a
      replace hcb := hide hcb
      clear ha x1 hga hca hr ht
      cases cb with
      | true =>
        have r' : Hid (Row wr 4 gc [.bool true]) := hide r
        clear hst
        go_wp2_with (first
          | (with_reducible refine wl_run (o := ⟨some 11, _, _, _, _, _⟩) rfl (.pointer (some ⟨ga, oa + i * 1, none⟩)) (run_idxO 23 (.tmp 7) (.tmp 9) 9 1 ga oa ts.length C5 i rfl Tryz.underlying23 Tryz.sizeOf9 rfl rfl hlt) ?_)
          | ((with_reducible refine wl_store rfl 4 (.tmp 2) (.tmp 18) gc 0 4 [.bool true] (.bool true) rfl (by kernel_rfl) rfl rfl r (by simp) rfl ?_); intro w7 r7 o7))
        have r8 : Row w7 4 gc [.bool (b || lng (ts.take (i + 1)))] := by rw [hmore.out, ← Bool.or_assoc, ← hcb.out]; exact r7
        have U8 := UW.trans (But.only o7)
        go_roundw
        case rel => exact ⟨i + 1, by have := hlt9.out; omega, by go_num, r8, U8⟩
        case measure => have := hlt9.out; simp [intOf]; omega
      | false =>
        by_cases hd : 512 < a.length
        · have hdI : (512 : Int) < (a.length : Int) := by omega
          have hd9 := hide hd
          clear hd
          go_wp2_with (first
            | (with_reducible refine wl_run (o := ⟨some 11, _, _, _, _, _⟩) rfl (.pointer (some ⟨ga, oa + i * 1, none⟩)) (run_idxO 23 (.tmp 7) (.tmp 9) 9 1 ga oa ts.length C5 i rfl Tryz.underlying23 Tryz.sizeOf9 rfl rfl hlt) ?_)
            | ((with_reducible refine wl_store rfl 4 (.tmp 2) (.tmp 18) gc 0 4 [.bool false] (.bool true) rfl (by kernel_rfl) rfl rfl r (by simp) rfl ?_); intro w7 r7 o7))
          have r8 : Row w7 4 gc [.bool (b || lng (ts.take (i + 1)))] := by rw [hmore.out, ← Bool.or_assoc, ← hcb.out, decide_eq_true hd9.out]; exact r7
          have U8 := UW.trans (But.only o7)
          go_roundw
          case rel => exact ⟨i + 1, by have := hlt9.out; omega, by go_num, r8, U8⟩
          case measure => have := hlt9.out; simp [intOf]; omega
        · have hdI : ¬ (512 : Int) < (a.length : Int) := by omega
          have hd9 := hide hd
          clear hd
          go_wp2_with (first
            | (with_reducible refine wl_run (o := ⟨some 11, _, _, _, _, _⟩) rfl (.pointer (some ⟨ga, oa + i * 1, none⟩)) (run_idxO 23 (.tmp 7) (.tmp 9) 9 1 ga oa ts.length C5 i rfl Tryz.underlying23 Tryz.sizeOf9 rfl rfl hlt) ?_)
            | ((with_reducible refine wl_store rfl 4 (.tmp 2) (.tmp 18) gc 0 4 [.bool false] (.bool false) rfl (by kernel_rfl) rfl rfl r (by simp) rfl ?_); intro w7 r7 o7))
          have r8 : Row w7 4 gc [.bool (b || lng (ts.take (i + 1)))] := by rw [hmore.out, ← Bool.or_assoc, ← hcb.out, decide_eq_false hd9.out]; exact r7
          have U8 := UW.trans (But.only o7)
          go_roundw
          case rel => exact ⟨i + 1, by have := hlt9.out; omega, by go_num, r8, U8⟩
          case measure => have := hlt9.out; simp [intOf]; omega
    · obtain rfl : i = ts.length := by omega
      rw [List.take_length] at r
      go_wp2_with fail
      go_end0
      exact ⟨rfl, r, UW⟩
/-- Whether a text of a value is too long. -/
def lngT (T : List (List Int × List Nm)) : Bool := T.any fun t => lng t.2
theorem lngT_more {l : List (List Int × List Nm)} {i : Nat} {t : List Int × List Nm} (h : l[i]? = some t) : lngT (l.take (i + 1)) = (lngT (l.take i) || lng t.2) := by
  rw [take_more h, lngT, List.any_append]; simp [lngT]
theorem tells_few {y : Vl} {i : Nat} {sc : List Int} {ts : List Nm} (h : y.tells[i]? = some (sc, ts)) : ts.length ≤ 441 := by
  have := List.mem_of_getElem? h
  unfold Vl.tells at this
  simp only [List.mem_append, List.mem_map] at this
  rcases this with h | ⟨p, _, e⟩ | ⟨p, _, e⟩ | ⟨p, _, e⟩
  · split at h
    · rw [List.mem_singleton] at h; cases h; simp
    · cases h
  all_goals (cases e; simp)
theorem zeroB : (Tryz.prog.info? 4).map (fun i => i.zero) = some (some (.bool false)) := by kernel_rfl
theorem zeroI : (Tryz.prog.info? 3).map (fun i => i.zero) = some (some (.int .i64 0)) := by kernel_rfl
theorem call49 : ∀ (xs : Array Value) (w : World), (callFunc 143 xs).run Tryz.prog w = .ok (.enter 143 xs) w := fun xs w => by kernel_rfl
theorem tellLong (y : Vl) (gc : Nat) : Tell 143 #[ptr gc] gc y.tells (fun i w => Row w 4 gc [.bool (lngT (y.tells.take i))]) := by
  refine ⟨call49, fun i w w' h hb => h.later hb, fun i sc ts w A n c tv hT hI hb hs => ?_⟩
  refine (long1_any w A n c tv ts gc _ hI hs (tells_few hT)).mono ?_
  rintro e w' ⟨rfl, r, u⟩
  exact ⟨rfl, by rw [lngT_more hT]; exact r, u⟩
set_option maxRecDepth 100000 in
set_option maxHeartbeats 2000000 in
theorem tooLong_any (w : World) (x : Vl) (vp vl vs : Value) (h : VlM w w.heap.size x vp vl vs) (few : x.own.Few) :
    Calls Tryz.prog 122 #[vlV x vp vl vs] w fun e w' => e = .returned (.bool (lngT x.own.tells)) ∧ Below w.heap.size w w' := by
  have hsz := szVl x vp vl vs
  go_enter Tryz.func122, Tryz.ntmps122
  go_wp2_with (first
    | ((with_reducible refine wl_box (o := ⟨some 1, _, _, _, _, _⟩) rfl 26 (.tmp 0) _ (vlC x vp vl vs) rfl rfl rfl ?_); intro g1 w1 r1 p1 l1 b1)
    | ((with_reducible refine wl_alloc (o := ⟨some 3, _, _, _, _, _⟩) rfl 4 (.bool false) [.bool false] rfl zeroB rfl ?_); intro g3 w3 r3 p3 l3 b3; have r13 := r1.later b3)
    | ((with_reducible refine wl_store rfl 4 (.tmp 3) (.const (.bool false)) g3 0 4 [.bool false] (.bool false) rfl (by kernel_rfl) rfl rfl r3 (by simp) rfl ?_); intro w4 r4 o4; have b4 := b3.trans ((o4.below p3).mono (Nat.le_refl _)); have r14 := r1.later b4; have B4 := b1.trans (b4.mono b1.size))
    | (with_reducible refine wl_load_row (o := ⟨some 4, _, _, _, _, _⟩) rfl 26 (.tmp 1) g1 26 (vlC x vp vl vs) _ rfl rfl r14 Tryz.underlying26 rfl hsz ?_))
  have hg3 : w.heap.size ≤ g3 := Nat.le_trans b1.size p3
  refine (each_any w4 x vp vl vs w.heap.size g3 (h.below B4) hg3 r4.lt few 143 #[ptr g3] _ (tellLong x.own g3) r4).mono ?_
  rintro e w5 ⟨rfl, r5, u5⟩
  have r5 : Row w5 4 g3 [.bool (lngT (x.own.tells.take x.own.tells.length))] := r5
  rw [List.take_length] at r5
  have c5 := r5.cell (j := 0) rfl
  have B5 := B4.trans (u5.below hg3 B4.size)
  go_wp2_with fail
  go_ret
  exact ⟨rfl, B5⟩
end Go.Proofs.YtpbkejmffddelaaGreat

/-
  Size. Own work.
-/
namespace Go.Proofs.YtpbkejmffddelaaGreat
open Go.RowKit Go.Shelf
def tot : List Nm → Nat
  | [] => 0
  | a :: r => a.length + tot r
theorem tot_app (l m : List Nm) : tot (l ++ m) = tot l + tot m := by
  induction l with
  | nil => simp [tot]
  | cons a r ih => simp [tot, ih]; omega
theorem tot_more {l : List Nm} {i : Nat} {a : Nm} (h : l[i]? = some a) : tot (l.take (i + 1)) = tot (l.take i) + a.length := by
  rw [take_more h, tot_app]; simp [tot]
theorem tot_le {l : List Nm} (h : lng l = false) : tot l ≤ 512 * l.length := by
  induction l with
  | nil => simp [tot]
  | cons a r ih =>
    simp only [lng, List.any_cons, Bool.or_eq_false_iff, decide_eq_false_iff_not] at h
    have := ih h.2
    simp only [tot, List.length_cons]; omega
theorem lng_mem {l : List Nm} (h : lng l = false) {a : Nm} (ha : a ∈ l) : a.length ≤ 512 := by
  simp only [lng, List.any_eq_false, decide_eq_true_eq] at h
  have := h a ha; omega
theorem lng_take {l : List Nm} (h : lng l = false) (i : Nat) : lng (l.take i) = false := by
  simp only [lng, List.any_eq_false, decide_eq_true_eq] at h ⊢
  exact fun a ha => h a (List.take_subset _ _ ha)
set_option maxRecDepth 100000 in
set_option maxHeartbeats 2000000 in
theorem size1_any (w : World) (A : Option Addr) (n c : Nat) (tv : Value) (ts : List Nm) (gc : Nat) (s : Int) (hr : Row w 3 gc [.int .i64 s]) (ht : SlV cS 1 w w.heap.size tv ts) (few : ts.length ≤ 441) (hl : lng ts = false) (h0 : 0 ≤ s) (h1 : s ≤ 100000000) (hn : n ≤ 1000) :
    Calls Tryz.prog 101 #[.slice A n c, tv, ptr gc] w fun e w' => e = .returned (.tuple #[]) ∧ Row w' 3 gc [.int .i64 (s + n + tot ts)] ∧ But gc w w' := by
  obtain ⟨A5, C5, rfl⟩ := ht.sl
  have fI : (ts.length : Int) ≤ 441 := by omega
  have hadd := hide (show IntKind.i64.wrap (s + (n : Int)) = s + n from wrap_id (by omega) (by omega) (by omega))
  have rc := hr.cell (j := 0) rfl
  go_enter Tryz.func101, Tryz.ntmps101
  go_wp2_with (first
    | (with_reducible refine wl_run (o := ⟨some 10, _, _, _, _, _⟩) rfl (.int .i64 (s + n)) (run_addZ (.tmp 7) (.tmp 9) rfl rfl rfl hadd.out) ?_)
    | ((with_reducible refine wl_store rfl 3 (.tmp 2) (.tmp 10) gc 0 3 [.int .i64 s] (.int .i64 (s + n)) rfl (by kernel_rfl) rfl rfl hr (by simp) rfl ?_); intro w3 r3 o3))
  replace ht := ht.but_row hr (by simp [encStr]) (But.only o3)
  have U3 := But.only o3
  have r3 : Row w3 3 gc [.int .i64 (s + n)] := r3
  clear rc
  go_loopw [13] (fun iv wr => ∃ i : Nat, i ≤ ts.length ∧ iv = .int .i64 (i : Int) ∧ Row wr 3 gc [.int .i64 (s + n + tot (ts.take i))] ∧ But gc w3 wr) (fun iv _ => ts.length - (intOf iv).toNat)
  case atStart => exact ⟨0, by omega, rfl, by simpa [tot] using r3, But.refl _ _⟩
  case round =>
    obtain ⟨i, hi, rfl, r, UW⟩ := hrel
    by_cases hlt : i < ts.length
    · have hltI : (i : Int) < (ts.length : Int) := by omega
      obtain ⟨a, ha⟩ : ∃ a, ts[i]? = some a := ⟨_, List.getElem?_eq_getElem hlt⟩
      have hmore := hide (tot_more ha)
      have hle := tot_le (lng_take hl i)
      rw [List.length_take] at hle
      have ha5 := lng_mem hl (List.mem_of_getElem? ha)
      obtain ⟨t0, ht0⟩ : ∃ t0, t0 = s + n + tot (ts.take i) := ⟨_, rfl⟩
      have hadd := hide (show IntKind.i64.wrap (t0 + (a.length : Int)) = t0 + a.length from wrap_id (by omega) (by omega) (by omega))
      rw [← ht0] at r
      obtain ⟨x1, ga, oa, rfl, hga, hca⟩ := (ht.but_row r3 (by simp [encStr]) UW).at ha
      have q0 := hca 0 _ rfl
      rw [Nat.add_zero, Nat.mul_one] at q0
      have hlt9 := hide hlt
      have rc := r.cell (j := 0) rfl
      have hst := str_len a
      replace ht0 := hide ht0
      clear ha x1 hga hca hr ht hle ha5
      go_wp2_with (first
        | (with_reducible refine wl_run (o := ⟨some 15, _, _, _, _, _⟩) rfl (.pointer (some ⟨ga, oa + i * 1, none⟩)) (run_idxO 23 (.tmp 11) (.tmp 13) 9 1 ga oa ts.length C5 i rfl Tryz.underlying23 Tryz.sizeOf9 rfl rfl hlt) ?_)
        | (with_reducible refine wl_run (o := ⟨some 20, _, _, _, _, _⟩) rfl (.int .i64 (t0 + a.length)) (run_addZ (.tmp 17) (.tmp 19) rfl rfl rfl hadd.out) ?_)
        | ((with_reducible refine wl_store rfl 3 (.tmp 2) (.tmp 20) gc 0 3 [.int .i64 t0] (.int .i64 (t0 + a.length)) rfl (by kernel_rfl) rfl rfl r (by simp) rfl ?_); intro w7 r7 o7))
      have r8 : Row w7 3 gc [.int .i64 (s + n + tot (ts.take (i + 1)))] := by rw [hmore.out, Int.natCast_add, ← Int.add_assoc, ← ht0.out]; exact r7
      have U8 := UW.trans (But.only o7)
      go_roundw
      case rel => exact ⟨i + 1, by have := hlt9.out; omega, by go_num, r8, U8⟩
      case measure => have := hlt9.out; simp [intOf]; omega
    · obtain rfl : i = ts.length := by omega
      rw [List.take_length] at r
      go_wp2_with fail
      go_end0
      exact ⟨rfl, r, U3.trans UW⟩
def totT : List (List Int × List Nm) → Nat
  | [] => 0
  | t :: r => t.1.length + tot t.2 + totT r
theorem totT_app (l m : List (List Int × List Nm)) : totT (l ++ m) = totT l + totT m := by
  induction l with
  | nil => simp [totT]
  | cons a r ih => simp [totT, ih]; omega
theorem totT_more {l : List (List Int × List Nm)} {i : Nat} {t : List Int × List Nm} (h : l[i]? = some t) : totT (l.take (i + 1)) = totT (l.take i) + (t.1.length + tot t.2) := by
  rw [take_more h, totT_app]; simp [totT]
theorem tells_sm {y : Vl} {t : List Int × List Nm} (h : t ∈ y.tells) : t.1.length ≤ 8 ∧ t.2.length ≤ 2 := by
  unfold Vl.tells at h
  simp only [List.mem_append, List.mem_map] at h
  rcases h with h | ⟨p, _, e⟩ | ⟨p, _, e⟩ | ⟨p, _, e⟩
  · split at h
    · rw [List.mem_singleton] at h; subst h; simp
    · cases h
  · subst e; simp
  · subst e; simp
  · subst e; exact ⟨by simp [highB, lowB_length], by simp⟩
theorem totT_le {T : List (List Int × List Nm)} (hs : ∀ t ∈ T, t.1.length ≤ 8 ∧ t.2.length ≤ 2) (h : lngT T = false) : totT T ≤ 1032 * T.length := by
  induction T with
  | nil => simp [totT]
  | cons t r ih =>
    simp only [lngT, List.any_cons, Bool.or_eq_false_iff] at h
    have h1 := ih (fun x hx => hs x (by simp [hx])) h.2
    have h2 := tot_le h.1
    have h3 := hs t (by simp)
    simp only [totT, List.length_cons]; omega
theorem lngT_take {T : List (List Int × List Nm)} (h : lngT T = false) (i : Nat) : lngT (T.take i) = false := by
  simp only [lngT, List.any_eq_false] at h ⊢
  exact fun a ha => h a (List.take_subset _ _ ha)
theorem lngT_mem {T : List (List Int × List Nm)} (h : lngT T = false) {t : List Int × List Nm} (ht : t ∈ T) : lng t.2 = false := by
  simp only [lngT, List.any_eq_false] at h
  have := h t ht; simpa using this
theorem call28 : ∀ (xs : Array Value) (w : World), (callFunc 101 xs).run Tryz.prog w = .ok (.enter 101 xs) w := fun xs w => by kernel_rfl
theorem Bs.len {w : World} {B n : Nat} {A : Option Addr} {xs : List Int} (h : Bs w B A n xs) : xs.length = n := h.1
theorem tellSize (y : Vl) (gc : Nat) (s : Int) (h0 : 0 ≤ s) (h1 : s ≤ 1000000) (hl : lngT y.tells = false) (hf : y.tells.length ≤ 661) : Tell 101 #[ptr gc] gc y.tells (fun i w => Row w 3 gc [.int .i64 (s + totT (y.tells.take i))]) := by
  refine ⟨call28, fun i w w' h hb => h.later hb, fun i sc ts w A n c tv hT hI hb hs => ?_⟩
  have hm := List.mem_of_getElem? hT
  have h2 : sc.length ≤ 8 ∧ ts.length ≤ 2 := tells_sm hm
  have h3 := totT_le (T := y.tells.take i) (fun t ht => tells_sm (List.take_subset _ _ ht)) (lngT_take hl i)
  rw [List.length_take] at h3
  have hn := hb.len
  refine (size1_any w A n c tv ts gc _ hI hs (tells_few hT) (lngT_mem hl hm) (by omega) (by omega) (by omega)).mono ?_
  rintro e w' ⟨rfl, r, u⟩
  refine ⟨rfl, ?_, u⟩
  show Row w' _ gc [.int .i64 (s + ((totT (y.tells.take (i + 1)) : Nat) : Int))]
  rw [totT_more hT, show (s + ((totT (y.tells.take i) + (sc.length + tot ts) : Nat) : Int)) = s + (totT (y.tells.take i) : Int) + n + tot ts by omega]
  exact r
theorem tells_few2 {y : Vl} (few : y.Few) : y.tells.length ≤ 661 := by
  have h1 := few.p; have h2 := few.l; have h3 := few.s
  unfold Vl.tells
  simp only [List.length_append, List.length_map]
  split <;> simp <;> omega
/-- How much memory a value takes. -/
def Vl.size (y : Vl) : Int := 16 + 8 * ((y.ps.length : Int) + y.ls.length + y.ss.length) + totT y.tells
theorem Vl.Few.fits {x : Vl} (h : x.Few) (ht : x.t.length ≤ 140737488355328) : x.Fits := ⟨by have := h.p; omega, by have := h.l; omega, by have := h.s; omega, ht⟩
set_option maxRecDepth 100000 in
set_option maxHeartbeats 2000000 in
theorem size_any (w : World) (x : Vl) (vp vl vs : Value) (h : VlM w w.heap.size x vp vl vs) (few : x.own.Few) (ft : x.own.t.length ≤ 140737488355328) (hl : lngT x.own.tells = false) :
    Calls Tryz.prog 41 #[vlV x vp vl vs] w fun e w' => e = .returned (.int .i64 x.own.size) ∧ Below w.heap.size w w' := by
  have hsz := szVl x vp vl vs
  have f1 : (x.own.ps.length : Int) ≤ 220 := by have := few.p; omega
  have f2 : (x.own.ls.length : Int) ≤ 220 := by have := few.l; omega
  have f3 : (x.own.ss.length : Int) ≤ 220 := by have := few.s; omega
  obtain ⟨q, hq⟩ : ∃ q, q = (x.own.ps.length : Int) + x.own.ls.length + x.own.ss.length := ⟨_, rfl⟩
  have hmul := hide (show IntKind.i64.wrap ((8 : Int) * q) = 8 * q from wrap_id (by omega) (by omega) (by omega))
  have hadd := hide (show IntKind.i64.wrap ((16 : Int) + 8 * q) = 16 + 8 * q from wrap_id (by omega) (by omega) (by omega))
  have hb0 : 0 ≤ 16 + 8 * q := by omega
  have hb1 : 16 + 8 * q ≤ 1000000 := by omega
  have HC := fun (w1 : World) (hb : Below w.heap.size w w1) => count_any w1 x vp vl vs (h.later hb) (few.fits ft)
  rw [← hq] at HC
  have hE : x.own.size = (16 + 8 * q) + totT x.own.tells := by rw [hq]; rfl
  rw [hE]
  replace hE := hide hE
  replace hq := hide hq
  replace HC := hide HC
  replace hb0 := hide hb0
  replace hb1 := hide hb1
  go_enter Tryz.func41, Tryz.ntmps41
  go_wp2_with (first
    | ((with_reducible refine wl_box (o := ⟨some 1, _, _, _, _, _⟩) rfl 26 (.tmp 0) _ (vlC x vp vl vs) rfl rfl rfl ?_); intro g1 w1 r1 p1 l1 b1)
    | (with_reducible refine wl_load_row (o := ⟨some 4, _, _, _, _, _⟩) rfl 26 (.tmp 1) g1 26 (vlC x vp vl vs) _ rfl rfl r1 Tryz.underlying26 rfl hsz ?_))
  refine (HC.out w1 b1).mono ?_
  rintro e w2 ⟨rfl, b2⟩
  have B2 := b1.trans (b2.mono b1.size)
  have r12 := r1.later b2
  go_wp2_with (first
    | (with_reducible refine wl_run (o := ⟨some 6, _, _, _, _, _⟩) rfl (.int .i64 (8 * q)) (run_mulZ _ (.tmp 5) rfl rfl rfl hmul.out) ?_)
    | (with_reducible refine wl_run (o := ⟨some 7, _, _, _, _, _⟩) rfl (.int .i64 (16 + 8 * q)) (run_addZ _ (.tmp 6) rfl rfl rfl hadd.out) ?_)
    | ((with_reducible refine wl_alloc (o := ⟨some 3, _, _, _, _, _⟩) rfl 3 (.int .i64 0) [.int .i64 0] rfl zeroI rfl ?_); intro g3 w3 r3 p3 l3 b3)
    | ((with_reducible refine wl_store rfl 3 (.tmp 3) (.tmp 7) g3 0 3 [.int .i64 0] (.int .i64 (16 + 8 * q)) rfl (by kernel_rfl) rfl rfl r3 (by simp) rfl ?_); intro w4 r4 o4; have b4 := b3.trans ((o4.below p3).mono (Nat.le_refl _)); have r14 := r12.later b4; have B4 := B2.trans (b4.mono B2.size))
    | (with_reducible refine wl_load_row (o := ⟨some 8, _, _, _, _, _⟩) rfl 26 (.tmp 1) g1 26 (vlC x vp vl vs) _ rfl rfl r14 Tryz.underlying26 rfl hsz ?_))
  have hg3 : w.heap.size ≤ g3 := Nat.le_trans B2.size p3
  have r4 : Row w4 3 g3 [.int .i64 (16 + 8 * q + ((totT (x.own.tells.take 0) : Nat) : Int))] := by
    show Row w4 3 g3 [.int .i64 (16 + 8 * q + ((0 : Nat) : Int))]
    rw [Int.natCast_zero, Int.add_zero]; exact r4
  refine (each_any w4 x vp vl vs w.heap.size g3 (h.below B4) hg3 r4.lt few 101 #[ptr g3] _ (tellSize x.own g3 (16 + 8 * q) hb0.out hb1.out hl (tells_few2 few)) r4).mono ?_
  rintro e w5 ⟨rfl, r5, u5⟩
  have r5 : Row w5 3 g3 [.int .i64 (16 + 8 * q + ((totT (x.own.tells.take x.own.tells.length) : Nat) : Int))] := r5
  rw [List.take_length] at r5
  have c5 := r5.cell (j := 0) rfl
  have B5 := B4.trans (u5.below hg3 B4.size)
  go_wp2_with fail
  go_ret
  exact ⟨rfl, B5⟩
end Go.Proofs.YtpbkejmffddelaaGreat

/-
  rises: whether each element stands ahead of the next one. Own work.
-/
namespace Go.Proofs.YtpbkejmffddelaaGreat
open Go.RowKit Go.Shelf
def riseB {α : Type} (R : α → α → Bool) : List α → Bool
  | a :: b :: r => R a b && riseB R (b :: r)
  | _ => true
theorem riseB_snoc {α : Type} (R : α → α → Bool) (a b : α) : ∀ l : List α, riseB R (l ++ [a, b]) = (riseB R (l ++ [a]) && R a b)
  | [] => by simp [riseB]
  | [x] => by simp [riseB]
  | x :: y :: r => by
    have := riseB_snoc R a b (y :: r)
    simp only [List.cons_append, riseB] at this ⊢
    rw [this, Bool.and_assoc]
theorem riseB_more {α : Type} {R : α → α → Bool} {l : List α} {i : Nat} {a b : α} (ha : l[i]? = some a) (hb : l[i + 1]? = some b) : riseB R (l.take (i + 2)) = (riseB R (l.take (i + 1)) && R a b) := by
  rw [take_more hb, take_more ha, List.append_assoc]
  exact riseB_snoc R a b _
theorem riseB_take {α : Type} {R : α → α → Bool} {l : List α} (h : riseB R l = true) (i : Nat) : riseB R (l.take i) = true := by
  induction l generalizing i with
  | nil => simp [riseB]
  | cons a r ih =>
    cases r with
    | nil => cases i <;> simp [riseB]
    | cons b s =>
      simp only [riseB, Bool.and_eq_true] at h
      match i with
      | 0 => rfl
      | 1 => rfl
      | j + 2 =>
        have := ih h.2 (j + 1)
        simp only [List.take_succ_cons, riseB, Bool.and_eq_true] at this ⊢
        exact ⟨h.1, this⟩
def SrisesP_any (f : FuncId) (ga oa i j c : Nat) (l : List Pr) (a b : Pr) (rr : Bool) (opn : Nat) (v : Value) : Prop :=
  match opn with
  | 0 => v = .func (.func f) #[] #[]
  | 1 | 6 => v = .slice (some ⟨ga, oa, none⟩) l.length c
  | 2 | 7 => v = .int .i64 (j : Int)
  | 3 => v = .int .i64 (i : Int)
  | 4 => v = .pointer (some ⟨ga, oa + i * 2, none⟩)
  | 5 => v = .agg a.cells.toArray
  | 8 => v = .pointer (some ⟨ga, oa + j * 2, none⟩)
  | 9 => v = .agg b.cells.toArray
  | 10 => v = .bool rr
  | 11 => v = .bool (!rr)
  | _ => True

set_option maxRecDepth 100000 in
set_option maxHeartbeats 1000000 in
theorem risesP_any (w : World) (v : Value) (l : List Pr) (f : FuncId) (RR : Pr → Pr → Bool) (h : SlV Pr.cells 2 w w.heap.size v l) (hl : l.length ≤ 1000000) (hf : ∀ (xs : Array Value) (w : World), (callFunc f xs).run Tryz.prog w = .ok (.enter f xs) w)
    (HC : ∀ (w : World) (a b : Pr), Calls Tryz.prog f (#[(.agg a.cells.toArray), (.agg b.cells.toArray)] ++ #[]) w fun e w' => e = .returned (.bool (RR a b)) ∧ Below w.heap.size w w') :
    Calls Tryz.prog 144 #[v, .func (.func f) #[] #[]] w fun e w' => e = .returned (.bool (riseB RR l)) ∧ Below w.heap.size w w' := by
  obtain ⟨A, c, rfl⟩ := h.sl
  have hlI : (l.length : Int) ≤ 1000000 := by omega
  replace hf := hide hf
  replace HC := hide HC
  go_enter Tryz.func144, Tryz.ntmps144
  go_wp2_with fail
  go_loopw [5] (fun iv wr => ∃ j : Nat, 1 ≤ j ∧ j ≤ l.length + 1 ∧ iv = .int .i64 (j : Int) ∧ riseB RR (l.take j) = true ∧ Below w.heap.size w wr) (fun iv _ => l.length + 1 - (intOf iv).toNat)
  case atStart => exact ⟨1, by omega, by omega, rfl, by cases l <;> simp [riseB], Below.refl _ _⟩
  case round =>
    obtain ⟨j, hj1, hi, rfl, hsame, BW⟩ := hrel
    have hwb := BW.size
    by_cases hlt : j < l.length
    · have hltI : (j : Int) < (l.length : Int) := by omega
      obtain ⟨i, hij⟩ : ∃ i, i + 1 = j := ⟨j - 1, by omega⟩
      have hlt0 : i < l.length := by omega
      obtain ⟨a, ha⟩ : ∃ a, l[i]? = some a := ⟨_, List.getElem?_eq_getElem hlt0⟩
      obtain ⟨b, hb⟩ : ∃ b, l[j]? = some b := ⟨_, List.getElem?_eq_getElem hlt⟩
      have hmore := hide (show riseB RR (l.take (j + 1)) = (riseB RR (l.take j) && RR a b) by subst hij; exact riseB_more ha hb)
      obtain ⟨x1, ga, oa, rfl, hga, hca⟩ := h.at ha
      obtain ⟨x2, ga2, oa2, ee, hgb, hcb⟩ := h.at hb
      obtain ⟨rfl, rfl⟩ : ga = ga2 ∧ oa = oa2 := by injection ee with ee; injection ee with e1 e2; exact ⟨e1, e2⟩
      clear x1 x2 ee
      have hac : ∀ w1, Below wr.heap.size wr w1 → ∀ q u, a.cells[q]? = some u → w1.cell? ⟨ga, (oa + i * 2) + q, none⟩ = some u := fun w1 hb1 q u hj => ((BW.trans (hb1.mono hwb)).cell (p := ⟨ga, _, none⟩) hga).trans (hca q u hj)
      have hbc : ∀ w1, Below wr.heap.size wr w1 → ∀ q u, b.cells[q]? = some u → w1.cell? ⟨ga, (oa + j * 2) + q, none⟩ = some u := fun w1 hb1 q u hj => ((BW.trans (hb1.mono hwb)).cell (p := ⟨ga, _, none⟩) hga).trans (hcb q u hj)
      clear hca hcb hga hgb ha hb
      have hsub := hide (show IntKind.i64.wrap ((j : Int) - 1) = (i : Int) from wrap_id (by omega) (by omega) (by omega))
      replace hij := hide hij
      replace hj1 := hide hj1
      obtain ⟨rr, hrr⟩ : ∃ rr, rr = RR a b := ⟨_, rfl⟩
      have HC0 := HC
      replace HC : Hid (∀ (w : World) (a9 b9 : Pr), a9 = a → b9 = b → Calls Tryz.prog f (#[(.agg a9.cells.toArray), (.agg b9.cells.toArray)] ++ #[]) w fun e w' => e = .returned (.bool rr) ∧ Below w.heap.size w w') := hide (by intro w a9 b9 e1 e2; subst e1 e2; rw [hrr]; exact HC0.out w a9 b9)
      replace hlt := hide hlt
      replace hlt0 := hide hlt0
      replace hsame := hide hsame
      replace hrr := hide hrr
      replace hi := hide hi
      go_wp2_with fail
      rename_i K6 hK6
      refine wp_region_vals [10] (SrisesP_any f ga oa i j c l a b rr) (fun _ _ wz => Below wr.heap.size wr wz) (by kernel_rfl) (by kernel_rfl) (by kernel_rfl) (by kernel_rfl) (by kernel_rfl) ((Below.refl _ _).drew) ?obs6 ?he6
      case obs6 =>
        refine ⟨?_, ?_, ?_, ?_, ?_, ?_, ?_, ?_, ?_, ?_, ?_, ?_, trivial⟩
        · exact .inl ⟨by kernel_rfl, fun L a1 w1 n h => ⟨_, rfl, run_move (.tmp 1) rfl (h.var n 1 (by kernel_rfl))⟩⟩
        · exact .inl ⟨by kernel_rfl, fun L a1 w1 n h => ⟨_, rfl, run_move (.tmp 0) rfl (h.var n 0 (by kernel_rfl))⟩⟩
        · exact .inl ⟨by kernel_rfl, fun L a1 w1 n h => ⟨_, rfl, run_move (.tmp 5) rfl (h.var n 5 (by kernel_rfl))⟩⟩
        · exact .inl ⟨by kernel_rfl, fun L a1 w1 n h => ⟨_, rfl, run_subZ (.tmp 14) (.const (.int .i64 1)) rfl (h.dep n 2 14 (by kernel_rfl) rfl) rfl hsub.out⟩⟩
        · exact .inl ⟨by kernel_rfl, fun L a1 w1 n h => ⟨_, rfl, run_idxO 22 (.tmp 13) (.tmp 15) 87 2 ga oa _ _ i rfl Tryz.underlying22 Tryz.sizeOf87 (h.dep n 1 13 (by kernel_rfl) rfl) (h.dep n 3 15 (by kernel_rfl) rfl) hlt0.out⟩⟩
        · exact .inl ⟨by kernel_rfl, fun L a1 w1 n h => ⟨_, rfl, run_loadCs 87 (.tmp 16) ga (oa + i * 2) a.cells _ rfl (h.dep n 4 16 (by kernel_rfl) rfl) (hac w1 h.inv) Tryz.underlying87 rfl (szPr a)⟩⟩
        · exact .inl ⟨by kernel_rfl, fun L a1 w1 n h => ⟨_, rfl, run_move (.tmp 0) rfl (h.var n 0 (by kernel_rfl))⟩⟩
        · exact .inl ⟨by kernel_rfl, fun L a1 w1 n h => ⟨_, rfl, run_move (.tmp 5) rfl (h.var n 5 (by kernel_rfl))⟩⟩
        · exact .inl ⟨by kernel_rfl, fun L a1 w1 n h => ⟨_, rfl, run_idxO 22 (.tmp 18) (.tmp 19) 87 2 ga oa _ _ j rfl Tryz.underlying22 Tryz.sizeOf87 (h.dep n 6 18 (by kernel_rfl) rfl) (h.dep n 7 19 (by kernel_rfl) rfl) hlt.out⟩⟩
        · exact .inl ⟨by kernel_rfl, fun L a1 w1 n h => ⟨_, rfl, run_loadCs 87 (.tmp 20) ga (oa + j * 2) b.cells _ rfl (h.dep n 8 20 (by kernel_rfl) rfl) (hbc w1 h.inv) Tryz.underlying87 rfl (szPr b)⟩⟩
        · refine .inr fun L a1 w1 n h K hK => ?_
          refine st_callF2 f (.tmp 12) (.tmp 17) (.tmp 21) _ _ (.agg a.cells.toArray) (.agg b.cells.toArray) #[] rfl (h.dep n 0 12 (by kernel_rfl) rfl) (h.dep n 5 17 (by kernel_rfl) rfl) (h.dep n 9 21 (by kernel_rfl) rfl) hf.out (HC.out w1 a b rfl rfl) ?_
          rintro e w3 ⟨rfl, b3⟩
          exact ⟨_, rfl, hK _ w3 rfl (h.inv.trans (b3.mono h.inv.size))⟩
        · exact .inl ⟨by kernel_rfl, fun L a1 w1 n h => ⟨_, rfl, run_notB (.tmp 22) rr rfl (h.dep n 10 22 (by kernel_rfl) rfl) rfl⟩⟩
      case he6 =>
        intro V w11 hV hJ
        have b11 : Below wr.heap.size wr w11 := hJ
        have hE : V 11 = .bool (!rr) := hV 11 _ rfl
        clear hV hJ
        simp only [putOps, List.setIfInBounds_toArray, List.set_cons_succ, List.set_cons_zero, Nat.reduceAdd]
        rw [hE]
        refine hK6 _ _ ?_
        have B11 := BW.trans (b11.mono hwb)
        cases rr with
        | false =>
          go_wp2_with fail
          go_ret
          have hx : riseB RR l = false := by
            cases hq : riseB RR l with
            | false => rfl
            | true =>
              have := riseB_take hq (j + 1)
              rw [hmore.out, ← hrr.out, Bool.and_false] at this; cases this
          exact ⟨by rw [hx]; rfl, B11⟩
        | true =>
          go_wp2_with fail
          go_roundw
          case rel =>
            exact ⟨j + 1, by omega, by have := hlt.out; omega, by go_num, by rw [hmore.out, hsame.out, ← hrr.out]; rfl, B11⟩
          case measure => have := hlt.out; simp [intOf]; omega
    · have hno : ¬ (j : Int) < (l.length : Int) := by omega
      have hx : riseB RR l = true := by
        rw [List.take_of_length_le (by omega)] at hsame; exact hsame
      replace hlt := hide hlt
      replace hx := hide hx
      clear hsame
      go_wp2_with fail
      go_ret
      exact ⟨by rw [hx.out]; rfl, BW⟩

def SrisesW_any (f : FuncId) (ga oa i j c : Nat) (l : List Nm) (a b : Nm) (rr : Bool) (opn : Nat) (v : Value) : Prop :=
  match opn with
  | 0 => v = .func (.func f) #[] #[]
  | 1 | 6 => v = .slice (some ⟨ga, oa, none⟩) l.length c
  | 2 | 7 => v = .int .i64 (j : Int)
  | 3 => v = .int .i64 (i : Int)
  | 4 => v = .pointer (some ⟨ga, oa + i * 1, none⟩)
  | 5 => v = encStr a
  | 8 => v = .pointer (some ⟨ga, oa + j * 1, none⟩)
  | 9 => v = encStr b
  | 10 => v = .bool rr
  | 11 => v = .bool (!rr)
  | _ => True

set_option maxRecDepth 100000 in
set_option maxHeartbeats 1000000 in
theorem risesW_any (w : World) (v : Value) (l : List Nm) (f : FuncId) (RR : Nm → Nm → Bool) (h : SlV cS 1 w w.heap.size v l) (hl : l.length ≤ 1000000) (hf : ∀ (xs : Array Value) (w : World), (callFunc f xs).run Tryz.prog w = .ok (.enter f xs) w)
    (HC : ∀ (w : World) (a b : Nm), Calls Tryz.prog f (#[(encStr a), (encStr b)] ++ #[]) w fun e w' => e = .returned (.bool (RR a b)) ∧ Below w.heap.size w w') :
    Calls Tryz.prog 146 #[v, .func (.func f) #[] #[]] w fun e w' => e = .returned (.bool (riseB RR l)) ∧ Below w.heap.size w w' := by
  obtain ⟨A, c, rfl⟩ := h.sl
  have hlI : (l.length : Int) ≤ 1000000 := by omega
  replace hf := hide hf
  replace HC := hide HC
  go_enter Tryz.func146, Tryz.ntmps146
  go_wp2_with fail
  go_loopw [5] (fun iv wr => ∃ j : Nat, 1 ≤ j ∧ j ≤ l.length + 1 ∧ iv = .int .i64 (j : Int) ∧ riseB RR (l.take j) = true ∧ Below w.heap.size w wr) (fun iv _ => l.length + 1 - (intOf iv).toNat)
  case atStart => exact ⟨1, by omega, by omega, rfl, by cases l <;> simp [riseB], Below.refl _ _⟩
  case round =>
    obtain ⟨j, hj1, hi, rfl, hsame, BW⟩ := hrel
    have hwb := BW.size
    by_cases hlt : j < l.length
    · have hltI : (j : Int) < (l.length : Int) := by omega
      obtain ⟨i, hij⟩ : ∃ i, i + 1 = j := ⟨j - 1, by omega⟩
      have hlt0 : i < l.length := by omega
      obtain ⟨a, ha⟩ : ∃ a, l[i]? = some a := ⟨_, List.getElem?_eq_getElem hlt0⟩
      obtain ⟨b, hb⟩ : ∃ b, l[j]? = some b := ⟨_, List.getElem?_eq_getElem hlt⟩
      have hmore := hide (show riseB RR (l.take (j + 1)) = (riseB RR (l.take j) && RR a b) by subst hij; exact riseB_more ha hb)
      obtain ⟨x1, ga, oa, rfl, hga, hca⟩ := h.at ha
      obtain ⟨x2, ga2, oa2, ee, hgb, hcb⟩ := h.at hb
      obtain ⟨rfl, rfl⟩ : ga = ga2 ∧ oa = oa2 := by injection ee with ee; injection ee with e1 e2; exact ⟨e1, e2⟩
      clear x1 x2 ee
      have hac : ∀ w1, Below wr.heap.size wr w1 → w1.cell? ⟨ga, oa + i * 1, none⟩ = some (encStr a) := fun w1 hb1 => ((BW.trans (hb1.mono hwb)).cell (p := ⟨ga, _, none⟩) hga).trans (hca 0 _ rfl)
      have hbc : ∀ w1, Below wr.heap.size wr w1 → w1.cell? ⟨ga, oa + j * 1, none⟩ = some (encStr b) := fun w1 hb1 => ((BW.trans (hb1.mono hwb)).cell (p := ⟨ga, _, none⟩) hga).trans (hcb 0 _ rfl)
      clear hca hcb hga hgb ha hb
      have hsub := hide (show IntKind.i64.wrap ((j : Int) - 1) = (i : Int) from wrap_id (by omega) (by omega) (by omega))
      replace hij := hide hij
      replace hj1 := hide hj1
      obtain ⟨rr, hrr⟩ : ∃ rr, rr = RR a b := ⟨_, rfl⟩
      have HC0 := HC
      replace HC : Hid (∀ (w : World) (a9 b9 : Nm), a9 = a → b9 = b → Calls Tryz.prog f (#[(encStr a9), (encStr b9)] ++ #[]) w fun e w' => e = .returned (.bool rr) ∧ Below w.heap.size w w') := hide (by intro w a9 b9 e1 e2; subst e1 e2; rw [hrr]; exact HC0.out w a9 b9)
      replace hlt := hide hlt
      replace hlt0 := hide hlt0
      replace hsame := hide hsame
      replace hrr := hide hrr
      replace hi := hide hi
      go_wp2_with fail
      rename_i K6 hK6
      refine wp_region_vals [10] (SrisesW_any f ga oa i j c l a b rr) (fun _ _ wz => Below wr.heap.size wr wz) (by kernel_rfl) (by kernel_rfl) (by kernel_rfl) (by kernel_rfl) (by kernel_rfl) ((Below.refl _ _).drew) ?obs6 ?he6
      case obs6 =>
        refine ⟨?_, ?_, ?_, ?_, ?_, ?_, ?_, ?_, ?_, ?_, ?_, ?_, trivial⟩
        · exact .inl ⟨by kernel_rfl, fun L a1 w1 n h => ⟨_, rfl, run_move (.tmp 1) rfl (h.var n 1 (by kernel_rfl))⟩⟩
        · exact .inl ⟨by kernel_rfl, fun L a1 w1 n h => ⟨_, rfl, run_move (.tmp 0) rfl (h.var n 0 (by kernel_rfl))⟩⟩
        · exact .inl ⟨by kernel_rfl, fun L a1 w1 n h => ⟨_, rfl, run_move (.tmp 5) rfl (h.var n 5 (by kernel_rfl))⟩⟩
        · exact .inl ⟨by kernel_rfl, fun L a1 w1 n h => ⟨_, rfl, run_subZ (.tmp 14) (.const (.int .i64 1)) rfl (h.dep n 2 14 (by kernel_rfl) rfl) rfl hsub.out⟩⟩
        · exact .inl ⟨by kernel_rfl, fun L a1 w1 n h => ⟨_, rfl, run_idxO 23 (.tmp 13) (.tmp 15) 9 1 ga oa _ _ i rfl Tryz.underlying23 Tryz.sizeOf9 (h.dep n 1 13 (by kernel_rfl) rfl) (h.dep n 3 15 (by kernel_rfl) rfl) hlt0.out⟩⟩
        · exact .inl ⟨by kernel_rfl, fun L a1 w1 n h => ⟨_, rfl, run_load1 9 (.tmp 16) ga (oa + i * 1) _ rfl Tryz.isAgg9 (h.dep n 4 16 (by kernel_rfl) rfl) (hac w1 h.inv)⟩⟩
        · exact .inl ⟨by kernel_rfl, fun L a1 w1 n h => ⟨_, rfl, run_move (.tmp 0) rfl (h.var n 0 (by kernel_rfl))⟩⟩
        · exact .inl ⟨by kernel_rfl, fun L a1 w1 n h => ⟨_, rfl, run_move (.tmp 5) rfl (h.var n 5 (by kernel_rfl))⟩⟩
        · exact .inl ⟨by kernel_rfl, fun L a1 w1 n h => ⟨_, rfl, run_idxO 23 (.tmp 18) (.tmp 19) 9 1 ga oa _ _ j rfl Tryz.underlying23 Tryz.sizeOf9 (h.dep n 6 18 (by kernel_rfl) rfl) (h.dep n 7 19 (by kernel_rfl) rfl) hlt.out⟩⟩
        · exact .inl ⟨by kernel_rfl, fun L a1 w1 n h => ⟨_, rfl, run_load1 9 (.tmp 20) ga (oa + j * 1) _ rfl Tryz.isAgg9 (h.dep n 8 20 (by kernel_rfl) rfl) (hbc w1 h.inv)⟩⟩
        · refine .inr fun L a1 w1 n h K hK => ?_
          refine st_callF2 f (.tmp 12) (.tmp 17) (.tmp 21) _ _ (encStr a) (encStr b) #[] rfl (h.dep n 0 12 (by kernel_rfl) rfl) (h.dep n 5 17 (by kernel_rfl) rfl) (h.dep n 9 21 (by kernel_rfl) rfl) hf.out (HC.out w1 a b rfl rfl) ?_
          rintro e w3 ⟨rfl, b3⟩
          exact ⟨_, rfl, hK _ w3 rfl (h.inv.trans (b3.mono h.inv.size))⟩
        · exact .inl ⟨by kernel_rfl, fun L a1 w1 n h => ⟨_, rfl, run_notB (.tmp 22) rr rfl (h.dep n 10 22 (by kernel_rfl) rfl) rfl⟩⟩
      case he6 =>
        intro V w11 hV hJ
        have b11 : Below wr.heap.size wr w11 := hJ
        have hE : V 11 = .bool (!rr) := hV 11 _ rfl
        clear hV hJ
        simp only [putOps, List.setIfInBounds_toArray, List.set_cons_succ, List.set_cons_zero, Nat.reduceAdd]
        rw [hE]
        refine hK6 _ _ ?_
        have B11 := BW.trans (b11.mono hwb)
        cases rr with
        | false =>
          go_wp2_with fail
          go_ret
          have hx : riseB RR l = false := by
            cases hq : riseB RR l with
            | false => rfl
            | true =>
              have := riseB_take hq (j + 1)
              rw [hmore.out, ← hrr.out, Bool.and_false] at this; cases this
          exact ⟨by rw [hx]; rfl, B11⟩
        | true =>
          go_wp2_with fail
          go_roundw
          case rel =>
            exact ⟨j + 1, by omega, by have := hlt.out; omega, by go_num, by rw [hmore.out, hsame.out, ← hrr.out]; rfl, B11⟩
          case measure => have := hlt.out; simp [intOf]; omega
    · have hno : ¬ (j : Int) < (l.length : Int) := by omega
      have hx : riseB RR l = true := by
        rw [List.take_of_length_le (by omega)] at hsame; exact hsame
      replace hlt := hide hlt
      replace hx := hide hx
      clear hsame
      go_wp2_with fail
      go_ret
      exact ⟨by rw [hx.out]; rfl, BW⟩

def SrisesS_any (f : FuncId) (ga oa i j c : Nat) (l : List Sc) (a b : Sc) (rr : Bool) (opn : Nat) (v : Value) : Prop :=
  match opn with
  | 0 => v = .func (.func f) #[] #[]
  | 1 | 6 => v = .slice (some ⟨ga, oa, none⟩) l.length c
  | 2 | 7 => v = .int .i64 (j : Int)
  | 3 => v = .int .i64 (i : Int)
  | 4 => v = .pointer (some ⟨ga, oa + i * 2, none⟩)
  | 5 => v = .agg a.cells.toArray
  | 8 => v = .pointer (some ⟨ga, oa + j * 2, none⟩)
  | 9 => v = .agg b.cells.toArray
  | 10 => v = .bool rr
  | 11 => v = .bool (!rr)
  | _ => True

set_option maxRecDepth 100000 in
set_option maxHeartbeats 1000000 in
theorem risesS_any (w : World) (v : Value) (l : List Sc) (f : FuncId) (RR : Sc → Sc → Bool) (h : SlV Sc.cells 2 w w.heap.size v l) (hl : l.length ≤ 1000000) (hf : ∀ (xs : Array Value) (w : World), (callFunc f xs).run Tryz.prog w = .ok (.enter f xs) w)
    (HC : ∀ (w : World) (a b : Sc), Calls Tryz.prog f (#[(.agg a.cells.toArray), (.agg b.cells.toArray)] ++ #[]) w fun e w' => e = .returned (.bool (RR a b)) ∧ Below w.heap.size w w') :
    Calls Tryz.prog 148 #[v, .func (.func f) #[] #[]] w fun e w' => e = .returned (.bool (riseB RR l)) ∧ Below w.heap.size w w' := by
  obtain ⟨A, c, rfl⟩ := h.sl
  have hlI : (l.length : Int) ≤ 1000000 := by omega
  replace hf := hide hf
  replace HC := hide HC
  go_enter Tryz.func148, Tryz.ntmps148
  go_wp2_with fail
  go_loopw [5] (fun iv wr => ∃ j : Nat, 1 ≤ j ∧ j ≤ l.length + 1 ∧ iv = .int .i64 (j : Int) ∧ riseB RR (l.take j) = true ∧ Below w.heap.size w wr) (fun iv _ => l.length + 1 - (intOf iv).toNat)
  case atStart => exact ⟨1, by omega, by omega, rfl, by cases l <;> simp [riseB], Below.refl _ _⟩
  case round =>
    obtain ⟨j, hj1, hi, rfl, hsame, BW⟩ := hrel
    have hwb := BW.size
    by_cases hlt : j < l.length
    · have hltI : (j : Int) < (l.length : Int) := by omega
      obtain ⟨i, hij⟩ : ∃ i, i + 1 = j := ⟨j - 1, by omega⟩
      have hlt0 : i < l.length := by omega
      obtain ⟨a, ha⟩ : ∃ a, l[i]? = some a := ⟨_, List.getElem?_eq_getElem hlt0⟩
      obtain ⟨b, hb⟩ : ∃ b, l[j]? = some b := ⟨_, List.getElem?_eq_getElem hlt⟩
      have hmore := hide (show riseB RR (l.take (j + 1)) = (riseB RR (l.take j) && RR a b) by subst hij; exact riseB_more ha hb)
      obtain ⟨x1, ga, oa, rfl, hga, hca⟩ := h.at ha
      obtain ⟨x2, ga2, oa2, ee, hgb, hcb⟩ := h.at hb
      obtain ⟨rfl, rfl⟩ : ga = ga2 ∧ oa = oa2 := by injection ee with ee; injection ee with e1 e2; exact ⟨e1, e2⟩
      clear x1 x2 ee
      have hac : ∀ w1, Below wr.heap.size wr w1 → ∀ q u, a.cells[q]? = some u → w1.cell? ⟨ga, (oa + i * 2) + q, none⟩ = some u := fun w1 hb1 q u hj => ((BW.trans (hb1.mono hwb)).cell (p := ⟨ga, _, none⟩) hga).trans (hca q u hj)
      have hbc : ∀ w1, Below wr.heap.size wr w1 → ∀ q u, b.cells[q]? = some u → w1.cell? ⟨ga, (oa + j * 2) + q, none⟩ = some u := fun w1 hb1 q u hj => ((BW.trans (hb1.mono hwb)).cell (p := ⟨ga, _, none⟩) hga).trans (hcb q u hj)
      clear hca hcb hga hgb ha hb
      have hsub := hide (show IntKind.i64.wrap ((j : Int) - 1) = (i : Int) from wrap_id (by omega) (by omega) (by omega))
      replace hij := hide hij
      replace hj1 := hide hj1
      obtain ⟨rr, hrr⟩ : ∃ rr, rr = RR a b := ⟨_, rfl⟩
      have HC0 := HC
      replace HC : Hid (∀ (w : World) (a9 b9 : Sc), a9 = a → b9 = b → Calls Tryz.prog f (#[(.agg a9.cells.toArray), (.agg b9.cells.toArray)] ++ #[]) w fun e w' => e = .returned (.bool rr) ∧ Below w.heap.size w w') := hide (by intro w a9 b9 e1 e2; subst e1 e2; rw [hrr]; exact HC0.out w a9 b9)
      replace hlt := hide hlt
      replace hlt0 := hide hlt0
      replace hsame := hide hsame
      replace hrr := hide hrr
      replace hi := hide hi
      go_wp2_with fail
      rename_i K6 hK6
      refine wp_region_vals [10] (SrisesS_any f ga oa i j c l a b rr) (fun _ _ wz => Below wr.heap.size wr wz) (by kernel_rfl) (by kernel_rfl) (by kernel_rfl) (by kernel_rfl) (by kernel_rfl) ((Below.refl _ _).drew) ?obs6 ?he6
      case obs6 =>
        refine ⟨?_, ?_, ?_, ?_, ?_, ?_, ?_, ?_, ?_, ?_, ?_, ?_, trivial⟩
        · exact .inl ⟨by kernel_rfl, fun L a1 w1 n h => ⟨_, rfl, run_move (.tmp 1) rfl (h.var n 1 (by kernel_rfl))⟩⟩
        · exact .inl ⟨by kernel_rfl, fun L a1 w1 n h => ⟨_, rfl, run_move (.tmp 0) rfl (h.var n 0 (by kernel_rfl))⟩⟩
        · exact .inl ⟨by kernel_rfl, fun L a1 w1 n h => ⟨_, rfl, run_move (.tmp 5) rfl (h.var n 5 (by kernel_rfl))⟩⟩
        · exact .inl ⟨by kernel_rfl, fun L a1 w1 n h => ⟨_, rfl, run_subZ (.tmp 14) (.const (.int .i64 1)) rfl (h.dep n 2 14 (by kernel_rfl) rfl) rfl hsub.out⟩⟩
        · exact .inl ⟨by kernel_rfl, fun L a1 w1 n h => ⟨_, rfl, run_idxO 24 (.tmp 13) (.tmp 15) 99 2 ga oa _ _ i rfl Tryz.underlying24 Tryz.sizeOf99 (h.dep n 1 13 (by kernel_rfl) rfl) (h.dep n 3 15 (by kernel_rfl) rfl) hlt0.out⟩⟩
        · exact .inl ⟨by kernel_rfl, fun L a1 w1 n h => ⟨_, rfl, run_loadCs 99 (.tmp 16) ga (oa + i * 2) a.cells _ rfl (h.dep n 4 16 (by kernel_rfl) rfl) (hac w1 h.inv) Tryz.underlying99 rfl (szSc a)⟩⟩
        · exact .inl ⟨by kernel_rfl, fun L a1 w1 n h => ⟨_, rfl, run_move (.tmp 0) rfl (h.var n 0 (by kernel_rfl))⟩⟩
        · exact .inl ⟨by kernel_rfl, fun L a1 w1 n h => ⟨_, rfl, run_move (.tmp 5) rfl (h.var n 5 (by kernel_rfl))⟩⟩
        · exact .inl ⟨by kernel_rfl, fun L a1 w1 n h => ⟨_, rfl, run_idxO 24 (.tmp 18) (.tmp 19) 99 2 ga oa _ _ j rfl Tryz.underlying24 Tryz.sizeOf99 (h.dep n 6 18 (by kernel_rfl) rfl) (h.dep n 7 19 (by kernel_rfl) rfl) hlt.out⟩⟩
        · exact .inl ⟨by kernel_rfl, fun L a1 w1 n h => ⟨_, rfl, run_loadCs 99 (.tmp 20) ga (oa + j * 2) b.cells _ rfl (h.dep n 8 20 (by kernel_rfl) rfl) (hbc w1 h.inv) Tryz.underlying99 rfl (szSc b)⟩⟩
        · refine .inr fun L a1 w1 n h K hK => ?_
          refine st_callF2 f (.tmp 12) (.tmp 17) (.tmp 21) _ _ (.agg a.cells.toArray) (.agg b.cells.toArray) #[] rfl (h.dep n 0 12 (by kernel_rfl) rfl) (h.dep n 5 17 (by kernel_rfl) rfl) (h.dep n 9 21 (by kernel_rfl) rfl) hf.out (HC.out w1 a b rfl rfl) ?_
          rintro e w3 ⟨rfl, b3⟩
          exact ⟨_, rfl, hK _ w3 rfl (h.inv.trans (b3.mono h.inv.size))⟩
        · exact .inl ⟨by kernel_rfl, fun L a1 w1 n h => ⟨_, rfl, run_notB (.tmp 22) rr rfl (h.dep n 10 22 (by kernel_rfl) rfl) rfl⟩⟩
      case he6 =>
        intro V w11 hV hJ
        have b11 : Below wr.heap.size wr w11 := hJ
        have hE : V 11 = .bool (!rr) := hV 11 _ rfl
        clear hV hJ
        simp only [putOps, List.setIfInBounds_toArray, List.set_cons_succ, List.set_cons_zero, Nat.reduceAdd]
        rw [hE]
        refine hK6 _ _ ?_
        have B11 := BW.trans (b11.mono hwb)
        cases rr with
        | false =>
          go_wp2_with fail
          go_ret
          have hx : riseB RR l = false := by
            cases hq : riseB RR l with
            | false => rfl
            | true =>
              have := riseB_take hq (j + 1)
              rw [hmore.out, ← hrr.out, Bool.and_false] at this; cases this
          exact ⟨by rw [hx]; rfl, B11⟩
        | true =>
          go_wp2_with fail
          go_roundw
          case rel =>
            exact ⟨j + 1, by omega, by have := hlt.out; omega, by go_num, by rw [hmore.out, hsame.out, ← hrr.out]; rfl, B11⟩
          case measure => have := hlt.out; simp [intOf]; omega
    · have hno : ¬ (j : Int) < (l.length : Int) := by omega
      have hx : riseB RR l = true := by
        rw [List.take_of_length_le (by omega)] at hsame; exact hsame
      replace hlt := hide hlt
      replace hx := hide hx
      clear hsame
      go_wp2_with fail
      go_ret
      exact ⟨by rw [hx.out]; rfl, BW⟩

theorem call51 : ∀ (xs : Array Value) (w : World), (callFunc 145 xs).run Tryz.prog w = .ok (.enter 145 xs) w := fun xs w => by kernel_rfl
theorem call53 : ∀ (xs : Array Value) (w : World), (callFunc 147 xs).run Tryz.prog w = .ok (.enter 147 xs) w := fun xs w => by kernel_rfl
theorem call55 : ∀ (xs : Array Value) (w : World), (callFunc 149 xs).run Tryz.prog w = .ok (.enter 149 xs) w := fun xs w => by kernel_rfl
set_option maxRecDepth 100000 in
theorem ord1_any (w : World) (a b : Pr) : Calls Tryz.prog 145 #[.agg a.cells.toArray, .agg b.cells.toArray] w fun e w' => e = .returned (.bool (bytesBefore a.f b.f)) ∧ Below w.heap.size w w' := by
  have hl := lt_nm
  go_enter Tryz.func145, Tryz.ntmps145
  go_wp2_with (first
    | (with_reducible refine wl_box (o := ⟨some 2, _, _, _, _, _⟩) rfl 87 (.tmp 0) _ a.cells rfl rfl rfl ?_; intro g2 w2 r2 p2 l2 b2)
    | (with_reducible refine wl_box (o := ⟨some 3, _, _, _, _, _⟩) rfl 87 (.tmp 1) _ b.cells rfl rfl rfl ?_; intro g3 w3 r3 p3 l3 b3; have r2 := r2.later b3; have c1 := r2.cell (j := 0) rfl; have c3 := r3.cell (j := 0) rfl))
  go_ret
  exact ⟨by rw [← less_before]; rfl, b2.trans (b3.mono b2.size)⟩
set_option maxRecDepth 100000 in
theorem ord2_any (w : World) (a b : Nm) : Calls Tryz.prog 147 #[encStr a, encStr b] w fun e w' => e = .returned (.bool (bytesBefore a b)) ∧ Below w.heap.size w w' := by
  have hl := lt_nm
  go_enter Tryz.func147, Tryz.ntmps147
  go_wp2_with fail
  go_ret
  exact ⟨by rw [← less_before]; rfl, Below.refl _ _⟩
end Go.Proofs.YtpbkejmffddelaaGreat

/-
  fill: members put into a set. Own work.
-/
namespace Go.Proofs.YtpbkejmffddelaaGreat
open Go.RowKit Go.Shelf
def frB (l : List Sc) : Bool := decide ((l.map Sc.m).Nodup)
def hasM (l : List Sc) (n : Nm) : Bool := l.any fun a => a.m == n
theorem hasM_more {l : List Sc} {i : Nat} {a : Sc} (h : l[i]? = some a) (n : Nm) : hasM (l.take (i + 1)) n = (hasM (l.take i) n || a.m == n) := by
  rw [take_more h, hasM, List.any_append]; simp [hasM]
theorem frB_more {l : List Sc} {i : Nat} {a : Sc} (h : l[i]? = some a) : frB (l.take (i + 1)) = (!(hasM (l.take i) a.m) && frB (l.take i)) := by
  rw [take_more h]
  generalize l.take i = L
  unfold frB hasM
  rw [List.map_append, Bool.eq_iff_iff]
  simp only [decide_eq_true_eq, Bool.and_eq_true, Bool.not_eq_true', List.any_eq_false, List.nodup_append, List.map_cons, List.map_nil, List.mem_map, List.mem_singleton]
  constructor
  · rintro ⟨h1, _, h3⟩
    exact ⟨fun b hb => by simpa using h3 b.m ⟨b, hb, rfl⟩ a.m rfl, h1⟩
  · rintro ⟨h1, h2⟩
    refine ⟨h2, by simp, ?_⟩
    rintro _ ⟨b, hb, rfl⟩ _ rfl
    simpa using h1 b hb
theorem scoreOf_putS (L : List Sc) (x : Sc) (n : Nm) : scoreOf (putS L x) n = if n = x.m then some x.s else scoreOf L n := by
  unfold putS
  rw [scoreOf_putAt (fun a ha => (dropS_mem ha).2), scoreOf_drop]
  by_cases h : n = x.m <;> simp [h]
set_option maxRecDepth 100000 in
set_option maxHeartbeats 2000000 in
theorem fill_any (w : World) (B Bq gz mb : Nat) (hd : Nd) (v : Value) (l : List Sc) (hz : ZSet w B gz mb hd []) (hB : B ≤ w.heap.size) (h : SlV Sc.cells 2 w Bq v l) (hq : Bq ≤ B) (few : l.length ≤ 220) (hs : ∀ a ∈ l, a.m.length ≤ 1000000) :
    Calls Tryz.prog 80 #[ptr gz, v] w fun e w' => e = .returned (.bool (frB l)) ∧ Below B w w' := by
  obtain ⟨A, c, rfl⟩ := h.sl
  have fI : (l.length : Int) ≤ 220 := by omega
  have hoS : ∀ {a : Sc}, ∀ u ∈ a.cells, u.oneCell' = true := by intro a; simp [Value.oneCell', encStr]
  go_enter Tryz.func80, Tryz.ntmps80
  go_wp2_with fail
  go_loopw [5, 10] (fun bv iv wr => ∃ (i : Nat) (Ls : List Nd), i ≤ l.length ∧ iv = .int .i64 (i : Int) ∧ bv = .bool (frB (l.take i)) ∧ ZSet wr B gz mb hd Ls ∧ Ls.length ≤ i ∧ (∀ n, (scoreOf (scs Ls) n).isSome = hasM (l.take i) n) ∧ Below B w wr ∧ B ≤ wr.heap.size) (fun _ iv _ => l.length - (intOf iv).toNat)
  case atStart => exact ⟨0, [], by omega, rfl, rfl, hz, by simp, fun n => rfl, Below.refl _ _, hB⟩
  case round =>
    obtain ⟨i, Ls, hi, rfl, rfl, hz, hll, hmem, BW, hBr⟩ := hrel
    by_cases hlt : i < l.length
    · have hltI : (i : Int) < (l.length : Int) := by omega
      obtain ⟨a, ha⟩ : ∃ a, l[i]? = some a := ⟨_, List.getElem?_eq_getElem hlt⟩
      have hfr := hide (frB_more ha)
      have hhm := hide (fun n => hasM_more ha n)
      have ham := hide (hs a (List.mem_of_getElem? ha))
      obtain ⟨x1, ga, oa, rfl, hga, hca⟩ := (h.below (BW.mono hq)).at ha
      have hsz := szSc a
      obtain ⟨fb, hfb⟩ : ∃ fb, fb = frB (l.take i) := ⟨_, rfl⟩
      rw [← hfb]
      replace hfb := hide hfb
      have hlt9 := hide hlt
      replace hmem := hide hmem
      replace hll := hide hll
      replace hBr := hide hBr
      clear ha x1 hga
      go_wp2_with (first
        | (with_reducible refine wl_run (o := ⟨some 12, _, _, _, _, _⟩) rfl (.pointer (some ⟨ga, oa + i * 2, none⟩)) (run_idxO 24 (.tmp 8) (.tmp 10) 99 2 ga oa l.length c i rfl Tryz.underlying24 Tryz.sizeOf99 rfl rfl hlt) ?_)
        | (with_reducible refine wl_load_cells (o := ⟨some 13, _, _, _, _, _⟩) rfl 99 (.tmp 12) ga (oa + i * 2) a.cells _ rfl rfl hca Tryz.underlying99 rfl hsz ?_)
        | ((with_reducible refine wl_alloc (o := ⟨some 7, _, _, _, _, _⟩) rfl 99 _ [encStr [], .int .i64 0] rfl zeroSc rfl ?_); intro gA w6 r6 p6 l6 b6)
        | ((with_reducible refine wl_store_row rfl 99 (.tmp 7) (.tmp 13) gA 99 _ a.cells rfl rfl rfl r6 hsz rfl hoS ?_); intro w7 rA o7; have b7 := b6.trans ((o7.below p6).mono (Nat.le_refl _)); have q0 := rA.cell (j := 0) rfl; have q1 := rA.cell (j := 1) rfl))
      have hB7 : B ≤ w7.heap.size := Nat.le_trans hBr.out b7.size
      refine (put_any w7 B gz mb hd Ls a.m a.s (hz.later b7) ham.out (by have := hll.out; omega) hB7).mono ?_
      rintro e w8 ⟨Ls', rfl, hz8, hs8, hb8, hl8⟩
      have B8 := (BW.trans (b7.mono hBr.out)).trans (hb8.below (hz.later b7).lo_zB hB7)
      have hB8 : B ≤ w8.heap.size := Nat.le_trans hB7 hb8.size
      have hm8 : ∀ n, (scoreOf (scs Ls') n).isSome = hasM (l.take (i + 1)) n := by
        intro n
        rw [hhm.out n, ← hmem.out n, hs8, scoreOf_putS]
        by_cases h : n = a.m
        · subst h; simp
        · rw [if_neg h]; simp [beq_eq_false_iff_ne.2 (Ne.symm h)]
      have hp8 : (!(scoreOf (scs Ls) a.m).isSome) = !(hasM (l.take i) a.m) := by rw [hmem.out]
      have hf8 := hfr.out
      rw [hp8]
      generalize hasM (l.take i) a.m = hb at *
      rw [← hfb.out] at hf8
      replace hf8 := hide hf8
      replace hm8 := hide hm8
      clear q0 q1 hp8 rA r6 hs8
      cases hb with
      | true =>
        go_wp2_with fail
        go_roundw
        case rel => exact ⟨i + 1, Ls', by have := hlt9.out; omega, by go_num, by rw [hf8.out]; rfl, hz8, by have := hll.out; omega, hm8.out, B8, hB8⟩
        case measure => have := hlt9.out; simp [intOf]; omega
      | false =>
        go_wp2_with fail
        go_roundw
        case rel => exact ⟨i + 1, Ls', by have := hlt9.out; omega, by go_num, by rw [hf8.out]; cases fb <;> rfl, hz8, by have := hll.out; omega, hm8.out, B8, hB8⟩
        case measure => have := hlt9.out; simp [intOf]; omega
    · obtain rfl : i = l.length := by omega
      rw [List.take_length]
      replace hmem := hide hmem
      go_wp2_with fail
      go_ret
      exact ⟨rfl, BW⟩
set_option maxRecDepth 100000 in
theorem fill_no (w : World) (gz : Value) (A : Option Addr) (c : Nat) : Calls Tryz.prog 80 #[gz, .slice A 0 c] w fun e w' => e = .returned (.bool true) ∧ w = w' := by
  go_enter Tryz.func80, Tryz.ntmps80
  go_wp2_with fail
  go_loopw [5, 10] (fun bv iv wr => bv = .bool true ∧ iv = .int .i64 0 ∧ w = wr) (fun _ _ _ => 0)
  case atStart => exact ⟨rfl, rfl, rfl⟩
  case round =>
    obtain ⟨rfl, rfl, rfl⟩ := hrel
    go_wp2_with fail
    go_ret
    exact ⟨rfl, rfl⟩
end Go.Proofs.YtpbkejmffddelaaGreat

/-
  inOrder. Own work.
-/
namespace Go.Proofs.YtpbkejmffddelaaGreat
open Go.RowKit Go.Shelf
def Pr.bef (a b : Pr) : Bool := bytesBefore a.f b.f
/-- Whether the elements of a value of kind 2, 4, 5 stand in their order. -/
def Vl.ordB (x : Vl) : Bool := if x.k = 2 then riseB Pr.bef x.ps else if x.k = 4 then riseB bytesBefore x.ls else if x.k = 5 then riseB Sc.less x.ss && frB x.ss else true
def JIo (w0 : World) (bs : List Bool) (vs : List Value) (w : World) : Prop :=
  (bs.getD 2 false = false → Below w0.heap.size w0 w) ∧ (bs.getD 1 false = true → bs.getD 2 false = false → ∃ B1 gz mb hd, vs.getD 1 undef = ptr gz ∧ w0.heap.size ≤ B1 ∧ B1 ≤ w.heap.size ∧ ZSet w B1 gz mb hd []) ∧ (bs.getD 2 false = true → Below w0.heap.size w0 w)
theorem JIo.start (w : World) (vs : List Value) : JIo w [false, false, false] vs w.drew :=
  ⟨fun _ => (Below.refl _ _).drew, fun h => absurd h (by decide), fun h => absurd h (by decide)⟩
def SIoF (g1 : Nat) (A4 : Option Addr) (C4 : Nat) (x : Vl) (opn : Nat) (v : Value) : Prop :=
  match opn with
  | 0 => v = .pointer (some ⟨g1, 4, none⟩)
  | 1 => v = .slice A4 x.ss.length C4
  | 2 | 3 | 8 | 9 => v = .bool false
  | 4 | 5 | 6 | 7 => v = undef
  | _ => True

def SIoT (g1 : Nat) (A4 : Option Addr) (C4 : Nat) (x : Vl) (fr : Bool) (opn : Nat) (v : Value) : Prop :=
  match opn with
  | 0 | 5 => v = .pointer (some ⟨g1, 4, none⟩)
  | 1 | 6 => v = .slice A4 x.ss.length C4
  | 2 | 3 => v = .bool true
  | 7 | 8 | 9 => v = .bool fr
  | _ => True

set_option maxRecDepth 100000 in
set_option maxHeartbeats 2000000 in
theorem inOrder_any (w : World) (x : Vl) (vp vl vs : Value) (h : VlM w w.heap.size x vp vl vs) (few : x.Few) (ms : ∀ a ∈ x.ss, a.m.length ≤ 1000000) :
    Calls Tryz.prog 123 #[vlV x vp vl vs] w fun e w' => e = .returned (.bool x.ordB) ∧ Below w.heap.size w w' := by
  obtain ⟨A2, C2, rfl⟩ := h.p.sl
  obtain ⟨A3, C3, rfl⟩ := h.l.sl
  obtain ⟨A4, C4, rfl⟩ := h.s.sl
  unfold Vl.ordB
  by_cases k2 : x.k = 2
  · rw [if_pos k2]
    have e2 : decide (x.k = 2) = true := decide_eq_true k2
    have f2 : (x.k == 2) = true := by simp [k2]
    replace k2 := hide k2
    go_enter Tryz.func123, Tryz.ntmps123
    go_wp2_with (first
      | (with_reducible refine wl_box (o := ⟨some 1, _, _, _, _, _⟩) rfl 26 (.tmp 0) _ (vlC x (.slice A2 x.ps.length C2) (.slice A3 x.ls.length C3) (.slice A4 x.ss.length C4)) rfl rfl rfl ?_; intro g1 w1 r1 p1 l1 b1; have c0 := r1.cell (j := 0) rfl; have c2 := r1.cell (j := 2) rfl; have c3 := r1.cell (j := 3) rfl; have c4 := r1.cell (j := 4) rfl))
    refine (risesP_any w1 _ x.ps 145 Pr.bef (h.p.later b1) (by have := few.p; omega) call51 (fun w a b => ord1_any w a b)).mono ?_
    rintro e w2 ⟨rfl, b2⟩
    go_wp2_with fail
    go_ret
    exact ⟨rfl, b1.trans (b2.mono b1.size)⟩
  · rw [if_neg k2]
    by_cases k4 : x.k = 4
    · rw [if_pos k4]
      have e2 : decide (x.k = 2) = false := decide_eq_false k2
      have f2 : (x.k == 2) = false := beq_eq_false_iff_ne.2 k2
      have e4 : decide (x.k = 4) = true := decide_eq_true k4
      have f4 : (x.k == 4) = true := by simp [k4]
      replace k2 := hide k2
      replace k4 := hide k4
      go_enter Tryz.func123, Tryz.ntmps123
      go_wp2_with (first
      | (with_reducible refine wl_box (o := ⟨some 1, _, _, _, _, _⟩) rfl 26 (.tmp 0) _ (vlC x (.slice A2 x.ps.length C2) (.slice A3 x.ls.length C3) (.slice A4 x.ss.length C4)) rfl rfl rfl ?_; intro g1 w1 r1 p1 l1 b1; have c0 := r1.cell (j := 0) rfl; have c2 := r1.cell (j := 2) rfl; have c3 := r1.cell (j := 3) rfl; have c4 := r1.cell (j := 4) rfl))
      refine (risesW_any w1 _ x.ls 147 bytesBefore (h.l.later b1) (by have := few.l; omega) call53 (fun w a b => ord2_any w a b)).mono ?_
      rintro e w2 ⟨rfl, b2⟩
      go_wp2_with fail
      go_ret
      exact ⟨rfl, b1.trans (b2.mono b1.size)⟩
    · rw [if_neg k4]
      by_cases k5 : x.k = 5
      · rw [if_pos k5]
        have e2 : decide (x.k = 2) = false := decide_eq_false k2
        have f2 : (x.k == 2) = false := beq_eq_false_iff_ne.2 k2
        have e4 : decide (x.k = 4) = false := decide_eq_false k4
        have f4 : (x.k == 4) = false := beq_eq_false_iff_ne.2 k4
        have e5 : decide (x.k = 5) = true := decide_eq_true k5
        have f5 : (x.k == 5) = true := by simp [k5]
        replace k2 := hide k2
        replace k4 := hide k4
        replace k5 := hide k5
        obtain ⟨rr, hrr⟩ : ∃ rr, rr = riseB Sc.less x.ss := ⟨_, rfl⟩
        obtain ⟨fr, hfr⟩ : ∃ fr, fr = frB x.ss := ⟨_, rfl⟩
        rw [← hrr, ← hfr]
        replace hfr := hide (show (Value.bool fr) = .bool (frB x.ss) by rw [hfr])
        go_enter Tryz.func123, Tryz.ntmps123
        go_wp2_with (first
      | (with_reducible refine wl_box (o := ⟨some 1, _, _, _, _, _⟩) rfl 26 (.tmp 0) _ (vlC x (.slice A2 x.ps.length C2) (.slice A3 x.ls.length C3) (.slice A4 x.ss.length C4)) rfl rfl rfl ?_; intro g1 w1 r1 p1 l1 b1; have c0 := r1.cell (j := 0) rfl; have c2 := r1.cell (j := 2) rfl; have c3 := r1.cell (j := 3) rfl; have c4 := r1.cell (j := 4) rfl))
        have hw1 := b1.size
        have hS := h.s.below b1
        have HR := hide (fun (wz : World) (hb : Below w1.heap.size w1 wz) => risesS_any wz (.slice A4 x.ss.length C4) x.ss 149 Sc.less (((h.s.later b1)).later hb) (by have := few.s; omega) call55 (fun w a b => less_any w a b))
        rw [← hrr] at HR
        clear c0 c2 c3 c4
        cases rr with
        | false =>
          refine wp_region_valsS [2] (SIoF g1 A4 C4 x) (fun _ _ wz => Below w1.heap.size w1 wz) (by kernel_rfl) (by kernel_rfl) (by kernel_rfl) (by kernel_rfl) ((Below.refl _ _).drew) ?obsF ?heF
          case obsF =>
            refine ⟨?_, ?_, ?_, ?_, ?_, ?_, ?_, ?_, ?_, ?_, trivial⟩
            · refine .inl ⟨.inl rfl, ?_⟩
              refine .inl ⟨by kernel_rfl, fun L a1 w1 n h => ⟨.pointer (some ⟨g1, 4, none⟩), rfl, ?_⟩⟩
              have e0 : a1.eval (.tmp 1) = _ := h.var n 1 (by kernel_rfl)
              unfold execOp
              simp only [e0]
              go_simp
            · refine .inl ⟨.inl rfl, ?_⟩
              exact .inl ⟨by kernel_rfl, fun L a1 w1 n h => ⟨_, rfl, run_load1 24 (.tmp 17) g1 4 _ rfl Tryz.isAgg24 (h.dep n 0 17 (by kernel_rfl) rfl) ((r1.later h.inv).cell rfl)⟩⟩
            · refine .inl ⟨.inl rfl, ?_⟩
              refine .inr fun L a1 w1 n h K hK => ?_
              have b9 := h.inv
              have y1 : a1.eval (.tmp 18) = .slice A4 x.ss.length C4 := h.dep n 1 18 (by kernel_rfl) rfl
              refine st_call 148 _ _ #[.slice A4 x.ss.length C4, .func (.func 149) #[] #[]] rfl Tryz.call148 ?_ (HR.out w1 b9) ?_
              · simp only [List.map_toArray, List.map_cons, List.map_nil, y1]; rfl
              · rintro e w3 ⟨rfl, b3⟩
                exact ⟨_, rfl, hK _ w3 rfl (h.inv.trans (b3.mono h.inv.size))⟩
            · refine .inl ⟨.inl rfl, ?_⟩
              exact .inl ⟨by kernel_rfl, fun L a1 w1 n h => ⟨_, rfl, run_move (.tmp 19) rfl (h.dep n 2 19 (by kernel_rfl) rfl)⟩⟩
            · exact .inr ⟨⟨3, true, 20, rfl, by kernel_rfl, rfl, by simp, fun v h => by rw [show v = .bool false from h]; first | exact ne_tf | exact ne_ft | exact ne_undef _⟩, by kernel_rfl, rfl⟩
            · exact .inr ⟨⟨3, true, 20, rfl, by kernel_rfl, rfl, by simp, fun v h => by rw [show v = .bool false from h]; first | exact ne_tf | exact ne_ft | exact ne_undef _⟩, by kernel_rfl, rfl⟩
            · exact .inr ⟨⟨3, true, 20, rfl, by kernel_rfl, rfl, by simp, fun v h => by rw [show v = .bool false from h]; first | exact ne_tf | exact ne_ft | exact ne_undef _⟩, by kernel_rfl, rfl⟩
            · exact .inr ⟨⟨3, true, 20, rfl, by kernel_rfl, rfl, by simp, fun v h => by rw [show v = .bool false from h]; first | exact ne_tf | exact ne_ft | exact ne_undef _⟩, by kernel_rfl, rfl⟩
            · refine .inl ⟨.inl rfl, ?_⟩
              exact .inl ⟨by kernel_rfl, fun L a1 w1 n h => ⟨_, rfl, run_pickF (.tmp 20) _ _ rfl (h.dep n 3 20 (by kernel_rfl) rfl) rfl⟩⟩
            · refine .inl ⟨.inl rfl, ?_⟩
              exact .inl ⟨by kernel_rfl, fun L a1 w1 n h => ⟨_, rfl, run_assign (.tmp 25) rfl (h.dep n 8 25 (by kernel_rfl) rfl)⟩⟩
          case heF =>
            intro V w9 hV hJ
            have b9 : Below w1.heap.size w1 w9 := hJ
            have hE : V 9 = .bool false := hV 9 _ rfl
            clear hV hJ
            simp only [putOps, List.setIfInBounds_toArray, List.set_cons_succ, List.set_cons_zero, Nat.reduceAdd]
            rw [hE]
            go_wp2_with fail
            go_ret
            exact ⟨rfl, b1.trans (b9.mono b1.size)⟩
        | true =>
          refine wp_region_valsG [2, 4, 7] (SIoT g1 A4 C4 x fr) (JIo w1) (by kernel_rfl) (by kernel_rfl) (by kernel_rfl) (by kernel_rfl) (JIo.start _ _) ?obsT ?heT
          case obsT =>
            refine ⟨?_, ?_, ?_, ?_, ?_, ?_, ?_, ?_, ?_, ?_, trivial⟩
            · refine ⟨.inl rfl, ?_⟩
              refine .inl ⟨by kernel_rfl, fun L a1 w1 n' h => ⟨.pointer (some ⟨g1, 4, none⟩), rfl, ?_⟩⟩
              have e0 : a1.eval (.tmp 1) = _ := h.var n' 1 (by kernel_rfl)
              unfold execOp
              simp only [e0]
              go_simp
            · refine ⟨.inl rfl, ?_⟩
              exact .inl ⟨by kernel_rfl, fun L a1 w1 n' h => ⟨_, rfl, run_load1 24 (.tmp 17) g1 4 _ rfl Tryz.isAgg24 (h.dep n' 0 17 (by kernel_rfl) rfl) ((r1.later (h.inv.1 ((bits_at rfl).trans (n'.later (by kernel_rfl))))).cell rfl)⟩⟩
            · refine ⟨.inl rfl, ?_⟩
              refine .inr fun L a1 w1 n' h K hK => ?_
              have no7 : L.getD 7 false = false := n'.later (by kernel_rfl)
              have b9 := h.inv.1 ((bits_at rfl).trans no7)
              have h4 := h.inv.2.1
              have y1 : a1.eval (.tmp 18) = .slice A4 x.ss.length C4 := h.dep n' 1 18 (by kernel_rfl) rfl
              refine st_call 148 _ _ #[.slice A4 x.ss.length C4, .func (.func 149) #[] #[]] rfl Tryz.call148 ?_ (HR.out w1 b9) ?_
              · simp only [List.map_toArray, List.map_cons, List.map_nil, y1]; rfl
              · rintro e w3 ⟨rfl, b3⟩
                exact ⟨_, rfl, hK _ w3 rfl ⟨fun _ => b9.trans (b3.mono b9.size), fun h1 h2 => let ⟨B1, gz, mb, hd, e, q1, q2, q3⟩ := h4 h1 h2; ⟨B1, gz, mb, hd, e, q1, Nat.le_trans q2 b3.size, q3.later b3⟩, fun h0 => absurd (no7.symm.trans h0) (by decide)⟩⟩
            · refine ⟨.inl rfl, ?_⟩
              exact .inl ⟨by kernel_rfl, fun L a1 w1 n' h => ⟨_, rfl, run_move (.tmp 19) rfl (h.dep n' 2 19 (by kernel_rfl) rfl)⟩⟩
            · refine ⟨.inr ⟨3, true, 20, rfl, by kernel_rfl, rfl, by simp, fun v h => h⟩, ?_⟩
              refine .inr fun L a1 w1 n' h K hK => ?_
              have no7 : L.getD 7 false = false := n'.later (by kernel_rfl)
              have b9 := h.inv.1 ((bits_at rfl).trans no7)
              refine st_call 67 _ _ #[] rfl Tryz.call67 ?_ (new_any w1) ?_
              · simp
              · rintro e w3 ⟨gz, mb, hd, rfl, z3, b3⟩
                exact ⟨_, rfl, hK _ w3 trivial ⟨fun _ => b9.trans (b3.mono b9.size), fun _ _ => ⟨w1.heap.size, gz, mb, hd, rfl, b9.size, b3.size, z3⟩, fun h0 => absurd (no7.symm.trans h0) (by decide)⟩⟩
            · refine ⟨.inr ⟨3, true, 20, rfl, by kernel_rfl, rfl, by simp, fun v h => h⟩, ?_⟩
              refine .inl ⟨by kernel_rfl, fun L a1 w1 n' h => ⟨.pointer (some ⟨g1, 4, none⟩), rfl, ?_⟩⟩
              have e0 : a1.eval (.tmp 1) = _ := h.var n' 1 (by kernel_rfl)
              unfold execOp
              simp only [e0]
              go_simp
            · refine ⟨.inr ⟨3, true, 20, rfl, by kernel_rfl, rfl, by simp, fun v h => h⟩, ?_⟩
              exact .inl ⟨by kernel_rfl, fun L a1 w1 n' h => ⟨_, rfl, run_load1 24 (.tmp 22) g1 4 _ rfl Tryz.isAgg24 (h.dep n' 5 22 (by kernel_rfl) rfl) ((r1.later (h.inv.1 ((bits_at rfl).trans (n'.later (by kernel_rfl))))).cell rfl)⟩⟩
            · refine ⟨.inr ⟨3, true, 20, rfl, by kernel_rfl, rfl, by simp, fun v h => h⟩, ?_⟩
              refine .inr fun L a1 w1 n' h K hK => ?_
              have no7 : L.getD 7 false = false := n'.not_yet
              have yes4 : L.getD 4 false = true := n'.dep (by kernel_rfl)
              have b9 := h.inv.1 ((bits_at rfl).trans no7)
              obtain ⟨B1, gz, mb, hd, e4, q1, q2, q3⟩ := h.inv.2.1 ((bits_at rfl).trans yes4) ((bits_at rfl).trans no7)
              have y0 : a1.eval (.tmp 21) = ptr gz := e4
              have y1 : a1.eval (.tmp 23) = .slice A4 x.ss.length C4 := h.dep n' 6 23 (by kernel_rfl) rfl
              refine st_call 80 _ _ #[ptr gz, .slice A4 x.ss.length C4] rfl Tryz.call80 ?_ (fill_any w1 B1 w.heap.size gz mb hd _ x.ss q3 q2 (hS.below (b9.mono hw1)) (Nat.le_trans hw1 q1) few.s ms) ?_
              · simp only [List.map_toArray, List.map_cons, List.map_nil, y0, y1]
              · rintro e w3 ⟨rfl, b3⟩
                exact ⟨_, rfl, hK _ w3 hfr.out.symm ⟨fun h0 => absurd (show true = false from h0) (by decide), fun _ h0 => absurd (show true = false from h0) (by decide), fun _ => b9.trans (b3.mono q1)⟩⟩
            · refine ⟨.inl rfl, ?_⟩
              exact .inl ⟨by kernel_rfl, fun L a1 w1 n' h => ⟨_, rfl, run_pickT (.tmp 20) _ _ rfl (h.dep n' 3 20 (by kernel_rfl) rfl) (h.dep n' 7 24 (by kernel_rfl) rfl)⟩⟩
            · refine ⟨.inl rfl, ?_⟩
              exact .inl ⟨by kernel_rfl, fun L a1 w1 n' h => ⟨_, rfl, run_assign (.tmp 25) rfl (h.dep n' 8 25 (by kernel_rfl) rfl)⟩⟩
          case heT =>
            intro V w9 hV hJ
            have b9 := hJ.2.2 rfl
            have hE : V 9 = .bool fr := hV 9 _ rfl
            clear hV hJ
            simp only [putOps, List.setIfInBounds_toArray, List.set_cons_succ, List.set_cons_zero, Nat.reduceAdd]
            rw [hE]
            go_wp2_with fail
            go_ret
            exact ⟨rfl, b1.trans (b9.mono b1.size)⟩
      · rw [if_neg k5]
        have e2 : decide (x.k = 2) = false := decide_eq_false k2
        have f2 : (x.k == 2) = false := beq_eq_false_iff_ne.2 k2
        have e4 : decide (x.k = 4) = false := decide_eq_false k4
        have f4 : (x.k == 4) = false := beq_eq_false_iff_ne.2 k4
        have e5 : decide (x.k = 5) = false := decide_eq_false k5
        have f5 : (x.k == 5) = false := beq_eq_false_iff_ne.2 k5
        replace k2 := hide k2
        replace k4 := hide k4
        replace k5 := hide k5
        go_enter Tryz.func123, Tryz.ntmps123
        go_wp2_with (first
      | (with_reducible refine wl_box (o := ⟨some 1, _, _, _, _, _⟩) rfl 26 (.tmp 0) _ (vlC x (.slice A2 x.ps.length C2) (.slice A3 x.ls.length C3) (.slice A4 x.ss.length C4)) rfl rfl rfl ?_; intro g1 w1 r1 p1 l1 b1; have c0 := r1.cell (j := 0) rfl; have c2 := r1.cell (j := 2) rfl; have c3 := r1.cell (j := 3) rfl; have c4 := r1.cell (j := 4) rfl))
        go_ret
        exact ⟨rfl, b1⟩
end Go.Proofs.YtpbkejmffddelaaGreat

/-
  Check: which values may be. Own work.
-/
namespace Go.Proofs.YtpbkejmffddelaaGreat
open Go.RowKit Go.Shelf
def chk (kb sm k1 : Bool) (q : Int) (tl ob : Bool) : Int := if (!kb || !sm || (!k1 && decide (q = 0))) = true then 1 else if 200 < q then 10 else if tl = true then 5 else if ob = true then 0 else 13
/-- Why a value may not be; 0: it may. -/
def Vl.chk (x : Vl) : Int := Go.Proofs.YtpbkejmffddelaaGreat.chk (decide (1 ≤ x.k ∧ x.k ≤ 5)) (decide (x = x.own)) (decide (x.k = 1)) ((x.own.ps.length : Int) + x.own.ls.length + x.own.ss.length) (lngT x.own.tells) x.ordB
def OwF (x : Vl) (v : Value) (w : World) : Prop := ∃ vp vl vs, v = vlV x.own vp vl vs ∧ VlM w w.heap.size x.own vp vl vs
theorem OwF.later {x : Vl} {v : Value} {w w' : World} (h : OwF x v w) (hb : Below w.heap.size w w') : OwF x v w' := by
  obtain ⟨a, b, c, e, m⟩ := h
  exact ⟨a, b, c, e, m.later hb⟩
theorem own_lng {x : Vl} (h : x = x.own) (hl : lngT x.own.tells = false) : ∀ a ∈ x.ss, a.m.length ≤ 1000000 := by
  intro a ha
  rw [h] at ha
  have : lng [a.m] = false := lngT_mem hl (t := (highB (IntKind.u64.wrap a.s) 8, [a.m])) (by
    unfold Vl.tells
    simp only [List.mem_append, List.mem_map]
    exact .inr (.inr (.inr ⟨a, ha, rfl⟩)))
  have := lng_mem this (a := a.m) (by simp)
  omega
def FCk (x : Vl) (opn : Nat) (v : Value) (w : World) : Prop :=
  match opn with
  | 2 => OwF x v w
  | _ => True
theorem FCk_mono (x : Vl) : ∀ j v w w', FCk x j v w → Below w.heap.size w w' → FCk x j v w' := by
  intro j v w w' h hb
  unfold FCk at h ⊢
  split at h
  · exact h.later hb
  · trivial

def SCk3 (g1 : Nat) (x : Vl) (vp vl vs : Value) (sm : Bool) (opn : Nat) (v : Value) : Prop :=
  match opn with
  | 0 | 1 => v = .agg (vlC x vp vl vs).toArray
  | 3 => v = .bool sm
  | 4 | 5 => v = .bool (!sm)
  | _ => True

set_option maxRecDepth 100000 in
set_option maxHeartbeats 4000000 in
theorem check_any (w : World) (x : Vl) (vp vl vs : Value) (h : VlM w w.heap.size x vp vl vs) (few : x.Few) (ft : x.t.length ≤ 140737488355328) :
    Calls Tryz.prog 79 #[vlV x vp vl vs] w fun e w' => e = .returned (.int .i64 x.chk) ∧ Below w.heap.size w w' := by
  have hsz := szVl x vp vl vs
  have fx := few.fits ft
  unfold Vl.chk
  have HC := fun (w1 : World) (hb : Below w.heap.size w w1) => count_any w1 x vp vl vs (h.later hb) fx.own
  have q1 : (x.own.ps.length : Int) ≤ 220 := by have := few.own.p; omega
  have q2 : (x.own.ls.length : Int) ≤ 220 := by have := few.own.l; omega
  have q3 : (x.own.ss.length : Int) ≤ 220 := by have := few.own.s; omega
  have q4 : 0 ≤ (x.own.ps.length : Int) + x.own.ls.length + x.own.ss.length := by omega
  have q5 : (x.own.ps.length : Int) + x.own.ls.length + x.own.ss.length ≤ 660 := by omega
  generalize hq : (x.own.ps.length : Int) + x.own.ls.length + x.own.ss.length = q at *
  obtain ⟨kb, hkb⟩ : ∃ kb, kb = decide (1 ≤ x.k ∧ x.k ≤ 5) := ⟨_, rfl⟩
  obtain ⟨sm, hsm⟩ : ∃ sm, sm = decide (x = x.own) := ⟨_, rfl⟩
  obtain ⟨kc, hkc⟩ : ∃ kc, kc = decide (x.k = 1) := ⟨_, rfl⟩
  obtain ⟨tl, htl⟩ : ∃ tl, tl = lngT x.own.tells := ⟨_, rfl⟩
  obtain ⟨ob, hob⟩ : ∃ ob, ob = x.ordB := ⟨_, rfl⟩
  rw [← hkb, ← hsm, ← hkc, ← htl, ← hob]
  replace hkb := hide hkb
  replace hsm := hide hsm
  replace hkc := hide hkc
  replace htl := hide htl
  replace hob := hide hob
  replace HC := hide HC
  clear hq q1 q2 q3
  go_enter Tryz.func79, Tryz.ntmps79
  go_wp2_with (first
    | (with_reducible refine wl_box (o := ⟨some 1, _, _, _, _, _⟩) rfl 26 (.tmp 0) _ (vlC x vp vl vs) rfl rfl rfl ?_; intro g1 w1 r1 p1 l1 b1)
    | (with_reducible refine wl_load_row (o := ⟨some 4, _, _, _, _, _⟩) rfl 26 (.tmp 1) g1 26 (vlC x vp vl vs) _ rfl rfl r1 Tryz.underlying26 rfl hsz ?_))
  refine (HC.out w1 b1).mono ?_
  rintro e w2 ⟨rfl, b2⟩
  have r2 := r1.later b2
  have c0 := r2.cell (j := 0) rfl
  have B2 := b1.trans (b2.mono b1.size)
  have hw2 := B2.size
  have h2 := h.below B2
  go_wp2_with fail
  refine (isKind_any w2 x.k).mono ?_
  rintro e w2' ⟨rfl, rfl⟩
  rw [← hkb.out]
  cases kb with
  | false =>
    go_wp2_with fail
    go_ret
    exact ⟨by simp [chk], B2⟩
  | true =>
    go_wp2_with fail
    rename_i K6 hK6
    refine wp_region_vals [2, 3] (SCk3 g1 x vp vl vs sm) (JF w2 [2, 3] (FCk x)) (by kernel_rfl) (by kernel_rfl) (by kernel_rfl) (by kernel_rfl) (by kernel_rfl) (JF.start _) ?obs3 ?he3
    case obs3 =>
      refine ⟨?_, ?_, ?_, ?_, ?_, ?_, trivial⟩
      · exact .inl ⟨by kernel_rfl, fun L a1 w1 n h => ⟨_, rfl, run_loadRow 26 (.tmp 1) g1 26 _ _ rfl (h.var n 1 (by kernel_rfl)) (r2.later h.inv.1) Tryz.underlying26 rfl (hsz)⟩⟩
      · exact .inl ⟨by kernel_rfl, fun L a1 w1 n h => ⟨_, rfl, run_loadRow 26 (.tmp 1) g1 26 _ _ rfl (h.var n 1 (by kernel_rfl)) (r2.later h.inv.1) Tryz.underlying26 rfl (hsz)⟩⟩
      · refine .inr fun L a1 w1 n h K hK => ?_
        have e0 : a1.eval (.tmp 12) = vlV x vp vl vs := h.dep n 1 12 (by kernel_rfl) rfl
        refine JF.call (FCk_mono x) h hK 13 rfl 104 _ _ #[vlV x vp vl vs] rfl Tryz.call104 ?_ (own_ex w1 x vp vl vs w.heap.size (h2.below (h.inv.1.mono hw2)) (Nat.le_trans hw2 h.inv.1.size)) ?_
        · simp only [List.map_toArray, List.map_cons, List.map_nil, e0]
        · rintro e w3 ⟨p9, l9, s9, rfl, hy9, b9⟩
          exact ⟨_, rfl, trivial, ⟨p9, l9, s9, rfl, hy9.up (Nat.le_trans hw2 (Nat.le_trans h.inv.1.size b9.size))⟩, b9⟩
      · refine .inr fun L a1 w1 n h K hK => ?_
        obtain ⟨p9, l9, s9, v9, hy9⟩ := JF.get h n 2 13 (by kernel_rfl) (by kernel_rfl) rfl
        have e0 : a1.eval (.tmp 11) = vlV x vp vl vs := h.dep n 0 11 (by kernel_rfl) rfl
        have e1 : a1.eval (.tmp 13) = vlV x.own p9 l9 s9 := v9
        refine JF.call (FCk_mono x) h hK 14 rfl 121 _ _ #[vlV x vp vl vs, vlV x.own p9 l9 s9] rfl Tryz.call121 ?_ (same_any w1 x x.own vp vl vs p9 l9 s9 ((h2.below (h.inv.1.mono hw2)).up (Nat.le_trans hw2 h.inv.1.size)) hy9 fx fx.own) ?_
        · simp only [List.map_toArray, List.map_cons, List.map_nil, e0, e1]
        · rintro e w3 ⟨rfl, b9⟩
          exact ⟨_, rfl, (show Value.bool _ = Value.bool _ by rw [hsm.out]), trivial, b9⟩
      · exact .inl ⟨by kernel_rfl, fun L a1 w1 n h => ⟨_, rfl, run_notB (.tmp 14) sm rfl (h.dep n 3 14 (by kernel_rfl) rfl) rfl⟩⟩
      · exact .inl ⟨by kernel_rfl, fun L a1 w1 n h => ⟨_, rfl, run_assign (.tmp 15) rfl (h.dep n 4 15 (by kernel_rfl) rfl)⟩⟩
    case he3 =>
      intro V w9 hV hJ
      have b9 : Below w2.heap.size w2 w9 := hJ.1
      have hE : V 5 = .bool (!sm) := hV 5 _ rfl
      clear hV hJ
      simp only [putOps, List.setIfInBounds_toArray, List.set_cons_succ, List.set_cons_zero, Nat.reduceAdd]
      rw [hE]
      refine hK6 _ _ ?_
      have B9 := B2.trans (b9.mono B2.size)
      clear c0
      have c0 := (r2.later b9).cell (j := 0) rfl
      cases sm with
      | false =>
        go_wp2_with fail
        go_ret
        exact ⟨by simp [chk], B9⟩
      | true =>
        cases kc with
        | true =>
          have k1 : x.k = 1 := of_decide_eq_true hkc.out.symm
          have e1 : decide (x.k = 1) = true := decide_eq_true k1
          have f1 : (x.k == 1) = true := by simp [k1]
          have i1 : (x.k != 1) = false := by simp [k1]
          have hq0 : True := trivial
          replace k1 := hide k1
          by_cases hq2 : 200 < q
          · have hq2' := hq2
            go_wp2_with fail
            go_ret
            exact ⟨by simp [chk, hq2, hq0], B9⟩
          · have hq2' := hq2
            have r19 := r1.later (b2.trans (b9.mono b2.size))
            go_wp2_with (first
              | (with_reducible refine wl_load_row (o := ⟨some 27, _, _, _, _, _⟩) rfl 26 (.tmp 1) g1 26 (vlC x vp vl vs) _ rfl rfl r19 Tryz.underlying26 rfl hsz ?_))
            refine (tooLong_any w9 x vp vl vs (h.later B9) few.own).mono ?_
            rintro e w10 ⟨rfl, b10⟩
            have B10 := B9.trans (b10.mono B9.size)
            rw [← htl.out]
            cases tl with
            | true =>
              go_wp2_with fail
              go_ret
              exact ⟨by simp [chk, hq2, hq0], B10⟩
            | false =>
              have ms := own_lng (of_decide_eq_true hsm.out.symm) htl.out.symm
              have r110 := r19.later b10
              go_wp2_with (first
                | (with_reducible refine wl_load_row (o := ⟨some 30, _, _, _, _, _⟩) rfl 26 (.tmp 1) g1 26 (vlC x vp vl vs) _ rfl rfl r110 Tryz.underlying26 rfl hsz ?_))
              refine (inOrder_any w10 x vp vl vs (h.later B10) few ms).mono ?_
              rintro e w11 ⟨rfl, b11⟩
              have B11 := B10.trans (b11.mono B10.size)
              rw [← hob.out]
              cases ob with
              | true =>
                go_wp2_with fail
                go_ret
                exact ⟨by simp [chk, hq2, hq0], B11⟩
              | false =>
                go_wp2_with fail
                go_ret
                exact ⟨by simp [chk, hq2, hq0], B11⟩
        | false =>
          have k1 : ¬ x.k = 1 := of_decide_eq_false hkc.out.symm
          have e1 : decide (x.k = 1) = false := decide_eq_false k1
          have f1 : (x.k == 1) = false := beq_eq_false_iff_ne.2 k1
          have i1 : (x.k != 1) = true := bne_iff_ne.2 k1
          replace k1 := hide k1
          by_cases hq0 : q = 0
          · have hq1 : decide (q = 0) = true := decide_eq_true hq0
            have hq3 : (q == 0) = true := by simp [hq0]
            replace hq0 := hide hq0
            go_wp2_with fail
            go_ret
            exact ⟨by simp [chk, hq0.out], B9⟩
          · have hq1 : decide (q = 0) = false := decide_eq_false hq0
            have hq3 : (q == 0) = false := beq_eq_false_iff_ne.2 hq0
            by_cases hq2 : 200 < q
            · have hq2' := hq2
              go_wp2_with fail
              go_ret
              exact ⟨by simp [chk, hq2, hq0], B9⟩
            · have hq2' := hq2
              have r19 := r1.later (b2.trans (b9.mono b2.size))
              go_wp2_with (first
                | (with_reducible refine wl_load_row (o := ⟨some 27, _, _, _, _, _⟩) rfl 26 (.tmp 1) g1 26 (vlC x vp vl vs) _ rfl rfl r19 Tryz.underlying26 rfl hsz ?_))
              refine (tooLong_any w9 x vp vl vs (h.later B9) few.own).mono ?_
              rintro e w10 ⟨rfl, b10⟩
              have B10 := B9.trans (b10.mono B9.size)
              rw [← htl.out]
              cases tl with
              | true =>
                go_wp2_with fail
                go_ret
                exact ⟨by simp [chk, hq2, hq0], B10⟩
              | false =>
                have ms := own_lng (of_decide_eq_true hsm.out.symm) htl.out.symm
                have r110 := r19.later b10
                go_wp2_with (first
                  | (with_reducible refine wl_load_row (o := ⟨some 30, _, _, _, _, _⟩) rfl 26 (.tmp 1) g1 26 (vlC x vp vl vs) _ rfl rfl r110 Tryz.underlying26 rfl hsz ?_))
                refine (inOrder_any w10 x vp vl vs (h.later B10) few ms).mono ?_
                rintro e w11 ⟨rfl, b11⟩
                have B11 := B10.trans (b11.mono B10.size)
                rw [← hob.out]
                cases ob with
                | true =>
                  go_wp2_with fail
                  go_ret
                  exact ⟨by simp [chk, hq2, hq0], B11⟩
                | false =>
                  go_wp2_with fail
                  go_ret
                  exact ⟨by simp [chk, hq2, hq0], B11⟩
end Go.Proofs.YtpbkejmffddelaaGreat

/-
  Maps of texts to pairs, and to nothing: the rules of ZMap for these types. Own work.
-/
namespace Go.Proofs.YtpbkejmffddelaaGreat
open Go.RowKit Go.Maps Go.ChangeMaps
abbrev zP : Value := .agg [encStr [], encStr []].toArray
theorem zeroP (w : World) : (zeroValue 87).run Tryz.prog w = .ok zP w := by kernel_rfl
section
variable {ops : Array Oper} {rest : List Oper} {o : Oper} {a : Act} {w : World} {Q : Exit → Act → World → Prop} {K : Act → World → Prop} {b : Nat} {l : Ents} {n : Nm}
theorem run_look2P (m x : Operand) (ho : o.op = .lookup 64 m x true) (hm : a.eval m = .map (some b)) (hx : a.eval x = encStr n) (h : MapAt w b l) (hn : n.length ≤ maxLen) :
    (execOp a.eval o).run Tryz.prog w = .ok (.value (.tuple #[(atE l n).getD zP, .bool (atE l n).isSome])) w := by
  obtain ⟨v, ps, hrun, hv⟩ := World.ownsMap.look_ok h keyS Tryz.underlying64 (zeroP w) (zd := .held zP) (zp := []) rfl (keyOf_enc n hn)
  rw [entD_at] at hv
  rw [entD_has] at hrun
  obtain rfl : v = (atE l n).getD zP := by simp [heldE] at hv; exact hv.1
  unfold execOp
  simp [ho, hm, hx, hrun, Result.andThen]
theorem run_look1P (m x : Operand) (ho : o.op = .lookup 64 m x false) (hm : a.eval m = .map (some b)) (hx : a.eval x = encStr n) (h : MapAt w b l) (hn : n.length ≤ maxLen) :
    (execOp a.eval o).run Tryz.prog w = .ok (.value ((atE l n).getD zP)) w := by
  obtain ⟨v, ps, hrun, hv⟩ := World.ownsMap.lookup h keyS Tryz.underlying64 (zeroP w) (zd := .held zP) (zp := []) rfl (keyOf_enc n hn)
  rw [entD_at] at hv
  obtain rfl : v = (atE l n).getD zP := by simp [heldE] at hv; exact hv.1
  unfold execOp
  simp [ho, hm, hx, hrun, Result.andThen]
theorem st_putP (m x y : Operand) (v : Value) (ho : o.op = .mapUpdate 64 m x y) (hm : a.eval m = .map (some b)) (hx : a.eval x = encStr n) (hy : a.eval y = v) (h : MapAt w b l) (hn : n.length ≤ maxLen) (hl : l.length < maxLen)
    (hk : ∀ w', MapAt w' b (putE l n v) → Only b w w' → K (a.put o.dst undef) w') : o.wp Tryz.prog a w K Q := by
  obtain ⟨w', hrun, r1, r2⟩ := World.ownsMap.store h keyS Tryz.underlying64 hl (keyOf_enc n hn) (val := v) (d := .held v) (ps := []) rfl
  rw [entD_put] at r1
  have r3 := own_exact r1
  rw [entD_size] at r3
  unfold Oper.wp
  simp [execOp, ho, hm, hx, hy, hrun, Result.andThen]
  exact hk _ r3 (turned_only r2)
theorem st_delP (m x : Operand) (ho : o.op = .call { callee := .builtin .delete, args := #[m, x], argTypes := #[64, 9] }) (hm : a.eval m = .map (some b)) (hx : a.eval x = encStr n) (h : MapAt w b l) (hn : n.length ≤ maxLen)
    (hk : ∀ w', MapAt w' b (delE l n) → Only b w w' → K (a.put o.dst (.tuple #[])) w') : o.wp Tryz.prog a w K Q := by
  obtain ⟨w', hrun, r1, r2⟩ := World.ownsMap.drop h keyS Tryz.underlying64 (keyOf_enc n hn) o.type
  rw [entD_del] at r1
  have r3 := own_exact r1
  rw [entD_size] at r3
  unfold Oper.wp
  simp [execOp, ho, resolve, invoke, builtin, hm, hx, hrun, Result.andThen]
  exact hk _ r3 (turned_only r2)
theorem run_mapLenP (m : Operand) (ho : o.op = .call { callee := .builtin .len, args := #[m], argTypes := #[64] }) (hm : a.eval m = .map (some b)) (h : MapAt w b l) :
    (execOp a.eval o).run Tryz.prog w = .ok (.value (.int .i64 l.length)) w := by
  have := World.ownsMap.len h Tryz.underlying64 o.type
  rw [entD_size] at this
  unfold execOp
  simp [ho, resolve, invoke, builtin, hm, this, Result.andThen]
theorem wl_run1P (hgd : o.guard = none) (v : Value) (hr : (execOp a.eval o).run Tryz.prog w = .ok (.value v) w) (hk : wpList Tryz.prog ops Q rest (a.put o.dst v) w) : wpList Tryz.prog ops Q (o :: rest) a w :=
  wpList_plain hgd fun K hK => by
    unfold Oper.wp
    rw [hr]
    exact hK _ _ hk
theorem wg_run1P (g : Nat) (c : Bool) (d : Nat) (hg : o.guard = some (g, c)) (hd : (ops[g]?).bind (·.dst) = some d) (hv : a.tmps[d]? = some (.bool c)) (v : Value) (hr : (execOp a.eval o).run Tryz.prog w = .ok (.value v) w) (hk : wpList Tryz.prog ops Q rest (a.put o.dst v) w) : wpList Tryz.prog ops Q (o :: rest) a w :=
  wpList_guarded g c d hg hd hv fun K hK => by
    unfold Oper.wp
    rw [hr]
    exact hK _ _ hk
theorem wl_mapLenP (hgd : o.guard = none) (m : Operand) (b : Nat) (l : Ents) (ho : o.op = .call { callee := .builtin .len, args := #[m], argTypes := #[64] }) (hm : a.eval m = .map (some b)) (h : MapAt w b l)
    (hk : wpList Tryz.prog ops Q rest (a.put o.dst (.int .i64 l.length)) w) : wpList Tryz.prog ops Q (o :: rest) a w := wl_run1P hgd _ (run_mapLenP m ho hm h) hk
theorem wl_putP (hgd : o.guard = none) (m x y : Operand) (n : Nm) (v : Value) (b : Nat) (l : Ents) (ho : o.op = .mapUpdate 64 m x y) (hm : a.eval m = .map (some b)) (hx : a.eval x = encStr n) (hy : a.eval y = v) (h : MapAt w b l) (hn : n.length ≤ maxLen) (hl : l.length < maxLen)
    (hk : ∀ w', MapAt w' b (putE l n v) → Only b w w' → wpList Tryz.prog ops Q rest (a.put o.dst undef) w') : wpList Tryz.prog ops Q (o :: rest) a w :=
  wpList_plain hgd fun K hK => st_putP m x y v ho hm hx hy h hn hl fun w' h1 h2 => hK _ _ (hk w' h1 h2)
theorem wl_makeMapP (hgd : o.guard = none) (ho : o.op = .makeMap 64 none)
    (hk : ∀ b w', MapAt w' b [] → w.heap.size ≤ b → Below w.heap.size w w' → wpList Tryz.prog ops Q rest (a.put o.dst (.map (some b))) w') : wpList Tryz.prog ops Q (o :: rest) a w :=
  wpList_plain hgd fun K hK => by
    unfold Oper.wp
    simp [execOp, ho, run_makeMap, Result.andThen]
    exact hK _ _ (hk _ _ (MapAt.made w) (Nat.le_refl _) ((Below.refl _ _).alloc (Nat.le_refl _) _))
theorem wl_delP (hgd : o.guard = none) (m x : Operand) (n : Nm) (b : Nat) (l : Ents) (ho : o.op = .call { callee := .builtin .delete, args := #[m, x], argTypes := #[64, 9] }) (hm : a.eval m = .map (some b)) (hx : a.eval x = encStr n) (h : MapAt w b l) (hn : n.length ≤ maxLen)
    (hk : ∀ w', MapAt w' b (delE l n) → Only b w w' → wpList Tryz.prog ops Q rest (a.put o.dst (.tuple #[])) w') : wpList Tryz.prog ops Q (o :: rest) a w :=
  wpList_plain hgd fun K hK => st_delP m x ho hm hx h hn fun w' h1 h2 => hK _ _ (hk w' h1 h2)
theorem wl_lookEP (hgd : o.guard = none) (m x : Operand) (n : Nm) (b : Nat) (l : Ents) (v : Value) (t : Bool) (hv : (atE l n).getD zP = v) (ht : (atE l n).isSome = t) (ho : o.op = .lookup 64 m x true) (hm : a.eval m = .map (some b)) (hx : a.eval x = encStr n) (h : MapAt w b l) (hn : n.length ≤ maxLen)
    (hk : wpList Tryz.prog ops Q rest (a.put o.dst (.tuple #[v, .bool t])) w) : wpList Tryz.prog ops Q (o :: rest) a w := wl_run1P hgd _ (hv ▸ ht ▸ run_look2P m x ho hm hx h hn) hk
end

abbrev zU : Value := .agg #[]
theorem zeroU (w : World) : (zeroValue 113).run Tryz.prog w = .ok zU w := by kernel_rfl
section
variable {ops : Array Oper} {rest : List Oper} {o : Oper} {a : Act} {w : World} {Q : Exit → Act → World → Prop} {K : Act → World → Prop} {b : Nat} {l : Ents} {n : Nm}
theorem run_look2U (m x : Operand) (ho : o.op = .lookup 67 m x true) (hm : a.eval m = .map (some b)) (hx : a.eval x = encStr n) (h : MapAt w b l) (hn : n.length ≤ maxLen) :
    (execOp a.eval o).run Tryz.prog w = .ok (.value (.tuple #[(atE l n).getD zU, .bool (atE l n).isSome])) w := by
  obtain ⟨v, ps, hrun, hv⟩ := World.ownsMap.look_ok h keyS Tryz.underlying67 (zeroU w) (zd := .held zU) (zp := []) rfl (keyOf_enc n hn)
  rw [entD_at] at hv
  rw [entD_has] at hrun
  obtain rfl : v = (atE l n).getD zU := by simp [heldE] at hv; exact hv.1
  unfold execOp
  simp [ho, hm, hx, hrun, Result.andThen]
theorem run_look1U (m x : Operand) (ho : o.op = .lookup 67 m x false) (hm : a.eval m = .map (some b)) (hx : a.eval x = encStr n) (h : MapAt w b l) (hn : n.length ≤ maxLen) :
    (execOp a.eval o).run Tryz.prog w = .ok (.value ((atE l n).getD zU)) w := by
  obtain ⟨v, ps, hrun, hv⟩ := World.ownsMap.lookup h keyS Tryz.underlying67 (zeroU w) (zd := .held zU) (zp := []) rfl (keyOf_enc n hn)
  rw [entD_at] at hv
  obtain rfl : v = (atE l n).getD zU := by simp [heldE] at hv; exact hv.1
  unfold execOp
  simp [ho, hm, hx, hrun, Result.andThen]
theorem st_putU (m x y : Operand) (v : Value) (ho : o.op = .mapUpdate 67 m x y) (hm : a.eval m = .map (some b)) (hx : a.eval x = encStr n) (hy : a.eval y = v) (h : MapAt w b l) (hn : n.length ≤ maxLen) (hl : l.length < maxLen)
    (hk : ∀ w', MapAt w' b (putE l n v) → Only b w w' → K (a.put o.dst undef) w') : o.wp Tryz.prog a w K Q := by
  obtain ⟨w', hrun, r1, r2⟩ := World.ownsMap.store h keyS Tryz.underlying67 hl (keyOf_enc n hn) (val := v) (d := .held v) (ps := []) rfl
  rw [entD_put] at r1
  have r3 := own_exact r1
  rw [entD_size] at r3
  unfold Oper.wp
  simp [execOp, ho, hm, hx, hy, hrun, Result.andThen]
  exact hk _ r3 (turned_only r2)
theorem st_delU (m x : Operand) (ho : o.op = .call { callee := .builtin .delete, args := #[m, x], argTypes := #[67, 9] }) (hm : a.eval m = .map (some b)) (hx : a.eval x = encStr n) (h : MapAt w b l) (hn : n.length ≤ maxLen)
    (hk : ∀ w', MapAt w' b (delE l n) → Only b w w' → K (a.put o.dst (.tuple #[])) w') : o.wp Tryz.prog a w K Q := by
  obtain ⟨w', hrun, r1, r2⟩ := World.ownsMap.drop h keyS Tryz.underlying67 (keyOf_enc n hn) o.type
  rw [entD_del] at r1
  have r3 := own_exact r1
  rw [entD_size] at r3
  unfold Oper.wp
  simp [execOp, ho, resolve, invoke, builtin, hm, hx, hrun, Result.andThen]
  exact hk _ r3 (turned_only r2)
theorem run_mapLenU (m : Operand) (ho : o.op = .call { callee := .builtin .len, args := #[m], argTypes := #[67] }) (hm : a.eval m = .map (some b)) (h : MapAt w b l) :
    (execOp a.eval o).run Tryz.prog w = .ok (.value (.int .i64 l.length)) w := by
  have := World.ownsMap.len h Tryz.underlying67 o.type
  rw [entD_size] at this
  unfold execOp
  simp [ho, resolve, invoke, builtin, hm, this, Result.andThen]
theorem wl_run1U (hgd : o.guard = none) (v : Value) (hr : (execOp a.eval o).run Tryz.prog w = .ok (.value v) w) (hk : wpList Tryz.prog ops Q rest (a.put o.dst v) w) : wpList Tryz.prog ops Q (o :: rest) a w :=
  wpList_plain hgd fun K hK => by
    unfold Oper.wp
    rw [hr]
    exact hK _ _ hk
theorem wg_run1U (g : Nat) (c : Bool) (d : Nat) (hg : o.guard = some (g, c)) (hd : (ops[g]?).bind (·.dst) = some d) (hv : a.tmps[d]? = some (.bool c)) (v : Value) (hr : (execOp a.eval o).run Tryz.prog w = .ok (.value v) w) (hk : wpList Tryz.prog ops Q rest (a.put o.dst v) w) : wpList Tryz.prog ops Q (o :: rest) a w :=
  wpList_guarded g c d hg hd hv fun K hK => by
    unfold Oper.wp
    rw [hr]
    exact hK _ _ hk
theorem wl_mapLenU (hgd : o.guard = none) (m : Operand) (b : Nat) (l : Ents) (ho : o.op = .call { callee := .builtin .len, args := #[m], argTypes := #[67] }) (hm : a.eval m = .map (some b)) (h : MapAt w b l)
    (hk : wpList Tryz.prog ops Q rest (a.put o.dst (.int .i64 l.length)) w) : wpList Tryz.prog ops Q (o :: rest) a w := wl_run1U hgd _ (run_mapLenU m ho hm h) hk
theorem wl_putU (hgd : o.guard = none) (m x y : Operand) (n : Nm) (v : Value) (b : Nat) (l : Ents) (ho : o.op = .mapUpdate 67 m x y) (hm : a.eval m = .map (some b)) (hx : a.eval x = encStr n) (hy : a.eval y = v) (h : MapAt w b l) (hn : n.length ≤ maxLen) (hl : l.length < maxLen)
    (hk : ∀ w', MapAt w' b (putE l n v) → Only b w w' → wpList Tryz.prog ops Q rest (a.put o.dst undef) w') : wpList Tryz.prog ops Q (o :: rest) a w :=
  wpList_plain hgd fun K hK => st_putU m x y v ho hm hx hy h hn hl fun w' h1 h2 => hK _ _ (hk w' h1 h2)
theorem wl_makeMapU (hgd : o.guard = none) (ho : o.op = .makeMap 67 none)
    (hk : ∀ b w', MapAt w' b [] → w.heap.size ≤ b → Below w.heap.size w w' → wpList Tryz.prog ops Q rest (a.put o.dst (.map (some b))) w') : wpList Tryz.prog ops Q (o :: rest) a w :=
  wpList_plain hgd fun K hK => by
    unfold Oper.wp
    simp [execOp, ho, run_makeMap, Result.andThen]
    exact hK _ _ (hk _ _ (MapAt.made w) (Nat.le_refl _) ((Below.refl _ _).alloc (Nat.le_refl _) _))
theorem wl_delU (hgd : o.guard = none) (m x : Operand) (n : Nm) (b : Nat) (l : Ents) (ho : o.op = .call { callee := .builtin .delete, args := #[m, x], argTypes := #[67, 9] }) (hm : a.eval m = .map (some b)) (hx : a.eval x = encStr n) (h : MapAt w b l) (hn : n.length ≤ maxLen)
    (hk : ∀ w', MapAt w' b (delE l n) → Only b w w' → wpList Tryz.prog ops Q rest (a.put o.dst (.tuple #[])) w') : wpList Tryz.prog ops Q (o :: rest) a w :=
  wpList_plain hgd fun K hK => st_delU m x ho hm hx h hn fun w' h1 h2 => hK _ _ (hk w' h1 h2)
theorem wl_lookEU (hgd : o.guard = none) (m x : Operand) (n : Nm) (b : Nat) (l : Ents) (v : Value) (t : Bool) (hv : (atE l n).getD zU = v) (ht : (atE l n).isSome = t) (ho : o.op = .lookup 67 m x true) (hm : a.eval m = .map (some b)) (hx : a.eval x = encStr n) (h : MapAt w b l) (hn : n.length ≤ maxLen)
    (hk : wpList Tryz.prog ops Q rest (a.put o.dst (.tuple #[v, .bool t])) w) : wpList Tryz.prog ops Q (o :: rest) a w := wl_run1U hgd _ (hv ▸ ht ▸ run_look2U m x ho hm hx h hn) hk
end

end Go.Proofs.YtpbkejmffddelaaGreat

/-
  A value in memory: what is held; New of a hash; calls on it. Own work.
-/
namespace Go.Proofs.YtpbkejmffddelaaGreat
open Go.RowKit Go.Shelf Go.Maps
/-- The cells of a value. -/
abbrev vC (k : Int) (t : Nm) (hm : Option Nat) (lv : Value) (sm : Option Nat) (zp : Value) : List Value := [.int .i64 k, encStr t, .map hm, lv, .map sm, zp]
abbrev TV : TypeId := 72
abbrev nilP : Value := .pointer none
theorem zeroVv : (Tryz.prog.info? 72).map (fun i => i.zero) = some (some (.agg (vC 0 [] none nilS none nilP).toArray)) := by kernel_rfl
theorem builtVv (k : Int) : Tryz.prog.built 72 [(0, .int .i64 k)] = some (vC k [] none nilS none nilP).toArray := by kernel_rfl
theorem builtVv0 : Tryz.prog.built 72 [] = some (vC 0 [] none nilS none nilP).toArray := by kernel_rfl
theorem szVv (k : Int) (t : Nm) (hm : Option Nat) (lv : Value) (sm : Option Nat) (zp : Value) : (Tryz.prog.info? 72).map (·.size) = some (vC k t hm lv sm zp).length := by kernel_rfl
section
variable (k : Int) (t : Nm) (hm : Option Nat) (lv : Value) (sm : Option Nat) (zp : Value)
theorem fieldV0 (w : World) : (Instr.field 72 (.agg (vC k t hm lv sm zp).toArray) 0).run Tryz.prog w = .ok (.int .i64 k) w := by kernel_rfl
theorem fieldV1 (w : World) : (Instr.field 72 (.agg (vC k t hm lv sm zp).toArray) 1).run Tryz.prog w = .ok (encStr t) w := by kernel_rfl
theorem fieldV2 (w : World) : (Instr.field 72 (.agg (vC k t hm lv sm zp).toArray) 2).run Tryz.prog w = .ok (.agg #[.map hm]) w := by kernel_rfl
theorem fieldV4 (w : World) : (Instr.field 72 (.agg (vC k t hm lv sm zp).toArray) 4).run Tryz.prog w = .ok (.agg #[.map sm]) w := by kernel_rfl
theorem fieldV5 (w : World) : (Instr.field 72 (.agg (vC k t hm lv sm zp).toArray) 5).run Tryz.prog w = .ok zp w := by kernel_rfl
end
/-- A value's block. -/
structure VRow (w : World) (gv : Nat) (k : Int) (t : Nm) (hm : Option Nat) (lv : Value) (sm : Option Nat) (zp : Value) : Prop where
  row : Row w TV gv (vC k t hm lv sm zp)
  one : ∀ u ∈ vC k t hm lv sm zp, u.oneCell' = true
section
variable {w w' : World} {gv : Nat} {k : Int} {t : Nm} {hm : Option Nat} {lv : Value} {sm : Option Nat} {zp : Value}
theorem VRow.later (h : VRow w gv k t hm lv sm zp) (hb : Below w.heap.size w w') : VRow w' gv k t hm lv sm zp := ⟨h.row.later hb, h.one⟩
end
theorem one0 (k : Int) : ∀ u ∈ vC k [] none nilS none nilP, u.oneCell' = true := by simp [Value.oneCell', encStr]
set_option maxRecDepth 100000 in
theorem held_any (w : World) (gv : Nat) (k : Int) (t : Nm) (hm : Option Nat) (lv : Value) (sm : Option Nat) (zp : Value) (h : VRow w gv k t hm lv sm zp) :
    Calls Tryz.prog 83 #[ptr gv] w fun e w' => e = .returned (.agg (vC k t hm lv sm zp).toArray) ∧ Below w.heap.size w w' := by
  have hsz := szVv k t hm lv sm zp
  have h1 := h.one
  replace h1 := hide h1
  go_enter Tryz.func83, Tryz.ntmps83
  go_wp2_with (first
    | ((with_reducible refine wl_alloc (o := ⟨some 2, _, _, _, _, _⟩) rfl 72 _ (vC 0 [] none nilS none nilP) rfl zeroVv rfl ?_); intro g2 w2 r2 p2 l2 b2; have rv := h.row.later b2)
    | (with_reducible refine wl_load_row (o := ⟨some 8, _, _, _, _, _⟩) rfl 72 (.tmp 7) gv 72 (vC k t hm lv sm zp) _ rfl rfl rv Tryz.underlying72 rfl hsz ?_)
    | ((with_reducible refine wl_store_row rfl 72 (.tmp 2) (.tmp 8) g2 72 _ (vC k t hm lv sm zp) rfl rfl rfl r2 hsz rfl h1.out ?_); intro w3 r3 o3))
  refine bodyPost_ret (v := .agg (vC k t hm lv sm zp).toArray) ?_ rfl ⟨rfl, b2.trans ((o3.below p2).mono (Nat.le_refl _))⟩
  exact results_cell_row Tryz.results83 _ _ g2 72 _ (0, 0) _ rfl r3 Tryz.underlying72 rfl hsz
set_option maxRecDepth 100000 in
theorem held_nil (w : World) : Calls Tryz.prog 83 #[nilP] w fun e w' => e = .returned (.agg (vC 0 [] none nilS none nilP).toArray) ∧ Below w.heap.size w w' := by
  have hsz := szVv 0 [] none nilS none nilP
  have h1 := hide (one0 0)
  have hb0 := builtVv0
  go_enter Tryz.func83, Tryz.ntmps83
  go_wp2_with (first
    | ((with_reducible refine wl_alloc (o := ⟨some 2, _, _, _, _, _⟩) rfl 72 _ (vC 0 [] none nilS none nilP) rfl zeroVv rfl ?_); intro g2 w2 r2 p2 l2 b2)
    | (with_reducible refine wl_build (o := ⟨some 5, _, _, _, _, _⟩) rfl 72 [] rfl [] rfl (vC 0 [] none nilS none nilP) hb0 ?_)
    | ((with_reducible refine wl_store_row rfl 72 (.tmp 2) (.tmp 5) g2 72 _ (vC 0 [] none nilS none nilP) rfl rfl rfl r2 hsz rfl h1.out ?_); intro w3 r3 o3))
  refine bodyPost_ret (v := .agg (vC 0 [] none nilS none nilP).toArray) ?_ rfl ⟨rfl, b2.trans ((o3.below p2).mono (Nat.le_refl _))⟩
  exact results_cell_row Tryz.results83 _ _ g2 72 _ (0, 0) _ rfl r3 Tryz.underlying72 rfl hsz
/-- What a pointer to a value, or nil, holds. -/
def Held (w : World) (v : Value) (k : Int) (t : Nm) (hm : Option Nat) (lv : Value) (sm : Option Nat) (zp : Value) : Prop :=
  (v = nilP ∧ k = 0 ∧ t = [] ∧ hm = none ∧ lv = nilS ∧ sm = none ∧ zp = nilP) ∨ ∃ gv, v = ptr gv ∧ VRow w gv k t hm lv sm zp
section
variable {w w' : World} {v : Value} {k : Int} {t : Nm} {hm : Option Nat} {lv : Value} {sm : Option Nat} {zp : Value}
theorem Held.later (h : Held w v k t hm lv sm zp) (hb : Below w.heap.size w w') : Held w' v k t hm lv sm zp :=
  h.imp id fun ⟨g, e, r⟩ => ⟨g, e, r.later hb⟩
theorem Held.one (h : Held w v k t hm lv sm zp) : ∀ u ∈ vC k t hm lv sm zp, u.oneCell' = true := by
  rcases h with ⟨rfl, rfl, rfl, rfl, rfl, rfl, rfl⟩ | ⟨g, e, r⟩
  · exact one0 0
  · exact r.one
end
theorem held_ev (w : World) (v : Value) (k : Int) (t : Nm) (hm : Option Nat) (lv : Value) (sm : Option Nat) (zp : Value) (h : Held w v k t hm lv sm zp) :
    Calls Tryz.prog 83 #[v] w fun e w' => e = .returned (.agg (vC k t hm lv sm zp).toArray) ∧ Below w.heap.size w w' := by
  rcases h with ⟨rfl, rfl, rfl, rfl, rfl, rfl, rfl⟩ | ⟨g, rfl, r⟩
  · exact held_nil w
  · exact held_any w g k t hm lv sm zp r
set_option maxRecDepth 100000 in
theorem kind_ev (w : World) (v : Value) (k : Int) (t : Nm) (hm : Option Nat) (lv : Value) (sm : Option Nat) (zp : Value) (h : Held w v k t hm lv sm zp) :
    Calls Tryz.prog 36 #[v] w fun e w' => e = .returned (.int .i64 k) ∧ Below w.heap.size w w' := by
  have HH := held_ev w v k t hm lv sm zp h
  have hf := fieldV0 k t hm lv sm zp
  go_enter Tryz.func36, Tryz.ntmps36
  go_wp2_with fail
  refine HH.mono ?_
  rintro e w1 ⟨rfl, b1⟩
  go_wp2_with fail
  go_ret
  exact ⟨rfl, b1⟩
set_option maxRecDepth 100000 in
theorem sorted_ev (w : World) (v : Value) (k : Int) (t : Nm) (hm : Option Nat) (lv : Value) (sm : Option Nat) (zp : Value) (h : Held w v k t hm lv sm zp) :
    Calls Tryz.prog 38 #[v] w fun e w' => e = .returned zp ∧ Below w.heap.size w w' := by
  have HH := held_ev w v k t hm lv sm zp h
  have hf := fieldV5 k t hm lv sm zp
  go_enter Tryz.func38, Tryz.ntmps38
  go_wp2_with fail
  refine HH.mono ?_
  rintro e w1 ⟨rfl, b1⟩
  go_wp2_with fail
  go_ret
  exact ⟨rfl, b1⟩
set_option maxRecDepth 100000 in
theorem setText_no (w : World) (v : Value) (k : Int) (t : Nm) (hm : Option Nat) (lv : Value) (sm : Option Nat) (zp : Value) (s : Value) (h : Held w v k t hm lv sm zp) (hk : k ≠ 1) :
    Calls Tryz.prog 26 #[v, s] w fun e w' => e = .returned (.tuple #[]) ∧ Below w.heap.size w w' := by
  have HH := kind_ev w v k t hm lv sm zp h
  have e1 : decide (k = 1) = false := decide_eq_false hk
  have f1 : (k == 1) = false := beq_eq_false_iff_ne.2 hk
  go_enter Tryz.func26, Tryz.ntmps26
  go_wp2_with fail
  refine HH.mono ?_
  rintro e w1 ⟨rfl, b1⟩
  go_wp2_with fail
  go_end0
  exact ⟨rfl, b1⟩
set_option maxRecDepth 100000 in
theorem setItems_no (w : World) (v : Value) (k : Int) (t : Nm) (hm : Option Nat) (lv : Value) (sm : Option Nat) (zp : Value) (s : Value) (h : Held w v k t hm lv sm zp) (hk : k ≠ 3) (hk4 : k ≠ 4) :
    Calls Tryz.prog 27 #[v, s] w fun e w' => e = .returned (.tuple #[]) ∧ Below w.heap.size w w' := by
  have HH := kind_ev w v k t hm lv sm zp h
  have e1 : decide (k = 3) = false := decide_eq_false hk
  have f1 : (k == 3) = false := beq_eq_false_iff_ne.2 hk
  have e2 : decide (k = 4) = false := decide_eq_false hk4
  have f2 : (k == 4) = false := beq_eq_false_iff_ne.2 hk4
  go_enter Tryz.func27, Tryz.ntmps27
  go_wp2_with fail
  refine HH.mono ?_
  rintro e w1 ⟨rfl, b1⟩
  go_wp2_with fail
  go_end0
  exact ⟨rfl, b1⟩
theorem zeroTP : (Tryz.prog.info? 66).map (fun i => i.zero) = some (some (.agg [Value.map none].toArray)) := by kernel_rfl
theorem builtTP (mb : Option Nat) : Tryz.prog.built 66 [(0, .map mb)] = some [Value.map mb].toArray := by kernel_rfl
set_option maxRecDepth 100000 in
theorem newTableP_any (w : World) : Calls Tryz.prog 65 #[] w fun e w' => ∃ mb, e = .returned (.agg #[.map (some mb)]) ∧ MapAt w' mb [] ∧ w.heap.size ≤ mb ∧ Below w.heap.size w w' := by
  go_enter Tryz.func65, Tryz.ntmps65
  go_wp2_with (first
    | ((with_reducible refine wl_alloc (o := ⟨some 0, _, _, _, _, _⟩) rfl 66 _ [.map none] rfl zeroTP rfl ?_); intro g2 w2 r2 p2 l2 b2)
    | ((with_reducible refine wl_makeMapP (o := ⟨some 1, _, _, _, _, _⟩) rfl rfl ?_); intro mb w3 m3 p3 b3; have r23 := r2.later b3; have hb := builtTP (some mb))
    | (with_reducible refine wl_build (o := ⟨some 2, _, _, _, _, _⟩) rfl 66 [(0, .tmp 1)] rfl [(0, .map (some mb))] rfl [.map (some mb)] hb ?_)
    | ((with_reducible refine wl_store_row rfl 66 (.tmp 0) (.tmp 2) g2 66 _ [.map (some mb)] rfl rfl rfl r23 (by kernel_rfl) rfl (by simp [Value.oneCell']) ?_); intro w4 r4 o4))
  have hne : mb ≠ g2 := by have := r2.lt; omega
  refine bodyPost_ret (v := .agg #[.map (some mb)]) ?_ rfl ⟨mb, rfl, m3.only o4 hne, Nat.le_trans b2.size p3, (b2.trans (b3.mono b2.size)) |>.trans ((o4.below p2).mono (Nat.le_refl _))⟩
  exact results_cell_row Tryz.results65 _ _ g2 66 _ (0, 0) _ rfl r4 Tryz.underlying66 rfl (by kernel_rfl)
end Go.Proofs.YtpbkejmffddelaaGreat

/-
  A hash: its table; New, SetField. Own work.
-/
namespace Go.Proofs.YtpbkejmffddelaaGreat
open Go.RowKit Go.Shelf Go.Maps
abbrev Pr.v (p : Pr) : Value := .agg p.cells.toArray
/-- All that stands there are pairs. -/
def PrE (es : Ents) : Prop := ∀ p ∈ es, ∃ q : Pr, p.2 = q.v
theorem atE_mem {l : Ents} {n : Nm} {v : Value} (h : atE l n = some v) : (n, v) ∈ l := by
  unfold atE at h
  obtain ⟨p, hp, rfl⟩ := Option.map_eq_some_iff.1 h
  have h1 := List.find?_some hp
  have h2 := List.mem_of_find?_eq_some hp
  obtain rfl : p.1 = n := by simpa using h1
  exact h2
theorem PrE.at {es : Ents} (h : PrE es) (n : Nm) : ∃ q : Pr, (atE es n).getD zP = q.v := by
  cases hq : atE es n with
  | none => exact ⟨⟨[], []⟩, rfl⟩
  | some v => obtain ⟨q, e⟩ := h _ (atE_mem hq); exact ⟨q, e⟩
theorem mem_insE {x p : Nm × Value} : ∀ {l : Ents}, p ∈ insE x l → p = x ∨ p ∈ l
  | [], h => .inl (by simpa [insE] using h)
  | y :: r, h => by
    unfold insE at h
    split at h
    · rcases List.mem_cons.1 h with h | h
      · exact .inl h
      · exact .inr h
    · rcases List.mem_cons.1 h with h | h
      · exact .inr (by simp [h])
      · exact (mem_insE h).imp id fun h => by simp [h]
theorem PrE.put {es : Ents} (h : PrE es) (n : Nm) (q : Pr) : PrE (putE es n q.v) := by
  intro p hp
  rcases mem_insE hp with rfl | hp
  · exact ⟨q, rfl⟩
  · exact h p (List.mem_filter.1 hp).1
theorem builtPr (a b : Nm) : Tryz.prog.built 87 [(0, encStr a), (1, encStr b)] = some [encStr a, encStr b].toArray := by kernel_rfl
theorem onePr (a : Pr) : ∀ u ∈ a.cells, u.oneCell' = true := by simp [Value.oneCell', encStr]
theorem MapAt.but {w w' : World} {b g : Nat} {l : Ents} (h : MapAt w b l) (hb : But g w w') (hne : b ≠ g) : MapAt w' b l := h.same (hb.block b h.lt hne)
set_option maxRecDepth 100000 in
set_option maxHeartbeats 1000000 in
theorem putP_any (w : World) (mb : Nat) (es : Ents) (f : Nm) (p : Pr) (hm : MapAt w mb es) (hp : PrE es) (hf : f.length ≤ maxLen) (hl : es.length < maxLen) :
    Calls Tryz.prog 93 #[.agg #[.map (some mb)], encStr f, p.v] w fun e w' => e = .returned (.bool (!(atE es f).isSome)) ∧ MapAt w' mb (putE es f p.v) ∧ But mb w w' := by
  obtain ⟨q, hq⟩ := hp.at f
  obtain ⟨b, hb⟩ : ∃ b, (atE es f).isSome = b := ⟨_, rfl⟩
  have h1 := onePr q
  have hsz := szPr q
  have hszp := szPr p
  have hmb := hm.lt
  rw [hb]
  replace hm := hide hm
  replace hq := hide hq
  replace hb := hide hb
  clear hp
  go_enter Tryz.func93, Tryz.ntmps93
  go_wp2_with (first
    | ((with_reducible refine wl_box (o := ⟨some 3, _, _, _, _, _⟩) rfl 66 (.tmp 0) _ [.map (some mb)] rfl rfl rfl ?_); intro g3 w3 r3 p3 l3 b3)
    | ((with_reducible refine wl_box (o := ⟨some 5, _, _, _, _, _⟩) rfl 87 (.tmp 2) _ p.cells rfl rfl rfl ?_); intro g5 w5 r5 p5 l5 b5; have r35 := r3.later b5; have B5 := b3.trans (b5.mono b3.size); have m5 := hide (hm.out.later B5); have c0 := r35.cell (j := 0) rfl)
    | (with_reducible refine wl_lookEP (o := ⟨some 13, _, _, _, _, _⟩) rfl (.tmp 11) (.tmp 12) f mb es q.v b hq.out hb.out rfl rfl rfl m5.out hf ?_)
    | ((with_reducible refine wl_alloc (o := ⟨some 7, _, _, _, _, _⟩) rfl 87 _ [encStr [], encStr []] rfl zeroPr rfl ?_); intro g7 w6 r6 p6 l6 b6)
    | ((with_reducible refine wl_store_row rfl 87 (.tmp 7) (.tmp 14) g7 87 _ q.cells rfl rfl rfl r6 hsz rfl h1 ?_); intro w7 r7 o7; have b7 := b6.trans ((o7.below p6).mono (Nat.le_refl _)); have B7 := B5.trans (b7.mono B5.size); have r37 := r35.later b7; have r57 := r5.later b7; have m7 := hide (m5.out.later b7); have c7 := r37.cell (j := 0) rfl)
    | (with_reducible refine wl_load_row (o := ⟨some 19, _, _, _, _, _⟩) rfl 87 (.tmp 5) g5 87 p.cells _ rfl rfl r57 Tryz.underlying87 rfl hszp ?_)
    | ((with_reducible refine wl_putP rfl (.tmp 17) (.tmp 18) (.tmp 19) f p.v mb es rfl rfl rfl rfl m7.out hf hl ?_); intro w8 m8 o8))
  go_ret
  exact ⟨rfl, m8, (But.of B7 mb).trans (But.only o8)⟩
/-- A hash in memory. -/
structure HVal (w : World) (B gv mb : Nat) (es : Ents) : Prop where
  v : VRow w gv 2 [] (some mb) nilS none nilP
  map : MapAt w mb es
  pr : PrE es
  lo : B ≤ gv ∧ B ≤ mb
theorem HVal.held {w : World} {B gv mb : Nat} {es : Ents} (h : HVal w B gv mb es) : Held w (ptr gv) 2 [] (some mb) nilS none nilP := .inr ⟨gv, rfl, h.v⟩
theorem HVal.later {w w' : World} {B gv mb : Nat} {es : Ents} (h : HVal w B gv mb es) (hb : Below w.heap.size w w') : HVal w' B gv mb es := ⟨h.v.later hb, h.map.later hb, h.pr, h.lo⟩
theorem one2 (mb : Nat) : ∀ u ∈ vC 2 [] (some mb) nilS none nilP, u.oneCell' = true := by simp [Value.oneCell', encStr]
set_option maxRecDepth 100000 in
set_option maxHeartbeats 1000000 in
theorem new2_any (w : World) : Calls Tryz.prog 17 #[.int .i64 2] w fun e w' => ∃ gv mb, e = .returned (ptr gv) ∧ HVal w' w.heap.size gv mb [] ∧ Below w.heap.size w w' := by
  have hbu := builtVv 2
  go_enter Tryz.func17, Tryz.ntmps17
  go_wp2_with fail
  refine (isKind_any w 2).mono ?_
  rintro e w1 ⟨rfl, rfl⟩
  rw [show decide ((1 : Int) ≤ 2 ∧ (2 : Int) ≤ 5) = true from rfl]
  go_wp2_with (first
    | (with_reducible refine wl_build (o := ⟨some 8, _, _, _, _, _⟩) rfl 72 [(0, .tmp 7)] rfl [(0, .int .i64 2)] rfl (vC 2 [] none nilS none nilP) hbu ?_)
    | ((with_reducible refine wl_box (o := ⟨some 9, _, _, _, _, _⟩) rfl 72 (.tmp 8) _ (vC 2 [] none nilS none nilP) rfl rfl rfl ?_); intro g3 w3 r3 p3 l3 b3))
  refine (newTableP_any w3).mono ?_
  rintro e w4 ⟨mb, rfl, m4, p4, b4⟩
  have r4 : Row w4 TV g3 ([.int .i64 2, encStr []] ++ ([.map none] ++ [nilS, .map none, nilP])) := r3.later b4
  go_wp2_with (first
    | ((with_reducible refine wl_store_part rfl 66 (.tmp 16) (.tmp 14) g3 2 72 [.int .i64 2, encStr []] [.map none] [nilS, .map none, nilP] [.map (some mb)] rfl rfl rfl r4 rfl rfl (by kernel_rfl) (by simp [Value.oneCell']) ?_); intro w5 r5 o5; replace r5 : Row w5 TV g3 (vC 2 [] (some mb) nilS none nilP) := r5))
  have hne : mb ≠ g3 := by have := r3.lt; omega
  go_ret
  exact ⟨g3, mb, rfl, ⟨⟨r5, one2 mb⟩, m4.only o5 hne, (by intro p hp; cases hp), p3, Nat.le_trans b3.size p4⟩, (b3.trans (b4.mono b3.size)).trans ((o5.below p3).mono (Nat.le_refl _))⟩
set_option maxRecDepth 100000 in
set_option maxHeartbeats 1000000 in
theorem setField_h (w : World) (B gv mb : Nat) (es : Ents) (f t : Nm) (h : HVal w B gv mb es) (hf : f.length ≤ maxLen) (hl : es.length < maxLen) :
    Calls Tryz.prog 29 #[ptr gv, encStr f, encStr t] w fun e w' => e = .returned (.bool (!(atE es f).isSome)) ∧ HVal w' B gv mb (putE es f (Pr.v ⟨f, t⟩)) ∧ But mb w w' := by
  have HK := kind_ev w (ptr gv) 2 [] (some mb) nilS none nilP h.held
  have hbu := builtPr f t
  go_enter Tryz.func29, Tryz.ntmps29
  go_wp2_with fail
  refine HK.mono ?_
  rintro e w1 ⟨rfl, b1⟩
  have h1 := h.later b1
  have r1 : Row w1 TV gv ([.int .i64 2, encStr []] ++ ([.map (some mb)] ++ [nilS, .map none, nilP])) := h1.v.row
  go_wp2_with (first
    | (with_reducible refine wg_load_part (o := ⟨some 14, _, _, _, _, _⟩) 3 true 10 rfl rfl rfl 66 (.tmp 13) gv 2 72 [.int .i64 2, encStr []] [.map (some mb)] [nilS, .map none, nilP] _ rfl rfl r1 rfl Tryz.underlying66 rfl (by kernel_rfl) ?_)
    | (with_reducible refine wg_build (o := ⟨some 18, _, _, _, _, _⟩) 3 true 10 rfl rfl rfl 87 [(0, .tmp 16), (1, .tmp 17)] rfl [(0, encStr f), (1, encStr t)] rfl [encStr f, encStr t] hbu ?_))
  refine (putP_any w1 mb es f ⟨f, t⟩ h1.map h1.pr hf hl).mono ?_
  rintro e w2 ⟨rfl, m2, u2⟩
  have hne : gv ≠ mb := by
    intro e
    subst e
    exact (h.map.ne_row h.v.row) rfl
  go_wp2_with fail
  go_ret
  exact ⟨by show Ending.returned (.bool (atE es f).isNone) = _; simp, ⟨⟨h1.v.row.but u2 hne, h1.v.one⟩, m2, h1.pr.put f ⟨f, t⟩, h.lo⟩, (But.of b1 mb).trans u2⟩
end Go.Proofs.YtpbkejmffddelaaGreat
