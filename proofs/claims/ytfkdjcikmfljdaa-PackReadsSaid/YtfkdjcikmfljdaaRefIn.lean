/-
  The document's own reader: a contract each. Own work.
-/
import Derived.Test.YtfkdjcikmfljdaaReader2
namespace Go.Proofs.Ytfkdjcikmfljdaa
open Go.RowKit
set_option linter.unusedVariables false
set_option linter.unusedSimpArgs false

/-- The document's reader in block g. -/
def Id (w : World) (lo g : Nat) (xs : List Int) (e : Int) : Prop :=
  ∃ A n c, lo ≤ g ∧ Blk w g 42 #[.slice A n c, .int .i64 e] ∧ Sp w lo g A n xs ∧ n ≤ c ∧ (c ≤ 9223372036854775807 ∧ n ≤ 140737488355328) ∧ (e ≠ 0 → xs = [])
theorem Id.grown {w w' : World} {lo g g' : Nat} {xs : List Int} {e : Int} (h : Id w lo g xs e) (hg : w.grownBy w' (some g')) (hne : g' < lo ∨ g < g') : Id w' lo g xs e := by
  obtain ⟨A, n, c, h0, h1, h2, h3, h4, h5⟩ := h
  exact ⟨A, n, c, h0, h1.grown hg (by intro e; injection e with e; omega), h2.grown hg (by omega), h3, h4, h5⟩
theorem Id.later {w w' : World} {lo g : Nat} {xs : List Int} {e : Int} (h : Id w lo g xs e) (hb : Below w.heap.size w w') : Id w' lo g xs e := by
  obtain ⟨A, n, c, h0, h1, h2, h3, h4, h5⟩ := h
  exact ⟨A, n, c, h0, h1.below hb h1.lt, h2.later hb, h3, h4, h5⟩
theorem Id.nil_ {w : World} {lo g : Nat} {xs : List Int} {e : Int} (h : Id w lo g xs e) (he : e ≠ 0) : xs = [] := by
  obtain ⟨A, n, c, _, _, _, _, _, h5⟩ := h; exact h5 he

theorem ifail_new {lo g : Nat} {xs : List Int} (w : World) (h : Id w lo g xs 0) (code : Int) :
    Calls Try.prog 49 #[.pointer (some ⟨g, 0, none⟩), .int .i64 code] w fun en w' => en = .returned (.tuple #[]) ∧ Id w' lo g [] code ∧ w.grownBy w' (some g) := by
  obtain ⟨A, n, c, hlo, hb, hs, _⟩ := h
  have c0 := hb.cell 0
  have c1 := hb.cell 1
  simp only [List.getElem?_toArray, List.getElem?_cons_zero, List.getElem?_cons_succ] at c0 c1
  have f0 := hb.frozen 0
  have f1 := hb.frozen 1
  have HB := hide hb
  clear hb
  go_enter Try.func49, Try.ntmps49
  go_wp2
  go_end0
  exact ⟨rfl, ⟨none, 0, 0, hlo, (HB.out.set 1 _).set 0 _, Sp.nil_, Nat.le_refl _, ⟨by omega, by omega⟩, fun _ => rfl⟩, grown_trans (grown_set _ _ _ _) (grown_set _ _ _ _)⟩
theorem ifail_old {lo g : Nat} {xs : List Int} {e : Int} (w : World) (h : Id w lo g xs e) (he : e ≠ 0) (code : Int) :
    Calls Try.prog 49 #[.pointer (some ⟨g, 0, none⟩), .int .i64 code] w fun en w' => en = .returned (.tuple #[]) ∧ Id w' lo g [] e ∧ w.grownBy w' (some g) := by
  obtain ⟨A, n, c, hlo, hb, hs, _⟩ := h
  have hd : (e == 0) = false := beq_eq_false_iff_ne.2 he
  have c0 := hb.cell 0
  have c1 := hb.cell 1
  simp only [List.getElem?_toArray, List.getElem?_cons_zero, List.getElem?_cons_succ] at c0 c1
  have f0 := hb.frozen 0
  have f1 := hb.frozen 1
  have HB := hide hb
  clear hb
  go_enter Try.func49, Try.ntmps49
  go_wp2
  go_end0
  exact ⟨rfl, ⟨none, 0, 0, hlo, HB.out.set 0 _, Sp.nil_, Nat.le_refl _, ⟨by omega, by omega⟩, fun _ => rfl⟩, grown_set _ _ _ _⟩

def INumPost (w : World) (lo g : Nat) (k : IntKind) (v : Int) (xs : List Int) (e : Int) (en : Ending) (w' : World) : Prop := en = .returned (.int k v) ∧ Id w' lo g xs e ∧ w.grownBy w' (some g)

theorem step256 (k : Nat) (hk : k < 8) {q b : Int} (q0 : 0 ≤ q) (q1 : q < 256 ^ k) (b0 : 0 ≤ b) (b1 : b < 256) : 0 ≤ 256 * q ∧ 256 * q + b < 18446744073709551616 := by
  have := pow256_mono (show k + 1 ≤ 8 by omega)
  rw [Int.pow_succ, show (256 : Int) ^ 8 = 18446744073709551616 from by decide] at this
  omega

set_option maxHeartbeats 400000 in
theorem iu_any {lo g : Nat} {xs : List Int} {e : Int} (w : World) (h : Id w lo g xs e) (hx : IsBy xs) (n : Nat) (hn0 : 0 < n) (hn : n ≤ 8) :
    Calls Try.prog 27 #[.pointer (some ⟨g, 0, none⟩), .int .i64 (n : Int)] w (INumPost w lo g .u64 (unum n xs e) (tk n xs e).2.1 (tk n xs e).2.2) := by
  have h' := hide h
  have hnil := h.nil_
  obtain ⟨A, m, c, hlo, hb, hs, hmc, ⟨hc, hm47⟩, _⟩ := h
  have c0 := hb.cell 0
  simp only [List.getElem?_toArray, List.getElem?_cons_zero, List.getElem?_cons_succ] at c0
  have f0 := hb.frozen 0
  have hml := hs.1
  by_cases hlt : m < n
  · by_cases he : e = 0
    · subst he
      have ht : tk n xs 0 = ([], [], 4) := by simp [tk]; omega
      unfold unum
      rw [ht]
      have HM := hide hml
      clear hml hb hnil
      go_enter Try.func27, Try.ntmps27
      go_wp2_with (go_at_call 49; refine (ifail_new _ h'.out 4).mono ?_; rintro en w1 ⟨rfl, hr, hg⟩)
      go_ret
      exact ⟨rfl, hr, hg⟩
    · have hxs := hnil he
      have ht : tk n xs e = ([], [], e) := by simp [tk, he, hxs]
      unfold unum
      rw [ht]
      have HM := hide hml
      clear hml hb hnil hxs
      go_enter Try.func27, Try.ntmps27
      go_wp2_with (go_at_call 49; refine (ifail_old _ h'.out he 4).mono ?_; rintro en w1 ⟨rfl, hr, hg⟩)
      go_ret
      exact ⟨rfl, hr, hg⟩
  · have he : e = 0 := by
      rcases Decidable.em (e = 0) with h | h
      · exact h
      · have := hnil h
        rw [this] at hml
        simp at hml
        omega
    subst he
    have ht : tk n xs 0 = (xs.take n, xs.drop n, 0) := by simp [tk]; omega
    unfold unum
    rw [ht]
    have HM := hide hml
    have HB := hide hb
    clear hml hb hnil
    go_enter Try.func27, Try.ntmps27
    go_wp2
    go_loop [5, 6] (fun v i => ∃ k : Nat, k ≤ n ∧ i = .int .i64 k ∧ v = .int .u64 (beV (xs.take k))) (fun _ i => n - (intOf i).toNat)
    case atStart => exact ⟨0, Nat.zero_le _, rfl, rfl⟩
    case round =>
      obtain ⟨k, hk, rfl, rfl⟩ := hrel
      obtain ⟨q0, q1⟩ := beV_bound (hx.take k)
      by_cases hkn : k < n
      · obtain ⟨b, o, rfl, hlb, _, hcell⟩ := hs.2 (by omega)
        have hck := hcell k (by omega)
        obtain ⟨b0, b1⟩ := getD_byte hx k
        have hsu := beV_take_succ xs k (by rw [HM.out]; omega)
        rw [List.length_take, HM.out, Nat.min_eq_left (by omega)] at q1
        obtain ⟨s0, s1⟩ := step256 k (by omega) q0 q1 b0 b1
        have S2 := hide (show IntKind.u64.wrap (256 * beV (xs.take k) + IntKind.u64.wrap (xs.getD k 0)) = 256 * beV (xs.take k) + xs.getD k 0 from by rw [u64_wrap_id _ b0 (by omega), u64_wrap_id _ (by omega) s1])
        have HS := hide hsu
        clear hsu q1 hcell
        go_wp2
        go_round
        case rel => exact ⟨k + 1, by omega, by go_num, congrArg (Value.int .u64) (by have h2 := S2.out; rw [HS.out, Int.mul_comm (beV _) 256, ← h2]; simp [List.getD])⟩
        case measure => simp [intOf]; omega
      · have hkn' : k = n := by omega
        go_wp2
        · go_ret
          have hcn : c = n := ‹c = n›
          have hd := hs.drop (k := n) (by omega) hmc
          rw [if_pos hcn] at hd
          exact ⟨rfl, ⟨A, m - n, 0, hlo, HB.out.set 0 _, hd.grown (grown_set _ _ _ _) (.inr (Nat.le_refl _)), by omega, ⟨by omega, by omega⟩, fun h => absurd rfl h⟩, grown_set _ _ _ _⟩
        · go_ret
          have hd := hs.drop (k := n) (by omega) hmc
          rw [if_neg ‹¬c = n›] at hd
          exact ⟨rfl, ⟨_, m - n, c - n, hlo, HB.out.set 0 _, hd.grown (grown_set _ _ _ _) (.inr (Nat.le_refl _)), by omega, ⟨by omega, by omega⟩, fun h => absurd rfl h⟩, grown_set _ _ _ _⟩

theorem tk_err {n : Nat} {xs : List Int} {e : Int} (h : (tk n xs e).2.2 ≠ 0) : (tk n xs e).1 = [] := by
  unfold tk at h ⊢
  split
  · rfl
  · rename_i he
    rw [if_neg he] at h
    split
    · rfl
    · rename_i hl; rw [if_neg hl] at h; exact absurd rfl h
theorem unum_err {n : Nat} {xs : List Int} {e : Int} (h : (tk n xs e).2.2 ≠ 0) : unum n xs e = 0 := by unfold unum; rw [tk_err h]; rfl

set_option maxHeartbeats 400000 in
theorem inum_any {lo g : Nat} {xs : List Int} {e : Int} (w : World) (h : Id w lo g xs e) (hx : IsBy xs) (most : Int) (m0 : -9223372036854775808 ≤ most) (m1 : most ≤ 9223372036854775807) :
    Calls Try.prog 31 #[.pointer (some ⟨g, 0, none⟩), .int .i64 most] w (INumPost w lo g .i64 (tkNum most xs e).1 (tkNum most xs e).2.1 (tkNum most xs e).2.2) := by
  have hub := unum_bound (n := 8) (e := e) hx
  have hu : unum 8 xs e < 18446744073709551616 := hub.2
  have hc := hide (iu_any w h hx 8 (by omega) (by omega))
  have hnil := tk_nil (n := 8) h.nil_
  have hz := unum_err (n := 8) (xs := xs) (e := e)
  unfold tkNum
  generalize unum 8 xs e = v at *
  generalize (tk 8 xs e).2 = r at *
  obtain ⟨ys, e1⟩ := r
  dsimp only at *
  have h0 := hub.1
  clear h hx hub
  by_cases he : e1 = 0
  · subst he
    clear hz hnil
    by_cases hm : most < v
    · rw [if_pos hm, if_neg (by simp)]
      by_cases h63 : 9223372036854775808 ≤ v
      · have HV := hide hu
        clear hu
        go_enter Try.func31, Try.ntmps31
        go_wp2_with (first
          | (go_at_call 27; refine hc.out.mono ?_; rintro en w1 ⟨rfl, hr, hg⟩; obtain ⟨A1, n1, c1, _, hb1, _⟩ := id hr; have cc0 := hb1.cell 0; have cc1 := hb1.cell 1; simp only [List.getElem?_toArray, List.getElem?_cons_zero, List.getElem?_cons_succ] at cc0 cc1; clear hb1)
          | (go_at_call 49; refine (ifail_new _ hr 5).mono ?_; rintro en w2 ⟨rfl, hr2, hg2⟩))
        go_ret
        exact ⟨rfl, hr2, grown_trans hg hg2⟩
      · have HV := hide hu
        clear hu
        go_enter Try.func31, Try.ntmps31
        go_wp2_with (first
          | (go_at_call 27; refine hc.out.mono ?_; rintro en w1 ⟨rfl, hr, hg⟩; obtain ⟨A1, n1, c1, _, hb1, _⟩ := id hr; have cc0 := hb1.cell 0; have cc1 := hb1.cell 1; simp only [List.getElem?_toArray, List.getElem?_cons_zero, List.getElem?_cons_succ] at cc0 cc1; clear hb1)
          | (go_at_call 49; refine (ifail_new _ hr 5).mono ?_; rintro en w2 ⟨rfl, hr2, hg2⟩))
        go_ret
        exact ⟨rfl, hr2, grown_trans hg hg2⟩
    · rw [if_neg hm]
      have h63 : ¬ 9223372036854775808 ≤ v := by omega
      have HV := hide hu
      clear hu
      go_enter Try.func31, Try.ntmps31
      go_wp2_with (go_at_call 27; refine hc.out.mono ?_; rintro en w1 ⟨rfl, hr, hg⟩; obtain ⟨A1, n1, c1, _, hb1, _⟩ := id hr; have cc0 := hb1.cell 0; have cc1 := hb1.cell 1; simp only [List.getElem?_toArray, List.getElem?_cons_zero, List.getElem?_cons_succ] at cc0 cc1; clear hb1)
      go_ret
      exact ⟨rfl, hr, hg⟩
  · have hd : (e1 == 0) = false := beq_eq_false_iff_ne.2 he
    obtain rfl := hz he
    obtain rfl := hnil he
    clear hz hnil
    have hif : (if most < 0 then ((0 : Int), ([] : List Int), if e1 ≠ 0 then e1 else 5) else (0, [], e1)) = (0, [], e1) := by
      rw [if_pos he]; split <;> rfl
    rw [hif]
    clear hu h0
    go_enter Try.func31, Try.ntmps31
    go_wp2_with (go_at_call 27; refine hc.out.mono ?_; rintro en w1 ⟨rfl, hr, hg⟩; obtain ⟨A1, n1, c1, _, hb1, _⟩ := id hr; have cc0 := hb1.cell 0; have cc1 := hb1.cell 1; simp only [List.getElem?_toArray, List.getElem?_cons_zero, List.getElem?_cons_succ] at cc0 cc1; clear hb1)
    go_ret
    exact ⟨rfl, hr, hg⟩

def ITextPost (w : World) (lo g : Nat) (r : List Int × List Int × Int) (en : Ending) (w' : World) : Prop :=
  ∃ A n c, en = .returned (.slice A n c) ∧ Bs w' w'.heap.size A n r.1 ∧ Id w' lo g r.2.1 r.2.2 ∧ w.grownBy w' (some g)

/-- Two texts, one behind the other, are new memory. -/
theorem both_new (A B : Option Addr) (n m c d : Nat) (xs ys : List Int) (w : World) (h1 : Bs w w.heap.size A n xs) (h2 : Bs w w.heap.size B m ys) (hn : n + m ≤ 140737488355328) :
    Calls Try.prog 19 #[.slice A n c, .slice B m d] w fun e w' => ∃ A n c, e = .returned (.slice A n c) ∧ Sp w' w.heap.size w'.heap.size A n (xs ++ ys) ∧ n ≤ c ∧ c ≤ maxLen ∧ Below w.heap.size w w' := by
  obtain ⟨i0, hi, hz, hsz, hby⟩ := u8_info
  have hown0 := World.ownsRow_nil w w.heap.size 5 1
  go_enter Try.func19, Try.ntmps19
  go_wp2_with (first
    | (at_builtin
       refine wpList_append_bs rfl (.tmp 6) (.tmp 7) _ rfl w.heap.size 5 i0 Try.underlying22 hi hz hsz hby (.slice none 0 0) 0 [] rfl hown0 w.heap.size A n c xs rfl h1 (by omega) (by simp) ?_
       intro v1 w1 hown1 hg1
       have hb1 := grown_below (Below.refl _ _) hown0 (Nat.le_refl _) hg1
       have hz1 := hb1.size)
    | (at_builtin
       refine wpList_append_bs rfl (.tmp 9) (.tmp 10) _ rfl w.heap.size 5 i0 Try.underlying22 hi hz hsz hby v1 (0 + n) ([] ++ xs) rfl hown1 w.heap.size B m d ys rfl (h2.below hb1) (by omega) hz1 ?_
       intro v2 w2 hown2 hg2))
  go_ret
  obtain ⟨A1, n1, c1, rfl, h2, h3, h4, h5⟩ := ret_owns_new hown2 (grown_below hb1 hown1 (Nat.le_refl _) hg2) (Nat.le_refl _) rfl
  exact ⟨A1, n1, c1, rfl, by simpa using h2, h3, h4, h5⟩

theorem irest_any {lo g : Nat} {xs : List Int} {e : Int} (w : World) (h : Id w lo g xs e) :
    Calls Try.prog 35 #[.pointer (some ⟨g, 0, none⟩)] w (ITextPost w lo g (xs, [], e)) := by
  obtain ⟨A, n, c, hlo, hb, hs, hmc, ⟨hc, hm47⟩, _⟩ := h
  have c0 := hb.cell 0
  simp only [List.getElem?_toArray, List.getElem?_cons_zero, List.getElem?_cons_succ] at c0
  have HB := hide hb
  have hlt := hb.lt
  clear hb
  go_enter Try.func35, Try.ntmps35
  go_wp2_with (go_at_call 19; refine (both_new none _ 0 _ 0 _ [] xs _ Bs.nil_ hs.lt_size (by omega)).mono ?_; rintro en w2 ⟨A2, n2, c2, rfl, hb2, hn2, hc2, hl2⟩; have hB2 := HB.out.below hl2 (HB.out).lt; have f0 := hB2.frozen 0; have c0' := hB2.cell 0; simp only [List.getElem?_toArray, List.getElem?_cons_zero, List.getElem?_cons_succ] at c0'; have HB2 := hide hB2; clear hB2)
  go_ret
  exact ⟨A2, n2, c2, rfl, by simpa using (hb2.grown (grown_set _ g 0 _) (.inl hlt)).lt_size, ⟨none, 0, 0, hlo, HB2.out.set 0 _, Sp.nil_, Nat.le_refl _, ⟨by omega, by omega⟩, fun _ => rfl⟩, grown_trans (grown_of_below hl2) (grown_set _ _ _ _)⟩

set_option maxHeartbeats 1000000 in
theorem ibytes_any {lo g : Nat} {xs : List Int} {e : Int} (w : World) (h : Id w lo g xs e) (hx : IsBy xs) (most : Int) (m0 : -9223372036854775808 ≤ most) (m1 : most ≤ 9223372036854775807) :
    Calls Try.prog 33 #[.pointer (some ⟨g, 0, none⟩), .int .i64 most] w (ITextPost w lo g (tkText most xs e)) := by
  have hub := unum_bound (n := 4) (e := e) hx
  have hu : unum 4 xs e < 4294967296 := hub.2
  have hc := hide (iu_any w h hx 4 (by omega) (by omega))
  have hnil := tk_nil (n := 4) h.nil_
  have hz := unum_err (n := 4) (xs := xs) (e := e)
  unfold tkText
  generalize unum 4 xs e = v at *
  generalize (tk 4 xs e).2 = r at *
  obtain ⟨ys, e1⟩ := r
  dsimp only at *
  have h0 := hub.1
  clear h hx hub
  by_cases he : e1 = 0
  · subst he
    clear hz hnil
    by_cases hm : most < v
    · rw [if_pos hm, if_neg (by simp)]
      go_enter Try.func33, Try.ntmps33
      go_wp2_with (first
        | (go_at_call 27; refine hc.out.mono ?_; rintro en w1 ⟨rfl, hr, hg⟩; obtain ⟨A1, n1, c1, hlo1, hb1, hs1, hmc1, ⟨hc1, hm1⟩, _⟩ := id hr; have cc0 := hb1.cell 0; have cc1 := hb1.cell 1; simp only [List.getElem?_toArray, List.getElem?_cons_zero, List.getElem?_cons_succ] at cc0 cc1; have HB1 := hide hb1; have hlt1 := hb1.lt; clear hb1)
        | (go_at_call 49; refine (ifail_new _ hr 5).mono ?_; rintro en w2 ⟨rfl, hr2, hg2⟩; obtain ⟨A3, n3, c3, _, hb3, _⟩ := id hr2; have dd0 := hb3.cell 0; have dd1 := hb3.cell 1; simp only [List.getElem?_toArray, List.getElem?_cons_zero, List.getElem?_cons_succ] at dd0 dd1; clear hb3))
      go_ret
      exact ⟨none, 0, 0, rfl, Bs.nil_, hr2, grown_trans hg hg2⟩
    · rw [if_neg hm]
      by_cases hl : (ys.length : Int) < v
      · have ht : tk v.toNat ys 0 = ([], [], 4) := by simp [tk]; omega
        rw [ht]
        go_enter Try.func33, Try.ntmps33
        go_wp2_with (first
          | (go_at_call 27; refine hc.out.mono ?_; rintro en w1 ⟨rfl, hr, hg⟩; obtain ⟨A1, n1, c1, hlo1, hb1, hs1, hmc1, ⟨hc1, hm1⟩, _⟩ := id hr; have cc0 := hb1.cell 0; have cc1 := hb1.cell 1; simp only [List.getElem?_toArray, List.getElem?_cons_zero, List.getElem?_cons_succ] at cc0 cc1; have HB1 := hide hb1; have hlt1 := hb1.lt; clear hb1; have hnl : (n1 : Int) < v := by (have := hs1.1; omega))
          | (go_at_call 49; refine (ifail_new _ hr 4).mono ?_; rintro en w2 ⟨rfl, hr2, hg2⟩; obtain ⟨A3, n3, c3, _, hb3, _⟩ := id hr2; have dd0 := hb3.cell 0; have dd1 := hb3.cell 1; simp only [List.getElem?_toArray, List.getElem?_cons_zero, List.getElem?_cons_succ] at dd0 dd1; clear hb3))
        go_ret
        exact ⟨none, 0, 0, rfl, Bs.nil_, hr2, grown_trans hg hg2⟩
      · obtain ⟨k, rfl⟩ := Int.eq_ofNat_of_zero_le h0
        have ht : tk (k : Int).toNat ys 0 = (ys.take k, ys.drop k, 0) := by simp [tk]; omega
        rw [ht]
        have hkl : k ≤ ys.length := by omega
        clear hu
        go_enter Try.func33, Try.ntmps33
        go_wp2_with (first
          | (go_at_call 27; refine hc.out.mono ?_; rintro en w1 ⟨rfl, hr, hg⟩; obtain ⟨A1, n1, c1, hlo1, hb1, hs1, hmc1, ⟨hc1, hm1⟩, _⟩ := id hr; have cc0 := hb1.cell 0; have cc1 := hb1.cell 1; simp only [List.getElem?_toArray, List.getElem?_cons_zero, List.getElem?_cons_succ] at cc0 cc1; have HB1 := hide hb1; have hlt1 := hb1.lt; clear hb1; have hnl : k ≤ n1 := by (have := hs1.1; omega))
          | (go_at_call 19; refine (both_new none _ 0 _ 0 _ [] (ys.take k) _ Bs.nil_ (hs1.take hnl).lt_size (by omega)).mono ?_; rintro en w2 ⟨A2, n2, c2, rfl, hb2, hn2, hc2, hl2⟩; have hB2 := HB1.out.below hl2 (HB1.out).lt; have f0 := hB2.frozen 0; have c0' := hB2.cell 0; simp only [List.getElem?_toArray, List.getElem?_cons_zero, List.getElem?_cons_succ] at c0'; have HB2 := hide hB2; clear hB2))
        · go_ret
          have hcn : c1 = k := ‹c1 = k›
          have hdr := (hs1.later hl2).drop (k := k) hnl hmc1
          rw [if_pos hcn] at hdr
          exact ⟨A2, n2, c2, rfl, by simpa using (hb2.grown (grown_set _ g 0 _) (.inl hlt1)).lt_size, ⟨A1, n1 - k, 0, hlo1, HB2.out.set 0 _, hdr.grown (grown_set _ _ _ _) (.inr (Nat.le_refl _)), by omega, ⟨by omega, by omega⟩, fun h => absurd rfl h⟩, grown_trans hg (grown_trans (grown_of_below hl2) (grown_set _ _ _ _))⟩
        · go_ret
          have hdr := (hs1.later hl2).drop (k := k) hnl hmc1
          rw [if_neg ‹¬c1 = k›] at hdr
          exact ⟨A2, n2, c2, rfl, by simpa using (hb2.grown (grown_set _ g 0 _) (.inl hlt1)).lt_size, ⟨_, n1 - k, c1 - k, hlo1, HB2.out.set 0 _, hdr.grown (grown_set _ _ _ _) (.inr (Nat.le_refl _)), by omega, ⟨by omega, by omega⟩, fun h => absurd rfl h⟩, grown_trans hg (grown_trans (grown_of_below hl2) (grown_set _ _ _ _))⟩
  · have hd : (e1 == 0) = false := beq_eq_false_iff_ne.2 he
    have hd2 : (e1 != 0) = true := by rw [bne_iff_ne]; exact he
    obtain rfl := hz he
    obtain rfl := hnil he
    clear hz hnil
    have hif : (if most < 0 then (([] : List Int), ([] : List Int), if e1 ≠ 0 then e1 else 5) else tk (0 : Int).toNat [] e1) = ([], [], e1) := by
      rw [if_pos he]
      split
      · rfl
      · simp [tk, he]
    rw [hif]
    clear hu h0
    go_enter Try.func33, Try.ntmps33
    go_wp2_with (go_at_call 27; refine hc.out.mono ?_; rintro en w1 ⟨rfl, hr, hg⟩; obtain ⟨A1, n1, c1, hlo1, hb1, hs1, hmc1, ⟨hc1, hm1⟩, _⟩ := id hr; have cc0 := hb1.cell 0; have cc1 := hb1.cell 1; simp only [List.getElem?_toArray, List.getElem?_cons_zero, List.getElem?_cons_succ] at cc0 cc1; have HB1 := hide hb1; have hlt1 := hb1.lt; clear hb1)
    go_ret
    exact ⟨none, 0, 0, rfl, Bs.nil_, hr, hg⟩

theorem iend_any {lo g : Nat} {xs : List Int} {e : Int} (w : World) (h : Id w lo g xs e) :
    Calls Try.prog 39 #[.pointer (some ⟨g, 0, none⟩)] w fun en w' => en = .returned (.int .i64 (endV xs e)) ∧ w = w' := by
  obtain ⟨A, n, c, hlo, hb, hs, hmc, ⟨hc, hm47⟩, _⟩ := h
  have c0 := hb.cell 0
  have c1 := hb.cell 1
  simp only [List.getElem?_toArray, List.getElem?_cons_zero, List.getElem?_cons_succ] at c0 c1
  unfold endV
  rw [hs.1]
  clear hb hs
  by_cases he : e = 0
  · subst he
    by_cases hl : 0 < n
    · rw [if_pos ⟨rfl, hl⟩]
      go_enter Try.func39, Try.ntmps39
      go_wp2
      go_ret
      exact ⟨rfl, rfl⟩
    · rw [if_neg (fun h => hl h.2)]
      obtain rfl : n = 0 := by omega
      go_enter Try.func39, Try.ntmps39
      go_wp2
      go_ret
      exact ⟨rfl, rfl⟩
  · rw [if_neg (fun h => he h.1)]
    have hd : (e == 0) = false := beq_eq_false_iff_ne.2 he
    go_enter Try.func39, Try.ntmps39
    go_wp2
    go_ret
    exact ⟨rfl, rfl⟩
end Go.Proofs.Ytfkdjcikmfljdaa
