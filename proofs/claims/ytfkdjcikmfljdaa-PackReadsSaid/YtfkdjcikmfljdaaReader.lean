/-
  Structs behind a pointer that a call writes; the reader of pack: a contract each. Own work.
-/
import Derived.Test.YtfkdjcikmfljdaaPackC
namespace Go.Proofs.Ytfkdjcikmfljdaa
open Go.RowKit
set_option linter.unusedVariables false

/-- Block g of w is just the cells cs, of element type t; none is frozen. -/
def Blk (w : World) (g : Nat) (t : TypeId) (cs : Array Value) : Prop := w.heap[g]? = some (.cells cs t (0, 0))
section
variable {w w' w'' : World} {g t : Nat} {cs : Array Value}
theorem Blk.cell (h : Blk w g t cs) (i : Nat) : w.cell? ⟨g, i, none⟩ = cs[i]? := cell_of_row w g i cs t (0, 0) h
theorem Blk.frozen (h : Blk w g t cs) (i : Nat) : w.frozen? ⟨g, i, none⟩ = false := frozen_of_row w g i cs t h
theorem Blk.set (h : Blk w g t cs) (i : Nat) (u : Value) : Blk (w.setCell ⟨g, i, none⟩ u) g t (cs.setIfInBounds i u) := heap_setCell_same w g i cs t u h
theorem Blk.lt (h : Blk w g t cs) : g < w.heap.size := by
  rcases Nat.lt_or_ge g w.heap.size with h1 | h1
  · exact h1
  · unfold Blk at h; rw [Array.getElem?_eq_none h1] at h; cases h
theorem Blk.grown (h : Blk w g t cs) {r : Option Nat} (hg : w.grownBy w' r) (hr : some g ≠ r) : Blk w' g t cs := (hg.block g h.lt hr).trans h
theorem Blk.below (h : Blk w g t cs) {B : Nat} (hb : Below B w w') (hg : g < B) : Blk w' g t cs := (hb.block g hg).trans h
theorem grown_refl (w : World) (r : Option Nat) : w.grownBy w r := ⟨rfl, rfl, rfl, Nat.le_refl _, fun _ _ _ => rfl⟩
theorem grown_trans {r : Option Nat} (h : w.grownBy w' r) (k : w'.grownBy w'' r) : w.grownBy w'' r :=
  ⟨k.os.trans h.os, k.tape.trans h.tape, k.output.trans h.output, Nat.le_trans h.size k.size, fun i hi hr => (k.block i (Nat.lt_of_lt_of_le hi h.size) hr).trans (h.block i hi hr)⟩
theorem grown_set (w : World) (g i : Nat) (u : Value) : w.grownBy (w.setCell ⟨g, i, none⟩ u) (some g) :=
  ⟨rfl, rfl, rfl, by simp [World.setCell], fun k _ hk => heap_setCell_other w ⟨g, i, none⟩ k u (fun e => hk (by rw [e]))⟩
theorem grown_of_below {r : Option Nat} (h : Below w.heap.size w w') : w.grownBy w' r := ⟨h.os, h.tape, h.output, h.size, fun k hk _ => h.block k hk⟩
theorem below_of_grown {B : Nat} (h : w.grownBy w' (some g)) (hB : B ≤ g) (hw : B ≤ w.heap.size) : Below B w w' :=
  ⟨h.os, h.tape, h.output, h.size, fun k hk => h.block k (by omega) (fun e => by injection e; omega)⟩
end

/-- The slice '.slice A n c' reads as the bytes xs, in a block from lo on and below hi. -/
def Sp (w : World) (lo hi : Nat) (A : Option Addr) (n : Nat) (xs : List Int) : Prop :=
  xs.length = n ∧ (0 < n → ∃ b o, A = some ⟨b, o, none⟩ ∧ lo ≤ b ∧ b < hi ∧ ∀ j, j < n → w.cell? ⟨b, o + j, none⟩ = some (.int .u8 (xs.getD j 0)))
section
variable {w w' : World} {lo hi n : Nat} {A : Option Addr} {xs : List Int}
theorem Sp.nil_ : Sp w lo hi A 0 [] := ⟨rfl, fun h => absurd h (by omega)⟩
theorem Sp.bs (h : Sp w lo hi A n xs) : Bs w hi A n xs := ⟨h.1, fun h0 => let ⟨b, o, e, _, h2, hc⟩ := h.2 h0; ⟨b, o, e, h2, hc⟩⟩
theorem Sp.lt_size (h : Sp w lo hi A n xs) : Bs w w.heap.size A n xs := ⟨h.1, fun h0 => let ⟨b, o, e, _, _, hc⟩ := h.2 h0; ⟨b, o, e, block_lt_of_cell (hc 0 h0), hc⟩⟩
theorem Sp.grown (h : Sp w lo hi A n xs) {g : Nat} (hg : w.grownBy w' (some g)) (hr : g < lo ∨ hi ≤ g) : Sp w' lo hi A n xs :=
  ⟨h.1, fun h0 => let ⟨b, o, e, h1, h2, hc⟩ := h.2 h0; ⟨b, o, e, h1, h2, fun j hj => by
    rw [World.cell?_of_block (hg.block b (block_lt_of_cell (hc 0 h0)) (fun e => by injection e; omega))]; exact hc j hj⟩⟩
theorem Sp.take (h : Sp w lo hi A n xs) {k : Nat} (hk : k ≤ n) : Sp w lo hi A k (xs.take k) :=
  ⟨by simp [h.1]; omega, fun h0 => let ⟨b, o, e, h1, h2, hc⟩ := h.2 (by omega); ⟨b, o, e, h1, h2, fun j hj => by rw [hc j (by omega)]; simp [List.getD, hj]⟩⟩
theorem Sp.drop (h : Sp w lo hi A n xs) {k c : Nat} (hk : k ≤ n) (hc : n ≤ c) : Sp w lo hi (if c = k then A else A.map (·.add k)) (n - k) (xs.drop k) := by
  refine ⟨by simp [h.1], fun h0 => ?_⟩
  obtain ⟨b, o, rfl, h1, h2, hcell⟩ := h.2 (by omega)
  rw [if_neg (by omega)]
  refine ⟨b, o + k, by simp [addr_plain], h1, h2, fun j hj => ?_⟩
  rw [Nat.add_assoc, hcell (k + j) (by omega)]
  simp [List.getD]
end

theorem ret_owns_new {w w1 : World} {base e n : Nat} {v : Value} {xs ys : List Int} (h : w1.ownsRow base e 1 v n (bv xs)) (hb : Below w.heap.size w w1) (hbase : w.heap.size ≤ base) (he : ys = xs) :
    ∃ A n c, v = .slice A n c ∧ Sp w1 w.heap.size w1.heap.size A n ys ∧ n ≤ c ∧ c ≤ maxLen ∧ Below w.heap.size w w1 := by
  subst he
  obtain ⟨A, c, hv, h1, h2, h3⟩ := ownsRow_bs h
  refine ⟨A, n, c, hv, ⟨h1.1, fun h0 => ?_⟩, h2, h3, hb⟩
  obtain ⟨b, o, rfl, hlt, hc⟩ := h1.2 h0
  exact ⟨b, o, rfl, Nat.le_trans hbase (h.lt b (by rw [hv]; rfl)).1, hlt, hc⟩
/-- A copy is new memory. -/
theorem clone_new (A : Option Addr) (n c : Nat) (xs : List Int) (w : World) (h : Bs w w.heap.size A n xs) (hn : n ≤ 140737488355328) :
    Calls Try.prog 10 #[.slice A n c] w fun e w' => ∃ A n c, e = .returned (.slice A n c) ∧ Sp w' w.heap.size w'.heap.size A n xs ∧ n ≤ c ∧ c ≤ maxLen ∧ Below w.heap.size w w' := by
  have q : ∀ (w : World) (a : Option Addr) (n c n' c' : Nat), (binOp .eql 22 (.slice a n c) (.slice none n' c')).run Try.prog w = .ok (.bool a.isNone) w := fun w a n c n' c' => Lib.run_eql_slice_nil w _ _ a n c n' c' Try.underlying22
  obtain ⟨i0, hi, hz, hsz, hby⟩ := u8_info
  rcases A with _ | ad
  · have h0 : n = 0 := by
      rcases Nat.eq_zero_or_pos n with h0 | h0
      · exact h0
      · obtain ⟨_, _, h, _⟩ := h.2 h0; cases h
    subst h0
    obtain rfl : xs = [] := List.eq_nil_of_length_eq_zero h.1
    go_enter Try.func10, Try.ntmps10
    go_wp2
    go_ret
    exact ⟨none, 0, 0, rfl, Sp.nil_, Nat.le_refl _, by simp, Below.refl _ _⟩
  · have hown := World.ownsRow_lit (base := w.heap.size) (e := 5) (size := 1) w #[] 0 (Nat.le_refl _) (by simp) rfl
    go_enter Try.func10, Try.ntmps10
    go_wp2_with (at_builtin; refine wpList_append_bs rfl (.tmp 5) (.tmp 6) _ rfl w.heap.size 5 i0 Try.underlying22 hi hz hsz hby (.slice (some ⟨w.heap.size, 0, none⟩) 0 0) 0 [] rfl hown w.heap.size (some ad) n c xs rfl (h.below ((Below.refl _ _).alloc (Nat.le_refl _) _)) (by omega) (by simp) ?_; intro v1 w1 hown1 hg1)
    go_ret
    obtain ⟨A1, n1, c1, rfl, h2, h3, h4, h5⟩ := ret_owns_new hown1 (grown_below ((Below.refl _ _).alloc (Nat.le_refl _) _) hown (Nat.le_refl _) hg1) (Nat.le_refl _) rfl
    exact ⟨A1, n1, c1, rfl, by simpa using h2, h3, h4, h5⟩

/-- The reader in block g: what is left, and its error. -/
def Rd (w : World) (lo g : Nat) (xs : List Int) (e : Int) : Prop :=
  ∃ A n c, lo ≤ g ∧ Blk w g 63 #[.bool true, .slice A n c, .int .i64 e] ∧ Sp w lo g A n xs ∧ n ≤ c ∧ (c ≤ 9223372036854775807 ∧ n ≤ 140737488355328) ∧ (e ≠ 0 → xs = [])

theorem Rd.grown {w w' : World} {lo g g' : Nat} {xs : List Int} {e : Int} (h : Rd w lo g xs e) (hg : w.grownBy w' (some g')) (hne : g' < lo ∨ g < g') : Rd w' lo g xs e := by
  obtain ⟨A, n, c, h0, h1, h2, h3, h4, h5⟩ := h
  exact ⟨A, n, c, h0, h1.grown hg (by intro e; injection e with e; omega), h2.grown hg (by omega), h3, h4, h5⟩

theorem err_any {lo g : Nat} {xs : List Int} {e : Int} (w : World) (h : Rd w lo g xs e) : Calls Try.prog 37 #[.pointer (some ⟨g, 0, none⟩)] w fun en w' => en = .returned (.int .i64 e) ∧ w = w' := by
  obtain ⟨A, n, c, _, hb, _⟩ := h
  have c0 := hb.cell 0
  have c2 := hb.cell 2
  simp only [List.getElem?_toArray, List.getElem?_cons_zero, List.getElem?_cons_succ] at c0 c2
  clear hb
  go_enter Try.func37, Try.ntmps37
  go_wp2
  go_ret
  exact ⟨rfl, rfl⟩
theorem left_any {lo g : Nat} {xs : List Int} {e : Int} (w : World) (h : Rd w lo g xs e) : Calls Try.prog 36 #[.pointer (some ⟨g, 0, none⟩)] w fun en w' => en = .returned (.int .i64 xs.length) ∧ w = w' := by
  obtain ⟨A, n, c, _, hb, hs, _⟩ := h
  have c1 := hb.cell 1
  simp only [List.getElem?_toArray, List.getElem?_cons_zero, List.getElem?_cons_succ] at c1
  rw [hs.1]
  clear hb hs
  go_enter Try.func36, Try.ntmps36
  go_wp2
  go_ret
  exact ⟨rfl, rfl⟩
theorem fail_old {lo g : Nat} {xs : List Int} {e : Int} (w : World) (h : Rd w lo g xs e) (he : e ≠ 0) (code : Int) :
    Calls Try.prog 53 #[.pointer (some ⟨g, 0, none⟩), .int .i64 code] w fun en w' => en = .returned (.tuple #[]) ∧ w = w' := by
  have hd : (e == 0) = false := beq_eq_false_iff_ne.2 he
  go_enter Try.func53, Try.ntmps53
  go_wp2_with (go_at_call 37; refine (err_any _ h).mono ?_; rintro e w' ⟨rfl, rfl⟩)
  go_end0
  exact ⟨rfl, rfl⟩
theorem fail_new {lo g : Nat} {xs : List Int} (w : World) (h : Rd w lo g xs 0) (code : Int) :
    Calls Try.prog 53 #[.pointer (some ⟨g, 0, none⟩), .int .i64 code] w fun en w' => en = .returned (.tuple #[]) ∧ Rd w' lo g [] code ∧ w.grownBy w' (some g) := by
  have h' := hide h
  obtain ⟨A, n, c, hlo, hb, hs, _⟩ := h
  have c1 := hb.cell 1
  have c2 := hb.cell 2
  simp only [List.getElem?_toArray, List.getElem?_cons_zero, List.getElem?_cons_succ] at c1 c2
  have f1 := hb.frozen 1
  have f2 := hb.frozen 2
  have HB := hide hb
  clear hb
  go_enter Try.func53, Try.ntmps53
  go_wp2_with (go_at_call 37; refine (err_any _ h'.out).mono ?_; rintro e w' ⟨rfl, rfl⟩)
  go_end0
  exact ⟨rfl, ⟨none, 0, 0, hlo, (HB.out.set 2 _).set 1 _, Sp.nil_, Nat.le_refl _, ⟨by omega, by omega⟩, fun _ => rfl⟩, grown_trans (grown_set _ _ _ _) (grown_set _ _ _ _)⟩

/-- What a reader tells of the next n bytes, what is left behind, and the error. -/
def tk (n : Nat) (xs : List Int) (e : Int) : List Int × List Int × Int := if e ≠ 0 then ([], xs, e) else if xs.length < n then ([], [], 4) else (xs.take n, xs.drop n, 0)

/-- What a call on the reader in block g leaves. -/
def TkPost (w : World) (lo g : Nat) (r : List Int × List Int × Int) (en : Ending) (w' : World) : Prop :=
  ∃ A n c, en = .returned (.slice A n c) ∧ Sp w' lo g A n r.1 ∧ n ≤ 140737488355328 ∧ Rd w' lo g r.2.1 r.2.2 ∧ w.grownBy w' (some g)

set_option maxHeartbeats 400000 in
theorem take_any {lo g : Nat} {xs : List Int} {e : Int} (w : World) (h : Rd w lo g xs e) (n : Nat) (hn : n ≤ 4294967296) :
    Calls Try.prog 48 #[.pointer (some ⟨g, 0, none⟩), .int .i64 (n : Int)] w (TkPost w lo g (tk n xs e)) := by
  have h' := hide h
  obtain ⟨A, m, c, hlo, hb, hs, hmc, ⟨hc, hm47⟩, he0⟩ := h
  by_cases he : e = 0
  · subst he
    by_cases hlt : xs.length < n
    · have ht : tk n xs 0 = ([], [], 4) := by simp [tk, hlt]
      rw [ht]
      have hi : (xs.length : Int) < (n : Int) := by omega
      clear hb
      go_enter Try.func48, Try.ntmps48
      go_wp2_with (first
        | (go_at_call 36; refine (left_any _ h'.out).mono ?_; rintro e w' ⟨rfl, rfl⟩)
        | (go_at_call 53; refine (fail_new _ h'.out 4).mono ?_; rintro e w1 ⟨rfl, hr, hg⟩; have hR := hide hr; clear hr)
        | (go_at_call 37; refine (err_any _ hR.out).mono ?_; rintro e w' ⟨rfl, rfl⟩))
      go_ret
      exact ⟨none, 0, 0, rfl, Sp.nil_, by omega, hR.out, hg⟩
    · have ht : tk n xs 0 = (xs.take n, xs.drop n, 0) := by simp [tk, hlt]
      rw [ht]
      have hle : n ≤ m := by have := hs.1; omega
      have hi : ¬ (xs.length : Int) < (n : Int) := by omega
      have c1 := hb.cell 1
      have f1 := hb.frozen 1
      simp only [List.getElem?_toArray, List.getElem?_cons_zero, List.getElem?_cons_succ] at c1
      have HB := hide hb
      clear hb
      go_enter Try.func48, Try.ntmps48
      go_wp2_with (first
        | (go_at_call 36; refine (left_any _ h'.out).mono ?_; rintro e w' ⟨rfl, rfl⟩)
        | (go_at_call 37; refine (err_any _ h'.out).mono ?_; rintro e w' ⟨rfl, rfl⟩))
      · go_ret
        have hcn : c = n := ‹c = n›
        have hd := hs.drop hle hmc
        rw [if_pos hcn] at hd
        exact ⟨A, n, n, rfl, (hs.take hle).grown (grown_set _ _ _ _) (.inr (Nat.le_refl _)), by omega, ⟨A, m - n, 0, hlo, HB.out.set 1 _, hd.grown (grown_set _ _ _ _) (.inr (Nat.le_refl _)), by omega, ⟨by omega, by omega⟩, fun h => absurd rfl h⟩, grown_set _ _ _ _⟩
      · go_ret
        have hd := hs.drop hle hmc
        rw [if_neg ‹¬c = n›] at hd
        exact ⟨A, n, c, rfl, (hs.take hle).grown (grown_set _ _ _ _) (.inr (Nat.le_refl _)), by omega, ⟨_, m - n, c - n, hlo, HB.out.set 1 _, hd.grown (grown_set _ _ _ _) (.inr (Nat.le_refl _)), by omega, ⟨by omega, by omega⟩, fun h => absurd rfl h⟩, grown_set _ _ _ _⟩
  · have ht : tk n xs e = ([], xs, e) := by simp [tk, he]
    rw [ht]
    obtain rfl := he0 he
    have hd : (e != 0) = true := by rw [bne_iff_ne]; exact he
    clear hb
    go_enter Try.func48, Try.ntmps48
    go_wp2_with (first
      | (go_at_call 36; refine (left_any _ h'.out).mono ?_; rintro e w' ⟨rfl, rfl⟩)
      | (go_at_call 53; refine (fail_old _ h'.out he 4).mono ?_; rintro e w1 ⟨rfl, rfl⟩)
      | (go_at_call 37; refine (err_any _ h'.out).mono ?_; rintro e w' ⟨rfl, rfl⟩))
    all_goals
      go_ret
      exact ⟨none, 0, 0, rfl, Sp.nil_, by omega, h'.out, grown_refl _ _⟩

/-- The number whose bytes these are, the highest first. -/
def beV (xs : List Int) : Int := xs.foldl (fun a b => a * 256 + b) 0
theorem beV_snoc (xs : List Int) (b : Int) : beV (xs ++ [b]) = beV xs * 256 + b := by simp [beV]
theorem beV_bound {xs : List Int} (h : IsBy xs) : 0 ≤ beV xs ∧ beV xs < 256 ^ xs.length := by
  have key : ∀ (n : Nat) (xs : List Int), xs.length = n → IsBy xs → 0 ≤ beV xs ∧ beV xs < 256 ^ n := by
    intro n
    induction n with
    | zero => intro xs hl _; rw [List.eq_nil_of_length_eq_zero hl]; simp [beV]
    | succ n ih =>
      intro xs hl hx
      have hne : xs ≠ [] := by intro e; rw [e] at hl; simp at hl
      have hsp := List.dropLast_concat_getLast hne
      rw [← hsp, beV_snoc]
      obtain ⟨h0, h1⟩ := ih xs.dropLast (by simp [hl]) (fun x hm => hx x (List.dropLast_subset xs hm))
      obtain ⟨b0, b1⟩ := hx _ (List.getLast_mem hne)
      rw [Int.pow_succ]
      omega
  exact key _ xs rfl h
theorem IsBy.take {xs : List Int} (h : IsBy xs) (k : Nat) : IsBy (xs.take k) := fun x hx => h x (List.mem_of_mem_take hx)
theorem IsBy.drop {xs : List Int} (h : IsBy xs) (k : Nat) : IsBy (xs.drop k) := fun x hx => h x (List.mem_of_mem_drop hx)
theorem beV_take_succ (xs : List Int) (k : Nat) (hk : k < xs.length) : beV (xs.take (k + 1)) = beV (xs.take k) * 256 + xs.getD k 0 := by
  rw [List.take_succ_eq_append_getElem hk, beV_snoc]
  simp [List.getD, List.getElem?_eq_getElem hk]
theorem tk_by {n : Nat} {xs : List Int} {e : Int} (h : IsBy xs) : IsBy (tk n xs e).1 ∧ IsBy (tk n xs e).2.1 := by
  unfold tk
  split
  · exact ⟨fun _ h => by simp at h, h⟩
  · split
    · exact ⟨fun _ h => by simp at h, fun _ h => by simp at h⟩
    · exact ⟨h.take n, h.drop n⟩
theorem tk_len (n : Nat) (xs : List Int) (e : Int) : (tk n xs e).1.length ≤ n ∧ (tk n xs e).2.1.length ≤ xs.length := by
  unfold tk
  split
  · simp
  · split <;> simp <;> omega
/-- What reading a number of n bytes tells. -/
def unum (n : Nat) (xs : List Int) (e : Int) : Int := beV (tk n xs e).1
theorem pow256_mono {a b : Nat} (h : a ≤ b) : (256 : Int) ^ a ≤ 256 ^ b := by
  obtain ⟨d, rfl⟩ := Nat.exists_eq_add_of_le h
  induction d with
  | zero => exact Int.le_refl _
  | succ d ih =>
    have := ih (by omega)
    have hp := pow256_pos (a + d)
    rw [← Nat.add_assoc, Int.pow_succ]
    omega
theorem unum_bound {n : Nat} {xs : List Int} {e : Int} (h : IsBy xs) : 0 ≤ unum n xs e ∧ unum n xs e < 256 ^ n := by
  obtain ⟨h0, h1⟩ := beV_bound (tk_by (n := n) (e := e) h).1
  exact ⟨h0, Int.lt_of_lt_of_le h1 (pow256_mono (tk_len n xs e).1)⟩

def NumPost (w : World) (lo g : Nat) (k : IntKind) (v : Int) (xs : List Int) (e : Int) (en : Ending) (w' : World) : Prop := en = .returned (.int k v) ∧ Rd w' lo g xs e ∧ w.grownBy w' (some g)
set_option maxHeartbeats 400000 in
theorem fromHigh32_any {lo g : Nat} {xs : List Int} {e : Int} (w : World) (h : Rd w lo g xs e) (hx : IsBy xs) :
    Calls Try.prog 50 #[.pointer (some ⟨g, 0, none⟩)] w (NumPost w lo g .u32 (unum 4 xs e) (tk 4 xs e).2.1 (tk 4 xs e).2.2) := by
  have hby := (tk_by (n := 4) (e := e) hx).1
  have hln := (tk_len 4 xs e).1
  have hct := hide (take_any w h 4 (by omega))
  unfold unum
  generalize tk 4 xs e = r at *
  clear h hx
  go_enter Try.func50, Try.ntmps50
  go_wp2_with (first
    | (go_at_call 59; refine (width32_any _).mono ?_; rintro e w' ⟨rfl, rfl⟩)
    | (go_at_call 48; refine hct.out.mono ?_; rintro en w1 ⟨A, n, c, rfl, hs, hn, hr, hg⟩))
  have hl1 := hs.1
  have hnN : n ≤ 4 := by omega
  have HL := hide hl1
  clear hl1
  go_loop [3, 10] (fun v i => ∃ k : Nat, k ≤ n ∧ i = .int .i64 k ∧ v = .int .u32 (beV (r.1.take k))) (fun _ i => n - (intOf i).toNat)
  case atStart => exact ⟨0, Nat.zero_le _, rfl, rfl⟩
  case round =>
    obtain ⟨k, hk, rfl, rfl⟩ := hrel
    obtain ⟨q0, q1⟩ := beV_bound (hby.take k)
    by_cases hlt : k < n
    · obtain ⟨b, o, rfl, hb, _, hc⟩ := hs.2 (by omega)
      have hck := hc k hlt
      obtain ⟨b0, b1⟩ := getD_byte hby k
      have hsu := beV_take_succ r.1 k (by rw [HL.out]; exact hlt)
      have HS := hide hsu
      have Q1 := hide q1
      clear hsu q1 hc
      have HO := hide (or_high32 k (by omega) q0 (by have := Q1.out; rw [List.length_take, HL.out, Nat.min_eq_left (by omega)] at this; exact this) b0 b1)
      go_wp2
      go_round
      case rel => exact ⟨k + 1, by omega, by go_num, congrArg (Value.int .u32) (by rw [HS.out, ← HO.out]; simp [List.getD])⟩
      case measure => simp [intOf]; omega
    · go_wp2
      go_ret
      have hkn : k = n := by omega
      refine ⟨?_, hr, hg⟩
      rw [← show beV (r.1.take k) = beV r.1 from by rw [List.take_of_length_le (by rw [HL.out]; omega)]]
      rfl
set_option maxHeartbeats 400000 in
theorem fromHigh64_any {lo g : Nat} {xs : List Int} {e : Int} (w : World) (h : Rd w lo g xs e) (hx : IsBy xs) :
    Calls Try.prog 51 #[.pointer (some ⟨g, 0, none⟩)] w (NumPost w lo g .u64 (unum 8 xs e) (tk 8 xs e).2.1 (tk 8 xs e).2.2) := by
  have hby := (tk_by (n := 8) (e := e) hx).1
  have hln := (tk_len 8 xs e).1
  have hct := hide (take_any w h 8 (by omega))
  unfold unum
  generalize tk 8 xs e = r at *
  clear h hx
  go_enter Try.func51, Try.ntmps51
  go_wp2_with (first
    | (go_at_call 60; refine (width64_any _).mono ?_; rintro e w' ⟨rfl, rfl⟩)
    | (go_at_call 48; refine hct.out.mono ?_; rintro en w1 ⟨A, n, c, rfl, hs, hn, hr, hg⟩))
  have hl1 := hs.1
  have hnN : n ≤ 8 := by omega
  have HL := hide hl1
  clear hl1
  go_loop [3, 10] (fun v i => ∃ k : Nat, k ≤ n ∧ i = .int .i64 k ∧ v = .int .u64 (beV (r.1.take k))) (fun _ i => n - (intOf i).toNat)
  case atStart => exact ⟨0, Nat.zero_le _, rfl, rfl⟩
  case round =>
    obtain ⟨k, hk, rfl, rfl⟩ := hrel
    obtain ⟨q0, q1⟩ := beV_bound (hby.take k)
    by_cases hlt : k < n
    · obtain ⟨b, o, rfl, hb, _, hc⟩ := hs.2 (by omega)
      have hck := hc k hlt
      obtain ⟨b0, b1⟩ := getD_byte hby k
      have hsu := beV_take_succ r.1 k (by rw [HL.out]; exact hlt)
      have HS := hide hsu
      have Q1 := hide q1
      clear hsu q1 hc
      have HO := hide (or_high64 k (by omega) q0 (by have := Q1.out; rw [List.length_take, HL.out, Nat.min_eq_left (by omega)] at this; exact this) b0 b1)
      go_wp2
      go_round
      case rel => exact ⟨k + 1, by omega, by go_num, congrArg (Value.int .u64) (by rw [HS.out, ← HO.out]; simp [List.getD])⟩
      case measure => simp [intOf]; omega
    · go_wp2
      go_ret
      have hkn : k = n := by omega
      refine ⟨?_, hr, hg⟩
      rw [← show beV (r.1.take k) = beV r.1 from by rw [List.take_of_length_le (by rw [HL.out]; omega)]]
      rfl
theorem u32_any {lo g : Nat} {xs : List Int} {e : Int} (w : World) (h : Rd w lo g xs e) (hx : IsBy xs) :
    Calls Try.prog 28 #[.pointer (some ⟨g, 0, none⟩)] w (NumPost w lo g .u32 (unum 4 xs e) (tk 4 xs e).2.1 (tk 4 xs e).2.2) := by
  go_enter Try.func28, Try.ntmps28
  go_wp2_with (go_at_call 50; refine (fromHigh32_any _ h hx).mono ?_; rintro en w1 ⟨rfl, hr, hg⟩)
  go_ret
  exact ⟨rfl, hr, hg⟩
theorem u64_any {lo g : Nat} {xs : List Int} {e : Int} (w : World) (h : Rd w lo g xs e) (hx : IsBy xs) :
    Calls Try.prog 29 #[.pointer (some ⟨g, 0, none⟩)] w (NumPost w lo g .u64 (unum 8 xs e) (tk 8 xs e).2.1 (tk 8 xs e).2.2) := by
  go_enter Try.func29, Try.ntmps29
  go_wp2_with (go_at_call 51; refine (fromHigh64_any _ h hx).mono ?_; rintro en w1 ⟨rfl, hr, hg⟩)
  go_ret
  exact ⟨rfl, hr, hg⟩
theorem u8_any {lo g : Nat} {xs : List Int} {e : Int} (w : World) (h : Rd w lo g xs e) (hx : IsBy xs) :
    Calls Try.prog 26 #[.pointer (some ⟨g, 0, none⟩)] w (NumPost w lo g .i64 (unum 1 xs e) (tk 1 xs e).2.1 (tk 1 xs e).2.2) := by
  have hby := (tk_by (n := 1) (e := e) hx).1
  have hln := (tk_len 1 xs e).1
  have hct := hide (take_any w h 1 (by omega))
  unfold unum
  generalize tk 1 xs e = r at *
  clear h hx
  rcases hr1 : r.1 with _ | ⟨b, t⟩
  · go_enter Try.func26, Try.ntmps26
    have HR := hide hr1
    clear hr1
    go_wp2_with (go_at_call 48; refine hct.out.mono ?_; rintro en w1 ⟨A, n, c, rfl, hs, hn, hr, hg⟩; have hz : (((n : Nat) : Int) == 0) = true := by (have := hs.1; rw [HR.out] at this; simp at this; simp [← this]))
    go_ret
    exact ⟨by simp [beV], hr, hg⟩
  · obtain rfl : t = [] := by rw [hr1] at hln; simp at hln; exact hln
    have hb := hby b (by rw [hr1]; simp)
    have HR := hide hr1
    clear hr1 hby hln
    go_enter Try.func26, Try.ntmps26
    go_wp2_with (go_at_call 48; refine hct.out.mono ?_; rintro en w1 ⟨A, n, c, rfl, hs, hn, hr, hg⟩; rw [HR.out] at hs; obtain rfl : n = 1 := hs.1.symm; obtain ⟨b0, o, rfl, _, _, hc⟩ := hs.2 (by omega); have hc0 := hc 0 (by omega); rw [Nat.add_zero] at hc0; clear hc)
    go_ret
    exact ⟨by simp [beV], hr, hg⟩
theorem above_any (x most : Int) (w : World) (h0 : 0 ≤ x) (h1 : x < 18446744073709551616) (m0 : -9223372036854775808 ≤ most) (m1 : most ≤ 9223372036854775807) :
    Calls Try.prog 52 #[.int .u64 x, .int .i64 most] w fun en w' => en = .returned (.bool (decide (most < x))) ∧ w = w' := by
  by_cases hm : most < 0
  · have hd : decide (most < x) = true := by simp; omega
    rw [hd]
    go_enter Try.func52, Try.ntmps52
    go_wp2
    go_ret
    exact ⟨rfl, rfl⟩
  · go_enter Try.func52, Try.ntmps52
    go_wp2
    go_ret
    exact ⟨rfl, rfl⟩

/-- A number that is above the most ends the reading. -/
def tkNum (most : Int) (xs : List Int) (e : Int) : Int × List Int × Int :=
  let v := unum 8 xs e
  let r := (tk 8 xs e).2
  if most < v then (0, [], if r.2 ≠ 0 then r.2 else 5) else (v, r.1, r.2)
theorem rd_nil {w : World} {lo g : Nat} {xs : List Int} {e : Int} (h : Rd w lo g xs e) (he : e ≠ 0) : xs = [] := by
  obtain ⟨A, n, c, _, _, _, _, _, h5⟩ := h; exact h5 he
set_option maxHeartbeats 400000 in
theorem num_any {lo g : Nat} {xs : List Int} {e : Int} (w : World) (h : Rd w lo g xs e) (hx : IsBy xs) (most : Int) (m0 : -9223372036854775808 ≤ most) (m1 : most ≤ 9223372036854775807) :
    Calls Try.prog 30 #[.pointer (some ⟨g, 0, none⟩), .int .i64 most] w (NumPost w lo g .i64 (tkNum most xs e).1 (tkNum most xs e).2.1 (tkNum most xs e).2.2) := by
  have hub := unum_bound (n := 8) (e := e) hx
  have hu : unum 8 xs e < 18446744073709551616 := hub.2
  have hc := hide (u64_any w h hx)
  have hnil : (tk 8 xs e).2.2 ≠ 0 → (tk 8 xs e).2.1 = [] := by
    obtain ⟨_, _, _, _, _, _, _, _, h5⟩ := h
    unfold tk
    split
    · rename_i he; exact fun _ => h5 he
    · split
      · exact fun _ => rfl
      · exact fun h => absurd rfl h
  unfold tkNum
  generalize unum 8 xs e = v at *
  generalize (tk 8 xs e).2 = r at *
  obtain ⟨ys, e1⟩ := r
  dsimp only at *
  have h0 := hub.1
  clear h hx hub
  by_cases hm : most < v
  · rw [if_pos hm]
    by_cases he : e1 = 0
    · subst he
      rw [if_neg (by simp)]
      go_enter Try.func30, Try.ntmps30
      go_wp2_with (first
        | (go_at_call 29; refine hc.out.mono ?_; rintro en w1 ⟨rfl, hr, hg⟩)
        | (go_at_call 52; refine (above_any v most _ h0 hu m0 m1).mono ?_; rintro en w2 ⟨rfl, rfl⟩)
        | (go_at_call 53; refine (fail_new _ hr 5).mono ?_; rintro en w2 ⟨rfl, hr2, hg2⟩))
      go_ret
      exact ⟨rfl, hr2, grown_trans hg hg2⟩
    · rw [if_pos he]
      have hys := hide (hnil he)
      clear hnil
      go_enter Try.func30, Try.ntmps30
      go_wp2_with (first
        | (go_at_call 29; refine hc.out.mono ?_; rintro en w1 ⟨rfl, hr, hg⟩)
        | (go_at_call 52; refine (above_any v most _ h0 hu m0 m1).mono ?_; rintro en w2 ⟨rfl, rfl⟩)
        | (go_at_call 53; refine (fail_old _ hr he 5).mono ?_; rintro en w2 ⟨rfl, rfl⟩))
      go_ret
      exact ⟨rfl, by rw [← hys.out]; exact hr, hg⟩
  · rw [if_neg hm]
    go_enter Try.func30, Try.ntmps30
    go_wp2_with (first
      | (go_at_call 29; refine hc.out.mono ?_; rintro en w1 ⟨rfl, hr, hg⟩)
      | (go_at_call 52; refine (above_any v most _ h0 hu m0 m1).mono ?_; rintro en w2 ⟨rfl, rfl⟩))
    go_ret
    exact ⟨rfl, hr, hg⟩
end Go.Proofs.Ytfkdjcikmfljdaa
