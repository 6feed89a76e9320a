/- PackBack: the Go text of the law answers true for every input, and writes nothing that was there. -/
import Derived.Test.YtfkdjcikmfljdaaReader2
import Derived.Deep.RegionWith
namespace Go.Proofs.Ytfkdjcikmfljdaa
open Go.RowKit
set_option linter.unusedVariables false
set_option linter.unusedSimpArgs false

theorem beV_acc (l : List Int) : ∀ a : Int, l.foldl (fun a b => a * 256 + b) a = a * 256 ^ l.length + beV l := by
  induction l with
  | nil => intro a; simp [beV]
  | cons b l ih =>
    intro a
    simp only [List.foldl_cons, List.length_cons, beV]
    rw [ih, ih (0 * 256 + b), Int.pow_succ]
    rw [Int.add_mul, Int.zero_mul, Int.zero_add, Int.mul_assoc, Int.mul_comm 256 (256 ^ l.length)]
    omega
theorem beV_cons (b : Int) (l : List Int) : beV (b :: l) = b * 256 ^ l.length + beV l := by
  unfold beV
  rw [List.foldl_cons, beV_acc]
  simp [beV]
theorem beV_highB (x : Int) (n : Nat) : beV (highB x n) = leV (lowB x n) 0 n := by
  have key : ∀ n, beV (highB x n) = leV (lowB x n) 0 n := by
    intro n
    induction n with
    | zero => simp [highB, lowB, beV, leV]
    | succ n ih =>
      rw [highB_cons, beV_cons, highB_length, ih]
      have e : leV (lowB x (n + 1)) 0 n = leV (lowB x n) 0 n := leV_congr fun i hi => by rw [Nat.zero_add]; exact lowB_take x n 1 i hi
      simp only [leV, e]
      have hl : (lowB x (n + 1)).getD (0 + n) 0 = x / 256 ^ n % 256 := by
        rw [lowB_snoc, Nat.zero_add]
        simp [List.getD, lowB_length]
      rw [hl]
      omega
  exact key n
theorem beV_high {x : Int} {n : Nat} (h0 : 0 ≤ x) (h1 : x < 256 ^ n) : beV (highB x n) = x := by rw [beV_highB, leV_lowB, Int.emod_eq_of_lt h0 h1]
theorem tk_append {n : Nat} (P R : List Int) (h : P.length = n) : tk n (P ++ R) 0 = (P, R, 0) := by
  subst h
  simp [tk]
theorem highB_by (x : Int) (n : Nat) : IsBy (highB x n) := fun b hb => lowB_byte x n b (by simpa [highB] using hb)
theorem IsBy.append {xs ys : List Int} (h : IsBy xs) (k : IsBy ys) : IsBy (xs ++ ys) := fun x hx => by
  rcases List.mem_append.1 hx with h1 | h1
  · exact h x h1
  · exact k x h1
theorem tkNum_back {m : Int} (R : List Int) (h0 : 0 ≤ m) (h1 : m ≤ 9223372036854775807) : tkNum m (highB m 8 ++ R) 0 = (m, R, 0) := by
  unfold tkNum unum
  rw [tk_append _ _ (highB_length m 8)]
  simp only
  rw [beV_high h0 (by rw [show (256 : Int) ^ 8 = 18446744073709551616 from by decide]; omega), if_neg (by omega)]
theorem tkText_back (xs R : List Int) (h : xs.length ≤ 1000000) : tkText (xs.length : Int) (highB (xs.length : Int) 4 ++ (xs ++ R)) 0 = (xs, R, 0) := by
  unfold tkText unum
  rw [tk_append _ _ (highB_length _ 4)]
  simp only
  rw [beV_high (by omega) (by rw [show (256 : Int) ^ 4 = 4294967296 from by decide]; omega), if_neg (by omega), Int.toNat_natCast, tk_append _ _ rfl]
theorem unum_back {x : Int} (R : List Int) (h0 : 0 ≤ x) (h1 : x < 18446744073709551616) : unum 8 (highB x 8 ++ R) 0 = x ∧ (tk 8 (highB x 8 ++ R) 0).2 = (R, 0) := by
  unfold unum
  rw [tk_append _ _ (highB_length x 8)]
  exact ⟨beV_high h0 (by rw [show (256 : Int) ^ 8 = 18446744073709551616 from by decide]; omega), rfl⟩

/-- What the law writes and reads. -/
def backXs (mx x : Int) (s : List Int) : List Int := highB mx 8 ++ (highB (s.length : Int) 4 ++ (s ++ (highB x 8 ++ s)))

set_option maxHeartbeats 1000000 in
theorem packBack_pos (n : Int) (A : Option Addr) (m c : Nat) (s : List Int) (x : Int) (w : World) (h : Bs w w.heap.size A m s) (hs : IsBy s) (h0 : 0 ≤ x) (h1 : x < 18446744073709551616) (n0 : -9223372036854775808 ≤ n) (n1 : n ≤ 9223372036854775807) (hm : ¬ 5000 < m) (hsg : 0≤n) :
    Calls Try.prog 6 #[.int .i64 n, .slice A m c, .int .u64 x] w fun e w' => e = .returned (.bool true) ∧ Below w.heap.size w w' := by
  have hml := hide h.1
  have hmx := hide (show max n 0 = n from by omega)
  have R1 := hide (tkNum_back (m := n) (highB (s.length : Int) 4 ++ (s ++ (highB x 8 ++ s))) (by omega) (by omega))
  have R2 := hide (show tkText (m : Int) (highB (s.length : Int) 4 ++ (s ++ (highB x 8 ++ s))) 0 = (s, highB x 8 ++ s, 0) from by rw [← h.1]; exact tkText_back s (highB x 8 ++ s) (by have := h.1; omega))
  have R3 := hide (unum_back s h0 h1)
  have b1 : IsBy (highB x 8 ++ s) := (highB_by x 8).append hs
  have b2 : IsBy (highB (s.length : Int) 4 ++ (s ++ (highB x 8 ++ s))) := (highB_by _ 4).append (hs.append b1)
  have b3 : IsBy (backXs n x s) := (highB_by _ 8).append b2
  have hxl := hide (show (backXs n x s).length = 20 + s.length + s.length from by simp [backXs, highB_length]; omega)
  go_enter Try.func6, Try.ntmps6
  go_wp2_with (go_at_call 16; refine (putNum_any none 0 0 [] n _ Bs.nil_ (by omega) n0 n1).mono ?_; rintro e w1 ⟨A1, m1, c1, rfl, hb1, hn1, hc1, hl1⟩; have g1 : m1 ≤ 8 := by (have := hb1.1; rw [List.nil_append, highB_length] at this; omega))
  go_wp2_with (go_at_call 22; refine (put_any A1 A m1 c1 m c _ s _ hb1 (h.later hl1) (by omega) (by omega)).mono ?_; rintro e w2 ⟨A2, m2, c2, rfl, hb2, hn2, hc2, hl2⟩; have g2 : m2 ≤ 6000 := by (have := hb2.1; have := h.1; simp only [List.length_append, highB_length, List.nil_append] at *; omega))
  have H2 := hl1.trans (hl2.mono hl1.size)
  go_wp2_with (go_at_call 14; refine (put64_any A2 m2 c2 _ x _ hb2 (by omega) h0 (by omega)).mono ?_; rintro e w3 ⟨A3, m3, c3, rfl, hb3, hn3, hc3, hl3⟩)
  have H3 := H2.trans (hl3.mono H2.size)
  have hss := Bss.lit w3 22 [(A3, m3, c3, _), (A, m, c, s)] (by
    intro y hy
    simp only [List.mem_cons, List.not_mem_nil, or_false] at hy
    rcases hy with rfl | rfl
    · exact hb3
    · exact h.later H3)
  have HS := hide hss
  clear hss
  have hlen3 := hide hb3.1
  go_wp2_with (go_at_call 24; refine (join_any _ 2 2 _ _ (HS.out.up (by simp)) (by omega) (by have := hlen3.out; have := hml.out; simp [sumLen, highB_length]; omega)).mono ?_; rintro e w4 ⟨A4, m4, c4, rfl, hb4, hn4, hc4, hl4⟩)
  have H4 := H3.trans ((((Below.refl w3.heap.size w3).alloc (Nat.le_refl _) _).trans (hl4.mono (by simp))).mono H3.size)
  have hb4' : Bs w4 w4.heap.size A4 m4 (backXs n x s) := by
    have := hb4
    have e2 := hmx.out
    have e3 := hml.out
    simp only [List.flatten_cons, List.flatten_nil, List.map_cons, List.map_nil, List.append_nil, List.nil_append, e2, List.append_assoc] at this
    rw [backXs, e3]
    exact this
  have g4 : m4 ≤ 1000000 := by have := hb4'.1; have := hxl.out; have := hml.out; omega
  clear hb4
  go_wp2_with (go_at_call 25; refine (read_any A4 m4 c4 _ _ hb4' g4).mono ?_; rintro e w5 ⟨g, rfl, hg4, hg5, hr5, hl5⟩)
  have H5 := H4.trans (hl5.mono H4.size)
  go_wp2_with (first
    | (go_at_call 30
       have hcc := num_any _ hr5 b3 n (by omega) (by omega)
       rw [backXs, R1.out] at hcc
       refine hcc.mono ?_
       rintro e w6 ⟨rfl, hr6, hg6⟩)
    | (go_at_call 32
       have hcc := bytes_any _ hr6 b2 m (by omega) (by omega)
       rw [R2.out] at hcc
       refine hcc.mono ?_
       rintro e w7 ⟨A7, m7, c7, rfl, hb7, hr7, hg7⟩
       have G7 := below_of_grown (B := w.heap.size) (grown_trans hg6 hg7) (Nat.le_trans H4.size hg4) H5.size
       have H7 := H5.trans G7)
    | (go_at_call_of 11 A7
       refine (equal_any _ _ _ _ _ _ _ _ _ hb7 (h.later H7)).mono ?_
       rintro e w8 ⟨rfl, rfl⟩)
    | (go_at_call 29
       have hcc := u64_any _ hr7 b1
       rw [R3.out.1, R3.out.2] at hcc
       refine hcc.mono ?_
       rintro e w9 ⟨rfl, hr9, hg9⟩)
    | (go_at_call 37
       refine (err_any _ hr9).mono ?_
       rintro e w10 ⟨rfl, rfl⟩)
    | (go_at_call 34
       have hcc := rest_any _ hr9 (by have := hml.out; omega)
       rw [show tk s.length s 0 = (s, [], 0) from by simp [tk]] at hcc
       refine hcc.mono ?_
       rintro e w11 ⟨A11, m11, c11, rfl, hb11, hr11, hg11⟩
       have G11 := below_of_grown (B := w.heap.size) (grown_trans hg9 hg11) (Nat.le_trans H4.size hg4) H7.size
       have H11 := H7.trans G11)
    | (go_at_call_of 11 A11
       refine (equal_any _ _ _ _ _ _ _ _ _ hb11 (h.later H11)).mono ?_
       rintro e w12 ⟨rfl, rfl⟩)
    | (go_at_call 38
       have hcc := end_any _ hr11
       rw [show endV [] 0 = 0 from by simp [endV]] at hcc
       refine hcc.mono ?_
       rintro e w13 ⟨rfl, rfl⟩)
    | (go_at_call 9
       refine (awake_any _).mono ?_
       rintro e w14 ⟨rfl, hl14⟩))
  go_ret
  exact ⟨rfl, H11.trans (hl14.mono H11.size)⟩
set_option maxHeartbeats 1000000 in
theorem packBack_neg (n : Int) (A : Option Addr) (m c : Nat) (s : List Int) (x : Int) (w : World) (h : Bs w w.heap.size A m s) (hs : IsBy s) (h0 : 0 ≤ x) (h1 : x < 18446744073709551616) (n0 : -9223372036854775808 ≤ n) (n1 : n ≤ 9223372036854775807) (hm : ¬ 5000 < m) (hsg : n<0) :
    Calls Try.prog 6 #[.int .i64 n, .slice A m c, .int .u64 x] w fun e w' => e = .returned (.bool true) ∧ Below w.heap.size w w' := by
  have hml := hide h.1
  have hmx := hide (show max n 0 = 0 from by omega)
  have R1 := hide (tkNum_back (m := 0) (highB (s.length : Int) 4 ++ (s ++ (highB x 8 ++ s))) (by omega) (by omega))
  have R2 := hide (show tkText (m : Int) (highB (s.length : Int) 4 ++ (s ++ (highB x 8 ++ s))) 0 = (s, highB x 8 ++ s, 0) from by rw [← h.1]; exact tkText_back s (highB x 8 ++ s) (by have := h.1; omega))
  have R3 := hide (unum_back s h0 h1)
  have b1 : IsBy (highB x 8 ++ s) := (highB_by x 8).append hs
  have b2 : IsBy (highB (s.length : Int) 4 ++ (s ++ (highB x 8 ++ s))) := (highB_by _ 4).append (hs.append b1)
  have b3 : IsBy (backXs 0 x s) := (highB_by _ 8).append b2
  have hxl := hide (show (backXs 0 x s).length = 20 + s.length + s.length from by simp [backXs, highB_length]; omega)
  go_enter Try.func6, Try.ntmps6
  go_wp2_with (go_at_call 16; refine (putNum_any none 0 0 [] n _ Bs.nil_ (by omega) n0 n1).mono ?_; rintro e w1 ⟨A1, m1, c1, rfl, hb1, hn1, hc1, hl1⟩; have g1 : m1 ≤ 8 := by (have := hb1.1; rw [List.nil_append, highB_length] at this; omega))
  go_wp2_with (go_at_call 22; refine (put_any A1 A m1 c1 m c _ s _ hb1 (h.later hl1) (by omega) (by omega)).mono ?_; rintro e w2 ⟨A2, m2, c2, rfl, hb2, hn2, hc2, hl2⟩; have g2 : m2 ≤ 6000 := by (have := hb2.1; have := h.1; simp only [List.length_append, highB_length, List.nil_append] at *; omega))
  have H2 := hl1.trans (hl2.mono hl1.size)
  go_wp2_with (go_at_call 14; refine (put64_any A2 m2 c2 _ x _ hb2 (by omega) h0 (by omega)).mono ?_; rintro e w3 ⟨A3, m3, c3, rfl, hb3, hn3, hc3, hl3⟩)
  have H3 := H2.trans (hl3.mono H2.size)
  have hss := Bss.lit w3 22 [(A3, m3, c3, _), (A, m, c, s)] (by
    intro y hy
    simp only [List.mem_cons, List.not_mem_nil, or_false] at hy
    rcases hy with rfl | rfl
    · exact hb3
    · exact h.later H3)
  have HS := hide hss
  clear hss
  have hlen3 := hide hb3.1
  go_wp2_with (go_at_call 24; refine (join_any _ 2 2 _ _ (HS.out.up (by simp)) (by omega) (by have := hlen3.out; have := hml.out; simp [sumLen, highB_length]; omega)).mono ?_; rintro e w4 ⟨A4, m4, c4, rfl, hb4, hn4, hc4, hl4⟩)
  have H4 := H3.trans ((((Below.refl w3.heap.size w3).alloc (Nat.le_refl _) _).trans (hl4.mono (by simp))).mono H3.size)
  have hb4' : Bs w4 w4.heap.size A4 m4 (backXs 0 x s) := by
    have := hb4
    have e2 := hmx.out
    have e3 := hml.out
    simp only [List.flatten_cons, List.flatten_nil, List.map_cons, List.map_nil, List.append_nil, List.nil_append, e2, List.append_assoc] at this
    rw [backXs, e3]
    exact this
  have g4 : m4 ≤ 1000000 := by have := hb4'.1; have := hxl.out; have := hml.out; omega
  clear hb4
  go_wp2_with (go_at_call 25; refine (read_any A4 m4 c4 _ _ hb4' g4).mono ?_; rintro e w5 ⟨g, rfl, hg4, hg5, hr5, hl5⟩)
  have H5 := H4.trans (hl5.mono H4.size)
  go_wp2_with (first
    | (go_at_call 30
       have hcc := num_any _ hr5 b3 0 (by omega) (by omega)
       rw [backXs, R1.out] at hcc
       refine hcc.mono ?_
       rintro e w6 ⟨rfl, hr6, hg6⟩)
    | (go_at_call 32
       have hcc := bytes_any _ hr6 b2 m (by omega) (by omega)
       rw [R2.out] at hcc
       refine hcc.mono ?_
       rintro e w7 ⟨A7, m7, c7, rfl, hb7, hr7, hg7⟩
       have G7 := below_of_grown (B := w.heap.size) (grown_trans hg6 hg7) (Nat.le_trans H4.size hg4) H5.size
       have H7 := H5.trans G7)
    | (go_at_call_of 11 A7
       refine (equal_any _ _ _ _ _ _ _ _ _ hb7 (h.later H7)).mono ?_
       rintro e w8 ⟨rfl, rfl⟩)
    | (go_at_call 29
       have hcc := u64_any _ hr7 b1
       rw [R3.out.1, R3.out.2] at hcc
       refine hcc.mono ?_
       rintro e w9 ⟨rfl, hr9, hg9⟩)
    | (go_at_call 37
       refine (err_any _ hr9).mono ?_
       rintro e w10 ⟨rfl, rfl⟩)
    | (go_at_call 34
       have hcc := rest_any _ hr9 (by have := hml.out; omega)
       rw [show tk s.length s 0 = (s, [], 0) from by simp [tk]] at hcc
       refine hcc.mono ?_
       rintro e w11 ⟨A11, m11, c11, rfl, hb11, hr11, hg11⟩
       have G11 := below_of_grown (B := w.heap.size) (grown_trans hg9 hg11) (Nat.le_trans H4.size hg4) H7.size
       have H11 := H7.trans G11)
    | (go_at_call_of 11 A11
       refine (equal_any _ _ _ _ _ _ _ _ _ hb11 (h.later H11)).mono ?_
       rintro e w12 ⟨rfl, rfl⟩)
    | (go_at_call 38
       have hcc := end_any _ hr11
       rw [show endV [] 0 = 0 from by simp [endV]] at hcc
       refine hcc.mono ?_
       rintro e w13 ⟨rfl, rfl⟩)
    | (go_at_call 9
       refine (awake_any _).mono ?_
       rintro e w14 ⟨rfl, hl14⟩))
  go_ret
  exact ⟨rfl, H11.trans (hl14.mono H11.size)⟩
theorem packBack_any (n : Int) (A : Option Addr) (m c : Nat) (s : List Int) (x : Int) (w : World) (h : Bs w w.heap.size A m s) (hs : IsBy s) (h0 : 0 ≤ x) (h1 : x < 18446744073709551616) (n0 : -9223372036854775808 ≤ n) (n1 : n ≤ 9223372036854775807) :
    Calls Try.prog 6 #[.int .i64 n, .slice A m c, .int .u64 x] w fun e w' => e = .returned (.bool true) ∧ Below w.heap.size w w' := by
  by_cases hm : 5000 < m
  · go_enter Try.func6, Try.ntmps6
    go_wp2_with (go_at_call 9; refine (awake_any _).mono ?_; rintro e w1 ⟨rfl, hb⟩)
    go_ret
    exact ⟨rfl, hb⟩
  · rcases Int.lt_or_le n 0 with hn | hn
    · exact packBack_neg n A m c s x w h hs h0 h1 n0 n1 hm hn
    · exact packBack_pos n A m c s x w h hs h0 h1 n0 n1 hm hn
end Go.Proofs.Ytfkdjcikmfljdaa
