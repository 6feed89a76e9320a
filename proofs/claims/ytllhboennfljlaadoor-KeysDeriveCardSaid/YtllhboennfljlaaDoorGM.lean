/-
  Several own texts in one: Apart, MacA, MacB, MacC, MacD, MacE, MacF, MacG. Own work.
-/
import Derived.Test.YtllhboennfljlaaDoorGA
import Derived.Test.YtllhboennfljlaaDoorGT
set_option linter.unusedVariables false
set_option linter.unusedSimpArgs false
/-
  Two rows of a call's own that are appended to side by side: one byte more, and where the row lies then. Plain theorems over whatever program. Own work.
-/
namespace Go.Proofs.YtllhboennfljlaaDoor
open Go.RowKit
/-- A row lies where it lay, or in new memory. -/
def NewOr (w : World) (v v' : Value) : Prop := v'.ownBlock = v.ownBlock ∨ ∀ k, v'.ownBlock = some k → w.heap.size ≤ k
/-- Two rows that share no block. -/
def Apart (v1 v2 : Value) : Prop := ∀ k, v1.ownBlock = some k → v2.ownBlock ≠ some k
theorem Apart.symm {v1 v2 : Value} (h : Apart v1 v2) : Apart v2 v1 := fun k h1 h2 => h k h2 h1
theorem Apart.nil (v : Value) : Apart (.slice none 0 0) v := fun k h => by cases h
theorem Apart.moved {w : World} {v1 v1' v2 : Value} {base e n : Nat} {xs : List Value} (h : Apart v1 v2) (hn : NewOr w v1 v1') (h2 : w.ownsRow base e 1 v2 n xs) : Apart v1' v2 := by
  intro k hk he
  rcases hn with hn | hn
  · exact h k (by rw [← hn]; exact hk) he
  · have := hn k hk
    have := (h2.lt k he).2
    omega
theorem Apart.kept {w w' : World} {v1 v2 : Value} {base e n : Nat} {xs : List Value} (h : Apart v1 v2) (hg : w.grownBy w' v1.ownBlock) (h2 : w.ownsRow base e 1 v2 n xs) : w'.ownsRow base e 1 v2 n xs := by
  refine h2.kept hg ?_
  cases hv : v2.ownBlock with
  | none => exact .inl rfl
  | some k => exact .inr fun he => h k he.symm hv
section
variable {P : Program} {w : World}
theorem run_append1 (base : Nat) (t ty e : TypeId) (i : TypeInfo) (ht : P.underlying t = some (.slice e)) (hi : P.info? e = some i) (hz : i.zero = some (.int .u8 0)) (hsz : i.size = 1) (hby : i.bytes = 1)
    (v : Value) (n : Nat) (xs : List Int) (hown : w.ownsRow base e 1 v n (bv xs)) (g c t' : Nat) (x : Int) (hr : Row w t' g [.int .u8 x]) (hlen : n ≤ 100000000) (hbase : base ≤ w.heap.size) :
    ∃ v' w', (Builtin.append_ #[t, t] ty #[v, .slice (some ⟨g, 0, none⟩) 1 c]).run P w = .ok v' w' ∧ w'.ownsRow base e 1 v' (n + 1) (bv (xs ++ [x])) ∧ w.grownBy w' v.ownBlock ∧ NewOr w v v' := by
  have hnews : ∀ j u, [Value.int .u8 x][j]? = some u → w.cell? ((⟨g, 0, none⟩ : Addr).add j) = some u := fun j u hu => by rw [addr_plain, Nat.zero_add]; exact hr.cell hu
  obtain ⟨v', w', hrun, h2, h3, _⟩ := run_append_own (P := P) w base t ty e i (.int .u8 0) 1 1 ht hi hz hsz hby rfl (by decide) v n (bv xs) hown ⟨g, 0, none⟩ 1 c [.int .u8 x] rfl hnews (one_int _ _) (by simp only [maxLen]; omega) (by omega) hbase
  refine ⟨v', w', hrun, by rw [show bv (xs ++ [x]) = bv xs ++ [Value.int .u8 x] by simp [bv]]; exact h2, h3, ?_⟩
  rcases hown.2 with ⟨rfl, rfl⟩ | ⟨g', cap, cur, rfl, hbg, hg, hnc, hcm, hcs, htake⟩
  · have q := run_append_nil (P := P) w t ty e i (.int .u8 0) ht hi hz ⟨g, 0, none⟩ 1 c [.int .u8 x] (by rw [hsz]; rfl) hnews (by decide) (by decide) (by rw [hby]; decide)
    rw [hrun] at q
    injection q with q1 _
    subst q1
    refine .inr fun k hk => ?_
    simp [Value.ownBlock] at hk
    omega
  · by_cases hroom : n + 1 ≤ cap
    · have q := run_append_room (P := P) w t ty e i ht hi g' n cap cur hg ⟨g, 0, none⟩ 1 c [.int .u8 x] (by rw [hsz]; rfl) hnews (one_int _ _) hroom (by rw [hsz]; simp; omega)
      rw [hrun] at q
      injection q with q1 _
      subst q1
      exact .inl rfl
    · have q := run_append_grow (P := P) w t ty e i (.int .u8 0) ht hi hz ⟨g', 0, none⟩ n cap (bv xs) (by rw [hsz]; exact hown.1) (hown.cells (g := g') rfl) ⟨g, 0, none⟩ 1 c [.int .u8 x] (by rw [hsz]; rfl) hnews (by omega) (by omega) (growslice_fits (by omega) (by rw [hby]; omega))
      rw [hrun] at q
      injection q with q1 _
      subst q1
      refine .inr fun k hk => ?_
      simp [Value.ownBlock] at hk
      omega
theorem wl_append1 {ops : Array Oper} {rest : List Oper} {o : Oper} {a : Act} {Q : Exit → Act → World → Prop} (hgd : o.guard = none) (s x : Operand) (t : TypeId)
    (ho : o.op = .call { callee := .builtin .append, args := #[s, x], argTypes := #[t, t] })
    (base : Nat) (e : TypeId) (i : TypeInfo) (ht : P.underlying t = some (.slice e)) (hi : P.info? e = some i) (hz : i.zero = some (.int .u8 0)) (hsz : i.size = 1) (hby : i.bytes = 1)
    (v : Value) (n : Nat) (xs : List Int) (hs : a.eval s = v) (hown : w.ownsRow base e 1 v n (bv xs)) (g c t' : Nat) (y : Int) (hx : a.eval x = .slice (some ⟨g, 0, none⟩) 1 c) (hr : Row w t' g [.int .u8 y]) (hlen : n ≤ 100000000) (hbase : base ≤ w.heap.size)
    (h : ∀ v' w', w'.ownsRow base e 1 v' (n + 1) (bv (xs ++ [y])) → w.grownBy w' v.ownBlock → NewOr w v v' → wpList P ops Q rest (a.put o.dst v') w') : wpList P ops Q (o :: rest) a w := by
  refine wpList_plain hgd fun K hK => ?_
  obtain ⟨v', w', hrun, h2, h3, h4⟩ := run_append1 (P := P) base t o.type e i ht hi hz hsz hby v n xs hown g c t' y hr hlen hbase
  unfold Oper.wp execOp
  simp only [ho, resolve, invoke, builtin, Sem.run_bind, Sem.run_pure, Result.andThen_ok, List.map_toArray, List.map_cons, List.map_nil, hs, hx, hrun]
  exact hK _ _ (h v' w' h2 h3 h4)
end
end Go.Proofs.YtllhboennfljlaaDoor

/-
  HMAC: sums with a key, as lists; the sum of parts: contract. Own work.
-/
namespace Go.Proofs.YtllhboennfljlaaDoor
open Go.RowKit
/-- A key that is no longer than a block. -/
def keyS (ks : List Int) : List Int := if 64 < ks.length then sumS ks else ks
/-- A key, as long as a block. -/
def padK (ks : List Int) : List Int := keyS ks ++ List.replicate (64 - (keyS ks).length) 0
/-- A key, each byte xored. -/
def maskS (ks : List Int) (x : Int) : List Int := (padK ks).map fun y => bits .xor .u8 y x
def hmacS (ks ts : List Int) : List Int := sumS (maskS ks 92 ++ sumS (maskS ks 54 ++ ts))
theorem keyS_len (ks : List Int) : (keyS ks).length ≤ 64 := by
  unfold keyS
  split
  · rw [sumS_len]; decide
  · omega
theorem padK_len (ks : List Int) : (padK ks).length = 64 := by
  have := keyS_len ks
  unfold padK
  rw [List.length_append, List.length_replicate]
  omega
theorem maskS_len (ks : List Int) (x : Int) : (maskS ks x).length = 64 := by unfold maskS; rw [List.length_map, padK_len]
theorem hmacS_len (ks ts : List Int) : (hmacS ks ts).length = 32 := sumS_len _
theorem byK_by (s : List Int) (k : Nat) : IsBy (byK s k) := by
  induction k with
  | zero => exact fun _ h => by cases h
  | succ k ih => exact ih.app (highB_by _ _)
theorem sumS_by (xs : List Int) : IsBy (sumS xs) := byK_by _ 8
theorem hmacS_by (ks ts : List Int) : IsBy (hmacS ks ts) := sumS_by _
theorem keyS_by {ks : List Int} (h : IsBy ks) : IsBy (keyS ks) := by
  unfold keyS
  split
  · exact sumS_by _
  · exact h
theorem padK_by {ks : List Int} (h : IsBy ks) : IsBy (padK ks) := (keyS_by h).app (IsBy.rep _)
theorem xor_by {x y : Int} (hx : 0 ≤ x ∧ x < 256) (hy : 0 ≤ y ∧ y < 256) : 0 ≤ bits .xor .u8 x y ∧ bits .xor .u8 x y < 256 := by
  rw [u8_xor x y hx.1 hx.2 hy.1 hy.2]
  have h1 : x.toNat < 2 ^ 8 := by omega
  have h2 : y.toNat < 2 ^ 8 := by omega
  have := Nat.xor_lt_two_pow h1 h2
  omega
theorem maskS_by {ks : List Int} {x : Int} (h : IsBy ks) (hx : 0 ≤ x ∧ x < 256) : IsBy (maskS ks x) := by
  intro b hb
  obtain ⟨y, hy, rfl⟩ := List.mem_map.1 hb
  exact xor_by (padK_by h y hy) hx
theorem map_set {f : Int → Int} {p : List Int} {i : Nat} (h : i < p.length) : ((p.map f).take i ++ p.drop i).set i (f (p.getD i 0)) = (p.map f).take (i + 1) ++ p.drop (i + 1) := by
  rw [List.set_append_right _ _ (by simp; omega), List.length_take, List.length_map, Nat.min_eq_left (Nat.le_of_lt h), Nat.sub_self, List.drop_eq_getElem_cons h, List.set_cons_zero, List.take_succ_eq_append_getElem (by simpa using h), List.append_assoc]
  simp [List.getD, List.getElem?_eq_getElem h]
theorem map_at {f : Int → Int} {p : List Int} {i : Nat} (h : i < p.length) : ((p.map f).take i ++ p.drop i).getD i 0 = p.getD i 0 := by
  simp only [List.getD]
  rw [List.getElem?_append_right (by simp; omega), List.length_take, List.length_map, Nat.min_eq_left (Nat.le_of_lt h), Nat.sub_self, List.getElem?_drop, Nat.add_zero]
theorem map_mid_len {f : Int → Int} {p : List Int} {i : Nat} (h : i ≤ p.length) : ((p.map f).take i ++ p.drop i).length = p.length := by simp; omega
theorem IsBy.getD {xs : List Int} (h : IsBy xs) (i : Nat) : 0 ≤ xs.getD i 0 ∧ xs.getD i 0 < 256 := by
  by_cases hi : i < xs.length
  · rw [List.getD, List.getElem?_eq_getElem hi]; exact h _ (by simp)
  · rw [List.getD, List.getElem?_eq_none (by omega)]; decide
theorem own_rep {w : World} {t g n : Nat} (h : Row w t g (List.replicate n (Value.int .u8 0))) : Own w t g (List.replicate n 0) := by
  have : Row w t g (bv (List.replicate n 0)) := by rw [show bv (List.replicate n 0) = List.replicate n (Value.int .u8 0) by simp [bv]]; exact h
  exact this
set_option maxRecDepth 100000 in
set_option maxHeartbeats 1000000 in
theorem msum_any (l : List (List Int)) (C : Option Addr) (k f : Nat) (w : World) (hT : Tabs w) (hx : Bss w w.heap.size C k l) (hby : IsBy l.flatten) (hk : k ≤ 1000000) (hM : l.flatten.length ≤ 100000000) :
    Calls Tryd.prog 53 #[.slice C k f] w fun e w' => e = .returned (.agg (bv (sumS l.flatten)).toArray) ∧ Below w.heap.size w w' := by
  have hsl := sumS_len l.flatten
  have zf := hide (size32b hsl)
  have lf := hide (show (bv (List.replicate 32 0)).length = (bv (sumS l.flatten)).length by rw [bv_len, bv_len, hsl, List.length_replicate])
  have hJ := fun w hx => join_any C k f l w hx hk (by have := sumLen_le l k; rw [show sumLen l l.length = l.flatten.length by unfold sumLen; rw [List.take_length]] at this; omega)
  have hS := fun A m c w hT hb hc hm => sum_any l.flatten A m c w hT hb hby hc hm
  generalize sumS l.flatten = FS at *
  generalize l.flatten = xs at *
  clear hsl
  go_enter Tryd.func53, Tryd.ntmps53
  go_wp2_with (first
    | (with_reducible refine wl_alloc rfl 33 _ (bv (List.replicate 32 0)) rfl zero32b rfl ?_; intro g2 w2 r2 p2 l2 b2))
  refine (hJ w2 ((hx.below b2).up b2.size)).mono ?_
  rintro e w3 ⟨A3, m3, c3, rfl, h3, hc3, hM3, b3⟩
  have B3 := b2.trans (b3.mono b2.size)
  have r3 := r2.later b3
  have hm3 : m3 ≤ 4611686018427387904 := by have := h3.1; omega
  clear hM3 r2
  go_wp2_with fail
  refine (hS A3 m3 c3 w3 (hT.later B3) h3 hc3 hm3).mono ?_
  rintro e w4 ⟨rfl, b4⟩
  have B4 := B3.trans (b4.mono B3.size)
  have r4 := r3.later b4
  clear hm3
  go_wp2_with (first
    | (with_reducible refine wl_store_row rfl 33 (.tmp 2) (.tmp 5) g2 33 _ (bv FS) rfl rfl rfl r4 zf.out lf.out (bv_one _) ?_; intro w8 r8 o8))
  refine bodyPost_ret (v := .agg (bv FS).toArray) ?_ rfl ⟨rfl, ?_⟩
  · exact results_cell_row Tryd.results53 _ _ g2 33 _ (0, 0) _ rfl r8 Tryd.underlying33 rfl zf.out
  · exact B4.trans (o8.below p2)
end Go.Proofs.YtllhboennfljlaaDoor

/-
  HMAC: a masked key: contract. Own work.
-/
namespace Go.Proofs.YtllhboennfljlaaDoor
open Go.RowKit
set_option maxRecDepth 100000 in
set_option maxHeartbeats 1000000 in
/-- The key that is no longer than a block, masked: behind the choice of it. -/
theorem masked_any (ks : List Int) (x : Int) (A : Option Addr) (m c : Nat) (w : World) (hT : Tabs w) (hx : Bs w w.heap.size A m ks) (hkb : IsBy ks) (hc : m ≤ c) (hM : m ≤ 100000000) (x0 : 0 ≤ x) (x1 : x < 256) :
    Calls Tryd.prog 54 #[.slice A m c, .int .u8 x] w (RetBs (maskS ks x) w) := by
  obtain ⟨i0, hi, hz, hsz, hby⟩ := u8_info
  have kl := hide (padK_len ks)
  have kpb : IsBy (padK ks) := padK_by hkb
  have hlen := hx.1
  by_cases hlong : 64 < m
  · have hd : decide ((64 : Int) < (m : Int)) = true := by simp; omega
    have hdef : padK ks = sumS ks ++ List.replicate (64 - 32) 0 := by unfold padK keyS; rw [if_pos (by omega), sumS_len]
    have hsl := sumS_len ks
    have zf := hide (size32b hsl)
    have lf := hide (show (bv (List.replicate 32 0)).length = (bv (sumS ks)).length by rw [bv_len, bv_len, hsl, List.length_replicate])
    have hS := fun w hT hb => sum_any ks A m c w hT hb hkb hc (by omega)
    have hmk : maskS ks x = (padK ks).map fun y => bits .xor .u8 y x := rfl
    have HD := hide hdef; have HM := hide hmk; have HSL := hide hsl
    clear hdef hmk hsl hlen
    generalize maskS ks x = M at *
    generalize padK ks = PK at *
    generalize sumS ks = K at *
    go_enter Tryd.func54, Tryd.ntmps54
    go_wp2_with fail
    refine (hS w hT hx).mono ?_
    rintro e w2 ⟨rfl, b2⟩
    clear hS hd
    go_wp2_with (first
      | (with_reducible refine wl_alloc rfl 33 _ (bv (List.replicate 32 0)) rfl zero32b rfl ?_; intro g5 w3 r3 p3 l3 b3)
      | (with_reducible refine wl_store_row rfl 33 (.tmp 5) (.tmp 12) g5 33 _ (bv K) rfl rfl rfl r3 zf.out lf.out (bv_one _) ?_; intro w4 r4 o4)
      | (with_reducible refine wl_make rfl 26 (.const (.int .i64 64)) (.const (.int .i64 64)) rfl 5 i0 (.int .u8 0) Tryd.underlying26 hi hz hsz rfl .i64 .i64 64 64 _ _ rfl rfl rfl rfl (Nat.le_refl _) (by rw [hby]; omega) (by omega) ?_; intro g6 w6 r6 a6 l6 b6; have r6' := own_rep r6)
      | (refine wpList_copy_bs rfl (.tmp 15) (.tmp 16) _ _ rfl 5 Tryd.underlying26 u8_size g6 0 _ _ 32 32 (some ⟨g5, 0, none⟩) rfl rfl _ K 5 w4.heap.size r6' ((Bs.row r4 HSL.out).below b6) (by decide) (by rw [List.length_replicate]; decide) w4.heap.size w4 b6 a6 ?_; intro w7 r7 b7))
    have q5 : w.heap.size ≤ g5 := Nat.le_trans b2.size p3
    have B4 : Below w.heap.size w w4 := (b2.trans (b3.mono b2.size)).trans (o4.below q5)
    have B7 : Below w.heap.size w w7 := B4.trans (b7.mono B4.size)
    have q6 : w.heap.size ≤ g6 := Nat.le_trans B4.size a6
    have r7' : Row w7 5 g6 (bv PK) := by
      have : Row w7 5 g6 (bv ((List.replicate 64 (0 : Int)).take 0 ++ K ++ (List.replicate 64 (0 : Int)).drop (0 + 32))) := r7
      rw [HD.out]
      rw [List.take_zero, List.nil_append, Nat.zero_add, List.drop_replicate] at this
      exact this
    clear r3 r4 r6 r6' r7 b2 b3 b6 b7 o4 B4
    have r8 : Row w7 5 g6 (bv ((PK.map fun y => bits .xor .u8 y x).take 0 ++ PK.drop 0)) := r7'
    clear r7'
    go_wp2_with fail
    go_loopw [20] (fun iv wr => ∃ i : Nat, i ≤ 64 ∧ iv = .int .i64 i ∧ Row wr 5 g6 (bv ((PK.map fun y => bits .xor .u8 y x).take i ++ PK.drop i)) ∧ Below w.heap.size w wr) (fun iv _ => 64 - (intOf iv).toNat)
    case atStart => exact ⟨0, Nat.zero_le _, rfl, r8, B7⟩
    case round =>
      clear r8 B7
      obtain ⟨i, hi, rfl, r6, br⟩ := hrel
      by_cases hlt : i < 64
      · have hset := map_set (f := fun y => bits .xor .u8 y x) (p := PK) (i := i) (by rw [kl.out]; exact hlt)
        have hat := map_at (f := fun y => bits .xor .u8 y x) (p := PK) (i := i) (by rw [kl.out]; exact hlt)
        have hcl := map_mid_len (f := fun y => bits .xor .u8 y x) (p := PK) (i := i) (by rw [kl.out]; exact hi)
        have hyb := kpb.getD i
        have HS := hide hset
        have c1 := r6.cell (vk_get (kd := .u8) (xs := (PK.map fun y => bits .xor .u8 y x).take i ++ PK.drop i) (j := i) (by rw [hcl, kl.out]; exact hlt))
        rw [hat] at c1
        have HL := hide (show i < (bv ((PK.map fun y => bits .xor .u8 y x).take i ++ PK.drop i)).length by rw [bv_len, hcl, kl.out]; exact hlt)
        clear hset hat hcl
        generalize PK.getD i 0 = y at *
        generalize (PK.map fun y => bits .xor .u8 y x).take i ++ PK.drop i = cur at *
        go_wp2_with (first
          | (with_reducible refine wl_store rfl 5 (.tmp 29) (.tmp 28) g6 i 5 _ (.int .u8 (bits .xor .u8 y x)) rfl (by kernel_rfl) rfl rfl r6 HL.out rfl ?_; intro w9 r9 o9; rw [bv_set, HS.out] at r9))
        go_roundw
        case rel => exact ⟨i + 1, by omega, by go_num, r9, br.trans (o9.below q6)⟩
        case measure => simp [intOf]; omega
      · have h64 : i = 64 := by omega
        have r9 : Row wr 5 g6 (bv M) := by
          rw [h64, List.take_of_length_le (by rw [List.length_map, kl.out]; exact Nat.le_refl _), List.drop_of_length_le (by rw [kl.out]; exact Nat.le_refl _), List.append_nil, ← HM.out] at r6
          exact r6
        have hml : M.length = 64 := by rw [HM.out, List.length_map, kl.out]
        have hfin : RetBs M w (.returned (.slice (some ⟨g6, 0, none⟩) 64 64)) wr := ⟨_, 64, 64, rfl, Bs.row r9 hml, Nat.le_refl _, by simp only [maxLen]; omega, br⟩
        have HF := hide hfin
        clear r6 r9 h64 hml hfin HM
        go_wp2_with fail
        go_ret
        exact HF.out
  · have hd : decide ((64 : Int) < (m : Int)) = false := by simp; omega
    have hdef : padK ks = ks ++ List.replicate (64 - m) 0 := by unfold padK keyS; rw [if_neg (by omega), hlen]
    have hmk : maskS ks x = (padK ks).map fun y => bits .xor .u8 y x := rfl
    have HD := hide hdef; have HM := hide hmk
    have hm64 : m ≤ 64 := by omega
    clear hdef hmk hlen
    generalize maskS ks x = M at *
    generalize padK ks = PK at *
    go_enter Tryd.func54, Tryd.ntmps54
    go_wp2_with (first
      | (with_reducible refine wl_make rfl 26 (.const (.int .i64 64)) (.const (.int .i64 64)) rfl 5 i0 (.int .u8 0) Tryd.underlying26 hi hz hsz rfl .i64 .i64 64 64 _ _ rfl rfl rfl rfl (Nat.le_refl _) (by rw [hby]; omega) (by omega) ?_; intro g6 w6 r6 a6 l6 b6; have r6' := own_rep r6)
      | (refine wpList_copy_bs rfl (.tmp 15) (.tmp 16) _ _ rfl 5 Tryd.underlying26 u8_size g6 0 _ _ m c A rfl rfl _ ks 5 w.heap.size r6' (hx.below b6) hm64 (by rw [List.length_replicate]; omega) w.heap.size w b6 a6 ?_; intro w7 r7 b7))
    have B7 : Below w.heap.size w w7 := b7
    have q6 : w.heap.size ≤ g6 := a6
    have r7' : Row w7 5 g6 (bv PK) := by
      have : Row w7 5 g6 (bv ((List.replicate 64 (0 : Int)).take 0 ++ ks ++ (List.replicate 64 (0 : Int)).drop (0 + m))) := r7
      rw [HD.out]
      rw [List.take_zero, List.nil_append, Nat.zero_add, List.drop_replicate] at this
      exact this
    clear r6 r6' r7 b6 b7
    have r8 : Row w7 5 g6 (bv ((PK.map fun y => bits .xor .u8 y x).take 0 ++ PK.drop 0)) := r7'
    clear r7'
    go_wp2_with fail
    go_loopw [20] (fun iv wr => ∃ i : Nat, i ≤ 64 ∧ iv = .int .i64 i ∧ Row wr 5 g6 (bv ((PK.map fun y => bits .xor .u8 y x).take i ++ PK.drop i)) ∧ Below w.heap.size w wr) (fun iv _ => 64 - (intOf iv).toNat)
    case atStart => exact ⟨0, Nat.zero_le _, rfl, r8, B7⟩
    case round =>
      clear r8 B7
      obtain ⟨i, hi, rfl, r6, br⟩ := hrel
      by_cases hlt : i < 64
      · have hset := map_set (f := fun y => bits .xor .u8 y x) (p := PK) (i := i) (by rw [kl.out]; exact hlt)
        have hat := map_at (f := fun y => bits .xor .u8 y x) (p := PK) (i := i) (by rw [kl.out]; exact hlt)
        have hcl := map_mid_len (f := fun y => bits .xor .u8 y x) (p := PK) (i := i) (by rw [kl.out]; exact hi)
        have hyb := kpb.getD i
        have HS := hide hset
        have c1 := r6.cell (vk_get (kd := .u8) (xs := (PK.map fun y => bits .xor .u8 y x).take i ++ PK.drop i) (j := i) (by rw [hcl, kl.out]; exact hlt))
        rw [hat] at c1
        have HL := hide (show i < (bv ((PK.map fun y => bits .xor .u8 y x).take i ++ PK.drop i)).length by rw [bv_len, hcl, kl.out]; exact hlt)
        clear hset hat hcl
        generalize PK.getD i 0 = y at *
        generalize (PK.map fun y => bits .xor .u8 y x).take i ++ PK.drop i = cur at *
        go_wp2_with (first
          | (with_reducible refine wl_store rfl 5 (.tmp 29) (.tmp 28) g6 i 5 _ (.int .u8 (bits .xor .u8 y x)) rfl (by kernel_rfl) rfl rfl r6 HL.out rfl ?_; intro w9 r9 o9; rw [bv_set, HS.out] at r9))
        go_roundw
        case rel => exact ⟨i + 1, by omega, by go_num, r9, br.trans (o9.below q6)⟩
        case measure => simp [intOf]; omega
      · have h64 : i = 64 := by omega
        have r9 : Row wr 5 g6 (bv M) := by
          rw [h64, List.take_of_length_le (by rw [List.length_map, kl.out]; exact Nat.le_refl _), List.drop_of_length_le (by rw [kl.out]; exact Nat.le_refl _), List.append_nil, ← HM.out] at r6
          exact r6
        have hml : M.length = 64 := by rw [HM.out, List.length_map, kl.out]
        have hfin : RetBs M w (.returned (.slice (some ⟨g6, 0, none⟩) 64 64)) wr := ⟨_, 64, 64, rfl, Bs.row r9 hml, Nat.le_refl _, by simp only [maxLen]; omega, br⟩
        have HF := hide hfin
        clear r6 r9 h64 hml hfin HM
        go_wp2_with fail
        go_ret
        exact HF.out
end Go.Proofs.YtllhboennfljlaaDoor

/-
  HMAC: the sum of parts with a key: contracts. Own work.
-/
namespace Go.Proofs.YtllhboennfljlaaDoor
open Go.RowKit
theorem sl_info_ : (Tryd.prog.info? 26).map (fun i => (i.zero, i.size, i.bytes)) = some (some (.slice none 0 0), 1, 24) := by kernel_rfl
theorem sl_info : ∃ i, Tryd.prog.info? 26 = some i ∧ i.zero = some (.slice none 0 0) ∧ i.size = 1 := by
  obtain ⟨i, h0, h1, h2, h3⟩ := info_parts sl_info_
  exact ⟨i, h0, h1, h2⟩
theorem st_build2R {P : Program} {o : Oper} {a : Act} {w : World} {K : Act → World → Prop} {Q : Exit → Act → World → Prop} (t : TypeId) (x y : Operand) (ho : o.op = .buildSlice t 2 #[(0, x), (1, y)]) (e : TypeId) (i : TypeInfo) (z u v : Value) (ht : P.underlying t = some (.slice e)) (hi : P.info? e = some i) (hz : i.zero = some z) (hsz : i.size = 1) (hzc : z.cells = #[z]) (hx : a.eval x = u) (hy : a.eval y = v) (hu : u.cells = #[u]) (hv : v.cells = #[v])
    (hk : ∀ g w', Row w' e g [u, v] → w.heap.size ≤ g → g < w'.heap.size → Below w.heap.size w w' → K (a.put o.dst (.slice (some ⟨g, 0, none⟩) 2 2)) w') : o.wp P a w K Q :=
  st_build2 t x y ho e i z u v ht hi hz hsz hzc hx hy hu hv (hk _ _ (by unfold Row; exact heap_alloc_new _ _) (Nat.le_refl _) (by simp) ((Below.refl _ _).alloc (Nat.le_refl _) _))
def FHm (mk inn : List Int) (opn : Nat) (v : Value) (w : World) : Prop :=
  match opn with
  | 1 => SlF mk v w
  | 3 => BsF 2 [mk, inn] v w
  | _ => True
theorem FHm_mono (mk inn : List Int) : ∀ j v w w', FHm mk inn j v w → Below w.heap.size w w' → FHm mk inn j v w' := by
  intro j v w w' h hb
  unfold FHm at h ⊢
  split at h
  · exact h.later hb
  · exact h.later hb
  · trivial

def SHm (FS : List Int) (A : Option Addr) (g4 g5 m c : Nat) (opn : Nat) (v : Value) : Prop :=
  match opn with
  | 0 => v = .slice A m c
  | 2 => v = .slice (some ⟨g5, 0, none⟩) 32 32
  | 4 => v = .agg (bv FS).toArray
  | _ => True

set_option maxRecDepth 100000 in
set_option maxHeartbeats 2000000 in
theorem hmac_any (ks : List Int) (l : List (List Int)) (A C : Option Addr) (m c k f : Nat) (w : World) (hT : Tabs w) (hx : Bs w w.heap.size A m ks) (hkb : IsBy ks) (hc : m ≤ c) (hM : m ≤ 100000000) (hl : Bss w w.heap.size C k l) (hlb : IsBy l.flatten) (hk : k ≤ 1000000) (hL : l.flatten.length ≤ 10000000) :
    Calls Tryd.prog 48 #[.slice A m c, .slice C k f] w fun e w' => e = .returned (.agg (bv (hmacS ks l.flatten)).toArray) ∧ Below w.heap.size w w' := by
  obtain ⟨isl, hsi, hsz0, hss⟩ := sl_info
  have hsl := hmacS_len ks l.flatten
  have zf := hide (size32b hsl)
  have lf := hide (show (bv (List.replicate 32 0)).length = (bv (hmacS ks l.flatten)).length by rw [bv_len, bv_len, hsl, List.length_replicate])
  have hisl := sumS_len (maskS ks 54 ++ l.flatten)
  have hil := hide hisl
  have zi := hide (size32b hisl)
  have li := hide (show (bv (List.replicate 32 0)).length = (bv (sumS (maskS ks 54 ++ l.flatten))).length by rw [bv_len, bv_len, hisl, List.length_replicate])
  have HM1 := fun w hT hx => masked_any ks 54 A m c w hT hx hkb hc hM (by decide) (by decide)
  have HMk := fun w hT hx => masked_any ks 92 A m c w hT hx hkb hc hM (by decide) (by decide)
  have hJ := fun w hx => join_any C k f l w hx hk (by have := sumLen_le l k; rw [show sumLen l l.length = l.flatten.length by unfold sumLen; rw [List.take_length]] at this; omega)
  have HS1 := fun A d w hT hx => msum_any [maskS ks 54, l.flatten] A 2 d w hT hx (by simpa using (maskS_by hkb (by decide)).app hlb) (by decide) (by rw [show [maskS ks 54, l.flatten].flatten = maskS ks 54 ++ l.flatten by simp, List.length_append, maskS_len]; omega)
  have HSm := fun A d w hT hx => msum_any [maskS ks 92, sumS (maskS ks 54 ++ l.flatten)] A 2 d w hT hx (by simpa using (maskS_by hkb (by decide)).app (sumS_by _)) (by decide) (by simp [maskS_len, sumS_len])
  rw [show [maskS ks 54, l.flatten].flatten = maskS ks 54 ++ l.flatten by simp] at HS1
  rw [show sumS [maskS ks 92, sumS (maskS ks 54 ++ l.flatten)].flatten = hmacS ks l.flatten by simp [hmacS]] at HSm
  clear hsl hisl
  generalize hmacS ks l.flatten = FS at *
  generalize sumS (maskS ks 54 ++ l.flatten) = inn at *
  generalize maskS ks 92 = mk at *
  go_enter Tryd.func48, Tryd.ntmps48
  go_wp2_with (first
    | (with_reducible refine wl_alloc rfl 33 _ (bv (List.replicate 32 0)) rfl zero32b rfl ?_; intro g4 w2 r4 p4 l4 b2))
  refine (HM1 w2 (hT.later b2) (hx.later b2)).mono ?_
  rintro e w3 ⟨A7, n7, c7, rfl, h7, hc7, _, b3⟩
  have B3 := b2.trans (b3.mono b2.size)
  have r4a := r4.later b3
  clear r4
  go_wp2_with fail
  refine (hJ w3 ((hl.below B3).up B3.size)).mono ?_
  rintro e w4 ⟨A9, n9, c9, rfl, h9, hc9, _, b4⟩
  have B4 := B3.trans (b4.mono B3.size)
  have r4b := r4a.later b4
  have h7b := h7.later b4
  clear r4a
  go_wp2_with (first
    | (with_reducible refine wl_build2 rfl 78 (.tmp 7) (.tmp 9) rfl 26 isl (.slice none 0 0) (.slice A7 n7 c7) (.slice A9 n9 c9) Tryd.underlying78 hsi hsz0 hss rfl rfl rfl rfl rfl ?_; intro g8 w5 r8 p8 l8 b5))
  have B5 := B4.trans (b5.mono B4.size)
  have r4c := r4b.later b5
  have hbs := r8.bss2 (h7b.later b5) (h9.later b5)
  clear r4b r8
  refine (HS1 _ 2 w5 (hT.later B5) hbs).mono ?_
  rintro e w6 ⟨rfl, b6⟩
  have B6 := B5.trans (b6.mono B5.size)
  have r4d := r4c.later b6
  clear r4c hbs HS1 HM1 hJ h7 h7b h9
  go_wp2_with (first
    | (with_reducible refine wl_alloc rfl 33 _ (bv (List.replicate 32 0)) rfl zero32b rfl ?_; intro g5 w7 r5a p5 l5 b7)
    | (with_reducible refine wl_store_row rfl 33 (.tmp 5) (.tmp 11) g5 33 _ (bv inn) rfl rfl rfl r5a zi.out li.out (bv_one _) ?_; intro wS r5 o8))
  have q5 : w.heap.size ≤ g5 := Nat.le_trans B6.size p5
  have h45 : g4 ≠ g5 := by have := r4d.lt; omega
  have r4 := (r4d.later b7).only o8 h45
  have BS := (B6.trans (b7.mono B6.size)).trans (o8.below q5)
  have hT0 := hT.later BS
  have hx0 := hx.later BS
  clear r4d r5a b7 o8 hT hx b2 b3 b4 b5 b6
  have hT := hT0
  have hx := hx0
  clear hT0 hx0
  rename_i K1 hK1
  refine wp_region_vals [1, 3, 4, 5] (SHm FS A g4 g5 m c) (JG g4 33 wS [1, 3, 4, 5] (FHm mk inn) 3 (bv FS)) (by kernel_rfl) (by kernel_rfl) (by kernel_rfl) (by kernel_rfl) (by kernel_rfl) (JG.start _) ?obs ?he
  case obs =>
    refine ⟨?_, ?_, ?_, ?_, ?_, ?_, trivial⟩
    · exact .inl ⟨by kernel_rfl, fun L a1 w1 n h => ⟨_, rfl, run_move (.tmp 0) rfl (h.var n 0 (by kernel_rfl))⟩⟩
    · refine .inr fun L a1 w1 n h K hK => ?_
      have no : L.getD 5 false = false := n.later (by kernel_rfl)
      have hK := JG.cont hK no rfl (by decide)
      have h := JG.down h no rfl
      have e0 : a1.eval (.tmp 12) = .slice A m c := h.dep n 0 12 (by kernel_rfl) rfl
      refine JF.call (FHm_mono mk inn) h hK 13 rfl 54 _ _ #[.slice A m c, .int .u8 92] rfl Tryd.call54 ?_ (HMk w1 (hT.later h.inv.1) (hx.later h.inv.1)) ?_
      · simp only [List.map_toArray, List.map_cons, List.map_nil, e0]; rfl
      · rintro e w3 h9
        obtain ⟨v9, rfl, f9, b9⟩ := SlF.of_ret h9
        exact ⟨_, rfl, trivial, f9, b9⟩
    · exact .inl ⟨by kernel_rfl, fun L a1 w1 n h => ⟨_, rfl, run_sliceAll 33 (.tmp 5) 32 5 g5 rfl Tryd.underlying33 Tryd.sizeOf5 (h.var n 5 (by kernel_rfl))⟩⟩
    · refine .inr fun L a1 w1 n h K hK => ?_
      have no : L.getD 5 false = false := n.later (by kernel_rfl)
      have hK := JG.cont hK no rfl (by decide)
      have h := JG.down h no rfl
      obtain ⟨A9, c9, v9, q9, _, _⟩ := JF.get h n 1 13 (by kernel_rfl) (by kernel_rfl) rfl
      have e1 : a1.eval (.tmp 14) = .slice (some ⟨g5, 0, none⟩) 32 32 := h.dep n 2 14 (by kernel_rfl) rfl
      refine st_build2R 78 (.tmp 13) (.tmp 14) rfl 26 isl (.slice none 0 0) _ _ Tryd.underlying78 hsi hsz0 hss rfl v9 e1 rfl rfl ?_
      intro g7 w3 r7 a7 l7 b7
      exact JF.few (FHm_mono mk inn) h hK 15 rfl _ trivial ⟨_, _, rfl, r7.bss2 (q9.later b7) ((Bs.row (r5.later h.inv.1) hil.out).later b7)⟩ b7
    · refine .inr fun L a1 w1 n h K hK => ?_
      have no : L.getD 5 false = false := n.later (by kernel_rfl)
      have hK := JG.cont hK no rfl (by decide)
      have h := JG.down h no rfl
      obtain ⟨A15, c15, v15, q15⟩ := JF.get h n 3 15 (by kernel_rfl) (by kernel_rfl) rfl
      have e0 : a1.eval (.tmp 15) = .slice A15 2 c15 := v15
      refine JF.call (FHm_mono mk inn) h hK 16 rfl 53 _ _ #[.slice A15 2 c15] rfl Tryd.call53 ?_ (HSm A15 c15 w1 (hT.later h.inv.1) q15) ?_
      · simp only [List.map_toArray, List.map_cons, List.map_nil, e0]
      · rintro e w3 ⟨rfl, b9⟩
        exact ⟨_, rfl, rfl, trivial, b9⟩
    · refine .inr fun L a1 w1 n h K hK => ?_
      have no : L.getD 5 false = false := n.not_yet
      have h0 := (h.inv.1 ((bits_at rfl).trans no)).1
      refine st_store_row 33 (.tmp 4) (.tmp 16) g4 33 _ (bv FS) rfl (h.var n 4 (by kernel_rfl)) (h.dep n 4 16 (by kernel_rfl) rfl) (r4.later h0) (zf.out) (lf.out) (bv_one _) ?_
      intro w3 r3 o3
      exact JG.store h hK no rfl trivial r3 o3
  case he =>
    intro V w9 hV hJ2
    obtain ⟨bu, r9⟩ := hJ2.2 rfl
    clear hV hJ2
    simp only [putOps, List.setIfInBounds_toArray, List.set_cons_succ, List.set_cons_zero]
    refine hK1 _ _ ?_
    go_wp2_with fail
    refine bodyPost_ret (v := .agg (bv FS).toArray) ?_ rfl ⟨rfl, ?_⟩
    · exact results_cell_row Tryd.results48 _ _ g4 33 _ (0, 0) _ rfl r9 Tryd.underlying33 rfl zf.out
    · exact BS.trans (bu.below p4 BS.size)
end Go.Proofs.YtllhboennfljlaaDoor

/-
  HMAC and HKDF: the program's calls: contracts. Own work.
-/
namespace Go.Proofs.YtllhboennfljlaaDoor
open Go.RowKit
theorem Row.kept {w w' : World} {t g : Nat} {vs : List Value} {row : Option Nat} (h : Row w t g vs) (hg : w.grownBy w' row) (hne : some g ≠ row) : Row w' t g vs := (hg.block g h.lt hne).trans h
theorem st_build3R {P : Program} {o : Oper} {a : Act} {w : World} {K : Act → World → Prop} {Q : Exit → Act → World → Prop} (t : TypeId) (x y x3 : Operand) (ho : o.op = .buildSlice t 3 #[(0, x), (1, y), (2, x3)]) (e : TypeId) (i : TypeInfo) (z u v u3 : Value) (ht : P.underlying t = some (.slice e)) (hi : P.info? e = some i) (hz : i.zero = some z) (hsz : i.size = 1) (hzc : z.cells = #[z]) (hx : a.eval x = u) (hy : a.eval y = v) (hx3 : a.eval x3 = u3) (hu : u.cells = #[u]) (hv : v.cells = #[v]) (hu3 : u3.cells = #[u3])
    (hk : ∀ g w', Row w' e g [u, v, u3] → w.heap.size ≤ g → g < w'.heap.size → Below w.heap.size w w' → K (a.put o.dst (.slice (some ⟨g, 0, none⟩) 3 3)) w') : o.wp P a w K Q := by
  have hr : (Array.range 3) = #[0, 1, 2] := rfl
  have hzz : ∀ w, (zeroValue e).run P w = .ok z w := fun w => by simp [zeroValue, typeInfo, hi, hz]
  have hss : ∀ w, (sizeOf e).run P w = .ok 1 w := fun w => by simp [sizeOf, typeInfo, hi, hsz]
  have hrun : (Instr.buildSlice t 3 #[(0, u), (1, v), (2, u3)]).run P w = .ok (.slice (some ⟨w.heap.size, 0, none⟩) 3 3) (w.alloc (.cells #[u, v, u3] e)) := by
    simp [Instr.buildSlice, run_underlying ht, hss, hzz, hr, hzc, Instr.fill, hu, hv, hu3, newRow]
  unfold Oper.wp execOp
  simp only [ho, List.map_toArray, List.map_cons, List.map_nil, hx, hy, hx3, hrun, Sem.run_bind, Result.andThen_ok, Sem.run_pure]
  exact hk _ _ (by unfold Row; exact heap_alloc_new _ _) (Nat.le_refl _) (by simp) ((Below.refl _ _).alloc (Nat.le_refl _) _)
theorem wl_build3 {P : Program} {ops : Array Oper} {rest : List Oper} {o : Oper} {a : Act} {w : World} {Q : Exit → Act → World → Prop} (hgd : o.guard = none) (t : TypeId) (x y x3 : Operand) (ho : o.op = .buildSlice t 3 #[(0, x), (1, y), (2, x3)]) (e : TypeId) (i : TypeInfo) (z u v u3 : Value) (ht : P.underlying t = some (.slice e)) (hi : P.info? e = some i) (hz : i.zero = some z) (hsz : i.size = 1) (hzc : z.cells = #[z]) (hx : a.eval x = u) (hy : a.eval y = v) (hx3 : a.eval x3 = u3) (hu : u.cells = #[u]) (hv : v.cells = #[v]) (hu3 : u3.cells = #[u3])
    (hk : ∀ g w', Row w' e g [u, v, u3] → w.heap.size ≤ g → g < w'.heap.size → Below w.heap.size w w' → wpList P ops Q rest (a.put o.dst (.slice (some ⟨g, 0, none⟩) 3 3)) w') : wpList P ops Q (o :: rest) a w :=
  wpList_plain hgd fun K hK => st_build3R t x y x3 ho e i z u v u3 ht hi hz hsz hzc hx hy hx3 hu hv hu3 fun g w' h1 h2 h3 h4 => hK _ _ (hk g w' h1 h2 h3 h4)
set_option maxRecDepth 100000 in
set_option maxHeartbeats 1000000 in
theorem extract_any (ks ts : List Int) (A B : Option Addr) (m c n d : Nat) (w : World) (hT : Tabs w) (hx : Bs w w.heap.size A m ks) (hkb : IsBy ks) (hc : m ≤ c) (hM : m ≤ 100000000) (ht : Bs w w.heap.size B n ts) (htb : IsBy ts) (hN : n ≤ 10000000) :
    Calls Tryd.prog 34 #[.slice A m c, .slice B n d] w fun e w' => e = .returned (.agg (bv (hmacS ks ts)).toArray) ∧ Below w.heap.size w w' := by
  obtain ⟨isl, hsi, hsz0, hss⟩ := sl_info
  have hsl := hmacS_len ks ts
  have zf := hide (size32b hsl)
  have lf := hide (show (bv (List.replicate 32 0)).length = (bv (hmacS ks ts)).length by rw [bv_len, bv_len, hsl, List.length_replicate])
  have htl := ht.1
  have HH := fun w C hT hx hl => hmac_any ks [ts] A C m c 1 1 w hT hx hkb hc hM hl (by simpa using htb) (by decide) (by simp; omega)
  rw [show [ts].flatten = ts by simp] at HH
  clear hsl htl
  generalize hmacS ks ts = FS at *
  go_enter Tryd.func34, Tryd.ntmps34
  go_wp2_with (first
    | (with_reducible refine wl_alloc rfl 33 _ (bv (List.replicate 32 0)) rfl zero32b rfl ?_; intro g4 w2 r4 p4 l4 b2)
    | (with_reducible refine wl_build1 rfl 78 (.tmp 6) rfl 26 isl (.slice none 0 0) (.slice B n d) Tryd.underlying78 hsi hsz0 hss rfl rfl rfl ?_; intro g8 w3 r8 p8 l8 b3))
  have B3 := b2.trans (b3.mono b2.size)
  have hbs := r8.bss1 ((ht.later b2).later b3)
  have r4b := r4.later b3
  clear r8 r4
  refine (HH w3 _ (hT.later B3) (hx.later B3) hbs).mono ?_
  rintro e w4 ⟨rfl, b4⟩
  have B4 := B3.trans (b4.mono B3.size)
  have r4c := r4b.later b4
  go_wp2_with (first
    | (with_reducible refine wl_store_row rfl 33 (.tmp 4) (.tmp 8) g4 33 _ (bv FS) rfl rfl rfl r4c zf.out lf.out (bv_one _) ?_; intro w8 r9 o8))
  refine bodyPost_ret (v := .agg (bv FS).toArray) ?_ rfl ⟨rfl, ?_⟩
  · exact results_cell_row Tryd.results34 _ _ g4 33 _ (0, 0) _ rfl r9 Tryd.underlying33 rfl zf.out
  · exact B4.trans (o8.below p4)

/-! ### So many bytes by a key -/
def expT (ks is : List Int) : Nat → List Int
  | 0 => []
  | q + 1 => hmacS ks (expT ks is q ++ (is ++ [((q + 1 : Nat) : Int)]))
def expA (ks is : List Int) : Nat → List Int
  | 0 => []
  | q + 1 => expA ks is q ++ expT ks is (q + 1)
theorem expT_len (ks is : List Int) (q : Nat) : (expT ks is (q + 1)).length = 32 := hmacS_len _ _
theorem expA_len (ks is : List Int) (q : Nat) : (expA ks is q).length = 32 * q := by
  induction q with
  | zero => rfl
  | succ q ih => unfold expA; rw [List.length_append, ih, expT_len]; omega
theorem expT_le (ks is : List Int) (q : Nat) : (expT ks is q).length ≤ 32 := by
  cases q with
  | zero => exact Nat.zero_le _
  | succ q => rw [expT_len]; exact Nat.le_refl _
theorem expT_by (ks is : List Int) (q : Nat) : IsBy (expT ks is q) := by
  cases q with
  | zero => exact fun _ h => by cases h
  | succ q => exact hmacS_by _ _
theorem expA_by (ks is : List Int) (q : Nat) : IsBy (expA ks is q) := by
  induction q with
  | zero => exact fun _ h => by cases h
  | succ q ih => exact ih.app (expT_by _ _ _)
/-- How many sums there are for n bytes. -/
def expQ (n : Nat) : Nat := (n + 31) / 32
/-- So many bytes. -/
def expL (ks is : List Int) (n : Nat) : List Int := (expA ks is (expQ n)).take n
theorem expL_len (ks is : List Int) (n : Nat) : (expL ks is n).length = n := by unfold expL expQ; rw [List.length_take, expA_len]; omega
theorem expA_take {ks is : List Int} {q n : Nat} (h : n ≤ 32 * q) : (expA ks is (q + 1)).take n = (expA ks is q).take n := by
  show (expA ks is q ++ _).take n = _
  rw [List.take_append_of_le_length (by rw [expA_len]; exact h)]
theorem expA_more {ks is : List Int} {q n : Nat} (h : n ≤ 32 * q) (k : Nat) : (expA ks is (q + k)).take n = (expA ks is q).take n := by
  induction k with
  | zero => rfl
  | succ k ih => rw [← Nat.add_assoc, expA_take (by omega), ih]
theorem expA_step {ks is : List Int} {q n : Nat} (h : 32 * q < n) : (expA ks is q).take n ++ (expT ks is (q + 1)).take (min 32 (n - 32 * q)) = (expA ks is (q + 1)).take n := by
  show _ = (expA ks is q ++ expT ks is (q + 1)).take n
  rw [List.take_append, expA_len]
  congr 1
  by_cases h32 : 32 ≤ n - 32 * q
  · rw [Nat.min_eq_left h32, List.take_of_length_le (by rw [expT_len]; exact Nat.le_refl _), List.take_of_length_le (by rw [expT_len]; exact h32)]
  · rw [Nat.min_eq_right (by omega)]
end Go.Proofs.YtllhboennfljlaaDoor

/-
  HKDF: Expand: contract. Own work.
-/
namespace Go.Proofs.YtllhboennfljlaaDoor
open Go.RowKit
/-- Bytes that a call made, and that all went well. -/
def RetOk (out : List Int) (n : Nat) (w : World) (e : Ending) (w' : World) : Prop :=
  ∃ A c, e = .returned (.tuple #[.slice A n c, .bool true]) ∧ Bs w' w'.heap.size A n out ∧ n ≤ c ∧ c ≤ maxLen ∧ Below w.heap.size w w'
set_option maxRecDepth 100000 in
set_option maxHeartbeats 1000000 in
theorem expand_no (x : Int) (A B : Option Addr) (m c n d : Nat) (w : World) (h0 : -9223372036854775808 ≤ x) (h1 : x ≤ 9223372036854775807) (hx : x < 0 ∨ 8160 < x) :
    Calls Tryd.prog 35 #[.slice A m c, .slice B n d, .int .i64 x] w fun e w' => e = .returned (.tuple #[.slice none 0 0, .bool false]) ∧ w = w' := by
  rcases hx with hx | hx
  · have hd : decide (x < 0) = true := by simp; omega
    go_enter Tryd.func35, Tryd.ntmps35
    go_wp2
    go_ret2
    exact ⟨rfl, rfl⟩
  · have hd : decide (x < 0) = false := by simp; omega
    have hd2 : decide (8160 < x) = true := by simp; omega
    go_enter Tryd.func35, Tryd.ntmps35
    go_wp2
    go_ret2
    exact ⟨rfl, rfl⟩
set_option maxRecDepth 100000 in
set_option maxHeartbeats 4000000 in
theorem expand_any (ks is : List Int) (N : Nat) (A B : Option Addr) (m c n d : Nat) (w : World) (hT : Tabs w) (hx : Bs w w.heap.size A m ks) (hkb : IsBy ks) (hc : m ≤ c) (hM : m ≤ 100000000) (ht : Bs w w.heap.size B n is) (htb : IsBy is) (hnd : n ≤ d) (hN : n ≤ 1000000) (hq : N ≤ 8160) :
    Calls Tryd.prog 35 #[.slice A m c, .slice B n d, .int .i64 (N : Int)] w (RetOk (expL ks is N) N w) := by
  obtain ⟨i0, hi, hz, hsz, hby⟩ := u8_info
  obtain ⟨isl, hsi, hsz0, hss⟩ := sl_info
  have htl := ht.1
  have hd1 : decide ((N : Int) < 0) = false := by simp
  have hd2 : decide ((8160 : Int) < (N : Int)) = false := by simp; omega
  have HFin := hide (show ∀ q, N ≤ 32 * q → (expA ks is q).take N = expL ks is N from fun q h => by
    unfold expL
    rcases Nat.le_total (expQ N) q with hle | hle
    · obtain ⟨k, rfl⟩ := Nat.exists_eq_add_of_le hle
      exact expA_more (by unfold expQ; omega) k
    · obtain ⟨k, hk⟩ := Nat.exists_eq_add_of_le hle
      rw [hk]
      exact (expA_more h k).symm)
  go_enter Tryd.func35, Tryd.ntmps35
  go_wp2_with (refine wpList_make0_bs rfl _ _ _ rfl 5 i0 Tryd.underlying26 hi hz hsz hby N rfl rfl (by omega) ?_; intro w1 hown1 hb1)
  clear hd1 hd2
  go_loopw [8, 9, 10] (fun ov lv iv wr => ∃ (q L : Nat) (A' : Option Addr) (n' c' : Nat), q ≤ 255 ∧ Hid (L = min (32 * q) N) ∧ iv = .int .u8 (((q + 1) % 256 : Nat) : Int) ∧ wr.ownsRow w.heap.size 5 1 ov L (bv ((expA ks is q).take N)) ∧ lv = .slice A' n' c' ∧ Bs wr wr.heap.size A' n' (expT ks is q) ∧ n' ≤ c' ∧ Below w.heap.size w wr) (fun ov _ _ _ => N - (match ov with | .slice _ n _ => n | _ => 0))
  case atStart => exact ⟨0, 0, none, 0, 0, Nat.zero_le _, hide (by simp), rfl, by simpa [expA, bv] using hown1, rfl, Bs.nil_, Nat.le_refl _, hb1⟩
  case round =>
    clear hown1 hb1
    obtain ⟨q, L, A', n', c', hq1, HL, rfl, hown, rfl, hlast, hnc, br⟩ := hrel
    obtain ⟨Ao, co, rfl, hob, hoc1, hoc2⟩ := ownsRow_bs hown
    by_cases hlt : 32 * q < N
    · have hL : L = 32 * q := by have := HL.out; omega
      have hLN : L < N := by omega
      have hd1 : decide (L < N) = true := by simp; omega
      have hq255 : q < 255 := by omega
      have hqm : (((q + 1) % 256 : Nat) : Int) = ((q + 1 : Nat) : Int) := by omega
      obtain ⟨k, hk⟩ : ∃ k, k = min 32 (N - 32 * q) := ⟨_, rfl⟩
      have hk32 : k ≤ 32 := by omega
      have hkp : 0 < k := by omega
      have hkI : (if (N : Int) - (L : Int) < 32 then (N : Int) - (L : Int) else 32) = (k : Int) := by split <;> omega
      have hstep := expA_step (ks := ks) (is := is) (q := q) hlt
      rw [← hk] at hstep
      have hLk : L + k = min (32 * (q + 1)) N := by omega
      have hnl : n' ≤ 32 := by have := hlast.1; have := expT_le ks is q; omega
      have HKI := hide hkI; have HST := hide hstep; have HLK := hide hLk
      have hTl := hide (expT_len ks is q)
      have hTd : expT ks is (q + 1) = hmacS ks (expT ks is q ++ (is ++ [((q + 1 : Nat) : Int)])) := rfl
      have HTD := hide hTd
      have htb' := expT_by ks is q
      have HH := fun w C hT hx hl => hmac_any ks [expT ks is q, is, [((q + 1 : Nat) : Int)]] A C m c 3 3 w hT hx hkb hc hM hl (by
        simp only [List.flatten_cons, List.flatten_nil, List.append_nil]
        exact htb'.app (htb.app (fun x hx => by simp at hx; subst hx; omega))) (by decide) (by
        simp only [List.flatten_cons, List.flatten_nil, List.append_nil, List.length_append, List.length_cons, List.length_nil]
        have := expT_le ks is q
        omega)
      rw [show [expT ks is q, is, [((q + 1 : Nat) : Int)]].flatten = expT ks is q ++ (is ++ [((q + 1 : Nat) : Int)]) by simp, ← hTd] at HH
      have zf := hide (size32b hTl.out)
      have lf := hide (show (bv (List.replicate 32 0)).length = (bv (expT ks is (q + 1))).length by rw [bv_len, bv_len, hTl.out, List.length_replicate])
      have HX := hide (show ∀ xs, (expA ks is (q + 1)).take N = xs → xs = (expA ks is (q + 1)).take N from fun _ h => h.symm)
      have hS1 := fun w A => run_sliceTo (P := Tryd.prog) w 26 5 1 Tryd.underlying26 Tryd.sizeOf5 A 32 32 .i64 (k : Int) k rfl hk32
      have hqm2 : ((q + 1 : Nat) : Int) < 256 := by omega
      have hqm0 : (0 : Int) ≤ ((q + 1 : Nat) : Int) := by omega
      have hnx : (((q + 1 : Nat) : Int) + 1) % 256 = (((q + 1 + 1) % 256 : Nat) : Int) := by omega
      have HNX := hide hnx
      rw [hqm]
      have HIV := hide (show ∀ x : Int, x = ((q + 1 : Nat) : Int) → x = ((q + 1 : Nat) : Int) from fun _ h => h)
      have hkm : 32 * q + k ≤ N := by omega
      clear hL hqm hkI hstep hLk hTd hnx HIV HX hob hk
      generalize hT1 : expT ks is (q + 1) = T1 at *
      have HT1 := hide hT1
      clear hT1
      generalize hiv : ((q + 1 : Nat) : Int) = iv at *
      clear hiv
      generalize (expA ks is q).take N = X0 at *
      generalize hX1 : (expA ks is (q + 1)).take N = X1 at *
      have HX1 := hide hX1
      clear hX1
      generalize expT ks is q = T0 at *
      go_wp2_with (first
        | (with_reducible refine wl_build1 rfl 26 (.tmp 29) rfl 5 i0 (.int .u8 0) (.int .u8 iv) Tryd.underlying26 hi hz hsz rfl rfl rfl ?_; intro g3 w3 r3 p3 l3 b3)
        | (with_reducible refine wl_build3 rfl 78 (.tmp 27) (.tmp 28) (.tmp 30) rfl 26 isl (.slice none 0 0) _ _ _ Tryd.underlying78 hsi hsz0 hss rfl rfl rfl rfl rfl rfl rfl ?_; intro g4 w4 r4 p4 l4 b4))
      have B3 := br.trans (b3.mono br.size)
      have B4 := B3.trans (b4.mono B3.size)
      have r3' : Row w3 5 g3 (bv [iv]) := r3
      have hbs := r4.bss3 ((hlast.later b3).later b4) ((ht.later B3).later b4) ((Bs.row r3' rfl).later b4)
      have own4 := own_later (own_later hown b3) b4
      clear r3 r3' r4 hlast hown
      refine (HH w4 _ (hT.later B4) (hx.later B4) hbs).mono ?_
      rintro e w5 ⟨rfl, b5⟩
      have B5 := B4.trans (b5.mono B4.size)
      have own5 := own_later own4 b5
      have hkI := HKI.out
      clear HH hbs own4 b3 b4 b5
      go_wp2_with (first
        | (with_reducible refine wl_alloc rfl 33 _ (bv (List.replicate 32 0)) rfl zero32b rfl ?_; intro g11 w6 r6 p6 l6 b6)
        | (with_reducible refine wl_store_row rfl 33 (.tmp 11) (.tmp 32) g11 33 _ (bv T1) rfl rfl rfl r6 zf.out lf.out (bv_one _) ?_; intro w7 r7 o7; have b57 := b6.trans (o7.below p6); have own7 := own_later own5 b57; have h11 := (Bs.row r7 hTl.out).take hk32)
        | (at_builtin; refine wpList_append_bs rfl (.tmp 34) (.tmp 43) _ rfl w.heap.size 5 i0 Tryd.underlying26 hi hz hsz hby _ L _ rfl own7 w7.heap.size (some ⟨g11, 0, none⟩) k 32 (T1.take k) rfl h11 (by omega) (by have := B5.size; have := b57.size; omega) ?_; intro v8 w8 own8 gr8))
      have s57 := b57.size
      have B7 := B5.trans (b57.mono B5.size)
      have B8 : Below w.heap.size w w8 := B7.grown gr8 B7.size (fun j hj => (own7.lt j hj).1)
      have hne : some g11 ≠ (Value.slice Ao L co).ownBlock := by
        intro he
        have := (own5.lt g11 he.symm).2
        omega
      have r8 := r7.kept gr8 hne
      rw [HST.out] at own8
      obtain ⟨A8, c8, rfl, h8, hc8, hm8⟩ := ownsRow_bs own8
      clear own5 own7 gr8 b57 r6 r7 h11 o7 b6 hkI
      go_wp2_with fail
      refine ⟨⟨q + 1, L + k, _, 32, 32, by omega, hide HLK.out, by rw [HNX.out], by rw [HX1.out]; exact own8, rfl, by rw [HT1.out]; exact Bs.row r8 hTl.out, Nat.le_refl _, B8⟩, show N - (L + k) < N - L by omega⟩
    · have hd1 : decide (L < N) = false := by have := HL.out; simp; omega
      have hfin := HFin.out q (by omega)
      have hLN : L = N := by have := HL.out; omega
      have hres : RetOk (expL ks is N) N w (.returned (.tuple #[.slice Ao L co, .bool true])) wr := by
        rw [hfin] at hob
        exact ⟨Ao, co, by rw [hLN], (show Bs wr wr.heap.size Ao N (expL ks is N) from hLN ▸ hob), by omega, hoc2, br⟩
      have HR := hide hres
      clear hown hob hlast hfin hres hLN HFin
      go_wp2_with fail
      go_ret2
      exact HR.out
end Go.Proofs.YtllhboennfljlaaDoor

/-
  HMAC, the document's answer: contract. Own work.
-/
namespace Go.Proofs.YtllhboennfljlaaDoor
open Go.RowKit
theorem mask_at {ks K : List Int} (h : K ++ List.replicate (64 - K.length) 0 = padK ks) {x y : Int} {i : Nat} (hi : i < 64) (hy : y = if i < K.length then K.getD i 0 else 0) : (maskS ks x).take i ++ [bits .xor .u8 y x] = (maskS ks x).take (i + 1) := by
  have hl := padK_len ks
  have hy2 : (padK ks).getD i 0 = y := by
    rw [hy, ← h]
    split
    · rename_i h1; simp [List.getD, List.getElem?_append_left h1]
    · rename_i h1
      rw [List.getD, List.getElem?_append_right (by omega)]
      by_cases h2 : i - K.length < 64 - K.length
      · simp [h2]
      · simp [h2]
  unfold maskS
  rw [List.take_succ_eq_append_getElem (by simp; omega), List.getElem_map, ← hy2]
  simp [List.getD, List.getElem?_eq_getElem (show i < (padK ks).length by omega)]
set_option maxRecDepth 100000 in
set_option maxHeartbeats 4000000 in
theorem refHmac_any (ks ts : List Int) (A B : Option Addr) (m c n d : Nat) (w : World) (hx : Bs w w.heap.size A m ks) (hkb : IsBy ks) (hc : m ≤ c) (hM : m ≤ 1000000) (ht : Bs w w.heap.size B n ts) (htb : IsBy ts) (hN : n ≤ 1000000) :
    Calls Tryd.prog 49 #[.slice A m c, .slice B n d] w fun e w' => e = .returned (.agg (bv (hmacS ks ts)).toArray) ∧ Below w.heap.size w w' := by
  obtain ⟨i0, hj, hz, hsz, hby⟩ := u8_info
  have hlen := hx.1
  have hfl := hmacS_len ks ts
  have zf := hide (size32b hfl)
  have lf := hide (show (bv (List.replicate 32 0)).length = (bv (hmacS ks ts)).length by rw [bv_len, bv_len, hfl, List.length_replicate])
  have HII := hide (show hmacS ks ts = sumS (maskS ks 92 ++ sumS (maskS ks 54 ++ ts)) from rfl)
  clear hfl
  generalize hmacS ks ts = FS at *
  by_cases hlong : 64 < m
  · have hd : decide ((64 : Int) < (m : Int)) = true := by simp; omega
    have hsl := sumS_len ks
    have hsb := sumS_by ks
    have hdef : sumS ks ++ List.replicate (64 - (sumS ks).length) 0 = padK ks := by unfold padK keyS; rw [if_pos (by omega)]
    have HD := hide hdef
    have zk := hide (size32b hsl)
    have lk := hide (show (bv (List.replicate 32 0)).length = (bv (sumS ks)).length by rw [bv_len, bv_len, hsl, List.length_replicate])
    have HKl := hide hsl
    have HR := fun A' c' w hb hc => rsum_any ks A' m c' w hb hkb hc (by omega)
    clear hdef hsl
    generalize sumS ks = K at *
    go_enter Tryd.func49, Tryd.ntmps49
    go_wp2_with (first
      | (with_reducible refine wl_alloc rfl 33 _ (bv (List.replicate 32 0)) rfl zero32b rfl ?_; intro g4 w2 r4 p4 l4 b2))
    refine (both_any none A 0 m 0 c [] ks w2 Bs.nil_ (hx.later b2) (by omega)).mono ?_
    rintro e w3 ⟨A3, n3, c3, rfl, h3, hc3, _, b3⟩
    rw [List.nil_append] at h3
    obtain rfl : n3 = m := by rw [← h3.1, hlen]
    have B3 := b2.trans (b3.mono b2.size)
    have r4a := r4.later b3
    go_wp2_with fail
    refine (HR A3 c3 w3 h3 hc3).mono ?_
    rintro e w4 ⟨rfl, b4⟩
    have B4 := B3.trans (b4.mono B3.size)
    have r4b := r4a.later b4
    clear hd HR h3
    go_wp2_with (first
      | (with_reducible refine wl_alloc rfl 33 _ (bv (List.replicate 32 0)) rfl zero32b rfl ?_; intro g6 w5 r6 p6 l6 b5)
      | (with_reducible refine wl_store_row rfl 33 (.tmp 6) (.tmp 18) g6 33 _ (bv K) rfl rfl rfl r6 zk.out lk.out (bv_one _) ?_; intro wS r6a o6))
    have q6 : w.heap.size ≤ g6 := Nat.le_trans B4.size p6
    have BS := (B4.trans (b5.mono B4.size)).trans (o6.below q6)
    have rS := (r4b.later b5).only o6 (by have := r4b.lt; omega)
    have hK := Bs.row r6a HKl.out
    have hKb := hsb
    clear r4 r4a r4b r6 r6a b2 b3 b4 b5 o6 B3 B4 hlen
    have hml := fun x => maskS_len ks x
    have hmb := fun x hx => maskS_by (x := x) hkb hx
    have HAT1 := hide (fun y i (hi : i < 64) hy => mask_at (ks := ks) (K := K) HD.out (x := 54) (y := y) (i := i) hi hy)
    have HAT2 := hide (fun y i (hi : i < 64) hy => mask_at (ks := ks) (K := K) HD.out (x := 92) (y := y) (i := i) hi hy)
    have HL1 := hide (hml 54); have HL2 := hide (hml 92)
    have hb1 := hmb 54 (by decide); have hb2 := hmb 92 (by decide)
    clear hml hmb HD
    generalize maskS ks 54 = M1 at *
    generalize maskS ks 92 = M2 at *
    go_wp2_with fail
    have sS : w.heap.size ≤ wS.heap.size := BS.size
    go_loopw [7, 8, 9] (fun iv1 iv2 iv wr => ∃ i : Nat, i ≤ 64 ∧ iv = .int .i64 i ∧ wr.ownsRow wS.heap.size 5 1 iv1 i (bv (M1.take i)) ∧ wr.ownsRow wS.heap.size 5 1 iv2 i (bv (M2.take i)) ∧ Apart iv1 iv2 ∧ Below wS.heap.size wS wr) (fun _ _ iv _ => 64 - (intOf iv).toNat)
    case atStart => exact ⟨0, Nat.zero_le _, rfl, by simpa [bv] using World.ownsRow_nil wS wS.heap.size 5 1, by simpa [bv] using World.ownsRow_nil wS wS.heap.size 5 1, Apart.nil _, Below.refl _ _⟩
    case round =>
      obtain ⟨i, hi, rfl, own1, own2, hap, br⟩ := hrel
      have sr := br.size
      by_cases hlt : i < 64
      · have hi8 : i ≤ 100000000 := by omega
        by_cases hin : i < 32
        · have hdn : decide ((i : Int) < 32) = true := by simp; omega
          obtain ⟨b, o, hA5, hb, hcx⟩ := (hK.below br).2 (by omega)
          have c1 := hcx i hin
          have h1 := HAT1.out (K.getD i 0) i hlt (by rw [if_pos (by rw [HKl.out]; exact hin)])
          have h2 := HAT2.out (K.getD i 0) i hlt (by rw [if_pos (by rw [HKl.out]; exact hin)])
          have H1 := hide h1; have H2 := hide h2
          have hyb := hKb.getD i
          clear h1 h2 hcx
          injection hA5 with hA5
          injection hA5 with hA6 hA7 _
          subst hA6
          subst hA7
          rw [Nat.zero_add] at c1
          generalize K.getD i 0 = y at *
          go_wp2_with (first
            | (with_reducible refine wl_build1 (o := ⟨some 35, _, _, _, _, _⟩) rfl 26 (.tmp 34) rfl 5 i0 (.int .u8 0) (.int .u8 (bits .xor .u8 y 54)) Tryd.underlying26 hj hz hsz rfl rfl rfl ?_; intro g3 w3 r3 p3 l3 b3; have s3 := b3.size; have own1a := own_later own1 b3; have own2a := own_later own2 b3)
            | (with_reducible refine wl_append1 (o := ⟨some 36, _, _, _, _, _⟩) rfl (.tmp 32) (.tmp 35) _ rfl wS.heap.size 5 i0 Tryd.underlying26 hj hz hsz hby u7 i _ rfl own1a g3 1 5 _ rfl r3 hi8 (Nat.le_trans sr s3) ?_; intro v4 w4 own4 gr4 nw4; have own2b := hap.kept gr4 own2a; have ap4 := hap.moved nw4 own2a; have b4 := (br.trans (b3.mono sr)).grown gr4 (Nat.le_trans sr s3) (fun j hj => (own1a.lt j hj).1))
            | (with_reducible refine wl_build1 (o := ⟨some 40, _, _, _, _, _⟩) rfl 26 (.tmp 39) rfl 5 i0 (.int .u8 0) (.int .u8 (bits .xor .u8 y 92)) Tryd.underlying26 hj hz hsz rfl rfl rfl ?_; intro g5 w5 r5 p5 l5 b5; have s5 := b5.size; have own4a := own_later own4 b5; have own2c := own_later own2b b5)
            | (with_reducible refine wl_append1 (o := ⟨some 41, _, _, _, _, _⟩) rfl (.tmp 37) (.tmp 40) _ rfl wS.heap.size 5 i0 Tryd.underlying26 hj hz hsz hby u8 i _ rfl own2c g5 1 5 _ rfl r5 hi8 (Nat.le_trans b4.size s5) ?_; intro v6 w6 own6 gr6 nw6; have own4b := ap4.symm.kept gr6 own4a; have ap6 := (ap4.symm.moved nw6 own4a).symm; have b6 := (b4.trans (b5.mono b4.size)).grown gr6 (Nat.le_trans b4.size s5) (fun j hj => (own2c.lt j hj).1)))
          rw [H1.out] at own4b
          rw [H2.out] at own6
          go_roundw
          case rel => exact ⟨i + 1, by omega, by go_num, own4b, own6, ap6, b6⟩
          case measure => simp [intOf]; omega
        · have hdn : decide ((i : Int) < 32) = false := by simp; omega
          have h1 := HAT1.out 0 i hlt (by rw [if_neg (by rw [HKl.out]; exact hin)])
          have h2 := HAT2.out 0 i hlt (by rw [if_neg (by rw [HKl.out]; exact hin)])
          rw [show bits .xor .u8 0 54 = 54 from by decide +kernel] at h1
          rw [show bits .xor .u8 0 92 = 92 from by decide +kernel] at h2
          have H1 := hide h1; have H2 := hide h2
          clear h1 h2
          go_wp2_with (first
            | (with_reducible refine wl_build1 (o := ⟨some 35, _, _, _, _, _⟩) rfl 26 (.tmp 34) rfl 5 i0 (.int .u8 0) (.int .u8 (54)) Tryd.underlying26 hj hz hsz rfl rfl rfl ?_; intro g3 w3 r3 p3 l3 b3; have s3 := b3.size; have own1a := own_later own1 b3; have own2a := own_later own2 b3)
            | (with_reducible refine wl_append1 (o := ⟨some 36, _, _, _, _, _⟩) rfl (.tmp 32) (.tmp 35) _ rfl wS.heap.size 5 i0 Tryd.underlying26 hj hz hsz hby u7 i _ rfl own1a g3 1 5 _ rfl r3 hi8 (Nat.le_trans sr s3) ?_; intro v4 w4 own4 gr4 nw4; have own2b := hap.kept gr4 own2a; have ap4 := hap.moved nw4 own2a; have b4 := (br.trans (b3.mono sr)).grown gr4 (Nat.le_trans sr s3) (fun j hj => (own1a.lt j hj).1))
            | (with_reducible refine wl_build1 (o := ⟨some 40, _, _, _, _, _⟩) rfl 26 (.tmp 39) rfl 5 i0 (.int .u8 0) (.int .u8 (92)) Tryd.underlying26 hj hz hsz rfl rfl rfl ?_; intro g5 w5 r5 p5 l5 b5; have s5 := b5.size; have own4a := own_later own4 b5; have own2c := own_later own2b b5)
            | (with_reducible refine wl_append1 (o := ⟨some 41, _, _, _, _, _⟩) rfl (.tmp 37) (.tmp 40) _ rfl wS.heap.size 5 i0 Tryd.underlying26 hj hz hsz hby u8 i _ rfl own2c g5 1 5 _ rfl r5 hi8 (Nat.le_trans b4.size s5) ?_; intro v6 w6 own6 gr6 nw6; have own4b := ap4.symm.kept gr6 own4a; have ap6 := (ap4.symm.moved nw6 own4a).symm; have b6 := (b4.trans (b5.mono b4.size)).grown gr6 (Nat.le_trans b4.size s5) (fun j hj => (own2c.lt j hj).1)))
          rw [H1.out] at own4b
          rw [H2.out] at own6
          go_roundw
          case rel => exact ⟨i + 1, by omega, by go_num, own4b, own6, ap6, b6⟩
          case measure => simp [intOf]; omega
      · have h64 : i = 64 := by omega
        subst h64
        rw [List.take_of_length_le (by rw [HL1.out]; exact Nat.le_refl _)] at own1
        rw [List.take_of_length_le (by rw [HL2.out]; exact Nat.le_refl _)] at own2
        obtain ⟨Ai, ci, rfl, hbi, hci, _⟩ := ownsRow_bs own1
        obtain ⟨Ao, co, rfl, hbo, hco, _⟩ := ownsRow_bs own2
        have Br := BS.trans (br.mono sS)
        have htr := ht.later Br
        have r4r := rS.later br
        have hl1 := hide (sumS_len (M1 ++ ts))
        have zi := hide (size32b hl1.out)
        have li := hide (show (bv (List.replicate 32 0)).length = (bv (sumS (M1 ++ ts))).length by rw [bv_len, bv_len, hl1.out, List.length_replicate])
        have P1 := fun A' n' c' w hb hc hn => rsum_any (M1 ++ ts) A' n' c' w hb (hb1.app htb) hc hn
        have P2 := fun A' n' c' w hb hc hn => rsum_any (M2 ++ sumS (M1 ++ ts)) A' n' c' w hb (hb2.app (sumS_by _)) hc hn
        rw [← HII.out] at P2
        have hll := HL1.out
        clear own1 own2 hap hK HAT1 HAT2 hlt hi
        generalize sumS (M1 ++ ts) = inn at *
        go_wp2_with fail
        refine (both_any Ai B 64 n ci d M1 ts wr hbi htr (by omega)).mono ?_
        rintro e w3 ⟨A3, n3, c3, rfl, h3, hc3, _, b3⟩
        have B3 := Br.trans (b3.mono Br.size)
        have r4a := r4r.later b3
        have hbo3 := hbo.later b3
        have hn3 : n3 ≤ 100000000 := by have := h3.1; rw [List.length_append, hll, ht.1] at this; omega
        clear r4r hbi hbo b3
        go_wp2_with fail
        refine (P1 A3 n3 c3 w3 h3 hc3 hn3).mono ?_
        rintro e w4 ⟨rfl, b4⟩
        have B4 := B3.trans (b4.mono B3.size)
        have r4b := r4a.later b4
        have hbo4 := hbo3.later b4
        clear P1 h3 hn3 r4a hbo3 b4
        go_wp2_with (first
          | (with_reducible refine wl_alloc rfl 33 _ (bv (List.replicate 32 0)) rfl zero32b rfl ?_; intro g11 w5 r6 p6 l6 b5)
          | (with_reducible refine wl_store_row rfl 33 (.tmp 11) (.tmp 45) g11 33 _ (bv inn) rfl rfl rfl r6 zi.out li.out (bv_one _) ?_; intro w7 r7 o7))
        have q11 : w.heap.size ≤ g11 := Nat.le_trans B4.size p6
        have b47 := b5.trans (o7.below p6)
        have B7 := B4.trans (b47.mono B4.size)
        have r4c := r4b.later b47
        have hbo7 := hbo4.later b47
        have h11 := Bs.row r7 hl1.out
        clear r4b hbo4 r6 r7 b5 o7 b47
        refine (both_any Ao (some ⟨g11, 0, none⟩) 64 32 co 32 M2 inn w7 hbo7 h11 (by omega)).mono ?_
        rintro e w8 ⟨A8, n8, c8, rfl, h8, hc8, _, b8⟩
        have B8 := B7.trans (b8.mono B7.size)
        have r4d := r4c.later b8
        have hn8 : n8 ≤ 100000000 := by have := h8.1; rw [List.length_append, HL2.out, hl1.out] at this; omega
        go_wp2_with fail
        refine (P2 A8 n8 c8 w8 h8 hc8 hn8).mono ?_
        rintro e w9 ⟨rfl, b9⟩
        have B9 := B8.trans (b9.mono B8.size)
        have r4e := r4d.later b9
        go_wp2_with (first
          | (with_reducible refine wl_store_row rfl 33 (.tmp 4) (.tmp 49) g4 33 _ (bv FS) rfl rfl rfl r4e zf.out lf.out (bv_one _) ?_; intro wF rF oF))
        refine bodyPost_ret (v := .agg (bv FS).toArray) ?_ rfl ⟨rfl, ?_⟩
        · exact results_cell_row Tryd.results49 _ _ g4 33 _ (0, 0) _ rfl rF Tryd.underlying33 rfl zf.out
        · exact B9.trans (oF.below p4)
  · have hd : decide ((64 : Int) < (m : Int)) = false := by simp; omega
    have hdef : ks ++ List.replicate (64 - ks.length) 0 = padK ks := by unfold padK keyS; rw [if_neg (by omega)]
    have HD := hide hdef
    have HKl := hide hlen
    have hm64 : m ≤ 64 := by omega
    obtain ⟨K, hKe⟩ : ∃ K, K = ks := ⟨_, rfl⟩
    have hKb : IsBy K := by rw [hKe]; exact hkb
    have HD : Hid (K ++ List.replicate (64 - K.length) 0 = padK ks) := by rw [hKe]; exact HD
    have HKl : Hid (K.length = m) := by rw [hKe]; exact HKl
    have hxK : Bs w w.heap.size A m K := by rw [hKe]; exact hx
    clear hdef hlen hKe
    go_enter Tryd.func49, Tryd.ntmps49
    go_wp2_with (first
      | (with_reducible refine wl_alloc rfl 33 _ (bv (List.replicate 32 0)) rfl zero32b rfl ?_; intro g4 w2 r4 p4 l4 b2))
    refine (both_any none A 0 m 0 c [] K w2 Bs.nil_ (hxK.later b2) (by omega)).mono ?_
    rintro e wS ⟨A3, n3, c3, rfl, hK, hc3, _, b3⟩
    rw [List.nil_append] at hK
    obtain rfl : n3 = m := by rw [← hK.1, HKl.out]
    have BS := b2.trans (b3.mono b2.size)
    have rS := r4.later b3
    clear r4 b2 b3 hxK
    have hml := fun x => maskS_len ks x
    have hmb := fun x hx => maskS_by (x := x) hkb hx
    have HAT1 := hide (fun y i (hi : i < 64) hy => mask_at (ks := ks) (K := K) HD.out (x := 54) (y := y) (i := i) hi hy)
    have HAT2 := hide (fun y i (hi : i < 64) hy => mask_at (ks := ks) (K := K) HD.out (x := 92) (y := y) (i := i) hi hy)
    have HL1 := hide (hml 54); have HL2 := hide (hml 92)
    have hb1 := hmb 54 (by decide); have hb2 := hmb 92 (by decide)
    clear hml hmb HD
    generalize maskS ks 54 = M1 at *
    generalize maskS ks 92 = M2 at *
    go_wp2_with fail
    have sS : w.heap.size ≤ wS.heap.size := BS.size
    go_loopw [7, 8, 9] (fun iv1 iv2 iv wr => ∃ i : Nat, i ≤ 64 ∧ iv = .int .i64 i ∧ wr.ownsRow wS.heap.size 5 1 iv1 i (bv (M1.take i)) ∧ wr.ownsRow wS.heap.size 5 1 iv2 i (bv (M2.take i)) ∧ Apart iv1 iv2 ∧ Below wS.heap.size wS wr) (fun _ _ iv _ => 64 - (intOf iv).toNat)
    case atStart => exact ⟨0, Nat.zero_le _, rfl, by simpa [bv] using World.ownsRow_nil wS wS.heap.size 5 1, by simpa [bv] using World.ownsRow_nil wS wS.heap.size 5 1, Apart.nil _, Below.refl _ _⟩
    case round =>
      obtain ⟨i, hi, rfl, own1, own2, hap, br⟩ := hrel
      have sr := br.size
      by_cases hlt : i < 64
      · have hi8 : i ≤ 100000000 := by omega
        by_cases hin : i < n3
        · have hdn : decide (i < n3) = true := by simp; omega
          obtain ⟨b, o, hA5, hb, hcx⟩ := (hK.below br).2 (by omega)
          have c1 := hcx i hin
          have h1 := HAT1.out (K.getD i 0) i hlt (by rw [if_pos (by rw [HKl.out]; exact hin)])
          have h2 := HAT2.out (K.getD i 0) i hlt (by rw [if_pos (by rw [HKl.out]; exact hin)])
          have H1 := hide h1; have H2 := hide h2
          have hyb := hKb.getD i
          clear h1 h2 hcx
          subst hA5
          generalize K.getD i 0 = y at *
          go_wp2_with (first
            | (with_reducible refine wl_build1 (o := ⟨some 35, _, _, _, _, _⟩) rfl 26 (.tmp 34) rfl 5 i0 (.int .u8 0) (.int .u8 (bits .xor .u8 y 54)) Tryd.underlying26 hj hz hsz rfl rfl rfl ?_; intro g3 w3 r3 p3 l3 b3; have s3 := b3.size; have own1a := own_later own1 b3; have own2a := own_later own2 b3)
            | (with_reducible refine wl_append1 (o := ⟨some 36, _, _, _, _, _⟩) rfl (.tmp 32) (.tmp 35) _ rfl wS.heap.size 5 i0 Tryd.underlying26 hj hz hsz hby u7 i _ rfl own1a g3 1 5 _ rfl r3 hi8 (Nat.le_trans sr s3) ?_; intro v4 w4 own4 gr4 nw4; have own2b := hap.kept gr4 own2a; have ap4 := hap.moved nw4 own2a; have b4 := (br.trans (b3.mono sr)).grown gr4 (Nat.le_trans sr s3) (fun j hj => (own1a.lt j hj).1))
            | (with_reducible refine wl_build1 (o := ⟨some 40, _, _, _, _, _⟩) rfl 26 (.tmp 39) rfl 5 i0 (.int .u8 0) (.int .u8 (bits .xor .u8 y 92)) Tryd.underlying26 hj hz hsz rfl rfl rfl ?_; intro g5 w5 r5 p5 l5 b5; have s5 := b5.size; have own4a := own_later own4 b5; have own2c := own_later own2b b5)
            | (with_reducible refine wl_append1 (o := ⟨some 41, _, _, _, _, _⟩) rfl (.tmp 37) (.tmp 40) _ rfl wS.heap.size 5 i0 Tryd.underlying26 hj hz hsz hby u8 i _ rfl own2c g5 1 5 _ rfl r5 hi8 (Nat.le_trans b4.size s5) ?_; intro v6 w6 own6 gr6 nw6; have own4b := ap4.symm.kept gr6 own4a; have ap6 := (ap4.symm.moved nw6 own4a).symm; have b6 := (b4.trans (b5.mono b4.size)).grown gr6 (Nat.le_trans b4.size s5) (fun j hj => (own2c.lt j hj).1)))
          rw [H1.out] at own4b
          rw [H2.out] at own6
          go_roundw
          case rel => exact ⟨i + 1, by omega, by go_num, own4b, own6, ap6, b6⟩
          case measure => simp [intOf]; omega
        · have hdn : decide (i < n3) = false := by simp; omega
          have h1 := HAT1.out 0 i hlt (by rw [if_neg (by rw [HKl.out]; exact hin)])
          have h2 := HAT2.out 0 i hlt (by rw [if_neg (by rw [HKl.out]; exact hin)])
          rw [show bits .xor .u8 0 54 = 54 from by decide +kernel] at h1
          rw [show bits .xor .u8 0 92 = 92 from by decide +kernel] at h2
          have H1 := hide h1; have H2 := hide h2
          clear h1 h2
          go_wp2_with (first
            | (with_reducible refine wl_build1 (o := ⟨some 35, _, _, _, _, _⟩) rfl 26 (.tmp 34) rfl 5 i0 (.int .u8 0) (.int .u8 (54)) Tryd.underlying26 hj hz hsz rfl rfl rfl ?_; intro g3 w3 r3 p3 l3 b3; have s3 := b3.size; have own1a := own_later own1 b3; have own2a := own_later own2 b3)
            | (with_reducible refine wl_append1 (o := ⟨some 36, _, _, _, _, _⟩) rfl (.tmp 32) (.tmp 35) _ rfl wS.heap.size 5 i0 Tryd.underlying26 hj hz hsz hby u7 i _ rfl own1a g3 1 5 _ rfl r3 hi8 (Nat.le_trans sr s3) ?_; intro v4 w4 own4 gr4 nw4; have own2b := hap.kept gr4 own2a; have ap4 := hap.moved nw4 own2a; have b4 := (br.trans (b3.mono sr)).grown gr4 (Nat.le_trans sr s3) (fun j hj => (own1a.lt j hj).1))
            | (with_reducible refine wl_build1 (o := ⟨some 40, _, _, _, _, _⟩) rfl 26 (.tmp 39) rfl 5 i0 (.int .u8 0) (.int .u8 (92)) Tryd.underlying26 hj hz hsz rfl rfl rfl ?_; intro g5 w5 r5 p5 l5 b5; have s5 := b5.size; have own4a := own_later own4 b5; have own2c := own_later own2b b5)
            | (with_reducible refine wl_append1 (o := ⟨some 41, _, _, _, _, _⟩) rfl (.tmp 37) (.tmp 40) _ rfl wS.heap.size 5 i0 Tryd.underlying26 hj hz hsz hby u8 i _ rfl own2c g5 1 5 _ rfl r5 hi8 (Nat.le_trans b4.size s5) ?_; intro v6 w6 own6 gr6 nw6; have own4b := ap4.symm.kept gr6 own4a; have ap6 := (ap4.symm.moved nw6 own4a).symm; have b6 := (b4.trans (b5.mono b4.size)).grown gr6 (Nat.le_trans b4.size s5) (fun j hj => (own2c.lt j hj).1)))
          rw [H1.out] at own4b
          rw [H2.out] at own6
          go_roundw
          case rel => exact ⟨i + 1, by omega, by go_num, own4b, own6, ap6, b6⟩
          case measure => simp [intOf]; omega
      · have h64 : i = 64 := by omega
        subst h64
        rw [List.take_of_length_le (by rw [HL1.out]; exact Nat.le_refl _)] at own1
        rw [List.take_of_length_le (by rw [HL2.out]; exact Nat.le_refl _)] at own2
        obtain ⟨Ai, ci, rfl, hbi, hci, _⟩ := ownsRow_bs own1
        obtain ⟨Ao, co, rfl, hbo, hco, _⟩ := ownsRow_bs own2
        have Br := BS.trans (br.mono sS)
        have htr := ht.later Br
        have r4r := rS.later br
        have hl1 := hide (sumS_len (M1 ++ ts))
        have zi := hide (size32b hl1.out)
        have li := hide (show (bv (List.replicate 32 0)).length = (bv (sumS (M1 ++ ts))).length by rw [bv_len, bv_len, hl1.out, List.length_replicate])
        have P1 := fun A' n' c' w hb hc hn => rsum_any (M1 ++ ts) A' n' c' w hb (hb1.app htb) hc hn
        have P2 := fun A' n' c' w hb hc hn => rsum_any (M2 ++ sumS (M1 ++ ts)) A' n' c' w hb (hb2.app (sumS_by _)) hc hn
        rw [← HII.out] at P2
        have hll := HL1.out
        clear own1 own2 hap hK HAT1 HAT2 hlt hi
        generalize sumS (M1 ++ ts) = inn at *
        go_wp2_with fail
        refine (both_any Ai B 64 n ci d M1 ts wr hbi htr (by omega)).mono ?_
        rintro e w3 ⟨A3, n3, c3, rfl, h3, hc3, _, b3⟩
        have B3 := Br.trans (b3.mono Br.size)
        have r4a := r4r.later b3
        have hbo3 := hbo.later b3
        have hn3 : n3 ≤ 100000000 := by have := h3.1; rw [List.length_append, hll, ht.1] at this; omega
        clear r4r hbi hbo b3
        go_wp2_with fail
        refine (P1 A3 n3 c3 w3 h3 hc3 hn3).mono ?_
        rintro e w4 ⟨rfl, b4⟩
        have B4 := B3.trans (b4.mono B3.size)
        have r4b := r4a.later b4
        have hbo4 := hbo3.later b4
        clear P1 h3 hn3 r4a hbo3 b4
        go_wp2_with (first
          | (with_reducible refine wl_alloc rfl 33 _ (bv (List.replicate 32 0)) rfl zero32b rfl ?_; intro g11 w5 r6 p6 l6 b5)
          | (with_reducible refine wl_store_row rfl 33 (.tmp 11) (.tmp 45) g11 33 _ (bv inn) rfl rfl rfl r6 zi.out li.out (bv_one _) ?_; intro w7 r7 o7))
        have q11 : w.heap.size ≤ g11 := Nat.le_trans B4.size p6
        have b47 := b5.trans (o7.below p6)
        have B7 := B4.trans (b47.mono B4.size)
        have r4c := r4b.later b47
        have hbo7 := hbo4.later b47
        have h11 := Bs.row r7 hl1.out
        clear r4b hbo4 r6 r7 b5 o7 b47
        refine (both_any Ao (some ⟨g11, 0, none⟩) 64 32 co 32 M2 inn w7 hbo7 h11 (by omega)).mono ?_
        rintro e w8 ⟨A8, n8, c8, rfl, h8, hc8, _, b8⟩
        have B8 := B7.trans (b8.mono B7.size)
        have r4d := r4c.later b8
        have hn8 : n8 ≤ 100000000 := by have := h8.1; rw [List.length_append, HL2.out, hl1.out] at this; omega
        go_wp2_with fail
        refine (P2 A8 n8 c8 w8 h8 hc8 hn8).mono ?_
        rintro e w9 ⟨rfl, b9⟩
        have B9 := B8.trans (b9.mono B8.size)
        have r4e := r4d.later b9
        go_wp2_with (first
          | (with_reducible refine wl_store_row rfl 33 (.tmp 4) (.tmp 49) g4 33 _ (bv FS) rfl rfl rfl r4e zf.out lf.out (bv_one _) ?_; intro wF rF oF))
        refine bodyPost_ret (v := .agg (bv FS).toArray) ?_ rfl ⟨rfl, ?_⟩
        · exact results_cell_row Tryd.results49 _ _ g4 33 _ (0, 0) _ rfl rF Tryd.underlying33 rfl zf.out
        · exact B9.trans (oF.below p4)
end Go.Proofs.YtllhboennfljlaaDoor

/-
  HKDF, the document's answers: contracts. Own work.
-/
namespace Go.Proofs.YtllhboennfljlaaDoor
open Go.RowKit
set_option maxRecDepth 100000 in
set_option maxHeartbeats 1000000 in
theorem refExtract_any (ks ts : List Int) (A B : Option Addr) (m c n d : Nat) (w : World) (hx : Bs w w.heap.size A m ks) (hkb : IsBy ks) (hc : m ≤ c) (hM : m ≤ 1000000) (ht : Bs w w.heap.size B n ts) (htb : IsBy ts) (hN : n ≤ 1000000) :
    Calls Tryd.prog 36 #[.slice A m c, .slice B n d] w fun e w' => e = .returned (.agg (bv (hmacS ks ts)).toArray) ∧ Below w.heap.size w w' := by
  have hsl := hmacS_len ks ts
  have zf := hide (size32b hsl)
  have lf := hide (show (bv (List.replicate 32 0)).length = (bv (hmacS ks ts)).length by rw [bv_len, bv_len, hsl, List.length_replicate])
  have HH := fun w hx ht => refHmac_any ks ts A B m c n d w hx hkb hc hM ht htb hN
  clear hsl
  generalize hmacS ks ts = FS at *
  go_enter Tryd.func36, Tryd.ntmps36
  go_wp2_with (first
    | (with_reducible refine wl_alloc rfl 33 _ (bv (List.replicate 32 0)) rfl zero32b rfl ?_; intro g4 w2 r4 p4 l4 b2))
  refine (HH w2 (hx.later b2) (ht.later b2)).mono ?_
  rintro e w4 ⟨rfl, b4⟩
  have B4 := b2.trans (b4.mono b2.size)
  have r4c := r4.later b4
  go_wp2_with (first
    | (with_reducible refine wl_store_row rfl 33 (.tmp 4) (.tmp 7) g4 33 _ (bv FS) rfl rfl rfl r4c zf.out lf.out (bv_one _) ?_; intro w8 r9 o8))
  refine bodyPost_ret (v := .agg (bv FS).toArray) ?_ rfl ⟨rfl, ?_⟩
  · exact results_cell_row Tryd.results36 _ _ g4 33 _ (0, 0) _ rfl r9 Tryd.underlying33 rfl zf.out
  · exact B4.trans (o8.below p4)
set_option maxRecDepth 100000 in
set_option maxHeartbeats 1000000 in
theorem refExpand_no (x : Int) (A B : Option Addr) (m c n d : Nat) (w : World) (h0 : -9223372036854775808 ≤ x) (h1 : x ≤ 9223372036854775807) (hx : x < 0 ∨ 8160 < x) :
    Calls Tryd.prog 37 #[.slice A m c, .slice B n d, .int .i64 x] w fun e w' => e = .returned (.tuple #[.slice none 0 0, .bool false]) ∧ w = w' := by
  rcases hx with hx | hx
  · have hd : decide (x < 0) = true := by simp; omega
    go_enter Tryd.func37, Tryd.ntmps37
    go_wp2
    go_ret2
    exact ⟨rfl, rfl⟩
  · have hd : decide (x < 0) = false := by simp; omega
    have hd2 : decide (8160 < x) = true := by simp; omega
    go_enter Tryd.func37, Tryd.ntmps37
    go_wp2
    go_ret2
    exact ⟨rfl, rfl⟩
theorem own_bs {w : World} {base e n c : Nat} {A : Option Addr} {xs : List Int} (h : w.ownsRow base e 1 (.slice A n c) n (bv xs)) : Bs w w.heap.size A n xs := by
  obtain ⟨A', c', hv, hb, _⟩ := ownsRow_bs h
  injection hv with h1 _ _
  subst h1
  exact hb
set_option maxRecDepth 100000 in
set_option maxHeartbeats 4000000 in
theorem refExpand_any (ks is : List Int) (N : Nat) (A B : Option Addr) (m c n d : Nat) (w : World) (hx : Bs w w.heap.size A m ks) (hkb : IsBy ks) (hc : m ≤ c) (hM : m ≤ 1000000) (ht : Bs w w.heap.size B n is) (htb : IsBy is) (hnd : n ≤ d) (hN : n ≤ 100000) (hq : N ≤ 8160) :
    Calls Tryd.prog 37 #[.slice A m c, .slice B n d, .int .i64 (N : Int)] w (RetOk (expL ks is N) N w) := by
  obtain ⟨i0, hi, hz, hsz, hby⟩ := u8_info
  have htl := ht.1
  have hd1 : decide ((N : Int) < 0) = false := by simp
  have hd2 : decide ((8160 : Int) < (N : Int)) = false := by simp; omega
  have HFin := hide (show ∀ q, N ≤ 32 * q → (expA ks is q).take N = expL ks is N from fun q h => by
    unfold expL
    rcases Nat.le_total (expQ N) q with hle | hle
    · obtain ⟨k, rfl⟩ := Nat.exists_eq_add_of_le hle
      exact expA_more (by unfold expQ; omega) k
    · obtain ⟨k, hk⟩ := Nat.exists_eq_add_of_le hle
      rw [hk]
      exact (expA_more h k).symm)
  go_enter Tryd.func37, Tryd.ntmps37
  go_wp2_with fail
  clear hd1 hd2
  go_loopw [8, 9, 10] (fun ov lv iv wr => ∃ (q : Nat) (A' : Option Addr) (n' c' : Nat), q ≤ 255 ∧ iv = .int .i64 ((q + 1 : Nat) : Int) ∧ wr.ownsRow w.heap.size 5 1 ov (32 * q) (bv (expA ks is q)) ∧ lv = .slice A' n' c' ∧ Bs wr wr.heap.size A' n' (expT ks is q) ∧ n' ≤ c' ∧ Below w.heap.size w wr) (fun _ _ iv _ => 300 - (intOf iv).toNat)
  case atStart => exact ⟨0, none, 0, 0, Nat.zero_le _, rfl, World.ownsRow_nil _ _ _ _, rfl, Bs.nil_, Nat.le_refl _, Below.refl _ _⟩
  case round =>
    obtain ⟨q, A', n', c', hq1, rfl, hown, rfl, hlast, hnc, br⟩ := hrel
    obtain ⟨Ao, co, rfl, hob, hoc1, hoc2⟩ := ownsRow_bs hown
    obtain ⟨L, hL⟩ : ∃ L, L = 32 * q := ⟨_, rfl⟩
    rw [← hL] at hown hob hoc1 ⊢
    obtain ⟨iv, hiv⟩ : ∃ iv : Int, iv = ((q + 1 : Nat) : Int) := ⟨_, rfl⟩
    rw [← hiv]
    have hiv0 : 1 ≤ iv := by omega
    by_cases hlt : 32 * q < N
    · have hLN : L < N := by omega
      have hd1 : decide (L < N) = true := by simp; omega
      have hq255 : q < 255 := by omega
      have hiv1 : iv ≤ 255 := by omega
      have hd0 : decide (iv ≤ 255) = true := by simp; omega
      have hnl : n' ≤ 32 := by have := hlast.1; have := expT_le ks is q; omega
      have hTl := hide (expT_len ks is q)
      have hTd : expT ks is (q + 1) = hmacS ks ((expT ks is q ++ is) ++ [iv]) := by rw [hiv, List.append_assoc]; rfl
      have hAd := hide (show expA ks is (q + 1) = expA ks is q ++ expT ks is (q + 1) from rfl)
      have htb' := expT_by ks is q
      have htl' := expT_le ks is q
      have HH := fun C k f w hx hl => refHmac_any ks ((expT ks is q ++ is) ++ [iv]) A C m c k f w hx hkb hc hM hl ((htb'.app htb).app (fun x hx => by simp at hx; subst hx; omega))
      rw [← hTd] at HH
      have zf := hide (size32b hTl.out)
      have lf := hide (show (bv (List.replicate 32 0)).length = (bv (expT ks is (q + 1))).length by rw [bv_len, bv_len, hTl.out, List.length_replicate])
      have hLq := hide (show 32 * (q + 1) = L + 32 by omega)
      have hivq := hide (show ((q + 1 + 1 : Nat) : Int) = iv + 1 by omega)
      have hmeas : 300 - (iv + 1).toNat < 300 - iv.toNat := by omega
      have hLb : L ≤ 8160 := by omega
      clear hTd hob hL hiv htl'
      generalize hT1 : expT ks is (q + 1) = T1 at *
      have HT1 := hide hT1
      clear hT1
      generalize hX1 : expA ks is (q + 1) = X1 at *
      have HX1 := hide hX1
      clear hX1
      generalize expA ks is q = X0 at *
      generalize expT ks is q = T0 at *
      go_wp2_with fail
      refine (both_own A' B n' n c' d T0 is wr hlast (ht.later br) (by omega)).mono ?_
      rintro e w3 ⟨v3, rfl, own3, b3⟩
      have B3 := br.trans (b3.mono br.size)
      have sr := br.size
      have hn8 : n' + n ≤ 100000000 := by omega
      clear hlast
      go_wp2_with (first
        | (with_reducible refine wl_build1 rfl 26 (.tmp 33) rfl 5 i0 (.int .u8 0) (.int .u8 iv) Tryd.underlying26 hi hz hsz rfl rfl rfl ?_; intro g4 w4 r4 p4 l4 b4; have s4 := b4.size; have own4 := own_later own3 b4)
        | (with_reducible refine wl_append1 rfl (.tmp 31) (.tmp 34) _ rfl wr.heap.size 5 i0 Tryd.underlying26 hi hz hsz hby v3 (n' + n) _ rfl own4 g4 1 5 _ rfl r4 hn8 (Nat.le_trans b3.size s4) ?_; intro v5 w5 own5 gr5 nw5; have b5 := (b3.trans (b4.mono b3.size)).grown gr5 (Nat.le_trans b3.size s4) (fun j hj => (own4.lt j hj).1)))
      obtain ⟨A5, c5, rfl, h5, hc5, _⟩ := ownsRow_bs own5
      have B5 := br.trans (b5.mono sr)
      have hn5 : n' + n + 1 ≤ 1000000 := by omega
      have howna := own_later hown b5
      clear own3 own4 own5 gr5 nw5 b3 b4 r4 b5 hown
      refine (HH A5 (n' + n + 1) c5 w5 (hx.later B5) h5 hn5).mono ?_
      rintro e w6 ⟨rfl, b6⟩
      have B6 := B5.trans (b6.mono B5.size)
      have hownb := own_later howna b6
      clear HH h5 howna b6
      go_wp2_with (first
        | (with_reducible refine wl_alloc rfl 33 _ (bv (List.replicate 32 0)) rfl zero32b rfl ?_; intro g11 w7 r7 p7 l7 b7)
        | (with_reducible refine wl_store_row rfl 33 (.tmp 11) (.tmp 36) g11 33 _ (bv T1) rfl rfl rfl r7 zf.out lf.out (bv_one _) ?_; intro w8 r8 o8))
      have b68 := b7.trans (o8.below p7)
      have B8 := B6.trans (b68.mono B6.size)
      have hownc := own_later hownb b68
      have h11 := Bs.row r8 hTl.out
      clear hownb r7 r8 b7 o8 b68
      refine (both_own none (some ⟨g11, 0, none⟩) 0 32 0 32 [] T1 w8 Bs.nil_ h11 (by decide)).mono ?_
      rintro e w9 ⟨v9, rfl, own9, b9⟩
      rw [List.nil_append] at own9
      have B9 := B8.trans (b9.mono B8.size)
      have hownd := own_later hownc b9
      have hlt8 : ∀ k, (Value.slice Ao L co).ownBlock = some k → k < w8.heap.size := fun k hk => (hownc.lt k hk).2
      obtain ⟨A9, c9, rfl, h9, hc9, _⟩ := ownsRow_bs own9
      have h9a : Bs w9 w9.heap.size A9 32 T1 := h9
      have hc9a : 32 ≤ c9 := hc9
      have hv9 : (Value.slice A9 (0 + 32) c9) = .slice A9 32 c9 := rfl
      have own9a : w9.ownsRow w8.heap.size 5 1 (.slice A9 32 c9) 32 (bv T1) := own9
      clear own9 h9 hc9 h11 hownc
      rw [hv9]
      clear hv9
      have hL32 : L + 32 ≤ 140737488355328 := by omega
      go_wp2_with (first
        | (at_builtin; refine wpList_append_bs rfl (.tmp 39) (.tmp 40) _ rfl w.heap.size 5 i0 Tryd.underlying26 hi hz hsz hby _ L _ rfl hownd w9.heap.size A9 32 c9 T1 rfl h9a hL32 B9.size ?_; intro v10 w10 own10 gr10))
      have B10 : Below w.heap.size w w10 := B9.grown gr10 B9.size (fun j hj => (hownd.lt j hj).1)
      have own9b : w10.ownsRow w8.heap.size 5 1 (.slice A9 32 c9) 32 (bv T1) := by
        refine own9a.kept gr10 ?_
        cases A9 with
        | none => exact .inl rfl
        | some a9 =>
          refine .inr fun he => ?_
          have q1 := (own9a.lt a9.block rfl).1
          have q2 := hlt8 a9.block he.symm
          omega
      have h9b := own_bs own9b
      rw [← hAd.out] at own10
      obtain ⟨A10, c10, rfl, _, _, _⟩ := ownsRow_bs own10
      have hq2 : q + 1 ≤ 255 := by omega
      clear hownd own9a own9b gr10 hlt8 h9a
      go_wp2_with fail
      refine ⟨⟨q + 1, A9, 32, c9, hq2, by rw [hivq.out], by rw [hLq.out, HX1.out]; exact own10, rfl, by rw [HT1.out]; exact h9b, hc9a, B10⟩, by simpa [intOf] using hmeas⟩
    · have hLN : N ≤ L := by omega
      have hfin := HFin.out q (by omega)
      have hNc : N ≤ co := by omega
      have hS1 := fun w => run_sliceTo (P := Tryd.prog) w 26 5 1 Tryd.underlying26 Tryd.sizeOf5 Ao L co .i64 (N : Int) N rfl hNc
      have hres : RetOk (expL ks is N) N w (.returned (.tuple #[.slice Ao N co, .bool true])) wr := by
        have := hob.take hLN
        rw [hfin] at this
        exact ⟨Ao, co, rfl, this, hNc, hoc2, br⟩
      have HR := hide hres
      by_cases hq2 : q < 255
      · have hd0 : decide (iv ≤ 255) = true := by simp; omega
        have hd1 : decide (L < N) = false := by simp; omega
        clear hown hob hlast hfin hres HFin hL hiv
        go_wp2_with fail
        go_ret2
        exact HR.out
      · have hd0 : decide (iv ≤ 255) = false := by simp; omega
        clear hown hob hlast hfin hres HFin hL hiv
        go_wp2_with fail
        go_ret2
        exact HR.out
end Go.Proofs.YtllhboennfljlaaDoor
