/- Proved: the law MacKeys (P6.1) answers true and leaves its arguments as they read before. For every key, text and number of zeros; no condition but the tie of the two tables of sha to the program's text. -/
import Derived.Lib.AppendZerosOnto
import Derived.Test.YtlhgfobhdhddlaaDoorRows
import Derived.Test.YtlhgfobhdhddlaaDoorCards
import Derived.Test.YtlhgfobhdhddlaaDoorTie
import Derived.WalkKit
import Derived.ProofKit
import Derived.OpenShut
import Derived.ShutString
import Derived.ChangeOld
import Derived.Below
import Derived.LaidMore
import Derived.Stop.Joined
import Derived.SevenTiedAt
import Derived.Test.YtlhgfobhdhddlaaDoorGE
import Derived.Test.YtlhgfobhdhddlaaDoorGC
set_option linter.unusedVariables false
set_option linter.unusedSimpArgs false
/-
  Zeros that are appended to a row of a call's own. Plain theorems over whatever program. Own work.
-/
namespace Go.Proofs.YtlhgfobhdhddlaaDoor
open Go.RowKit
theorem zeroCells_u8 (k : Nat) : Builtin.zeroCells #[Value.int .u8 0] k = (bv (List.replicate k 0)).toArray := by
  apply Array.ext
  · simp [Builtin.zeroCells, bv]
  · intro i h1 h2
    simp [Builtin.zeroCells, bv, Nat.mod_one]
section
variable {P : Program} {w : World}
theorem run_append_zeros (base : Nat) (t tn ty e : TypeId) (i : TypeInfo) (kq kn : IntKind) (ht : P.underlying t = some (.slice e)) (htn : P.underlying tn = some (.int kn)) (hi : P.info? e = some i) (hz : i.zero = some (.int .u8 0)) (hsz : i.size = 1) (hby : i.bytes = 1)
    (v : Value) (n : Nat) (xs : List Int) (hown : w.ownsRow base e 1 v n (bv xs)) (k : Nat) (hlen : n + k ≤ 100000000) (hbase : base ≤ w.heap.size) :
    ∃ v' w', (Builtin.append_ #[t, tn] ty #[v, .int kq k]).run P w = .ok v' w' ∧ w'.ownsRow base e 1 v' (n + k) (bv (xs ++ List.replicate k 0)) ∧ w.grownBy w' v.ownBlock := by
  have hlx : xs.length = n := by have := hown.1; rw [bv_len] at this; omega
  have hbb : bv (xs ++ List.replicate k 0) = bv xs ++ bv (List.replicate k 0) := by simp [bv]
  have hw : IntKind.i64.wrap (k : Int) = k := by rw [IntKind.wrap_i64]; omega
  have hneg : ¬ ((k : Int) < 0) := by omega
  have h48i : ¬ (281474976710656 < (k : Int)) := by omega
  have grow : ∀ (A : Option Addr) (c : Nat), v = .slice A n c → c < n + k → (Builtin.firstCells i.size n (.slice A n c)).run P w.drew = .ok (bv xs).toArray w.drew →
      ∃ v' w', (Builtin.append_ #[t, tn] ty #[v, .int kq k]).run P w = .ok v' w' ∧ w'.ownsRow base e 1 v' (n + k) (bv (xs ++ List.replicate k 0)) ∧ w.grownBy w' v.ownBlock := by
    intro A c hv hc hold
    subst hv
    have hk0 : 0 < k ∨ k = 0 := by omega
    rcases hk0 with hk0 | hk0
    · have q := Lib.run_append_grow_zeros (P := P) w t tn ty e i (.int .u8 0) kq kn ht htn hi hz A n c (bv xs) hold k hk0 (by omega) hc (by omega) (by rw [hby]; omega) (growslice_fits (by omega) (by rw [hby]; omega))
      refine ⟨_, _, q, ⟨by simp [bv, hlx], .inr ⟨w.heap.size, _, _, rfl, hbase, heap_alloc_new w.drew _, grownCap_ge w (n + k) c e, grownCap_le_maxLen w (n + k) c e (by simp only [maxLen]; omega), ?_, ?_⟩⟩, ⟨rfl, rfl, rfl, by simp, fun j hj _ => heap_alloc_old w.drew _ hj⟩⟩
      · have hge := grownCap_ge w (n + k) c e
        simp only [Array.size_append, List.size_toArray, size_zeroCells, bv_len, hlx]
        simp [Value.cells]
        omega
      · simp only [Array.toList_append, hbb, Nat.mul_one]
        rw [show (Value.int .u8 0).cells = #[Value.int .u8 0] from rfl, zeroCells_u8 k, List.take_append_of_le_length (by simp [bv, hlx]), List.take_of_length_le (by simp [bv, hlx])]
    · subst hk0
      rcases hown.2 with ⟨he, hn⟩ | ⟨g, cap, cur, he, _, _, hnc, _⟩
      · injection he with _ _ h3
        omega
      · injection he with _ _ h3
        omega
  rcases hown.2 with ⟨rfl, rfl⟩ | ⟨g, cap, cur, rfl, hbg, hg, hnc, hcm, hcs, htake⟩
  · obtain rfl : xs = [] := List.eq_nil_of_length_eq_zero hlx
    rcases Nat.eq_zero_or_pos k with rfl | hk
    · refine ⟨.slice none 0 0, w, ?_, by simpa [bv] using World.ownsRow_nil w base e 1, ⟨rfl, rfl, rfl, Nat.le_refl _, fun _ _ _ => rfl⟩⟩
      simp [Builtin.append_, run_underlying ht, run_underlying htn, sizeOf, typeInfo, hi, asInt, asIntOf, show IntKind.i64.wrap 0 = 0 by decide]
    · exact grow none 0 rfl (by omega) (by simp [Builtin.firstCells, bv])
  · by_cases hroom : n + k ≤ cap
    · have hnew : (bv (List.replicate k 0)).length = k := by rw [bv_len, List.length_replicate]
      have hst := run_storeCells_at P g n e (bv (List.replicate k 0)) 0 cur w hg (by rw [hnew]; omega) (bv_one _)
      simp only [Nat.add_zero] at hst
      have hadd : (⟨g, 0, none⟩ : Addr).add (n * 1) = ⟨g, n, none⟩ := by rw [addr_plain]; simp
      refine ⟨.slice (some ⟨g, 0, none⟩) (n + k) cap, w.setRow g (cur.toList.take n ++ bv (List.replicate k 0) ++ cur.toList.drop (n + (bv (List.replicate k 0)).length)).toArray, ?_, ⟨by simp [bv, hlx], .inr ⟨g, cap, _, rfl, hbg, setRow_heap w g cur _ e _ hg, hroom, hcm, ?_, ?_⟩⟩, ⟨rfl, rfl, rfl, by simp [World.setRow], fun j _ hj => setRow_other w g j _ (fun e => hj (by simp [Value.ownBlock, e]))⟩⟩
      · rcases Nat.eq_zero_or_pos k with rfl | hk
        · have e0 : (bv (List.replicate 0 0)) = [] := rfl
          rw [e0] at hst ⊢
          simp only [List.append_nil, List.length_nil, Nat.add_zero, List.take_append_drop, Array.toArray_toList] at hst ⊢
          rw [setRow_self w g cur e (0, 0) hg]
          simp [Builtin.append_, run_underlying ht, run_underlying htn, sizeOf, typeInfo, hi, hsz, asInt, asIntOf, hnc, storeCells, show ¬ (IntKind.i64.wrap 0 < 0) by decide, show IntKind.i64.wrap 0 = 0 by decide]
        · have hk1 : k ≠ 0 := by omega
          simp [Builtin.append_, run_underlying ht, run_underlying htn, sizeOf, typeInfo, zeroValue, hi, hz, hsz, hby, asInt, asIntOf, hw, hneg, h48i, hk1, hroom, show (Value.int IntKind.u8 0).cells = #[Value.int IntKind.u8 0] from rfl, zeroCells_u8, hadd]
          rw [show (⟨g, 0, none⟩ : Addr).add n = ⟨g, n, none⟩ by rw [addr_plain]; simp, hst]
          simp only [Result.andThen_ok, List.append_assoc]
      · simp only [List.size_toArray, List.length_append, List.length_take, List.length_drop, Array.length_toList, hnew]
        omega
      · have ht' : cur.toList.take n = bv xs := by simpa using htake
        simp only [hbb, ht', Nat.mul_one]
        rw [List.take_append_of_le_length (by simp [bv, hlx]), List.take_of_length_le (by simp [bv, hlx])]
    · refine grow _ cap rfl (by omega) ?_
      have hh := hown.cells (g := g) rfl
      exact run_firstCells_some _ _ _ _ _ _ _ (by rw [hsz, bv_len, hlx, Nat.mul_one]) (fun j u hu => by simpa using hh j u hu)
end
/-- 'append(s, make([]byte, k)...)'. -/
theorem st_append_zeros {P : Program} {o : Oper} {a : Act} {w : World} {K : Act → World → Prop} {Q : Exit → Act → World → Prop} (s x : Operand) (t tn : TypeId)
    (ho : o.op = .call { callee := .builtin .append, args := #[s, x], argTypes := #[t, tn] })
    (base : Nat) (e : TypeId) (i : TypeInfo) (kq kn : IntKind) (ht : P.underlying t = some (.slice e)) (htn : P.underlying tn = some (.int kn)) (hi : P.info? e = some i) (hz : i.zero = some (.int .u8 0)) (hsz : i.size = 1) (hby : i.bytes = 1)
    (v : Value) (n : Nat) (xs : List Int) (hs : a.eval s = v) (hown : w.ownsRow base e 1 v n (bv xs)) (k : Nat) (hx : a.eval x = .int kq k) (hlen : n + k ≤ 100000000) (hbase : base ≤ w.heap.size)
    (h : ∀ v' w', w'.ownsRow base e 1 v' (n + k) (bv (xs ++ List.replicate k 0)) → w.grownBy w' v.ownBlock → K (a.put o.dst v') w') : o.wp P a w K Q := by
  obtain ⟨v', w', hrun, h2, h3⟩ := run_append_zeros (P := P) base t tn o.type e i kq kn ht htn hi hz hsz hby v n xs hown k hlen hbase
  unfold Oper.wp execOp
  simp only [ho, resolve, invoke, builtin, Sem.run_bind, Sem.run_pure, Result.andThen_ok, List.map_toArray, List.map_cons, List.map_nil, hs, hx, hrun]
  exact h v' w' h2 h3
end Go.Proofs.YtlhgfobhdhddlaaDoor

/-
  HMAC: the law MacKeys: contract. Own work.
-/
namespace Go.Proofs.YtlhgfobhdhddlaaDoor
open Go.RowKit
theorem wf_u8 {x : Int} (h : (Lit.int .u8 x).wf = true) : 0 ≤ x ∧ x < 256 := by
  simp only [Lit.wf, Bool.and_eq_true, decide_eq_true_eq] at h
  have hmin : IntKind.u8.min = 0 := rfl
  have hmax : IntKind.u8.max = 255 := rfl
  rw [hmin, hmax] at h
  omega
/-- A row that one operation makes, one adds to, one more, and one hands on. -/
def JC (w0 : World) (e n1 n2 : Nat) (x1 x2 : List Int) (bs : List Bool) (vs : List Value) (w : World) : Prop :=
  Below w0.heap.size w0 w ∧ (bs.getD 2 false = true → w.ownsRow w0.heap.size e 1 (vs.getD 2 undef) n2 (bv x2)) ∧ (bs.getD 3 false = true → w.ownsRow w0.heap.size e 1 (vs.getD 3 undef) n2 (bv x2)) ∧
    (bs.getD 2 false = false → bs.getD 1 false = true → w.ownsRow w0.heap.size e 1 (vs.getD 1 undef) n1 (bv x1)) ∧ (bs.getD 1 false = false → bs.getD 0 false = true → w.ownsRow w0.heap.size e 1 (vs.getD 0 undef) 0 (bv []))
theorem JC.start {w0 : World} {e n1 n2 : Nat} {x1 x2 : List Int} (vs : List Value) : JC w0 e n1 n2 x1 x2 [false, false, false, false] vs w0.drew :=
  ⟨(Below.refl _ _).drew, fun h => absurd h (by decide), fun h => absurd h (by decide), fun _ h => absurd h (by decide), fun _ h => absurd h (by decide)⟩
def SMk5 (FS : List Int) (A B : Option Addr) (m c n d g7 : Nat) (opn : Nat) (v : Value) : Prop :=
  match opn with
  | 0 => v = .slice A m c
  | 1 | 4 => v = .slice B n d
  | 2 | 5 => v = .agg (bv FS).toArray
  | 3 => v = .slice (some ⟨g7, 0, none⟩) 32 32
  | 6 | 7 | 8 | 9 | 10 => v = .bool true
  | _ => True

def SMk6 (zb : Int) (A : Option Addr) (m c Z : Nat) (opn : Nat) (v : Value) : Prop :=
  match opn with
  | 1 | 5 => v = .slice A m c
  | 3 => v = .int .u8 zb
  | 4 => v = .int .i64 zb
  | 6 => v = .int .i64 (m : Int)
  | 7 => v = .int .i64 (65 - (m : Int))
  | 8 => v = .int .i64 (Z : Int)
  | _ => True

theorem own_low {w : World} {b0 b1 e n : Nat} {v : Value} {xs : List Value} (h : w.ownsRow b1 e 1 v n xs) (hb : b0 ≤ b1) : w.ownsRow b0 e 1 v n xs := by
  refine ⟨h.1, ?_⟩
  rcases h.2 with h2 | ⟨g, cap, cur, hv, hg, r⟩
  · exact .inl h2
  · exact .inr ⟨g, cap, cur, hv, Nat.le_trans hb hg, r⟩
set_option maxRecDepth 100000 in
set_option maxHeartbeats 2000000 in
theorem macKeys_any (ks ts : List Int) (zb : Int) (A B : Option Addr) (m c n d : Nat) (w : World) (hT : Tabs w) (hx : Bs w w.heap.size A m ks) (hkb : IsBy ks) (hc : m ≤ c) (ht : Bs w w.heap.size B n ts) (htb : IsBy ts) (z0 : 0 ≤ zb) (z1 : zb < 256) :
    Calls Tryd.prog 12 #[.slice A m c, .slice B n d, .int .u8 zb] w fun e w' => e = .returned (.bool true) ∧ Below w.heap.size w w' := by
  obtain ⟨i0, hi, hz, hsz, hby⟩ := u8_info
  have hlen := hx.1
  by_cases h1 : (600 : Int) < (m : Int)
  · have hd : decide ((600 : Int) < (m : Int)) = true := by simp; omega
    clear hlen
    go_enter Tryd.func12, Tryd.ntmps12
    go_wp2_with fail
    refine (mawake_any _ hT).mono ?_
    rintro e w2 ⟨rfl, b2⟩
    go_wp2
    go_ret
    exact ⟨rfl, b2⟩
  have hd : decide ((600 : Int) < (m : Int)) = false := by simp; omega
  by_cases h2 : (600 : Int) < (n : Int)
  · have hd2 : decide ((600 : Int) < (n : Int)) = true := by simp; omega
    clear hlen
    go_enter Tryd.func12, Tryd.ntmps12
    go_wp2_with fail
    refine (mawake_any _ hT).mono ?_
    rintro e w2 ⟨rfl, b2⟩
    go_wp2
    go_ret
    exact ⟨rfl, b2⟩
  have hd2 : decide ((600 : Int) < (n : Int)) = false := by simp; omega
  have P1 := fun w hT hx ht => hm_any ks ts A B m c n d w hT hx hkb hc (by omega) ht htb (by omega)
  have lFS := hide (hmacS_len ks ts)
  by_cases h3 : (64 : Int) < (m : Int)
  · have hd3 : decide ((64 : Int) < (m : Int)) = true := by simp; omega
    have S1 := fun w hT hx => sum_any ks A m c w hT hx hkb hc (by omega)
    have P2 := fun g w hT hx ht => hm_any (sumS ks) ts (some ⟨g, 0, none⟩) B 32 32 n d w hT hx (sumS_by _) (Nat.le_refl _) (by decide) ht htb (by omega)
    rw [hmacS_long (by omega)] at P2
    have lK := hide (sumS_len ks)
    have zK := hide (size32b lK.out)
    have lz := hide (show (bv (List.replicate 32 0)).length = (bv (sumS ks)).length by rw [bv_len, bv_len, lK.out, List.length_replicate])
    clear hlen
    generalize sumS ks = K at *
    generalize hmacS ks ts = FS at *
    go_enter Tryd.func12, Tryd.ntmps12
    go_wp2_with fail
    refine (S1 w hT hx).mono ?_
    rintro e w2 ⟨rfl, b2⟩
    go_wp2_with (first
      | (with_reducible refine wl_alloc rfl 25 _ (bv (List.replicate 32 0)) rfl zero32b rfl ?_; intro g7 w3 r3 p3 l3 b3)
      | (with_reducible refine wl_store_row rfl 25 (.tmp 7) (.tmp 22) g7 25 _ (bv K) rfl rfl rfl r3 zK.out lz.out (bv_one _) ?_; intro wS r7 o7))
    have BS := (b2.trans (b3.mono b2.size)).trans (o7.below (Nat.le_trans b2.size p3))
    have hT0 := hT.later BS
    have hx0 := hx.later BS
    have ht0 := ht.later BS
    clear hT hx ht S1 r3 b2 b3 o7
    have hT := hT0
    have hx := hx0
    have ht := ht0
    clear hT0 hx0 ht0
    rename_i K1 hK1
    refine wp_region_valsG [2, 5, 8] (SMk5 FS A B m c n d g7) (JR wS) (by kernel_rfl) (by kernel_rfl) (by kernel_rfl) (by kernel_rfl) (Below.refl _ _).drew ?obs ?he
    case obs =>
      refine ⟨?_, ?_, ?_, ?_, ?_, ?_, ?_, ?_, ?_, ?_, ?_, trivial⟩
      · refine ⟨.inl rfl, ?_⟩
        exact .inl ⟨by kernel_rfl, fun L a1 w1 n' h => ⟨_, rfl, run_move (.tmp 0) rfl (h.var n' 0 (by kernel_rfl))⟩⟩
      · refine ⟨.inl rfl, ?_⟩
        exact .inl ⟨by kernel_rfl, fun L a1 w1 n' h => ⟨_, rfl, run_move (.tmp 1) rfl (h.var n' 1 (by kernel_rfl))⟩⟩
      · refine ⟨.inl rfl, ?_⟩
        refine .inr fun L a1 w1 n' h K hK => ?_
        have e0 : a1.eval (.tmp 23) = .slice A m c := h.dep n' 0 23 (by kernel_rfl) rfl
        have e1 : a1.eval (.tmp 24) = .slice B n d := h.dep n' 1 24 (by kernel_rfl) rfl
        refine st_call 25 _ _ #[.slice A m c, .slice B n d] rfl Tryd.call25 ?_ (P1 w1 (hT.later h.inv) (hx.later h.inv) (ht.later h.inv)) ?_
        · simp only [List.map_toArray, List.map_cons, List.map_nil, e0, e1]
        · rintro e w3 ⟨rfl, b9⟩
          exact ⟨_, rfl, hK _ w3 rfl (JR.call h.inv b9)⟩
      · refine ⟨.inl rfl, ?_⟩
        exact .inl ⟨by kernel_rfl, fun L a1 w1 n' h => ⟨_, rfl, run_sliceAll 25 (.tmp 7) 32 5 g7 rfl Tryd.underlying25 Tryd.sizeOf5 (h.var n' 7 (by kernel_rfl))⟩⟩
      · refine ⟨.inl rfl, ?_⟩
        exact .inl ⟨by kernel_rfl, fun L a1 w1 n' h => ⟨_, rfl, run_move (.tmp 1) rfl (h.var n' 1 (by kernel_rfl))⟩⟩
      · refine ⟨.inl rfl, ?_⟩
        refine .inr fun L a1 w1 n' h K hK => ?_
        have e0 : a1.eval (.tmp 26) = .slice (some ⟨g7, 0, none⟩) 32 32 := h.dep n' 3 26 (by kernel_rfl) rfl
        have e1 : a1.eval (.tmp 27) = .slice B n d := h.dep n' 4 27 (by kernel_rfl) rfl
        refine st_call 25 _ _ #[.slice (some ⟨g7, 0, none⟩) 32 32, .slice B n d] rfl Tryd.call25 ?_ (P2 g7 w1 (hT.later h.inv) (Bs.row (r7.later h.inv) lK.out) (ht.later h.inv)) ?_
        · simp only [List.map_toArray, List.map_cons, List.map_nil, e0, e1]
        · rintro e w3 ⟨rfl, b9⟩
          exact ⟨_, rfl, hK _ w3 rfl (JR.call h.inv b9)⟩
      · refine ⟨.inl rfl, ?_⟩
        exact .inl ⟨by kernel_rfl, fun L a1 w1 n' h => ⟨_, rfl, run_eqlT (.tmp 25) (.tmp 28) rfl Tryd.underlying25 (Classical.choose_spec u8_info).1 (by kernel_rfl) Tryd.underlying5 Tryd.isAgg5 FS (h.dep n' 2 25 (by kernel_rfl) rfl) (h.dep n' 5 28 (by kernel_rfl) rfl) (lFS.out) (by kernel_rfl)⟩⟩
      · refine ⟨.inl rfl, ?_⟩
        exact .inl ⟨by kernel_rfl, fun L a1 w1 n' h => ⟨_, rfl, run_move (.tmp 29) rfl (h.dep n' 6 29 (by kernel_rfl) rfl)⟩⟩
      · refine ⟨.inr ⟨7, true, 30, rfl, by kernel_rfl, rfl, by simp, fun v h => h⟩, ?_⟩
        refine .inr fun L a1 w1 n' h K hK => ?_
        refine st_call 24 _ _ #[] rfl Tryd.call24 ?_ (mawake_any w1 (hT.later h.inv)) ?_
        · simp
        · rintro e w3 ⟨rfl, b9⟩
          exact ⟨_, rfl, hK _ w3 rfl (JR.call h.inv b9)⟩
      · refine ⟨.inl rfl, ?_⟩
        exact .inl ⟨by kernel_rfl, fun L a1 w1 n' h => ⟨_, rfl, run_pickT (.tmp 30) _ _ rfl (h.dep n' 7 30 (by kernel_rfl) rfl) (h.dep n' 8 31 (by kernel_rfl) rfl)⟩⟩
      · refine ⟨.inl rfl, ?_⟩
        exact .inl ⟨by kernel_rfl, fun L a1 w1 n' h => ⟨_, rfl, run_assign (.tmp 32) rfl (h.dep n' 9 32 (by kernel_rfl) rfl)⟩⟩
    case he =>
      intro V w5 hV hJ
      have h10 : V 10 = .bool true := hV 10 6 rfl
      have hB : Below wS.heap.size wS w5 := hJ
      clear hV hJ
      simp only [putOps, List.setIfInBounds_toArray, List.set_cons_succ, List.set_cons_zero]
      refine hK1 _ _ ?_
      go_wp2
      go_ret
      exact ⟨congrArg Ending.returned h10, BS.trans (hB.mono BS.size)⟩
  · have hd3 : decide ((64 : Int) < (m : Int)) = false := by simp; omega
    have hm64 : m ≤ 64 := by omega
    obtain ⟨Z, hZ, hZe⟩ : ∃ Z : Nat, Z + m ≤ 64 ∧ zb % (65 - (m : Int)) = (Z : Int) := by
      have p1 := Int.emod_nonneg zb (show (65 : Int) - (m : Int) ≠ 0 by omega)
      have p2 := Int.emod_lt_of_pos zb (show (0 : Int) < 65 - (m : Int) by omega)
      exact ⟨(zb % (65 - (m : Int))).toNat, by omega, by omega⟩
    have HZ := hide hZe
    have hzz := hmacS_zeros (ks := ks) (ts := ts) (z := Z) (by omega)
    have P3 := fun A' c' w hT hx hc ht => hm_any (ks ++ List.replicate Z 0) ts A' B (m + Z) c' n d w hT hx (hkb.app (IsBy.rep _)) hc (by omega) ht htb (by omega)
    rw [hzz] at P3
    have E1 := eq32S (hmacS ks ts) lFS.out
    clear hZe hzz hlen
    generalize hmacS ks ts = FS at *
    go_enter Tryd.func12, Tryd.ntmps12
    go_wp2_with fail
    rename_i Q1 K1 hK1
    refine wp_region_vals [0, 2, 9, 10] (SMk6 zb A m c Z) (JC w 5 m (m + Z) ks (ks ++ List.replicate Z 0)) (by kernel_rfl) (by kernel_rfl) (by kernel_rfl) (by kernel_rfl) (by kernel_rfl) (JC.start _) ?obs2 ?he2
    case obs2 =>
      refine ⟨?_, ?_, ?_, ?_, ?_, ?_, ?_, ?_, ?_, ?_, ?_, trivial⟩
      · refine .inr fun L a1 w1 n' h K hK => ?_
        have no2 : L.getD 2 false = false := n'.later (by kernel_rfl)
        have no9 : L.getD 9 false = false := n'.later (by kernel_rfl)
        have noA : L.getD 10 false = false := n'.later (by kernel_rfl)
        refine st_build0 22 rfl 5 i0 Tryd.underlying22 hi hsz ?_
        intro v w3 own3 b3
        have own3' : w3.ownsRow w.heap.size 5 1 v 0 (bv []) := own_low own3 h.inv.1.size
        exact hK v w3 trivial ⟨h.inv.1.trans (b3.mono h.inv.1.size), fun h1 => absurd (no9.symm.trans h1) (by decide), fun h1 => absurd (noA.symm.trans h1) (by decide), fun _ h1 => absurd (no2.symm.trans h1) (by decide), fun _ _ => own3'⟩
      · exact .inl ⟨by kernel_rfl, fun L a1 w1 n' h => ⟨_, rfl, run_move (.tmp 0) rfl (h.var n' 0 (by kernel_rfl))⟩⟩
      · refine .inr fun L a1 w1 n' h K hK => ?_
        have no2 : L.getD 2 false = false := n'.not_yet
        have yes0 : L.getD 0 false = true := n'.dep (by kernel_rfl)
        have no9 : L.getD 9 false = false := n'.later (by kernel_rfl)
        have noA : L.getD 10 false = false := n'.later (by kernel_rfl)
        have own1 : w1.ownsRow w.heap.size 5 1 (a1.eval (.tmp 33)) 0 (bv []) := h.inv.2.2.2.2 no2 yes0
        refine st_append_bs (.tmp 33) (.tmp 34) 22 rfl w.heap.size 5 i0 Tryd.underlying22 hi hz hsz hby _ 0 [] rfl own1 w.heap.size A m c ks (h.dep n' 1 34 (by kernel_rfl) rfl) (hx.below h.inv.1) (by omega) h.inv.1.size ?_
        intro v w3 own3 gr3
        rw [Nat.zero_add, List.nil_append] at own3
        have b3 := h.inv.1.grown gr3 h.inv.1.size (fun j hj => (own1.lt j hj).1)
        exact hK v w3 trivial ⟨b3, fun h1 => absurd (no9.symm.trans h1) (by decide), fun h1 => absurd (noA.symm.trans h1) (by decide), fun _ _ => own3, fun h1 => absurd (show true = false from h1) (by decide)⟩
      · exact .inl ⟨by kernel_rfl, fun L a1 w1 n' h => ⟨_, rfl, run_move (.tmp 2) rfl (h.var n' 2 (by kernel_rfl))⟩⟩
      · refine .inl ⟨by kernel_rfl, fun L a1 w1 n' h => ⟨.int .i64 zb, rfl, ?_⟩⟩
        have e0 : a1.eval (.tmp 36) = _ := h.dep n' 3 36 (by kernel_rfl) rfl
        unfold execOp
        simp only [e0]
        go_simp
        rw [IntWalk.i64_in _ (by omega)]
      · exact .inl ⟨by kernel_rfl, fun L a1 w1 n' h => ⟨_, rfl, run_move (.tmp 0) rfl (h.var n' 0 (by kernel_rfl))⟩⟩
      · exact .inl ⟨by kernel_rfl, fun L a1 w1 n' h => ⟨_, rfl, run_lenS 22 (.tmp 38) 5 _ _ _ rfl Tryd.underlying22 (h.dep n' 5 38 (by kernel_rfl) rfl)⟩⟩
      · refine .inl ⟨by kernel_rfl, fun L a1 w1 n' h => ⟨.int .i64 (65 - (m : Int)), rfl, ?_⟩⟩
        have e0 : a1.eval (.tmp 39) = _ := h.dep n' 6 39 (by kernel_rfl) rfl
        unfold execOp
        simp only [e0]
        go_simp
        rw [IntWalk.i64_in _ (by omega)]
      · refine .inl ⟨by kernel_rfl, fun L a1 w1 n' h => ⟨.int .i64 (Z : Int), rfl, ?_⟩⟩
        have e0 : a1.eval (.tmp 37) = _ := h.dep n' 4 37 (by kernel_rfl) rfl
        have e1 : a1.eval (.tmp 40) = _ := h.dep n' 7 40 (by kernel_rfl) rfl
        unfold execOp
        simp only [e0, e1]
        go_simp
        rw [if_neg (by omega), Int.tmod_eq_emod_of_nonneg (by omega), HZ.out]
      · refine .inr fun L a1 w1 n' h K hK => ?_
        have no9 : L.getD 9 false = false := n'.not_yet
        have yes2 : L.getD 2 false = true := n'.dep (by kernel_rfl)
        have noA : L.getD 10 false = false := n'.later (by kernel_rfl)
        have own1 : w1.ownsRow w.heap.size 5 1 (a1.eval (.tmp 35)) m (bv ks) := h.inv.2.2.2.1 no9 yes2
        refine st_append_zeros (.tmp 35) (.tmp 41) 22 3 rfl w.heap.size 5 i0 .i64 .i64 Tryd.underlying22 Tryd.underlying3 hi hz hsz hby _ m ks rfl own1 Z (h.dep n' 8 41 (by kernel_rfl) rfl) (by omega) h.inv.1.size ?_
        intro v w3 own3 gr3
        have b3 := h.inv.1.grown gr3 h.inv.1.size (fun j hj => (own1.lt j hj).1)
        exact hK v w3 trivial ⟨b3, fun _ => own3, fun h1 => absurd (noA.symm.trans h1) (by decide), fun h1 => absurd (show true = false from h1) (by decide), fun h1 => absurd (yes2.symm.trans h1) (by decide)⟩
      · refine .inr fun L a1 w1 n' h K hK => ?_
        have yes9 : L.getD 9 false = true := n'.dep (by kernel_rfl)
        have yes2 : L.getD 2 false = true := n'.dep (by kernel_rfl)
        have own1 : w1.ownsRow w.heap.size 5 1 (a1.eval (.tmp 42)) (m + Z) (bv (ks ++ List.replicate Z 0)) := h.inv.2.1 yes9
        unfold Oper.wp
        rw [run_assign (.tmp 42) rfl rfl]
        exact hK _ w1 trivial ⟨h.inv.1, fun _ => own1, fun _ => own1, fun h1 => absurd (yes9.symm.trans h1) (by decide), fun h1 => absurd (yes2.symm.trans h1) (by decide)⟩
    case he2 =>
      intro V w5 hV hJ
      have own5 : w5.ownsRow w.heap.size 5 1 (V 10) (m + Z) (bv (ks ++ List.replicate Z 0)) := hJ.2.2.1 rfl
      have B5 : Below w.heap.size w w5 := hJ.1
      clear hV hJ
      simp only [putOps, List.setIfInBounds_toArray, List.set_cons_succ, List.set_cons_zero]
      obtain ⟨A8, c8, hv8, h8, hc8, _⟩ := ownsRow_bs own5
      rw [hv8]
      clear own5 hv8
      refine hK1 _ _ ?_
      go_wp2_with fail
      refine (P3 A8 c8 w5 (hT.later B5) h8 hc8 (ht.later B5)).mono ?_
      rintro e w6 ⟨rfl, b6⟩
      have B6 := B5.trans (b6.mono B5.size)
      go_wp2_with fail
      refine (P1 w6 (hT.later B6) (hx.later B6) (ht.later B6)).mono ?_
      rintro e w7 ⟨rfl, b7⟩
      have B7 := B6.trans (b7.mono B6.size)
      go_wp2_with (first | rw [E1])
      refine (mawake_any _ (hT.later B7)).mono ?_
      rintro e w8 ⟨rfl, b8⟩
      go_wp2_with fail
      go_ret
      exact ⟨rfl, B7.trans (b8.mono B7.size)⟩
end Go.Proofs.YtlhgfobhdhddlaaDoor

/- Proved: the law MacKeys (P6.1) answers true and leaves its arguments as they read before. For every key, text and number of zeros; no condition but the tie of the two tables of sha to the program's text. -/
namespace Go.Proofs.YtlhgfobhdhddlaaDoor.macKeys
open Go.ChangeShapes Go.WideShapes Go.ChangeAt Go.WideMaps Go.WideElems Go.RowKit

theorem own : ownKnob Tryd.prog.godebug = none := by kernel_rfl
theorem laidOut : laidOutB Tryd.prog = true := by kernel_rfl
theorem door_met (os : Os) (args : Array Value) : laidMetH Tryd.prog laid2 ((World.doorLaid Tryd.prog 400 os).forCall (fun _ _ => 0) ⟨#[], args, []⟩).memory :=
  laidMetH_of_parts3 (fuel := 8) (laidMet_of_run' 8 (by kernel_rfl) (by kernel_rfl)) (by kernel_rfl) (by kernel_rfl)

set_option maxRecDepth 100000 in
theorem lifted (os : Os) (started : os.Started) (H : Type) (enc : TypeId × Value → H) :
    ReturnsInHanded {} Tryd.checked os 12 .any (fun w args => (Rows.macKeysSpec.pre enc Tryd.prog Tryd.f12 [] false w args ∧ laidMetH Tryd.prog laid2 w) ∧ sizedMet enc Tryd.prog Tryd.f12 (OpenSpec.ofChange Rows.macKeysSpec) false w args)
      (Rows.macKeysSpec.post enc Tryd.prog Tryd.f12 false true false false) := by
  refine returnsInHanded_of_change_and (C := Tryd.checked) (X := fun w _ => laidMetH Tryd.prog laid2 w) (fun _ _ _ hh h => h.of_heap hh) own started (by kernel_rfl) Tryd.func12
    (ChangeSpec.witness_shaped (enc := enc) (C := Tryd.checked) (os := os) (X := fun w _ => laidMetH Tryd.prog laid2 w) false (World.doorLaid Tryd.prog 400 os) #[.slice none 0 0, .slice none 0 0, .int .u8 0] 8 rfl (World.shaped_of_RefB (by kernel_rfl) (by kernel_rfl)) (by kernel_rfl) (by kernel_rfl) (by kernel_rfl) (door_met os _)) ?_
  intro W base args ds gs before hval0 hW _ _ hL _
  have hval : ∀ (j : Nat) t v, Tryd.f12.params[j]? = some t → args[j]? = some v → Value.okWide Tryd.prog W .any base t v := hval0
  have hW' := hW
  obtain ⟨p, q, hA0, hV, rfl, hfz, hnd⟩ := hW
  have hA : DataW.TrodAll enc Tryd.prog W 0 (fun _ => true) true Tryd.f12.params.toList args.toList ds p := hA0
  rw [Tryd.params12] at hA hval
  obtain ⟨v0, vs0, d0, ds0, p0, q0, hargs, rfl, rfl, h0, r0⟩ := trodAll_cons hA
  obtain ⟨v1, vs1, d1, ds1, p1, q1, rfl, rfl, rfl, h1, r1⟩ := trodAll_cons r0
  obtain ⟨v2, vs2, d2, ds2, p2, q2, rfl, rfl, rfl, h2, r2⟩ := trodAll_cons r1
  obtain ⟨rfl, rfl, rfl⟩ := trodAll_nil r2
  obtain rfl : args = #[v0, v1, v2] := by cases args; simp_all
  obtain ⟨rfl, rfl⟩ := trodVars_none hV
  obtain ⟨a0, len0, cap0, rfl⟩ := okWide_slice Tryd.underlying22 (hval 0 22 v0 rfl rfl)
  have k0 := h0
  have lt0 : ∀ x ∈ p0, x.block < W.heap.size := by obtain ⟨m, hm⟩ := k0; exact DataW.trod_lt m _ _ _ hm
  obtain ⟨a1, len1, cap1, rfl⟩ := okWide_slice Tryd.underlying22 (hval 1 22 v1 rfl rfl)
  have k1 := h1
  have lt1 : ∀ x ∈ p1, x.block < W.heap.size := by obtain ⟨m, hm⟩ := k1; exact DataW.trod_lt m _ _ _ hm
  obtain ⟨a2, rfl, rfl, rfl, w2⟩ := open_int Tryd.underlying5 (hval 2 5 v2 rfl rfl) h2
  clear hA0 hval0
  have hT : Tabs W := tabs_of_laid hL
  obtain ⟨x0, b0, by0, m0⟩ : ∃ xs, Bs W W.heap.size a0 len0 xs ∧ IsBy xs ∧ len0 ≤ cap0 := by
    obtain ⟨fuel, hf⟩ := k0
    obtain ⟨A', n', c', xs, hv, hb, hby, h1, h2⟩ := trod_bs Tryd.underlying22 Tryd.underlying5 (by kernel_rfl) hf
    simp at hv
    obtain ⟨rfl, rfl, rfl⟩ := hv
    exact ⟨xs, hb, hby, h1⟩
  obtain ⟨x1, b1, by1, m1⟩ : ∃ xs, Bs W W.heap.size a1 len1 xs ∧ IsBy xs ∧ len1 ≤ cap1 := by
    obtain ⟨fuel, hf⟩ := k1
    obtain ⟨A', n', c', xs, hv, hb, hby, h1, h2⟩ := trod_bs Tryd.underlying22 Tryd.underlying5 (by kernel_rfl) hf
    simp at hv
    obtain ⟨rfl, rfl, rfl⟩ := hv
    exact ⟨xs, hb, hby, h1⟩
  refine (macKeys_any x0 x1 a2 a0 a1 len0 cap0 len1 cap1 W hT b0 by0 m0 b1 by1 (wf_u8 w2).1 (wf_u8 w2).2).mono fun e W' ⟨he, bel⟩ => ?_
  subst he
  exact ⟨_, rfl, _, _, _, [], _, [], hW', trodAll_mk1 (shut_bool Tryd.underlying4 _), (trodAll_cons_mk (Below.trod laidOut (by kernel_rfl) (of_decide_eq_true (by kernel_rfl)) k0 bel lt0) (trodAll_cons_mk (Below.trod laidOut (by kernel_rfl) (of_decide_eq_true (by kernel_rfl)) k1 bel lt1) (trodAll_cons_mk (shut_int Tryd.underlying5 w2) trodAll_mk0))), rfl, bel.frame _, fun h => by cases h⟩

theorem over : Rows.MacKeysSaid :=
  OpenClaim.holds_of_wide 12 Tryd.f12 rfl rfl rfl rfl rfl rfl rfl ⟨rfl, rfl, rfl, rfl, rfl⟩ rfl rfl rfl rfl rfl (by kernel_rfl) Tryd.func12 (by kernel_rfl)
    (of_decide_eq_true (by kernel_rfl)) (by unfold Func.isWrapper; first | (rw [if_pos (by decide +kernel)]; kernel_rfl) | (rw [if_neg (by decide +kernel)]; exact ⟨rfl, rfl⟩))
    (fun os started H enc _ => lifted os started H enc)

/-- The given statement. -/
theorem proved : Rows.MacKeysCardSaid :=
  Claim7.holds_tied_plain_at .later [] [.data, .data] true (true, "2a1334606687450c169f9de7db10f82ff4b51d6d76a28dc4fa85fcd7173bb2ba") false
    over (fun _ h => by cases h) (by kernel_rfl) (fun _ h => by cases h) macKeys_row_tie rfl ⟨rfl, rfl⟩ (by kernel_rfl) rfl
    (fun f fn hf hfn => by
      obtain rfl : f = 12 := Option.some.inj ((show Tryd.prog.funcNamed "intaglio/intagliolaw06.MacKeys" = some 12 by kernel_rfl).symm.trans hf) |>.symm
      obtain rfl : fn = Tryd.f12 := (Option.some.inj (Tryd.func12.symm.trans hfn)).symm
      exact ⟨by kernel_rfl, fun j t ht => by
        rw [Tryd.params12] at ht
        have hm : t ∈ [22, 22, 5] := by simpa using Array.mem_of_getElem? ht
        have hall : ([22, 22, 5].all fun u => !Tryd.prog.wantsStandIn u) = true := by kernel_rfl
        exact (show Tryd.prog.wantsStandIn t = false by simpa using List.all_eq_true.1 hall t hm)⟩)
    (by kernel_rfl)
#print axioms proved
end Go.Proofs.YtlhgfobhdhddlaaDoor.macKeys
