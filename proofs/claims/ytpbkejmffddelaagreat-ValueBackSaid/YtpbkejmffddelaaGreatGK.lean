/-
  Several own texts in one: ValEk, ValEi, ValEj, ValEl, ValEm, ValEn. Own work.
-/
import Derived.Test.YtpbkejmffddelaaGreatGJ
import Derived.Test.YtpbkejmffddelaaGreatGD
set_option linter.unusedVariables false
set_option linter.unusedSimpArgs false
/-
  Pack for values: what is put lies in a row of bytes. Own work.
-/
namespace Go.Proofs.YtpbkejmffddelaaGreat
open Go.RowKit
/-- Bytes in a row of bytes. -/
def BsU (w : World) (A : Option Addr) (n : Nat) (xs : List Int) : Prop := Bs w w.heap.size A n xs ∧ ∀ p, A = some p → ∃ cs fr, w.heap[p.block]? = some (.cells cs 5 fr)
theorem BsU.nil (w : World) : BsU w none 0 [] := ⟨Bs.nil_, fun _ h => by cases h⟩
theorem BsU.later {w w' : World} {A : Option Addr} {n : Nat} {xs : List Int} (h : BsU w A n xs) (hb : Below w.heap.size w w') : BsU w' A n xs :=
  ⟨h.1.later hb, fun p hp => let ⟨cs, fr, e⟩ := h.2 p hp; ⟨cs, fr, (hb.block _ (Array.getElem?_eq_some_iff.1 e).1).trans e⟩⟩
def RetU (xs : List Int) (w : World) (e : Ending) (w' : World) : Prop := ∃ A n c, e = .returned (.slice A n c) ∧ BsU w' A n xs ∧ Below w.heap.size w w'
theorem RetU.trans {out : List Int} {w w1 w2 : World} {e : Ending} (h : RetU out w1 e w2) (hb : Below w.heap.size w w1) : RetU out w e w2 := by
  obtain ⟨A, n, c, he, h1, h4⟩ := h
  exact ⟨A, n, c, he, h1, hb.trans (h4.mono hb.size)⟩
theorem retU_owns {w w1 : World} {base n : Nat} {v : Value} {xs ys : List Int} (h : w1.ownsRow base 5 1 v n (bv xs)) (hb : Below w.heap.size w w1) (he : ys = xs) : RetU ys w (.returned v) w1 := by
  subst he
  obtain ⟨A, c, rfl, h1, _⟩ := ownsRow_bs h
  refine ⟨A, n, c, rfl, ⟨h1, fun p hp => ?_⟩, hb⟩
  subst hp
  rcases h.2 with ⟨e, _⟩ | ⟨g, cap, cur, e, _, hg, _⟩
  · cases e
  · injection e with e1
    injection e1 with e1
    subst e1
    exact ⟨_, _, hg⟩
theorem retU_own {w w1 : World} {g n c : Nat} {xs ys : List Int} (h : Own w1 5 g xs) (hb : Below w.heap.size w w1) (he : ys = xs) (hn : xs.length = n) : RetU ys w (.returned (.slice (some ⟨g, 0, none⟩) n c)) w1 := by
  subst he
  subst hn
  exact ⟨_, _, c, rfl, ⟨h.bs h.lt, fun p hp => by injection hp with hp; subst hp; exact ⟨_, _, h⟩⟩, hb⟩
set_option maxRecDepth 100000 in
set_option maxHeartbeats 2000000 in
theorem lay64_U (A : Option Addr) (m c : Nat) (xs : List Int) (x : Int) (w : World) (h : Bs w w.heap.size A m xs) (hm : m ≤ 1000000) (h0 : 0 ≤ x) (h1 : x < 2 ^ 64) :
    Calls Tryz.prog 132 #[.slice A m c, .int .u64 x, .bool false] w (RetU (xs ++ highB x 8) w) := by
  obtain ⟨i0, hi, hz, hsz, hby⟩ := u8_info
  go_enter Tryz.func132, Tryz.ntmps132
  go_wp2_with (first
    | (go_at_call 154; refine (width64_any _).mono ?_; rintro e w' ⟨rfl, rfl⟩)
    | (refine wpList_make_bs rfl _ _ _ rfl 5 i0 Tryz.underlying31 hi hz hsz hby (m + 8) rfl rfl (by omega) ?_; intro w1 hown hs1 hb1)
    | (refine wpList_copy_bs rfl (.tmp 17) (.tmp 18) _ _ rfl 5 Tryz.underlying31 u8_size w.heap.size 0 _ _ m c A rfl rfl _ xs 5 w.heap.size hown (h.below hb1) (by omega) (by rw [List.length_replicate]; omega) w.heap.size w hb1 (Nat.le_refl _) ?_; intro w2 hown2 hb2))
  go_loopw [21] (fun i wr => ∃ k : Nat, k ≤ 8 ∧ i = .int .i64 k ∧ Own wr 5 w.heap.size (xs ++ (List.replicate (8 - k) 0 ++ highB x k)) ∧ Below w.heap.size w wr) (fun i _ => 8 - (intOf i).toNat)
  case atStart => exact ⟨0, Nat.zero_le _, rfl, by simpa [highB, lowB, h.1] using hown2, hb2⟩
  case round =>
    obtain ⟨k, hk, rfl, hown, hb⟩ := hrel
    by_cases hlt : k < 8
    · have hc := hown.cell (j := m + 7 - k) (by simp [highB_length, h.1]; omega)
      have hf := hown.frozen (m + 7 - k)
      have hs := hown.set (m + 7 - k) (x / 2 ^ (8 * k) % 256)
      have he := set_high hlt (highB x k) (x / 2 ^ (8 * k) % 256) xs
      rw [h.1, show m + (8 - 1 - k) = m + 7 - k from by omega] at he
      rw [he, ← pow256_two, ← highB_cons, pow256_two] at hs
      have HS := hide hs
      clear hs he
      go_wp2
      go_roundw
      case rel => exact ⟨k + 1, by omega, by go_num, HS.out, hb.setCell (Nat.le_refl _) _⟩
      case measure => simp [intOf]; omega
    · go_wp2
      go_ret
      obtain rfl : k = 8 := by omega
      exact retU_own hown hb (by simp) (by simp [highB_length, h.1])
set_option maxRecDepth 100000 in
set_option maxHeartbeats 2000000 in
theorem put64_U (A : Option Addr) (m c : Nat) (xs : List Int) (x : Int) (w : World) (h : Bs w w.heap.size A m xs) (hm : m ≤ 1000000) (h0 : 0 ≤ x) (h1 : x < 2 ^ 64) :
    Calls Tryz.prog 103 #[.slice A m c, .int .u64 x] w (RetU (xs ++ highB x 8) w) := by
  go_enter Tryz.func103, Tryz.ntmps103
  go_wp2_with (go_at_call 132; refine (lay64_U A m c xs x _ h hm h0 h1).mono ?_; rintro e w1 ⟨A1, n1, c1, rfl, hb, hl⟩)
  go_ret
  exact ⟨A1, n1, c1, rfl, hb, hl⟩
set_option maxRecDepth 100000 in
set_option maxHeartbeats 2000000 in
theorem packPutNum_U (A : Option Addr) (m c : Nat) (xs : List Int) (x : Int) (w : World) (h : Bs w w.heap.size A m xs) (hm : m ≤ 1000000) (h0 : -9223372036854775808 ≤ x) (h1 : x ≤ 9223372036854775807) :
    Calls Tryz.prog 46 #[.slice A m c, .int .i64 x] w (RetU (xs ++ highB (max x 0) 8) w) := by
  have m0 : 0 ≤ max x 0 := by omega
  have m1 : max x 0 < 2 ^ 64 := by omega
  go_enter Tryz.func46, Tryz.ntmps46
  go_wp2_with (go_at_call 103; refine (put64_U A m c xs (max x 0) _ h hm m0 m1).mono ?_; rintro e w1 ⟨A1, n1, c1, rfl, hb, hl⟩)
  go_ret
  exact ⟨A1, n1, c1, rfl, hb, hl⟩
set_option maxRecDepth 100000 in
set_option maxHeartbeats 2000000 in
theorem join_U (A : Option Addr) (m c : Nat) (xss : List (List Int)) (w : World) (h : Bss w w.heap.size A m xss) (hm : m ≤ 1000000) (hs : sumLen xss m ≤ 140737488355328) :
    Calls Tryz.prog 50 #[.slice A m c] w (RetU xss.flatten w) := by
  obtain ⟨i0, hi, hz, hsz, hby⟩ := u8_info
  have hlen := h.1
  have HL := hide hlen
  clear hlen
  go_enter Tryz.func50, Tryz.ntmps50
  go_wp2
  go_loop [3, 11] (fun s i => ∃ k : Nat, k ≤ m ∧ i = .int .i64 k ∧ s = .int .i64 (sumLen xss k)) (fun _ i => m - (intOf i).toNat)
  case atStart => exact ⟨0, Nat.zero_le _, rfl, rfl⟩
  case round =>
    obtain ⟨k, hk, rfl, rfl⟩ := hrel
    have hle := sumLen_le xss k
    rw [HL.out] at hle
    by_cases hlt : k < m
    · obtain ⟨b, o, rfl, hb, hc⟩ := h.2 (by omega)
      obtain ⟨A', n', c', hcell, hbs⟩ := hc k hlt
      have hsu := sumLen_succ xss k (by rw [HL.out]; exact hlt)
      rw [hbs.1] at hsu
      have hle2 := sumLen_le xss (k + 1)
      rw [HL.out] at hle2
      have hb2 : sumLen xss k + n' ≤ 140737488355328 := by omega
      have HS := hide hsu
      clear hsu hle2 hc
      go_wp2
      go_round
      case rel => exact ⟨k + 1, by omega, by go_num, by rw [HS.out]; go_num⟩
      case measure => simp [intOf]; omega
    · obtain rfl : k = m := by omega
      go_wp2_with (refine wpList_make0_bs rfl _ _ _ rfl 5 i0 Tryz.underlying31 hi hz hsz hby (sumLen xss k) rfl rfl hs ?_; intro w1 hown1 hb1)
      go_loopw [6, 24] (fun v i wr => ∃ j : Nat, j ≤ k ∧ i = .int .i64 j ∧ wr.ownsRow w.heap.size 5 1 v (sumLen xss j) (bv (xss.take j).flatten) ∧ Below w.heap.size w wr) (fun _ i _ => k - (intOf i).toNat)
      case atStart => exact ⟨0, Nat.zero_le _, rfl, by simpa [sumLen] using hown1, hb1⟩
      case round =>
        obtain ⟨j, hj, rfl, hown, hbr⟩ := hrel
        by_cases hjl : j < k
        · obtain ⟨b, o, rfl, hb, hc⟩ := h.2 (by omega)
          obtain ⟨A', n', c', hcell, hbs⟩ := hc j hjl
          have hcell' := (hbr.cell (p := ⟨b, o + j, none⟩) hb).trans hcell
          have hsu := sumLen_succ xss j (by rw [HL.out]; exact hjl)
          have htf := take_flat xss j (by rw [HL.out]; exact hjl)
          rw [hbs.1] at hsu
          have hle2 := sumLen_le xss (j + 1)
          rw [HL.out] at hle2
          have hb2 : sumLen xss j + n' ≤ 140737488355328 := by omega
          have HS := hide hsu
          have HT := hide htf
          clear hsu htf hle2 hc hcell
          go_wp2_with (at_builtin; refine wpList_append_bs rfl (.tmp 28) (.tmp 29) _ rfl w.heap.size 5 i0 Tryz.underlying31 hi hz hsz hby _ (sumLen xss j) (xss.take j).flatten rfl hown w.heap.size A' n' c' (xss.getD j []) rfl (hbs.below hbr) hb2 hbr.size ?_; intro v1 w2 hown1 hg1)
          have hb3 := grown_below hbr hown (Nat.le_refl _) hg1
          go_roundw
          case rel => exact ⟨j + 1, by omega, by go_num, by rw [HS.out, HT.out]; exact hown1, hb3⟩
          case measure => simp [intOf]; omega
        · obtain rfl : j = k := by omega
          go_wp2
          go_ret
          exact retU_owns hown hbr (by rw [List.take_of_length_le (by rw [HL.out]; exact Nat.le_refl _)])
set_option maxRecDepth 100000 in
set_option maxHeartbeats 2000000 in
theorem packPut_U (A B : Option Addr) (m c n d : Nat) (xs ys : List Int) (w : World) (h : Bs w w.heap.size A m xs) (hy : Bs w w.heap.size B n ys) (hm : m ≤ 900000) (hn : n ≤ 100000) :
    Calls Tryz.prog 45 #[.slice A m c, .slice B n d] w (RetU (xs ++ highB n 4 ++ ys) w) := by
  go_enter Tryz.func45, Tryz.ntmps45
  go_wp2_with (first
    | (go_at_call 102
       refine (put32_any none 0 0 [] n _ Bs.nil_ (by omega) (by omega) (by omega)).mono ?_
       rintro e w1 ⟨A1, n1, c1, rfl, hb1, hn1, hc1, hl1⟩
       rw [List.nil_append] at hb1
       have hl : n1 ≤ 4 := by have := hb1.1; rw [highB_length] at this; omega
       have hss := Bss.lit w1 31 [(A, m, c, xs), (A1, n1, c1, highB n 4), (B, n, d, ys)] (by
         intro x hx
         simp only [List.mem_cons, List.not_mem_nil, or_false] at hx
         rcases hx with rfl | rfl | rfl
         · exact h.later hl1
         · exact hb1
         · exact hy.later hl1)
       have HS := hide hss
       clear hss)
    | (go_at_call 50
       refine (join_U _ 3 3 [xs, highB n 4, ys] _ (HS.out.up (by simp)) (by omega) (by simp [sumLen, highB_length, h.1, hy.1]; omega)).mono ?_
       intro e w2 hr
       obtain ⟨A2, n2, c2, rfl, hb2, hl2⟩ := hr.trans (hl1.alloc hl1.size _)))
  go_ret
  exact ⟨A2, n2, c2, rfl, by simpa using hb2, hl2⟩
theorem packPutT_U (A B : Option Addr) (m c n d : Nat) (xs : List Int) (t : Nm) (w : World) (h : Bs w w.heap.size A m xs) (hy : Bs w w.heap.size B n (nb t)) (hm : m ≤ 900000) (hn : t.length ≤ 100000) :
    Calls Tryz.prog 45 #[.slice A m c, .slice B n d] w (RetU (putT xs t) w) := by
  have e : n = t.length := hy.1.symm.trans (nb_len t)
  subst e
  exact packPut_U A B m c _ d xs (nb t) w h hy hm hn
end Go.Proofs.YtpbkejmffddelaaGreat

/-
  each, where the closure turns one variable and a list of slices of bytes. Own work.
-/
namespace Go.Proofs.YtpbkejmffddelaaGreat
open Go.RowKit Go.Shelf
abbrev TSB : TypeId := 31
/-- All but block gc, and rows of slices of bytes from B on, stays. -/
structure BuT (gc B : Nat) (w w' : World) : Prop where
  os : w'.os = w.os
  tape : w'.tape = w.tape
  output : w'.output = w.output
  size : w.heap.size ≤ w'.heap.size
  block : ∀ i, i < w.heap.size → i ≠ gc → (i < B ∨ ∀ cs fr, w.heap[i]? ≠ some (.cells cs TSB fr)) → w'.heap[i]? = w.heap[i]?
theorem BuT.refl (gc B : Nat) (w : World) : BuT gc B w w := ⟨rfl, rfl, rfl, Nat.le_refl _, fun _ _ _ _ => rfl⟩
theorem BuT.trans {gc B : Nat} {a b c : World} (h : BuT gc B a b) (k : BuT gc B b c) : BuT gc B a c :=
  ⟨k.os.trans h.os, k.tape.trans h.tape, k.output.trans h.output, Nat.le_trans h.size k.size, fun i hi hne hc => (k.block i (Nat.lt_of_lt_of_le hi h.size) hne (by rw [h.block i hi hne hc]; exact hc)).trans (h.block i hi hne hc)⟩
theorem BuT.of {w w' : World} (h : Below w.heap.size w w') (gc B : Nat) : BuT gc B w w' := ⟨h.os, h.tape, h.output, h.size, fun i hi _ _ => h.block i hi⟩
theorem BuT.but {gc B : Nat} {w w' : World} (h : But gc w w') : BuT gc B w w' := ⟨h.os, h.tape, h.output, h.size, fun i hi hne _ => h.block i hi hne⟩
theorem BuT.below {gc B : Nat} {w w' : World} (h : BuT gc B w w') (hB : B ≤ gc) (hw : B ≤ w.heap.size) : Below B w w' :=
  ⟨h.os, h.tape, h.output, h.size, fun i hi => h.block i (by omega) (by omega) (.inl hi)⟩
theorem BuT.grown {gc B n size : Nat} {w w' : World} {v : Value} {xs : List Value} (ho : w.ownsRow B TSB size v n xs) (hg : w.grownBy w' v.ownBlock) : BuT gc B w w' := by
  refine ⟨hg.os, hg.tape, hg.output, hg.size, fun i hi hne hc => hg.block i hi fun hk => ?_⟩
  rcases ho.2 with ⟨rfl, _⟩ | ⟨g', cap', cur', rfl, hB, hc', _⟩
  · simp [Value.ownBlock] at hk
  · simp [Value.ownBlock] at hk
    subst hk
    rcases hc with hc | hc
    · omega
    · exact hc _ _ hc'
theorem Row.buT {gc B g t : Nat} {vs : List Value} {w w' : World} (h : Row w t g vs) (hb : BuT gc B w w') (hne : g ≠ gc) (ht : t ≠ TSB) : Row w' t g vs := by
  refine (hb.block g h.lt hne (.inr fun cs fr e => ?_)).trans h
  have := (show w.heap[g]? = _ from h).symm.trans e
  simp at this
  exact ht this.2.1
/-- Texts in a row of texts. -/
def TxR (w : World) (tv : Value) (ts : List Nm) : Prop := ∃ g, tv = .slice (some ⟨g, 0, none⟩) ts.length ts.length ∧ Row w 9 g (ts.map encStr)
theorem Row.txW {w : World} {g : Nat} {ts : List Nm} {n : Nat} (h : Row w 9 g (ts.map encStr)) (hn : n = ts.length) (hm : ts.length ≤ maxLen) : TxR w (.slice (some ⟨g, 0, none⟩) n n) ts := by
  subst hn
  exact ⟨g, rfl, h⟩
/-- A closure that is told of these, one by one; it turns one block, and later rows of slices of bytes. -/
structure TellT (f : FuncId) (caps : Array Value) (gc B : Nat) (T : List (List Int × List Nm)) (I : Nat → World → Prop) : Prop where
  call : ∀ (xs : Array Value) (w : World), (callFunc f xs).run Tryz.prog w = .ok (.enter f xs) w
  stay : ∀ i w w', I i w → Below w.heap.size w w' → I i w'
  step : ∀ (i : Nat) (sc : List Int) (ts : List Nm) (w : World) (A : Option Addr) (n c : Nat) (tv : Value), T[i]? = some (sc, ts) → I i w → BsU w A n sc → TxR w tv ts →
    Calls Tryz.prog f (#[.slice A n c, tv] ++ caps) w fun e w' => e = .returned (.tuple #[]) ∧ I (i + 1) w' ∧ BuT gc B w w'
/-- The region that tells of a score: Put64, the literal, the closure's call. -/
def JTt (w0 : World) (gc B : Nat) (I : World → Prop) (xs : List Int) (m : Nm) (bs : List Bool) (vs : List Value) (w : World) : Prop :=
  (bs.getD 2 false = false → Below w0.heap.size w0 w) ∧ (bs.getD 0 false = true → bs.getD 2 false = false → ∃ A n c, vs.getD 0 undef = .slice A n c ∧ BsU w A n xs) ∧
  (bs.getD 1 false = true → bs.getD 2 false = false → ∃ g, vs.getD 1 undef = .slice (some ⟨g, 0, none⟩) 1 1 ∧ Row w 9 g [encStr m]) ∧ (bs.getD 2 false = true → I w ∧ BuT gc B w0 w)
theorem JTt.start (w : World) (gc B : Nat) (I : World → Prop) (xs : List Int) (m : Nm) (vs : List Value) : JTt w gc B I xs m [false, false, false] vs w.drew :=
  ⟨fun _ => (Below.refl _ _).drew, fun h => absurd h (by decide), fun h => absurd h (by decide), fun h => absurd h (by decide)⟩
def STt (f : FuncId) (caps : Array Value) (gA : Nat) (a : Sc) (opn : Nat) (v : Value) : Prop :=
  match opn with
  | 0 => v = .func (.func f) #[] caps
  | 1 => v = .pointer (some ⟨gA, 1, none⟩)
  | 2 => v = .int .i64 a.s
  | 3 => v = .int .u64 (IntKind.u64.wrap a.s)
  | 5 => v = .pointer (some ⟨gA, 0, none⟩)
  | 6 => v = encStr a.m
  | _ => True

set_option maxRecDepth 100000 in
set_option maxHeartbeats 4000000 in
theorem eachT_any (w : World) (x : Vl) (vp vl vs : Value) (B gc : Nat) (h : VlM w B x vp vl vs) (hB : B ≤ gc) (hgw : gc < w.heap.size) (few : x.own.Few) (f : FuncId) (caps : Array Value) (I : Nat → World → Prop) (HT : TellT f caps gc B x.own.tells I) (h0 : I 0 w) :
    Calls Tryz.prog 48 #[vlV x vp vl vs, .func (.func f) #[] caps] w fun e w' => e = .returned (.tuple #[]) ∧ I x.own.tells.length w' ∧ BuT gc B w w' := by
  have hsz := szVl x vp vl vs
  have HO := fun (w1 : World) (hb : Below w.heap.size w w1) => own_ex w1 x vp vl vs B (h.below (hb.mono (Nat.le_trans hB (Nat.le_of_lt hgw)))) (Nat.le_trans hB (Nat.le_trans (Nat.le_of_lt hgw) hb.size))
  obtain ⟨ip, hip, hiz, his, hib⟩ := wordI
  generalize x.own = y at *
  have f1 : (y.ps.length : Int) ≤ 220 := by have := few.p; omega
  have f2 : (y.ls.length : Int) ≤ 220 := by have := few.l; omega
  have f3 : (y.ss.length : Int) ≤ 220 := by have := few.s; omega
  have hcok1 : ∀ a : Nm, cellsOk 1 [encStr a] [[encStr a]] := fun a => ⟨rfl, rfl, trivial⟩
  have hcok2 : ∀ a b : Nm, cellsOk 1 [encStr a, encStr b] [[encStr a], [encStr b]] := fun a b => ⟨rfl, rfl, rfl, rfl, trivial⟩
  have hoP : ∀ {a : Pr}, ∀ u ∈ a.cells, u.oneCell' = true := by intro a; simp [Value.oneCell', encStr]
  have hoS : ∀ {a : Sc}, ∀ u ∈ a.cells, u.oneCell' = true := by intro a; simp [Value.oneCell', encStr]
  replace HO := hide HO
  replace HT := hide HT
  clear few
  by_cases k1 : y.k = 1
  · have e1 : decide (y.k = 1) = true := decide_eq_true k1
    have f1 : (y.k == 1) = true := by simp [k1]
    have hT0 : y.tells[0]? = some ([], [y.t]) := by unfold Vl.tells; rw [if_pos k1]; rfl
    replace k1 := hide k1
    replace hT0 := hide hT0
    go_enter Tryz.func48, Tryz.ntmps48
    go_wp2_with (first
      | (with_reducible refine wl_box (o := ⟨some 2, _, _, _, _, _⟩) rfl 26 (.tmp 0) _ (vlC x vp vl vs) rfl rfl rfl ?_; intro g1 w1 r1 p1 l1 b1)
      | (with_reducible refine wl_load_row (o := ⟨some 11, _, _, _, _, _⟩) rfl 26 (.tmp 2) g1 26 (vlC x vp vl vs) _ rfl rfl r1 Tryz.underlying26 rfl hsz ?_))
    refine (HO.out w1 b1).mono ?_
    rintro e w2 ⟨vp', vl', vs', rfl, hy, b2⟩
    obtain ⟨A2, C2, rfl⟩ := hy.p.sl
    obtain ⟨A3, C3, rfl⟩ := hy.l.sl
    obtain ⟨A4, C4, rfl⟩ := hy.s.sl
    have hone := hy.one
    have B2 := b1.trans (b2.mono b1.size)
    clear r1 p1 l1 b2 HO h
    go_wp2_with (first
      | ((with_reducible refine wl_alloc (o := ⟨some 4, _, _, _, _, _⟩) rfl 26 _ [.int .i64 0, encStr [], nilS, nilS, nilS] rfl zeroVl rfl ?_); intro g4 w3 r3 p3 l3 b3)
      | ((with_reducible refine wl_store_row rfl 26 (.tmp 4) (.tmp 12) g4 26 _ (vlC y (.slice A2 y.ps.length C2) (.slice A3 y.ls.length C3) (.slice A4 y.ss.length C4)) rfl rfl rfl r3 (by kernel_rfl) rfl hone ?_); intro w4 r4 o4; have b4 := b3.trans ((o4.below p3).mono (Nat.le_refl _)); have B4 := B2.trans (b4.mono B2.size); have dd0 := r4.cell (j := 0) rfl; have dd1 := r4.cell (j := 1) rfl; have hg4 : g4 ≠ gc := (by have := B2.size; omega); have cc2 := r4.cell (j := 2) rfl)
      | ((with_reducible refine wl_buildN (o := ⟨some 19, _, _, _, _, _⟩) rfl 23 1 [(0, .tmp 18)] rfl 9 ip (.string ByteArray.empty) 1 [encStr y.t] [[encStr y.t]] Tryz.underlying23 hip hiz rfl his (by decide) (by decide) (by decide) rfl rfl (hcok1 _) ?_); intro g8 w8 r8 p8 l8 b8; have B8 := B4.trans (b8.mono B4.size); have hI8 := HT.out.stay _ _ _ h0 B8; have sl8 := Row.txW (ts := [y.t]) (n := 1) r8 rfl (by simp [maxLen]); have r48 := r4.later b8)
      | ((with_reducible refine wl_callF2 (o := ⟨some 20, _, _, _, _, _⟩) rfl f (.tmp 16) (.const (.slice none 0 0)) (.tmp 19) _ _ (.slice none 0 0) (.slice (some ⟨g8, 0, none⟩) 1 1) caps rfl rfl rfl rfl HT.out.call (HT.out.step 0 [] [y.t] w8 none 0 0 _ hT0.out hI8 (BsU.nil _) sl8) ?_); rintro _ w5 ⟨rfl, I5, hb9⟩; refine ⟨_, rfl, ?_⟩; have r5 := r48.buT hb9 hg4 (by decide); have U5 := (BuT.of B8 gc B).trans hb9; have cc2 := r5.cell (j := 2) rfl))
    replace hy := (hy.below (b4.mono (Nat.le_trans hB (Nat.le_trans (Nat.le_of_lt hgw) B2.size)))).below (b8.mono (Nat.le_trans hB (Nat.le_trans (Nat.le_of_lt hgw) B4.size)))
    replace hy := hy.below (hb9.below hB (Nat.le_trans hB (Nat.le_trans (Nat.le_of_lt hgw) B8.size)))
    clear dd0 dd1 r3 r4 r48 r8 hb9 hI8 sl8 h0 b8 B8 hT0 e1 f1
    have hs0 : (if y.k = 1 then [(([] : List Int), [y.t])] else []).length = 1 := by rw [if_pos k1.out]; rfl
    replace hs0 := hide hs0
    have hwb : B ≤ w5.heap.size := Nat.le_trans hB (Nat.le_trans (Nat.le_of_lt hgw) U5.size)
    go_wp2_with fail
    go_loopw [24] (fun iv wr => ∃ i : Nat, i ≤ y.ps.length ∧ iv = .int .i64 (i : Int) ∧ I (1 + i) wr ∧ Row wr 26 g4 (vlC y (.slice A2 y.ps.length C2) (.slice A3 y.ls.length C3) (.slice A4 y.ss.length C4)) ∧ BuT gc B w5 wr) (fun iv _ => y.ps.length - (intOf iv).toNat)
    case atStart => exact ⟨0, by omega, rfl, I5, r5, BuT.refl _ _ _⟩
    case round =>
      clear I5 r5 cc2
      obtain ⟨i, hi, rfl, hI, r4, UW⟩ := hrel
      have hpB := (hy.p.below (UW.below hB hwb))
      have hgr := UW.size
      by_cases hlt : i < y.ps.length
      · have hltI : (i : Int) < (y.ps.length : Int) := by omega
        obtain ⟨a, ha⟩ : ∃ a, y.ps[i]? = some a := ⟨_, List.getElem?_eq_getElem hlt⟩
        have hTi := hide (tells_p hs0.out ha)
        obtain ⟨x1, ga, oa, rfl, hga, hca⟩ := hpB.at ha
        have hsz := szPr a
        replace hI := hide hI
        have hlt9 := hide hlt
        clear ha x1 hga hpB
        go_wp2_with (first
          | (with_reducible refine wl_run (o := ⟨some 26, _, _, _, _, _⟩) rfl (.pointer (some ⟨ga, oa + i * 2, none⟩)) (run_idxO 22 (.tmp 22) (.tmp 24) 87 2 ga oa y.ps.length C2 i rfl Tryz.underlying22 Tryz.sizeOf87 rfl rfl hlt) ?_)
          | (with_reducible refine wl_load_cells (o := ⟨some 27, _, _, _, _, _⟩) rfl 87 (.tmp 26) ga (oa + i * 2) a.cells _ rfl rfl hca Tryz.underlying87 rfl hsz ?_)
          | ((with_reducible refine wl_alloc (o := ⟨some 6, _, _, _, _, _⟩) rfl 87 _ [encStr [], encStr []] rfl zeroPr rfl ?_); intro g6 w6 r6 p6 l6 b6)
          | ((with_reducible refine wl_store_row rfl 87 (.tmp 6) (.tmp 27) g6 87 _ a.cells rfl rfl rfl r6 hsz rfl hoP ?_); intro w7 r7 o7; have b7 := b6.trans ((o7.below p6).mono (Nat.le_refl _)); have q0 := r7.cell (j := 0) rfl; have q1 := r7.cell (j := 1) rfl; have r47 := r4.later b7)
          | ((with_reducible refine wl_buildN (o := ⟨some 33, _, _, _, _, _⟩) rfl 23 2 [(0, .tmp 30), (1, .tmp 32)] rfl 9 ip (.string ByteArray.empty) 1 [encStr a.f, encStr a.t] [[encStr a.f], [encStr a.t]] Tryz.underlying23 hip hiz rfl his (by decide) (by decide) (by decide) rfl rfl (hcok2 _ _) ?_); intro g8 w8 r8 p8 l8 b8; have b78 := b7.trans (b8.mono b7.size); have hI8 := HT.out.stay _ _ _ hI.out b78; have sl8 := Row.txW (ts := [a.f, a.t]) (n := 2) r8 rfl (by simp [maxLen]); have r48 := r47.later b8)
          | ((with_reducible refine wl_callF2 (o := ⟨some 34, _, _, _, _, _⟩) rfl f (.tmp 28) (.const (.slice none 0 0)) (.tmp 33) _ _ (.slice none 0 0) (.slice (some ⟨g8, 0, none⟩) 2 2) caps rfl rfl rfl rfl HT.out.call (HT.out.step (1 + i) [] [a.f, a.t] w8 none 0 0 _ hTi.out hI8 (BsU.nil _) sl8) ?_); rintro _ w9 ⟨rfl, hI9, hb9⟩; refine ⟨_, rfl, ?_⟩))
        have r49 := r48.buT hb9 hg4 (by decide)
        have U9 := UW.trans ((BuT.of b78 gc B).trans hb9)
        go_roundw
        case rel => exact ⟨i + 1, by have := hlt9.out; omega, by go_num, hI9, r49, U9⟩
        case measure => have := hlt9.out; simp [intOf]; omega
      · obtain rfl : i = y.ps.length := by omega
        have cc3 := r4.cell (j := 3) rfl
        clear hpB
        go_wp2_with fail
        go_loopw [39] (fun iv wr => ∃ i : Nat, i ≤ y.ls.length ∧ iv = .int .i64 (i : Int) ∧ I (1 + y.ps.length + i) wr ∧ Row wr 26 g4 (vlC y (.slice A2 y.ps.length C2) (.slice A3 y.ls.length C3) (.slice A4 y.ss.length C4)) ∧ BuT gc B w5 wr) (fun iv _ => y.ls.length - (intOf iv).toNat)
        case atStart => exact ⟨0, by omega, rfl, hI, r4, UW⟩
        case round =>
          clear hI r4 UW cc3 hgr
          obtain ⟨i, hi, rfl, hI, r4, UW⟩ := hrel
          have hpB := (hy.l.below (UW.below hB hwb))
          have hgr := UW.size
          by_cases hlt : i < y.ls.length
          · have hltI : (i : Int) < (y.ls.length : Int) := by omega
            obtain ⟨a, ha⟩ : ∃ a, y.ls[i]? = some a := ⟨_, List.getElem?_eq_getElem hlt⟩
            have hTi := hide (tells_l hs0.out ha)
            obtain ⟨x1, ga, oa, rfl, hga, hca⟩ := hpB.at ha
            have q0 := hca 0 _ rfl
            rw [Nat.add_zero, Nat.mul_one] at q0
            replace hI := hide hI
            have hlt9 := hide hlt
            clear ha x1 hga hpB hca
            go_wp2_with (first
              | (with_reducible refine wl_run (o := ⟨some 41, _, _, _, _, _⟩) rfl (.pointer (some ⟨ga, oa + i * 1, none⟩)) (run_idxO 23 (.tmp 37) (.tmp 39) 9 1 ga oa y.ls.length C3 i rfl Tryz.underlying23 Tryz.sizeOf9 rfl rfl hlt) ?_)
              | ((with_reducible refine wl_buildN (o := ⟨some 45, _, _, _, _, _⟩) rfl 23 1 [(0, .tmp 44)] rfl 9 ip (.string ByteArray.empty) 1 [encStr a] [[encStr a]] Tryz.underlying23 hip hiz rfl his (by decide) (by decide) (by decide) rfl rfl (hcok1 _) ?_); intro g8 w8 r8 p8 l8 b8; have hI8 := HT.out.stay _ _ _ hI.out b8; have sl8 := Row.txW (ts := [a]) (n := 1) r8 rfl (by simp [maxLen]); have r48 := r4.later b8)
              | ((with_reducible refine wl_callF2 (o := ⟨some 46, _, _, _, _, _⟩) rfl f (.tmp 43) (.const (.slice none 0 0)) (.tmp 45) _ _ (.slice none 0 0) (.slice (some ⟨g8, 0, none⟩) 1 1) caps rfl rfl rfl rfl HT.out.call (HT.out.step (1 + y.ps.length + i) [] [a] w8 none 0 0 _ hTi.out hI8 (BsU.nil _) sl8) ?_); rintro _ w9 ⟨rfl, hI9, hb9⟩; refine ⟨_, rfl, ?_⟩))
            have r49 := r48.buT hb9 hg4 (by decide)
            have U9 := UW.trans ((BuT.of b8 gc B).trans hb9)
            go_roundw
            case rel => exact ⟨i + 1, by have := hlt9.out; omega, by go_num, hI9, r49, U9⟩
            case measure => have := hlt9.out; simp [intOf]; omega
          · obtain rfl : i = y.ls.length := by omega
            have cc4 := r4.cell (j := 4) rfl
            clear hpB
            go_wp2_with fail
            go_loopw [51] (fun iv wr => ∃ i : Nat, i ≤ y.ss.length ∧ iv = .int .i64 (i : Int) ∧ I (1 + y.ps.length + y.ls.length + i) wr ∧ BuT gc B w5 wr) (fun iv _ => y.ss.length - (intOf iv).toNat)
            case atStart => exact ⟨0, by omega, rfl, hI, UW⟩
            case round =>
              clear hI r4 UW cc4 hgr
              obtain ⟨i, hi, rfl, hI, UW⟩ := hrel
              have hpB := (hy.s.below (UW.below hB hwb))
              by_cases hlt : i < y.ss.length
              · have hltI : (i : Int) < (y.ss.length : Int) := by omega
                obtain ⟨a, ha⟩ : ∃ a, y.ss[i]? = some a := ⟨_, List.getElem?_eq_getElem hlt⟩
                have hTi := hide (tells_s hs0.out ha)
                obtain ⟨x1, ga, oa, rfl, hga, hca⟩ := hpB.at ha
                have hsz := szSc a
                have hlt9 := hide hlt
                replace hI := hide hI
                clear ha x1 hga hpB
                go_wp2_with (first
                  | (with_reducible refine wl_run (o := ⟨some 53, _, _, _, _, _⟩) rfl (.pointer (some ⟨ga, oa + i * 2, none⟩)) (run_idxO 24 (.tmp 49) (.tmp 51) 99 2 ga oa y.ss.length C4 i rfl Tryz.underlying24 Tryz.sizeOf99 rfl rfl hlt) ?_)
                  | (with_reducible refine wl_load_cells (o := ⟨some 54, _, _, _, _, _⟩) rfl 99 (.tmp 53) ga (oa + i * 2) a.cells _ rfl rfl hca Tryz.underlying99 rfl hsz ?_)
                  | ((with_reducible refine wl_alloc (o := ⟨some 10, _, _, _, _, _⟩) rfl 99 _ [encStr [], .int .i64 0] rfl zeroSc rfl ?_); intro gA w6 r6 p6 l6 b6)
                  | ((with_reducible refine wl_store_row rfl 99 (.tmp 10) (.tmp 54) gA 99 _ a.cells rfl rfl rfl r6 hsz rfl hoS ?_); intro w7 rA o7; have b7 := b6.trans ((o7.below p6).mono (Nat.le_refl _)); have hI := HT.out.stay _ _ _ hI.out b7))
                rename_i K9 hK9
                obtain ⟨KI, hKI⟩ : ∃ KI, KI = 1 + y.ps.length + y.ls.length + i := ⟨_, rfl⟩
                rw [← hKI] at hI hTi
                refine wp_region_vals [4, 7, 8] (STt f caps gA a) (JTt w7 gc B (I (KI + 1)) (highB (IntKind.u64.wrap a.s) 8) a.m) (by kernel_rfl) (by kernel_rfl) (by kernel_rfl) (by kernel_rfl) (by kernel_rfl) (JTt.start _ _ _ _ _ _ _) ?obs9 ?he9
                case obs9 =>
                  refine ⟨?_, ?_, ?_, ?_, ?_, ?_, ?_, ?_, ?_, trivial⟩
                  · exact .inl ⟨by kernel_rfl, fun L a1 w1 n' h => ⟨_, rfl, run_move (.tmp 1) rfl (h.var n' 1 (by kernel_rfl))⟩⟩
                  · refine .inl ⟨by kernel_rfl, fun L a1 w1 n' h => ⟨.pointer (some ⟨gA, 1, none⟩), rfl, ?_⟩⟩
                    have e0 : a1.eval (.tmp 10) = _ := h.var n' 10 (by kernel_rfl)
                    unfold execOp
                    simp only [e0]
                    go_simp
                  · exact .inl ⟨by kernel_rfl, fun L a1 w1 n' h => ⟨_, rfl, run_load1 3 (.tmp 56) gA 1 _ rfl Tryz.isAgg3 (h.dep n' 1 56 (by kernel_rfl) rfl) ((rA.later (h.inv.1 ((bits_at rfl).trans (n'.later (by kernel_rfl))))).cell rfl)⟩⟩
                  · refine .inl ⟨by kernel_rfl, fun L a1 w1 n' h => ⟨.int .u64 (IntKind.u64.wrap a.s), rfl, ?_⟩⟩
                    have e0 : a1.eval (.tmp 57) = _ := h.dep n' 2 57 (by kernel_rfl) rfl
                    unfold execOp
                    simp only [e0]
                    go_simp
                  · refine .inr fun L a1 w1 n' h K hK => ?_
                    have no8 : L.getD 8 false = false := n'.later (by kernel_rfl)
                    have no4 : L.getD 4 false = false := n'.not_yet
                    have b9 := h.inv.1 ((bits_at rfl).trans no8)
                    have y1 : a1.eval (.tmp 58) = .int .u64 (IntKind.u64.wrap a.s) := h.dep n' 3 58 (by kernel_rfl) rfl
                    have h7 := h.inv.2.2.1
                    refine st_call 103 _ _ #[.slice none 0 0, .int .u64 (IntKind.u64.wrap a.s)] rfl Tryz.call103 ?_ (put64_U none 0 0 [] (IntKind.u64.wrap a.s) w1 Bs.nil_ (by decide) (wrap_u64 a.s).1 (wrap_u64 a.s).2) ?_
                    · simp only [List.map_toArray, List.map_cons, List.map_nil, y1]; rfl
                    · rintro e w3 ⟨A1, n1, c1, rfl, hb, b3⟩
                      exact ⟨_, rfl, hK _ w3 trivial ⟨fun _ => b9.trans (b3.mono b9.size), fun _ _ => ⟨A1, n1, c1, rfl, hb⟩, fun h1 h2 => let ⟨g, e, r⟩ := h7 h1 h2; ⟨g, e, r.later b3⟩, fun h0 => absurd (no8.symm.trans h0) (by decide)⟩⟩
                  · refine .inl ⟨by kernel_rfl, fun L a1 w1 n' h => ⟨.pointer (some ⟨gA, 0, none⟩), rfl, ?_⟩⟩
                    have e0 : a1.eval (.tmp 10) = _ := h.var n' 10 (by kernel_rfl)
                    unfold execOp
                    simp only [e0]
                    go_simp
                  · exact .inl ⟨by kernel_rfl, fun L a1 w1 n' h => ⟨_, rfl, run_load1 9 (.tmp 60) gA 0 _ rfl Tryz.isAgg9 (h.dep n' 5 60 (by kernel_rfl) rfl) ((rA.later (h.inv.1 ((bits_at rfl).trans (n'.later (by kernel_rfl))))).cell rfl)⟩⟩
                  · refine .inr fun L a1 w1 n' h K hK => ?_
                    have no8 : L.getD 8 false = false := n'.later (by kernel_rfl)
                    have b9 := h.inv.1 ((bits_at rfl).trans no8)
                    have y0 : a1.eval (.tmp 61) = encStr a.m := h.dep n' 6 61 (by kernel_rfl) rfl
                    have h4 := h.inv.2.1
                    refine st_buildN 23 1 [(0, .tmp 61)] rfl 9 ip (.string ByteArray.empty) 1 [encStr a.m] [[encStr a.m]] Tryz.underlying23 hip hiz rfl his (by decide) (by decide) (by decide) (by simp only [List.map_cons, List.map_nil, numb]; rw [y0]) rfl (⟨rfl, rfl, trivial⟩) ?_
                    intro g2 w3 r3 p3 l3 b3
                    exact hK _ w3 trivial ⟨fun _ => b9.trans (b3.mono b9.size), fun h1 h2 => let ⟨A, n, c, e, r⟩ := h4 h1 h2; ⟨A, n, c, e, r.later b3⟩, fun _ _ => ⟨g2, rfl, r3⟩, fun h0 => absurd (no8.symm.trans h0) (by decide)⟩
                  · refine .inr fun L a1 w1 n' h K hK => ?_
                    have no8 : L.getD 8 false = false := n'.not_yet
                    have yes4 : L.getD 4 false = true := n'.dep (by kernel_rfl)
                    have yes7 : L.getD 7 false = true := n'.dep (by kernel_rfl)
                    have b9 := h.inv.1 ((bits_at rfl).trans no8)
                    obtain ⟨A1, n1, c1, e1, hb1⟩ := h.inv.2.1 ((bits_at rfl).trans yes4) ((bits_at rfl).trans no8)
                    obtain ⟨g2, e2, r2⟩ := h.inv.2.2.1 ((bits_at rfl).trans yes7) ((bits_at rfl).trans no8)
                    refine st_callF2 f (.tmp 55) (.tmp 59) (.tmp 62) _ _ _ _ caps rfl (h.dep n' 0 55 (by kernel_rfl) rfl) e1 e2 HT.out.call (HT.out.step KI _ [a.m] w1 A1 n1 c1 _ hTi.out (HT.out.stay _ _ _ hI b9) hb1 (Row.txW (ts := [a.m]) r2 rfl (by simp [maxLen]))) ?_
                    rintro e w3 ⟨rfl, hI3, hb3⟩
                    exact ⟨_, rfl, hK _ w3 trivial ⟨fun h0 => absurd (show true = false from h0) (by decide), fun _ h0 => absurd (show true = false from h0) (by decide), fun _ h0 => absurd (show true = false from h0) (by decide), fun _ => ⟨hI3, (BuT.of b9 gc B).trans hb3⟩⟩⟩
                case he9 =>
                  intro V w9 hV hJ
                  obtain ⟨hI9, hb9⟩ := hJ.2.2.2 rfl
                  clear hV hJ
                  simp only [putOps, List.setIfInBounds_toArray, List.set_cons_succ, List.set_cons_zero, Nat.reduceAdd]
                  refine hK9 _ _ ?_
                  have U9 := UW.trans ((BuT.of b7 gc B).trans hb9)
                  go_wp2_with fail
                  go_roundw
                  case rel => exact ⟨i + 1, by have := hlt9.out; omega, by go_num, by rw [hKI] at hI9; exact hI9, U9⟩
                  case measure => have := hlt9.out; simp [intOf]; omega
              · obtain rfl : i = y.ss.length := by omega
                go_wp2_with fail
                go_end0
                exact ⟨rfl, by rw [tells_len hs0.out]; exact hI, U5.trans UW⟩
  · have e1 : decide (y.k = 1) = false := decide_eq_false k1
    have f1 : (y.k == 1) = false := beq_eq_false_iff_ne.2 k1
    replace k1 := hide k1
    go_enter Tryz.func48, Tryz.ntmps48
    go_wp2_with (first
      | (with_reducible refine wl_box (o := ⟨some 2, _, _, _, _, _⟩) rfl 26 (.tmp 0) _ (vlC x vp vl vs) rfl rfl rfl ?_; intro g1 w1 r1 p1 l1 b1)
      | (with_reducible refine wl_load_row (o := ⟨some 11, _, _, _, _, _⟩) rfl 26 (.tmp 2) g1 26 (vlC x vp vl vs) _ rfl rfl r1 Tryz.underlying26 rfl hsz ?_))
    refine (HO.out w1 b1).mono ?_
    rintro e w2 ⟨vp', vl', vs', rfl, hy, b2⟩
    obtain ⟨A2, C2, rfl⟩ := hy.p.sl
    obtain ⟨A3, C3, rfl⟩ := hy.l.sl
    obtain ⟨A4, C4, rfl⟩ := hy.s.sl
    have hone := hy.one
    have B2 := b1.trans (b2.mono b1.size)
    clear r1 p1 l1 b2 HO h
    go_wp2_with (first
      | ((with_reducible refine wl_alloc (o := ⟨some 4, _, _, _, _, _⟩) rfl 26 _ [.int .i64 0, encStr [], nilS, nilS, nilS] rfl zeroVl rfl ?_); intro g4 w3 r3 p3 l3 b3)
      | ((with_reducible refine wl_store_row rfl 26 (.tmp 4) (.tmp 12) g4 26 _ (vlC y (.slice A2 y.ps.length C2) (.slice A3 y.ls.length C3) (.slice A4 y.ss.length C4)) rfl rfl rfl r3 (by kernel_rfl) rfl hone ?_); intro w4 r4 o4; have b4 := b3.trans ((o4.below p3).mono (Nat.le_refl _)); have B4 := B2.trans (b4.mono B2.size); have dd0 := r4.cell (j := 0) rfl; have dd1 := r4.cell (j := 1) rfl; have hg4 : g4 ≠ gc := (by have := B2.size; omega); have cc2 := r4.cell (j := 2) rfl))
    have I5 := HT.out.stay _ _ _ h0 B4
    have U5 := BuT.of B4 gc B
    have r5 := r4
    replace hy := hy.below (b4.mono (Nat.le_trans hB (Nat.le_trans (Nat.le_of_lt hgw) B2.size)))
    clear dd0 dd1 r3 r4 h0 e1 f1
    have hs0 : (if y.k = 1 then [(([] : List Int), [y.t])] else []).length = 0 := by rw [if_neg k1.out]; rfl
    replace hs0 := hide hs0
    have hwb : B ≤ w4.heap.size := Nat.le_trans hB (Nat.le_trans (Nat.le_of_lt hgw) U5.size)
    go_loopw [24] (fun iv wr => ∃ i : Nat, i ≤ y.ps.length ∧ iv = .int .i64 (i : Int) ∧ I (0 + i) wr ∧ Row wr 26 g4 (vlC y (.slice A2 y.ps.length C2) (.slice A3 y.ls.length C3) (.slice A4 y.ss.length C4)) ∧ BuT gc B w4 wr) (fun iv _ => y.ps.length - (intOf iv).toNat)
    case atStart => exact ⟨0, by omega, rfl, I5, r5, BuT.refl _ _ _⟩
    case round =>
      clear I5 r5 cc2
      obtain ⟨i, hi, rfl, hI, r4, UW⟩ := hrel
      have hpB := (hy.p.below (UW.below hB hwb))
      have hgr := UW.size
      by_cases hlt : i < y.ps.length
      · have hltI : (i : Int) < (y.ps.length : Int) := by omega
        obtain ⟨a, ha⟩ : ∃ a, y.ps[i]? = some a := ⟨_, List.getElem?_eq_getElem hlt⟩
        have hTi := hide (tells_p hs0.out ha)
        obtain ⟨x1, ga, oa, rfl, hga, hca⟩ := hpB.at ha
        have hsz := szPr a
        replace hI := hide hI
        have hlt9 := hide hlt
        clear ha x1 hga hpB
        go_wp2_with (first
          | (with_reducible refine wl_run (o := ⟨some 26, _, _, _, _, _⟩) rfl (.pointer (some ⟨ga, oa + i * 2, none⟩)) (run_idxO 22 (.tmp 22) (.tmp 24) 87 2 ga oa y.ps.length C2 i rfl Tryz.underlying22 Tryz.sizeOf87 rfl rfl hlt) ?_)
          | (with_reducible refine wl_load_cells (o := ⟨some 27, _, _, _, _, _⟩) rfl 87 (.tmp 26) ga (oa + i * 2) a.cells _ rfl rfl hca Tryz.underlying87 rfl hsz ?_)
          | ((with_reducible refine wl_alloc (o := ⟨some 6, _, _, _, _, _⟩) rfl 87 _ [encStr [], encStr []] rfl zeroPr rfl ?_); intro g6 w6 r6 p6 l6 b6)
          | ((with_reducible refine wl_store_row rfl 87 (.tmp 6) (.tmp 27) g6 87 _ a.cells rfl rfl rfl r6 hsz rfl hoP ?_); intro w7 r7 o7; have b7 := b6.trans ((o7.below p6).mono (Nat.le_refl _)); have q0 := r7.cell (j := 0) rfl; have q1 := r7.cell (j := 1) rfl; have r47 := r4.later b7)
          | ((with_reducible refine wl_buildN (o := ⟨some 33, _, _, _, _, _⟩) rfl 23 2 [(0, .tmp 30), (1, .tmp 32)] rfl 9 ip (.string ByteArray.empty) 1 [encStr a.f, encStr a.t] [[encStr a.f], [encStr a.t]] Tryz.underlying23 hip hiz rfl his (by decide) (by decide) (by decide) rfl rfl (hcok2 _ _) ?_); intro g8 w8 r8 p8 l8 b8; have b78 := b7.trans (b8.mono b7.size); have hI8 := HT.out.stay _ _ _ hI.out b78; have sl8 := Row.txW (ts := [a.f, a.t]) (n := 2) r8 rfl (by simp [maxLen]); have r48 := r47.later b8)
          | ((with_reducible refine wl_callF2 (o := ⟨some 34, _, _, _, _, _⟩) rfl f (.tmp 28) (.const (.slice none 0 0)) (.tmp 33) _ _ (.slice none 0 0) (.slice (some ⟨g8, 0, none⟩) 2 2) caps rfl rfl rfl rfl HT.out.call (HT.out.step (0 + i) [] [a.f, a.t] w8 none 0 0 _ hTi.out hI8 (BsU.nil _) sl8) ?_); rintro _ w9 ⟨rfl, hI9, hb9⟩; refine ⟨_, rfl, ?_⟩))
        have r49 := r48.buT hb9 hg4 (by decide)
        have U9 := UW.trans ((BuT.of b78 gc B).trans hb9)
        go_roundw
        case rel => exact ⟨i + 1, by have := hlt9.out; omega, by go_num, hI9, r49, U9⟩
        case measure => have := hlt9.out; simp [intOf]; omega
      · obtain rfl : i = y.ps.length := by omega
        have cc3 := r4.cell (j := 3) rfl
        clear hpB
        go_wp2_with fail
        go_loopw [39] (fun iv wr => ∃ i : Nat, i ≤ y.ls.length ∧ iv = .int .i64 (i : Int) ∧ I (0 + y.ps.length + i) wr ∧ Row wr 26 g4 (vlC y (.slice A2 y.ps.length C2) (.slice A3 y.ls.length C3) (.slice A4 y.ss.length C4)) ∧ BuT gc B w4 wr) (fun iv _ => y.ls.length - (intOf iv).toNat)
        case atStart => exact ⟨0, by omega, rfl, hI, r4, UW⟩
        case round =>
          clear hI r4 UW cc3 hgr
          obtain ⟨i, hi, rfl, hI, r4, UW⟩ := hrel
          have hpB := (hy.l.below (UW.below hB hwb))
          have hgr := UW.size
          by_cases hlt : i < y.ls.length
          · have hltI : (i : Int) < (y.ls.length : Int) := by omega
            obtain ⟨a, ha⟩ : ∃ a, y.ls[i]? = some a := ⟨_, List.getElem?_eq_getElem hlt⟩
            have hTi := hide (tells_l hs0.out ha)
            obtain ⟨x1, ga, oa, rfl, hga, hca⟩ := hpB.at ha
            have q0 := hca 0 _ rfl
            rw [Nat.add_zero, Nat.mul_one] at q0
            replace hI := hide hI
            have hlt9 := hide hlt
            clear ha x1 hga hpB hca
            go_wp2_with (first
              | (with_reducible refine wl_run (o := ⟨some 41, _, _, _, _, _⟩) rfl (.pointer (some ⟨ga, oa + i * 1, none⟩)) (run_idxO 23 (.tmp 37) (.tmp 39) 9 1 ga oa y.ls.length C3 i rfl Tryz.underlying23 Tryz.sizeOf9 rfl rfl hlt) ?_)
              | ((with_reducible refine wl_buildN (o := ⟨some 45, _, _, _, _, _⟩) rfl 23 1 [(0, .tmp 44)] rfl 9 ip (.string ByteArray.empty) 1 [encStr a] [[encStr a]] Tryz.underlying23 hip hiz rfl his (by decide) (by decide) (by decide) rfl rfl (hcok1 _) ?_); intro g8 w8 r8 p8 l8 b8; have hI8 := HT.out.stay _ _ _ hI.out b8; have sl8 := Row.txW (ts := [a]) (n := 1) r8 rfl (by simp [maxLen]); have r48 := r4.later b8)
              | ((with_reducible refine wl_callF2 (o := ⟨some 46, _, _, _, _, _⟩) rfl f (.tmp 43) (.const (.slice none 0 0)) (.tmp 45) _ _ (.slice none 0 0) (.slice (some ⟨g8, 0, none⟩) 1 1) caps rfl rfl rfl rfl HT.out.call (HT.out.step (0 + y.ps.length + i) [] [a] w8 none 0 0 _ hTi.out hI8 (BsU.nil _) sl8) ?_); rintro _ w9 ⟨rfl, hI9, hb9⟩; refine ⟨_, rfl, ?_⟩))
            have r49 := r48.buT hb9 hg4 (by decide)
            have U9 := UW.trans ((BuT.of b8 gc B).trans hb9)
            go_roundw
            case rel => exact ⟨i + 1, by have := hlt9.out; omega, by go_num, hI9, r49, U9⟩
            case measure => have := hlt9.out; simp [intOf]; omega
          · obtain rfl : i = y.ls.length := by omega
            have cc4 := r4.cell (j := 4) rfl
            clear hpB
            go_wp2_with fail
            go_loopw [51] (fun iv wr => ∃ i : Nat, i ≤ y.ss.length ∧ iv = .int .i64 (i : Int) ∧ I (0 + y.ps.length + y.ls.length + i) wr ∧ BuT gc B w4 wr) (fun iv _ => y.ss.length - (intOf iv).toNat)
            case atStart => exact ⟨0, by omega, rfl, hI, UW⟩
            case round =>
              clear hI r4 UW cc4 hgr
              obtain ⟨i, hi, rfl, hI, UW⟩ := hrel
              have hpB := (hy.s.below (UW.below hB hwb))
              by_cases hlt : i < y.ss.length
              · have hltI : (i : Int) < (y.ss.length : Int) := by omega
                obtain ⟨a, ha⟩ : ∃ a, y.ss[i]? = some a := ⟨_, List.getElem?_eq_getElem hlt⟩
                have hTi := hide (tells_s hs0.out ha)
                obtain ⟨x1, ga, oa, rfl, hga, hca⟩ := hpB.at ha
                have hsz := szSc a
                have hlt9 := hide hlt
                replace hI := hide hI
                clear ha x1 hga hpB
                go_wp2_with (first
                  | (with_reducible refine wl_run (o := ⟨some 53, _, _, _, _, _⟩) rfl (.pointer (some ⟨ga, oa + i * 2, none⟩)) (run_idxO 24 (.tmp 49) (.tmp 51) 99 2 ga oa y.ss.length C4 i rfl Tryz.underlying24 Tryz.sizeOf99 rfl rfl hlt) ?_)
                  | (with_reducible refine wl_load_cells (o := ⟨some 54, _, _, _, _, _⟩) rfl 99 (.tmp 53) ga (oa + i * 2) a.cells _ rfl rfl hca Tryz.underlying99 rfl hsz ?_)
                  | ((with_reducible refine wl_alloc (o := ⟨some 10, _, _, _, _, _⟩) rfl 99 _ [encStr [], .int .i64 0] rfl zeroSc rfl ?_); intro gA w6 r6 p6 l6 b6)
                  | ((with_reducible refine wl_store_row rfl 99 (.tmp 10) (.tmp 54) gA 99 _ a.cells rfl rfl rfl r6 hsz rfl hoS ?_); intro w7 rA o7; have b7 := b6.trans ((o7.below p6).mono (Nat.le_refl _)); have hI := HT.out.stay _ _ _ hI.out b7))
                rename_i K9 hK9
                obtain ⟨KI, hKI⟩ : ∃ KI, KI = 0 + y.ps.length + y.ls.length + i := ⟨_, rfl⟩
                rw [← hKI] at hI hTi
                refine wp_region_vals [4, 7, 8] (STt f caps gA a) (JTt w7 gc B (I (KI + 1)) (highB (IntKind.u64.wrap a.s) 8) a.m) (by kernel_rfl) (by kernel_rfl) (by kernel_rfl) (by kernel_rfl) (by kernel_rfl) (JTt.start _ _ _ _ _ _ _) ?obs9 ?he9
                case obs9 =>
                  refine ⟨?_, ?_, ?_, ?_, ?_, ?_, ?_, ?_, ?_, trivial⟩
                  · exact .inl ⟨by kernel_rfl, fun L a1 w1 n' h => ⟨_, rfl, run_move (.tmp 1) rfl (h.var n' 1 (by kernel_rfl))⟩⟩
                  · refine .inl ⟨by kernel_rfl, fun L a1 w1 n' h => ⟨.pointer (some ⟨gA, 1, none⟩), rfl, ?_⟩⟩
                    have e0 : a1.eval (.tmp 10) = _ := h.var n' 10 (by kernel_rfl)
                    unfold execOp
                    simp only [e0]
                    go_simp
                  · exact .inl ⟨by kernel_rfl, fun L a1 w1 n' h => ⟨_, rfl, run_load1 3 (.tmp 56) gA 1 _ rfl Tryz.isAgg3 (h.dep n' 1 56 (by kernel_rfl) rfl) ((rA.later (h.inv.1 ((bits_at rfl).trans (n'.later (by kernel_rfl))))).cell rfl)⟩⟩
                  · refine .inl ⟨by kernel_rfl, fun L a1 w1 n' h => ⟨.int .u64 (IntKind.u64.wrap a.s), rfl, ?_⟩⟩
                    have e0 : a1.eval (.tmp 57) = _ := h.dep n' 2 57 (by kernel_rfl) rfl
                    unfold execOp
                    simp only [e0]
                    go_simp
                  · refine .inr fun L a1 w1 n' h K hK => ?_
                    have no8 : L.getD 8 false = false := n'.later (by kernel_rfl)
                    have no4 : L.getD 4 false = false := n'.not_yet
                    have b9 := h.inv.1 ((bits_at rfl).trans no8)
                    have y1 : a1.eval (.tmp 58) = .int .u64 (IntKind.u64.wrap a.s) := h.dep n' 3 58 (by kernel_rfl) rfl
                    have h7 := h.inv.2.2.1
                    refine st_call 103 _ _ #[.slice none 0 0, .int .u64 (IntKind.u64.wrap a.s)] rfl Tryz.call103 ?_ (put64_U none 0 0 [] (IntKind.u64.wrap a.s) w1 Bs.nil_ (by decide) (wrap_u64 a.s).1 (wrap_u64 a.s).2) ?_
                    · simp only [List.map_toArray, List.map_cons, List.map_nil, y1]; rfl
                    · rintro e w3 ⟨A1, n1, c1, rfl, hb, b3⟩
                      exact ⟨_, rfl, hK _ w3 trivial ⟨fun _ => b9.trans (b3.mono b9.size), fun _ _ => ⟨A1, n1, c1, rfl, hb⟩, fun h1 h2 => let ⟨g, e, r⟩ := h7 h1 h2; ⟨g, e, r.later b3⟩, fun h0 => absurd (no8.symm.trans h0) (by decide)⟩⟩
                  · refine .inl ⟨by kernel_rfl, fun L a1 w1 n' h => ⟨.pointer (some ⟨gA, 0, none⟩), rfl, ?_⟩⟩
                    have e0 : a1.eval (.tmp 10) = _ := h.var n' 10 (by kernel_rfl)
                    unfold execOp
                    simp only [e0]
                    go_simp
                  · exact .inl ⟨by kernel_rfl, fun L a1 w1 n' h => ⟨_, rfl, run_load1 9 (.tmp 60) gA 0 _ rfl Tryz.isAgg9 (h.dep n' 5 60 (by kernel_rfl) rfl) ((rA.later (h.inv.1 ((bits_at rfl).trans (n'.later (by kernel_rfl))))).cell rfl)⟩⟩
                  · refine .inr fun L a1 w1 n' h K hK => ?_
                    have no8 : L.getD 8 false = false := n'.later (by kernel_rfl)
                    have b9 := h.inv.1 ((bits_at rfl).trans no8)
                    have y0 : a1.eval (.tmp 61) = encStr a.m := h.dep n' 6 61 (by kernel_rfl) rfl
                    have h4 := h.inv.2.1
                    refine st_buildN 23 1 [(0, .tmp 61)] rfl 9 ip (.string ByteArray.empty) 1 [encStr a.m] [[encStr a.m]] Tryz.underlying23 hip hiz rfl his (by decide) (by decide) (by decide) (by simp only [List.map_cons, List.map_nil, numb]; rw [y0]) rfl (⟨rfl, rfl, trivial⟩) ?_
                    intro g2 w3 r3 p3 l3 b3
                    exact hK _ w3 trivial ⟨fun _ => b9.trans (b3.mono b9.size), fun h1 h2 => let ⟨A, n, c, e, r⟩ := h4 h1 h2; ⟨A, n, c, e, r.later b3⟩, fun _ _ => ⟨g2, rfl, r3⟩, fun h0 => absurd (no8.symm.trans h0) (by decide)⟩
                  · refine .inr fun L a1 w1 n' h K hK => ?_
                    have no8 : L.getD 8 false = false := n'.not_yet
                    have yes4 : L.getD 4 false = true := n'.dep (by kernel_rfl)
                    have yes7 : L.getD 7 false = true := n'.dep (by kernel_rfl)
                    have b9 := h.inv.1 ((bits_at rfl).trans no8)
                    obtain ⟨A1, n1, c1, e1, hb1⟩ := h.inv.2.1 ((bits_at rfl).trans yes4) ((bits_at rfl).trans no8)
                    obtain ⟨g2, e2, r2⟩ := h.inv.2.2.1 ((bits_at rfl).trans yes7) ((bits_at rfl).trans no8)
                    refine st_callF2 f (.tmp 55) (.tmp 59) (.tmp 62) _ _ _ _ caps rfl (h.dep n' 0 55 (by kernel_rfl) rfl) e1 e2 HT.out.call (HT.out.step KI _ [a.m] w1 A1 n1 c1 _ hTi.out (HT.out.stay _ _ _ hI b9) hb1 (Row.txW (ts := [a.m]) r2 rfl (by simp [maxLen]))) ?_
                    rintro e w3 ⟨rfl, hI3, hb3⟩
                    exact ⟨_, rfl, hK _ w3 trivial ⟨fun h0 => absurd (show true = false from h0) (by decide), fun _ h0 => absurd (show true = false from h0) (by decide), fun _ h0 => absurd (show true = false from h0) (by decide), fun _ => ⟨hI3, (BuT.of b9 gc B).trans hb3⟩⟩⟩
                case he9 =>
                  intro V w9 hV hJ
                  obtain ⟨hI9, hb9⟩ := hJ.2.2.2 rfl
                  clear hV hJ
                  simp only [putOps, List.setIfInBounds_toArray, List.set_cons_succ, List.set_cons_zero, Nat.reduceAdd]
                  refine hK9 _ _ ?_
                  have U9 := UW.trans ((BuT.of b7 gc B).trans hb9)
                  go_wp2_with fail
                  go_roundw
                  case rel => exact ⟨i + 1, by have := hlt9.out; omega, by go_num, by rw [hKI] at hI9; exact hI9, U9⟩
                  case measure => have := hlt9.out; simp [intOf]; omega
              · obtain rfl : i = y.ss.length := by omega
                go_wp2_with fail
                go_end0
                exact ⟨rfl, by rw [tells_len hs0.out]; exact hI, U5.trans UW⟩
end Go.Proofs.YtpbkejmffddelaaGreat

/-
  The parts of an entry's bytes: a list of slices of bytes behind a variable; the closures that put. Own work.
-/
namespace Go.Proofs.YtpbkejmffddelaaGreat
open Go.RowKit Go.Shelf
theorem BsU.buT {gc B T n : Nat} {A : Option Addr} {xs : List Int} {vs : List Value} {w w' : World} (h : BsU w A n xs) (hb : BuT gc B w w') (r : Row w T gc vs) (hT : T ≠ 5) : BsU w' A n xs := by
  have key : ∀ p, A = some p → w'.heap[p.block]? = w.heap[p.block]? := fun p hp => by
    obtain ⟨cs, fr, e⟩ := h.2 p hp
    refine hb.block _ (Array.getElem?_eq_some_iff.1 e).1 (fun hpg => ?_) (.inr fun cs' fr' e' => ?_)
    · have := (show w.heap[gc]? = _ from r).symm.trans (hpg ▸ e)
      simp at this
      exact hT this.2.1
    · have := e.symm.trans e'
      simp only [Option.some.injEq, Obj.cells.injEq] at this
      exact absurd this.2.1 (by decide)
  refine ⟨⟨h.1.1, fun h0 => ?_⟩, fun p hp => let ⟨cs, fr, e⟩ := h.2 p hp; ⟨cs, fr, (key p hp).trans e⟩⟩
  obtain ⟨b, o, e, hlt, hc⟩ := h.1.2 h0
  refine ⟨b, o, e, Nat.lt_of_lt_of_le hlt hb.size, fun j hj => ?_⟩
  rw [← hc j hj]
  have k := key _ e
  exact World.cell?_of_block k
/-- Slices of bytes. -/
def SlsU (w : World) : List Value → List (List Int) → Prop
  | [], [] => True
  | v :: r, y :: s => (∃ A n c, v = .slice A n c ∧ BsU w A n y) ∧ SlsU w r s
  | _, _ => False
theorem SlsU.map {w w' : World} (hk : ∀ A n y, BsU w A n y → BsU w' A n y) : ∀ {a : List Value} {x : List (List Int)}, SlsU w a x → SlsU w' a x
  | [], [], _ => trivial
  | v :: r, y :: s, ⟨⟨A, n, c, e, h⟩, t⟩ => ⟨⟨A, n, c, e, hk _ _ _ h⟩, SlsU.map hk t⟩
theorem SlsU.app {w : World} {b : List Value} {y : List (List Int)} (hb : SlsU w b y) : ∀ {a : List Value} {x : List (List Int)}, SlsU w a x → SlsU w (a ++ b) (x ++ y)
  | [], [], _ => hb
  | v :: r, z :: s, ⟨h, t⟩ => ⟨h, SlsU.app hb t⟩
theorem SlsU.len {w : World} : ∀ {a : List Value} {x : List (List Int)}, SlsU w a x → a.length = x.length
  | [], [], _ => rfl
  | v :: r, z :: s, ⟨h, t⟩ => by simp [SlsU.len t]
theorem SlsU.one {w : World} : ∀ {a : List Value} {x : List (List Int)}, SlsU w a x → ∀ u ∈ a, u.oneCell' = true
  | [], [], _ => by intro u hu; cases hu
  | v :: r, z :: s, ⟨⟨A, n, c, e, h⟩, t⟩ => by
    intro u hu
    rcases List.mem_cons.1 hu with rfl | hu
    · rw [e]; rfl
    · exact SlsU.one t u hu
theorem SlsU.at {w : World} : ∀ {a : List Value} {x : List (List Int)}, SlsU w a x → ∀ j, j < x.length → ∃ A n c, a[j]? = some (.slice A n c) ∧ BsU w A n (x.getD j [])
  | [], [], _ => by intro j hj; simp at hj
  | v :: r, z :: s, ⟨⟨A, n, c, e, h⟩, t⟩ => by
    intro j hj
    match j with
    | 0 => exact ⟨A, n, c, by rw [e]; rfl, h⟩
    | k + 1 =>
      obtain ⟨A', n', c', h1, h2⟩ := SlsU.at t k (by simpa using hj)
      exact ⟨A', n', c', by simpa using h1, by simpa using h2⟩
/-- The parts so far. -/
structure Pts (w : World) (B g : Nat) (xss : List (List Int)) : Prop where
  p : ∃ (pv : Value) (vs : List Value), Row w 89 g [pv] ∧ w.ownsRow B TSB 1 pv xss.length vs ∧ SlsU w vs xss
  lo : B ≤ g
theorem Pts.later {w w' : World} {B g : Nat} {xss : List (List Int)} (h : Pts w B g xss) (hb : Below w.heap.size w w') : Pts w' B g xss := by
  obtain ⟨⟨pv, vs, r, o, s⟩, lo⟩ := h
  exact ⟨⟨pv, vs, r.later hb, own_later o hb, s.map fun _ _ _ h => h.later hb⟩, lo⟩
theorem bsI : ∃ i, Tryz.prog.info? 31 = some i ∧ i.zero = some nilS ∧ i.size = 1 ∧ i.bytes = 24 :=
  info_partsV (show (Tryz.prog.info? 31).map (fun i => (i.zero, i.size, i.bytes)) = some (some nilS, 1, 24) by kernel_rfl)
set_option maxRecDepth 100000 in
set_option maxHeartbeats 2000000 in
theorem put1_any (w : World) (B g gs k : Nat) (vs : List Value) (xss yss : List (List Int)) (h : Pts w B g xss) (hs : Row w TSB gs vs) (hy : SlsU w vs yss) (hk : k = yss.length) (hl : xss.length + yss.length ≤ 10000) :
    Calls Tryz.prog 43 #[.slice (some ⟨gs, 0, none⟩) k k, ptr g] w fun e w' => e = .returned (.tuple #[]) ∧ Pts w' B g (xss ++ yss) ∧ BuT g B w w' := by
  obtain ⟨⟨pv, ps, r, o, s⟩, lo⟩ := h
  subst hk
  obtain ⟨ip, hip, hiz, his, hib⟩ := bsI
  have c0 := r.cell (j := 0) rfl
  have hyl := hy.len
  have hm1 : xss.length + yss.length ≤ maxLen := by simp only [maxLen]; omega
  have hm2 : (xss.length + yss.length) * 24 ≤ 140737488355328 := by omega
  have hlen1 : vs.length = yss.length * 1 := by omega
  have hone := hy.one
  have hBw : B ≤ w.heap.size := Nat.le_trans lo (Nat.le_of_lt r.lt)
  have hnews := row_src hs
  replace o := hide o
  go_enter Tryz.func43, Tryz.ntmps43
  go_wp2_with (first
    | ((at_builtin; with_reducible refine wl_append_at (o := ⟨some 5, _, _, _, _, _⟩) rfl (.tmp 3) (.tmp 4) 89 rfl B TSB ip nilS 1 24 Tryz.underlying89 hip hiz his hib rfl (by decide) pv xss.length ps rfl o.out ⟨gs, 0, none⟩ yss.length yss.length vs rfl hlen1 hnews hone hm1 hm2 hBw ?_); intro v4 w4 own4 hg4 hl4; have r4 := r.grownS o.out (by decide) hg4; have onev := own_one own4)
    | ((with_reducible refine wl_store rfl 89 (.tmp 1) (.tmp 5) g 0 89 [pv] v4 rfl (by kernel_rfl) rfl rfl r4 (by simp) onev ?_); intro w5 r5 o5; replace r5 : Row w5 89 g [v4] := r5))
  go_end0
  have u4 : BuT g B w w4 := BuT.grown o.out hg4
  have u5 : BuT g B w4 w5 := BuT.but (But.only o5)
  have s4 : SlsU w4 ps xss := s.map fun _ _ _ hb => hb.buT u4 r (by decide)
  have y4 : SlsU w4 vs yss := hy.map fun _ _ _ hb => hb.buT u4 r (by decide)
  refine ⟨rfl, ⟨⟨v4, ps ++ vs, r5, ?_, (y4.app s4).map fun _ _ _ hb => hb.buT u5 r4 (by decide)⟩, lo⟩, u4.trans u5⟩
  rw [List.length_append]
  exact own_at_but own4 r4 (by decide) (But.only o5)
end Go.Proofs.YtpbkejmffddelaaGreat

/-
  The closure that puts a text. Own work.
-/
namespace Go.Proofs.YtpbkejmffddelaaGreat
open Go.RowKit Go.Shelf
/-- What the few keep until the ks-th, the last, has been. -/
def JP (w0 : World) (E : List Nat) (F : Nat → Value → World → Prop) (ks : Nat) (R : World → Prop) (bs : List Bool) (vs : List Value) (w : World) : Prop :=
  (bs.getD ks false = false → JF w0 E F bs vs w) ∧ (bs.getD ks false = true → R w)
section
variable {P : Program} {l : List Oper} {t0 : Array Value} {ds0 : List Deferred} {Sv : Nat → Value → Prop} {E : List Nat} {F : Nat → Value → World → Prop} {L : Array Bool} {a : Act} {w w0 w' : World} {i s ks : Nat} {o : Oper} {R : World → Prop} {vs' : List Value}
theorem JP.start (vs : List Value) : JP w E F ks R (E.map fun _ => false) vs w.drew := by
  refine ⟨fun _ => JF.start vs, fun h => ?_⟩
  rw [List.getD, List.getElem?_map] at h
  cases hq : E[ks]? <;> rw [hq] at h <;> cases h
theorem JP.down (h : Mid l t0 ds0 Sv E (JP w0 E F ks R) L a w) (no : L.getD s false = false) (hs : E[ks]? = some s) : Mid l t0 ds0 Sv E (JF w0 E F) L a w := by
  have hj := h.inv.1 ((bits_at hs).trans no)
  exact ⟨⟨h.atL.defers, h.atL.size, h.atL.old, trivial, hj, h.atL.spec⟩, hj⟩
theorem JP.cont {K : Act → World → Prop} (hK : ∀ v w', Sv i v → JP w0 E F ks R (E.map fun j => if j = i then true else L.getD j false) (E.map fun j => if j = i then (if o.dst = none then undef else v) else slotOf l j a.tmps) w' → K (a.put o.dst v) w')
    (no : L.getD s false = false) (hs : E[ks]? = some s) (hne : s ≠ i) : ∀ v w', Sv i v → JF w0 E F (E.map fun j => if j = i then true else L.getD j false) (E.map fun j => if j = i then (if o.dst = none then undef else v) else slotOf l j a.tmps) w' → K (a.put o.dst v) w' := by
  intro v w' hS hJ
  refine hK v w' hS ⟨fun _ => hJ, fun h1 => ?_⟩
  simp only [List.getD, List.getElem?_map, hs, Option.map_some, Option.getD_some, if_neg hne] at h1
  have h2 : L.getD s false = true := h1
  rw [no] at h2
  cases h2
theorem JP.done (hs : E[ks]? = some i) (hR : R w') : JP w0 E F ks R (E.map fun j => if j = i then true else L.getD j false) vs' w' := by
  refine ⟨fun h0 => ?_, fun _ => hR⟩
  simp [List.getD, List.getElem?_map, hs] at h0
end
theorem st_callF1 {o : Oper} {a : Act} {w : World} {K : Act → World → Prop} {Q : Exit → Act → World → Prop} (f : FuncId) (x y : Operand) (t : TypeId) (v1 : Value) (caps : Array Value) (ho : o.op = .call { callee := .value x, args := #[y], argTypes := #[t] }) (hx : a.eval x = .func (.func f) #[] caps) (hy : a.eval y = v1)
    (hf : ∀ (xs : Array Value) (w : World), (callFunc f xs).run Tryz.prog w = .ok (.enter f xs) w)
    {R : Ending → World → Prop} (hc : Calls Tryz.prog f (#[v1] ++ caps) w R) (hk : ∀ e w', R e w' → ∃ v, e = .returned v ∧ K (a.put o.dst v) w') : o.wp Tryz.prog a w K Q := by
  unfold Oper.wp execOp
  simp only [ho, resolve, hx, Deferred.ofValue, List.map_toArray, List.map_cons, List.map_nil, hy]
  go_simp
  refine hc.mono fun e w' h => ?_
  obtain ⟨v, rfl, h2⟩ := hk e w' h
  exact h2
theorem wl_callF1 {ops : Array Oper} {rest : List Oper} {o : Oper} {a : Act} {w : World} {Q : Exit → Act → World → Prop} (hgd : o.guard = none) (f : FuncId) (x y : Operand) (t : TypeId) (v1 : Value) (caps : Array Value) (ho : o.op = .call { callee := .value x, args := #[y], argTypes := #[t] }) (hx : a.eval x = .func (.func f) #[] caps) (hy : a.eval y = v1)
    (hf : ∀ (xs : Array Value) (w : World), (callFunc f xs).run Tryz.prog w = .ok (.enter f xs) w)
    {R : Ending → World → Prop} (hc : Calls Tryz.prog f (#[v1] ++ caps) w R) (hk : ∀ e w', R e w' → ∃ v, e = .returned v ∧ wpList Tryz.prog ops Q rest (a.put o.dst v) w') : wpList Tryz.prog ops Q (o :: rest) a w :=
  wpList_plain hgd fun K hK => st_callF1 f x y t v1 caps ho hx hy hf hc fun e w' h => let ⟨v, he, h2⟩ := hk e w' h; ⟨v, he, hK _ _ h2⟩
theorem callE1 : ∀ (xs : Array Value) (w : World), (callFunc 43 xs).run Tryz.prog w = .ok (.enter 43 xs) w := fun xs w => by kernel_rfl
theorem callE2 : ∀ (xs : Array Value) (w : World), (callFunc 44 xs).run Tryz.prog w = .ok (.enter 44 xs) w := fun xs w => by kernel_rfl
theorem callE3 : ∀ (xs : Array Value) (w : World), (callFunc 49 xs).run Tryz.prog w = .ok (.enter 49 xs) w := fun xs w => by kernel_rfl
def UyF (xs : List Int) (v : Value) (w : World) : Prop := ∃ A n c, v = .slice A n c ∧ BsU w A n xs
theorem UyF.later {xs : List Int} {v : Value} {w w' : World} (h : UyF xs v w) (hb : Below w.heap.size w w') : UyF xs v w' := by
  obtain ⟨A, n, c, e, h⟩ := h
  exact ⟨A, n, c, e, h.later hb⟩
def LiF (k : Nat) (yss : List (List Int)) (v : Value) (w : World) : Prop := ∃ g vs, v = .slice (some ⟨g, 0, none⟩) k k ∧ Row w TSB g vs ∧ SlsU w vs yss
theorem LiF.later {k : Nat} {yss : List (List Int)} {v : Value} {w w' : World} (h : LiF k yss v w) (hb : Below w.heap.size w w') : LiF k yss v w' := by
  obtain ⟨g, vs, e, r, s⟩ := h
  exact ⟨g, vs, e, r.later hb, s.map fun _ _ _ h => h.later hb⟩
/-- The put closure. -/
abbrev cPut (g : Nat) : Value := .func (.func 43) #[] #[ptr g]
abbrev TPut : TypeId := 90
def FE2 (t : Nm) (opn : Nat) (v : Value) (w : World) : Prop :=
  match opn with
  | 2 => ByF (nb t) v w
  | 3 => UyF (putT [] t) v w
  | 4 => LiF 1 [putT [] t] v w
  | _ => True
theorem FE2_mono (t : Nm) : ∀ j v w w', FE2 t j v w → Below w.heap.size w w' → FE2 t j v w' := by
  intro j v w w' h hb
  unfold FE2 at h ⊢
  split at h
  · exact h.later hb
  · exact h.later hb
  · exact h.later hb
  · trivial

def SE2 (g g6 : Nat) (t : Nm) (opn : Nat) (v : Value) : Prop :=
  match opn with
  | 0 => v = cPut g
  | 1 => v = encStr t
  | _ => True

set_option maxRecDepth 100000 in
set_option maxHeartbeats 2000000 in
theorem put2_any (w : World) (B g g6 : Nat) (xss : List (List Int)) (t : Nm) (hP : Pts w B g xss) (h6 : Row w TPut g6 [cPut g]) (ht : t.length ≤ 100000) (hl : xss.length + 1 ≤ 10000) :
    Calls Tryz.prog 44 #[encStr t, ptr g6] w fun e w' => e = .returned (.tuple #[]) ∧ Pts w' B g (xss ++ [putT [] t]) ∧ BuT g B w w' := by
  obtain ⟨ip, hip, hiz, his, hib⟩ := bsI
  go_enter Tryz.func44, Tryz.ntmps44
  refine wp_region_vals [2, 3, 4, 5] (SE2 g g6 t) (JP w [2, 3, 4, 5] (FE2 t) 3 (fun wz => Pts wz B g (xss ++ [putT [] t]) ∧ BuT g B w wz)) (by kernel_rfl) (by kernel_rfl) (by kernel_rfl) (by kernel_rfl) (by kernel_rfl) (JP.start _) ?obs2 ?he2
  case obs2 =>
    refine ⟨?_, ?_, ?_, ?_, ?_, ?_, trivial⟩
    · exact .inl ⟨by kernel_rfl, fun L a1 w1 n h => ⟨_, rfl, run_load1 TPut (.tmp 1) g6 0 _ rfl Tryz.isAgg90 (h.var n 1 (by kernel_rfl)) ((h6.later (h.inv.1 ((bits_at rfl).trans (n.later (by kernel_rfl)))).1).cell rfl)⟩⟩
    · exact .inl ⟨by kernel_rfl, fun L a1 w1 n h => ⟨_, rfl, run_move (.tmp 0) rfl (h.var n 0 (by kernel_rfl))⟩⟩
    · refine .inr fun L a1 w1 n h K hK => ?_
      have no : L.getD 5 false = false := n.later (by kernel_rfl)
      have hK := JP.cont hK no rfl (by decide)
      have h := JP.down h no rfl
      have e0 : a1.eval (.tmp 4) = encStr (t) := h.dep n 1 4 (by kernel_rfl) rfl
      refine st_convT 9 31 5 (.tmp 4) (t) rfl e0 Tryz.underlying9 Tryz.underlying31 Tryz.underlying5 ?_
      intro A9 c9 w3 hb9 b9
      exact JF.few (FE2_mono t) h hK 5 rfl _ trivial ⟨A9, _, c9, rfl, hb9⟩ b9
    · refine .inr fun L a1 w1 n h K hK => ?_
      have no : L.getD 5 false = false := n.later (by kernel_rfl)
      have hK := JP.cont hK no rfl (by decide)
      have h := JP.down h no rfl
      obtain ⟨A1, n1, c1, v1, hb1⟩ := JF.get h n 2 5 (by kernel_rfl) (by kernel_rfl) rfl
      have e1 : a1.eval (.tmp 5) = .slice A1 n1 c1 := v1
      refine JF.call (FE2_mono t) h hK 6 rfl 45 _ _ #[nilS, .slice A1 n1 c1] rfl Tryz.call45 ?_ (packPutT_U none A1 0 0 n1 c1 [] t w1 Bs.nil_ hb1 (by decide) ht) ?_
      · simp only [List.map_toArray, List.map_cons, List.map_nil, e1]; rfl
      · rintro e w3 ⟨A9, n9, c9, rfl, hb9, b9⟩
        exact ⟨_, rfl, trivial, ⟨A9, n9, c9, rfl, hb9⟩, b9⟩
    · refine .inr fun L a1 w1 n h K hK => ?_
      have no : L.getD 5 false = false := n.later (by kernel_rfl)
      have hK := JP.cont hK no rfl (by decide)
      have h := JP.down h no rfl
      obtain ⟨A1, n1, c1, v1, hb1⟩ := JF.get h n 3 6 (by kernel_rfl) (by kernel_rfl) rfl
      refine st_build1 89 (.tmp 6) rfl TSB ip nilS (.slice A1 n1 c1) Tryz.underlying89 hip hiz his rfl v1 rfl ?_
      intro g8 w3 r8 p8 l8 b8
      exact JF.few (FE2_mono t) h hK 7 rfl _ trivial ⟨g8, _, rfl, r8, ⟨⟨A1, n1, c1, rfl, hb1.later b8⟩, trivial⟩⟩ b8
    · refine .inr fun L a1 w1 n h0 K hK => ?_
      have no : L.getD 5 false = false := n.not_yet
      have h := JP.down h0 no rfl
      have e3 : a1.eval (.tmp 3) = cPut g := h.dep n 0 3 (by kernel_rfl) rfl
      obtain ⟨gs, vs, e7, r7, s7⟩ := JF.get h n 4 7 (by kernel_rfl) (by kernel_rfl) rfl
      refine st_callF1 43 (.tmp 3) (.tmp 7) _ (.slice (some ⟨gs, 0, none⟩) 1 1) #[ptr g] rfl e3 e7 callE1 (put1_any w1 B g gs 1 vs xss [putT [] t] (hP.later h.inv.1) r7 s7 rfl (by simpa using hl)) ?_
      rintro e w3 ⟨rfl, hP3, u3⟩
      exact ⟨_, rfl, hK _ w3 trivial (JP.done rfl ⟨hP3, (BuT.of h.inv.1 g B).trans u3⟩)⟩
  case he2 =>
    intro V w9 hV hJ
    obtain ⟨hP9, u9⟩ := hJ.2 rfl
    clear hV hJ
    simp only [putOps, List.setIfInBounds_toArray, List.set_cons_succ, List.set_cons_zero, Nat.reduceAdd]
    go_wp2_with fail
    go_end0
    exact ⟨rfl, hP9, u9⟩
end Go.Proofs.YtpbkejmffddelaaGreat

/-
  The closure that each tells: texts and a score put. Own work.
-/
namespace Go.Proofs.YtpbkejmffddelaaGreat
open Go.RowKit Go.Shelf
theorem Row.neT {w : World} {g g' T T' : Nat} {vs vs' : List Value} (h : Row w T g vs) (h2 : Row w T' g' vs') (hT : T ≠ T') : g ≠ g' := by
  rintro rfl
  have := (show w.heap[g]? = _ from h).symm.trans h2
  simp at this
  exact hT this.2
abbrev cText (g6 : Nat) : Value := .func (.func 44) #[] #[ptr g6]
abbrev TText : TypeId := 74
theorem Pts.row {w : World} {B g : Nat} {xss : List (List Int)} (h : Pts w B g xss) : ∃ pv, Row w 89 g [pv] := let ⟨⟨pv, _, r, _⟩, _⟩ := h; ⟨pv, r⟩
set_option maxRecDepth 100000 in
set_option maxHeartbeats 2000000 in
theorem put3_any (w : World) (B g g6 g7 n c : Nat) (A : Option Addr) (sc : List Int) (tv : Value) (xss : List (List Int)) (ts : List Nm) (hP : Pts w B g xss) (h6 : Row w TPut g6 [cPut g]) (h7 : Row w TText g7 [cText g6]) (hsc : BsU w A n sc) (hts : TxR w tv ts) (ht : ∀ t ∈ ts, t.length ≤ 100000) (hl : xss.length + ts.length + 1 ≤ 10000) :
    Calls Tryz.prog 49 #[.slice A n c, tv, ptr g7, ptr g6] w fun e w' => e = .returned (.tuple #[]) ∧ Pts w' B g (xss ++ ts.map (putT []) ++ [sc]) ∧ BuT g B w w' := by
  obtain ⟨gt, rfl, rt⟩ := hts
  obtain ⟨pv, rp⟩ := hP.row
  obtain ⟨ip, hip, hiz, his, hib⟩ := bsI
  have n6 : g6 ≠ g := h6.neT rp (by decide)
  have n7 : g7 ≠ g := h7.neT rp (by decide)
  have nt : gt ≠ g := rt.neT rp (by decide)
  have fI : (ts.length : Int) ≤ 10000 := by omega
  go_enter Tryz.func49, Tryz.ntmps49
  go_wp2_with fail
  go_loopw [10] (fun iv wr => ∃ i : Nat, i ≤ ts.length ∧ iv = .int .i64 (i : Int) ∧ Pts wr B g (xss ++ (ts.take i).map (putT [])) ∧ BuT g B w wr) (fun iv _ => ts.length - (intOf iv).toNat)
  case atStart => exact ⟨0, by omega, rfl, by simpa using hP, BuT.refl _ _ _⟩
  case round =>
    obtain ⟨i, hi, rfl, hPw, UW⟩ := hrel
    have h6w := h6.buT UW n6 (by decide)
    have h7w := h7.buT UW n7 (by decide)
    have rtw := rt.buT UW nt (by decide)
    have k6 := h6w.cell (j := 0) rfl
    have k7 := h7w.cell (j := 0) rfl
    by_cases hlt : i < ts.length
    · have hltI : (i : Int) < (ts.length : Int) := by omega
      obtain ⟨t, hti⟩ : ∃ t, ts[i]? = some t := ⟨_, List.getElem?_eq_getElem hlt⟩
      have q0 := rtw.cell (j := i) (v := encStr t) (by rw [List.getElem?_map, hti]; rfl)
      have htl := hide (ht t (List.mem_of_getElem? hti))
      have hll : (xss ++ (ts.take i).map (putT [])).length + 1 ≤ 10000 := by simp; omega
      have hmore := hide (take_more hti)
      have hlt9 := hide hlt
      replace hll := hide hll
      clear hti k6
      go_wp2_with (first
        | (with_reducible refine wl_run (o := ⟨some 12, _, _, _, _, _⟩) rfl (.pointer (some ⟨gt, 0 + i * 1, none⟩)) (run_idxO 23 (.tmp 8) (.tmp 10) 9 1 gt 0 ts.length ts.length i rfl Tryz.underlying23 Tryz.sizeOf9 rfl rfl hlt) ?_))
      refine (put2_any wr B g g6 _ t hPw h6w htl.out hll.out).mono ?_
      rintro _ w9 ⟨rfl, hP9, u9⟩
      go_wp2_with fail
      go_roundw
      case rel => exact ⟨i + 1, by have := hlt9.out; omega, by go_num, by rw [hmore.out, List.map_append, ← List.append_assoc]; exact hP9, UW.trans u9⟩
      case measure => have := hlt9.out; simp [intOf]; omega
    · obtain rfl : i = ts.length := by omega
      rw [List.take_length] at hPw
      obtain ⟨pw, rpw⟩ := hPw.row
      have hscw := hsc.buT UW rp (by decide)
      have hll : (xss ++ ts.map (putT [])).length + 1 ≤ 10000 := by simp; omega
      replace hll := hide hll
      clear k7
      go_wp2_with (first
        | ((with_reducible refine wl_build1 (o := ⟨some 20, _, _, _, _, _⟩) rfl 89 (.tmp 19) rfl TSB ip nilS (.slice A n c) Tryz.underlying89 hip hiz his rfl rfl rfl ?_); intro g8 w8 r8 p8 l8 b8))
      refine (put1_any w8 B g g8 1 [.slice A n c] _ [sc] (hPw.later b8) r8 ⟨⟨A, n, c, rfl, hscw.later b8⟩, trivial⟩ rfl (by simpa using hll.out)).mono ?_
      rintro _ w9 ⟨rfl, hP9, u9⟩
      go_wp2_with fail
      go_end0
      exact ⟨rfl, hP9, (UW.trans (BuT.of b8 g B)).trans u9⟩
/-- What the closure has put, told of these. -/
def tellB (T : List (List Int × List Nm)) : List (List Int) := T.flatMap fun t => t.2.map (putT []) ++ [t.1]
theorem tellB_more {T : List (List Int × List Nm)} {i : Nat} {t : List Int × List Nm} (h : T[i]? = some t) : tellB (T.take (i + 1)) = tellB (T.take i) ++ (t.2.map (putT []) ++ [t.1]) := by
  rw [tellB, take_more h, List.flatMap_append]; simp [tellB]
theorem tellB_len : ∀ (T : List (List Int × List Nm)), (∀ t ∈ T, t.2.length ≤ 2) → (tellB T).length ≤ 3 * T.length
  | [], _ => by simp [tellB]
  | t :: r, h => by
    have h1 := h t (by simp)
    have := tellB_len r (fun q hq => h q (by simp [hq]))
    show (t.2.map (putT []) ++ [t.1] ++ tellB r).length ≤ _
    simp only [List.length_append, List.length_map, List.length_cons, List.length_nil]
    omega
theorem tells_two {y : Vl} {t : List Int × List Nm} (h : t ∈ y.tells) : t.2.length ≤ 2 := by
  unfold Vl.tells at h
  simp only [List.mem_append, List.mem_map] at h
  rcases h with h | ⟨p, _, e⟩ | ⟨p, _, e⟩ | ⟨p, _, e⟩
  · split at h
    · rw [List.mem_singleton] at h; subst h; simp
    · cases h
  all_goals (subst e; simp)
/-- What stands while an entry's value is told. -/
def ESt (B g g6 g7 : Nat) (xs0 : List (List Int)) (y : Vl) (i : Nat) (w : World) : Prop := Pts w B g (xs0 ++ tellB (y.tells.take i)) ∧ Row w TPut g6 [cPut g] ∧ Row w TText g7 [cText g6]
theorem tellEnc (y : Vl) (B g g6 g7 : Nat) (xs0 : List (List Int)) (hT : lngT y.tells = false) (h0 : xs0.length ≤ 10) (hy : y.tells.length ≤ 1000) :
    TellT 49 #[ptr g7, ptr g6] g B y.tells (ESt B g g6 g7 xs0 y) := by
  refine ⟨callE3, fun i w w' h hb => ⟨h.1.later hb, h.2.1.later hb, h.2.2.later hb⟩, fun i sc ts w A n c tv hi hI hsc hts => ?_⟩
  obtain ⟨hP, h6, h7⟩ := hI
  obtain ⟨pv, rp⟩ := hP.row
  have hm := List.mem_of_getElem? hi
  have h2 : ts.length ≤ 2 := tells_two hm
  have hil := (List.getElem?_eq_some_iff.1 hi).1
  have hlen := tellB_len (y.tells.take i) (fun t ht => tells_two (List.mem_of_mem_take ht))
  rw [List.length_take] at hlen
  have hts2 : ∀ t ∈ ts, t.length ≤ 100000 := fun t ht => by
    have h3 := List.any_eq_false.1 hT (sc, ts) hm
    have := lng_at (by simpa using h3) ht
    omega
  refine (put3_any w B g g6 g7 n c A sc tv _ ts hP h6 h7 hsc hts hts2 (by rw [List.length_append]; omega)).mono ?_
  rintro e w' ⟨rfl, hP9, u9⟩
  refine ⟨rfl, ⟨?_, h6.buT u9 (h6.neT rp (by decide)) (by decide), h7.buT u9 (h7.neT rp (by decide)) (by decide)⟩, u9⟩
  rw [tellB_more hi, ← List.append_assoc]
  simpa [List.append_assoc] using hP9
end Go.Proofs.YtpbkejmffddelaaGreat

/-
  The program's Encode. Own work.
-/
namespace Go.Proofs.YtpbkejmffddelaaGreat
open Go.RowKit Go.Shelf
theorem putT_app (b : List Int) (t : Nm) : putT b t = b ++ putT [] t := by simp [putT, List.append_assoc]
theorem encP_flat : ∀ (l : List Pr) (b : List Int), encP b l = b ++ (tellB (l.map fun p => (([] : List Int), [p.f, p.t]))).flatten
  | [], b => by simp [encP, tellB]
  | p :: r, b => by
    have := encP_flat r (putT (putT b p.f) p.t)
    show encP (putT (putT b p.f) p.t) r = _
    rw [this, putT_app (putT b p.f), putT_app b]
    simp [tellB, List.append_assoc]
theorem encL_flat : ∀ (l : List Nm) (b : List Int), encL b l = b ++ (tellB (l.map fun t => (([] : List Int), [t]))).flatten
  | [], b => by simp [encL, tellB]
  | p :: r, b => by
    have := encL_flat r (putT b p)
    show encL (putT b p) r = _
    rw [this, putT_app b]
    simp [tellB, List.append_assoc]
theorem encS_flat : ∀ (l : List Sc) (b : List Int), encS b l = b ++ (tellB (l.map fun a => (highB (IntKind.u64.wrap a.s) 8, [a.m]))).flatten
  | [], b => by simp [encS, tellB]
  | p :: r, b => by
    have := encS_flat r (putT b p.m ++ highB (IntKind.u64.wrap p.s) 8)
    show encS (putT b p.m ++ highB (IntKind.u64.wrap p.s) 8) r = _
    rw [this, putT_app b]
    simp [tellB, List.append_assoc]
/-- The parts of an entry's bytes. -/
def encX (key : Nm) (x : Vl) (at_ : Int) : List (List Int) := [putT [] key] ++ [highB (max at_ 0) 8, [IntKind.u8.wrap x.k]] ++ (if x.k = 1 then [] else [highB (max ((x.ps.length : Int) + x.ls.length + x.ss.length) 0) 8])
theorem tellB_app (a b : List (List Int × List Nm)) : tellB (a ++ b) = tellB a ++ tellB b := by simp [tellB]
theorem enc_flat {key : Nm} {x : Vl} {at_ : Int} (hx : x = x.own) : (encX key x at_ ++ tellB x.tells).flatten = encB key x at_ := by
  have hE := ownE hx
  unfold Vl.tells encB encX
  by_cases hk : x.k = 1
  · have h1 : x.ps = [] := by have := hE.p; simpa [Vl.own, hk] using this
    have h2 : x.ls = [] := by have := hE.l; simpa [Vl.own, hk] using this
    have h3 : x.ss = [] := by have := hE.s; simpa [Vl.own, hk] using this
    rw [if_pos hk, if_pos hk, if_pos hk, h1, h2, h3, putT_app (encH key at_ x.k)]
    simp [tellB, encH, List.append_assoc]
  · rw [if_neg hk, if_neg hk, if_neg hk, encS_flat, encL_flat, encP_flat, tellB_app, tellB_app, tellB_app]
    simp [encC, encH, tellB, List.append_assoc]
theorem zeroBB : (Tryz.prog.info? 89).map (fun i => i.zero) = some (some nilS) := by kernel_rfl
theorem zeroF1 : (Tryz.prog.info? TPut).map (fun i => i.zero) = some (some .nilFunc) := by kernel_rfl
theorem zeroF2 : (Tryz.prog.info? TText).map (fun i => i.zero) = some (some .nilFunc) := by kernel_rfl
def FN8 (at_ k : Int) (opn : Nat) (v : Value) (w : World) : Prop :=
  match opn with
  | 3 => UyF (highB (max at_ 0) 8) v w
  | 8 => UyF [IntKind.u8.wrap k] v w
  | 9 => LiF 2 [highB (max at_ 0) 8, [IntKind.u8.wrap k]] v w
  | _ => True
theorem FN8_mono (at_ k : Int) : ∀ j v w w', FN8 at_ k j v w → Below w.heap.size w w' → FN8 at_ k j v w' := by
  intro j v w w' h hb
  unfold FN8 at h ⊢
  split at h
  · exact h.later hb
  · exact h.later hb
  · exact h.later hb
  · trivial

def SN8 (g g1 g6 : Nat) (at_ k : Int) (opn : Nat) (v : Value) : Prop :=
  match opn with
  | 0 => v = cPut g
  | 1 => v = .pointer (some ⟨g1, 6, none⟩)
  | 2 => v = .int .i64 at_
  | 4 | 5 => v = .pointer (some ⟨g1, 1, none⟩)
  | 6 => v = .int .i64 k
  | 7 => v = .int .u8 (IntKind.u8.wrap k)
  | _ => True

def FNA (q : Int) (opn : Nat) (v : Value) (w : World) : Prop :=
  match opn with
  | 4 => UyF (highB (max q 0) 8) v w
  | 5 => LiF 1 [highB (max q 0) 8] v w
  | _ => True
theorem FNA_mono (q : Int) : ∀ j v w w', FNA q j v w → Below w.heap.size w w' → FNA q j v w' := by
  intro j v w w' h hb
  unfold FNA at h ⊢
  split at h
  · exact h.later hb
  · exact h.later hb
  · trivial

def SNA (g g1 g6 C2 C3 C4 : Nat) (A2 A3 A4 : Option Addr) (x : Vl) (q : Int) (opn : Nat) (v : Value) : Prop :=
  match opn with
  | 0 => v = cPut g
  | 1 => v = .pointer (some ⟨g1, 1, none⟩)
  | 2 => v = vlV x (.slice A2 x.ps.length C2) (.slice A3 x.ls.length C3) (.slice A4 x.ss.length C4)
  | 3 => v = .int .i64 q
  | _ => True

end Go.Proofs.YtpbkejmffddelaaGreat
