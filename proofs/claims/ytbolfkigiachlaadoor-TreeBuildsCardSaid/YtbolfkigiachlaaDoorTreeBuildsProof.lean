/- Proved: the law TreeBuilds (P12.3) answers true and leaves its argument as it reads before. For every list of lists of bytes; no condition but the tie of the tables of sha and math/bits to the program's text. -/
import Derived.Test.YtbolfkigiachlaaDoorRows
import Derived.Test.YtbolfkigiachlaaDoorCards
import Derived.Test.YtbolfkigiachlaaDoorTie
import Derived.WalkKit
import Derived.ProofKit
import Derived.OpenShut
import Derived.ShutString
import Derived.ChangeOld
import Derived.Below
import Derived.LaidMore
import Derived.Stop.Joined
import Derived.SevenTiedAt
import Derived.Test.YtbolfkigiachlaaDoorGE
import Derived.Test.YtbolfkigiachlaaDoorGA
set_option linter.unusedVariables false
set_option linter.unusedSimpArgs false
/-
  The law TreeRoots: contract. Own work.
-/
namespace Go.Proofs.YtbolfkigiachlaaDoor
open Go.RowKit Tr
/-- Chunks that came in, light: what the calls ask of them. -/
theorem light_ok {css : List (List Int)} (h : lightB css = true) : (∀ xs ∈ css, xs.length ≤ 100000000) ∧ (∀ xs ∈ css, xs.length ≤ 50000000) ∧ css.length ≤ 24 := by
  obtain ⟨h1, h2⟩ := light_len h
  exact ⟨fun xs hx => Nat.le_trans (h2 xs hx) (by decide), fun xs hx => Nat.le_trans (h2 xs hx) (by decide), h1⟩
set_option maxRecDepth 100000 in
set_option maxHeartbeats 2000000 in
theorem treeRoots_any (css : List (List Int)) (A : Option Addr) (n c : Nat) (w : World) (hT : Tb4 w) (hx : Bss w w.heap.size A n css) (hby : ∀ xs ∈ css, IsBy xs) (hc : n ≤ c) :
    Calls Tryd.prog 4 #[.slice A n c] w fun e w' => e = .returned (.bool true) ∧ Below w.heap.size w w' := by
  have hL := light_any css A n c w hx
  cases hl : lightB css with
  | false =>
    rw [hl] at hL
    clear hl hx hby
    go_enter Tryd.func4, Tryd.ntmps4
    go_wp2_with fail
    refine hL.mono ?_
    rintro e w1 ⟨rfl, rfl⟩
    go_wp2_with fail
    refine (tawake_any w hT).mono ?_
    rintro e w4 ⟨rfl, b4⟩
    go_wp2_with fail
    go_ret
    exact ⟨rfl, b4⟩
  | true =>
    rw [hl] at hL
    obtain ⟨hm1, hm2, hn24⟩ := light_ok hl
    have hlen := hx.1
    have H1 := troot_any css A n c w hT hx hby hm1 (by omega)
    have H2 := fun w1 (b : Below w.heap.size w w1) => rroot_any css.length css A n c w1 (Nat.le_refl _) ((hx.below b).up b.size) hby hm2 (by omega) hc
    have hE := eq32S (rtS css) (rtS_len css)
    clear hl hx hby hm1 hm2 hlen hn24
    generalize rtS css = RT at *
    go_enter Tryd.func4, Tryd.ntmps4
    go_wp2_with fail
    refine hL.mono ?_
    rintro e w1 ⟨rfl, rfl⟩
    go_wp2_with fail
    refine H1.mono ?_
    rintro e w2 ⟨rfl, b2⟩
    go_wp2_with fail
    refine (H2 w2 b2).mono ?_
    rintro e w3 ⟨rfl, b3⟩
    have B3 := b2.trans (b3.mono b2.size)
    go_wp2_with (first | rw [hE])
    refine (tawake_any w3 (hT.later B3)).mono ?_
    rintro e w4 ⟨rfl, b4⟩
    go_wp2_with fail
    go_ret
    exact ⟨rfl, B3.trans (b4.mono B3.size)⟩
end Go.Proofs.YtbolfkigiachlaaDoor

/-
  Trees, the document's answer: a chunk's path: contract. Own work.
-/
namespace Go.Proofs.YtbolfkigiachlaaDoor
open Go.RowKit Tr
theorem run_sliceToO {P : Program} {w : World} {a : Act} {o : Oper} (T : Nat) (x y : Operand) (ho : o.op = .slice T x none (some y) none) (e z : Nat) (hu : P.underlying T = some (.slice e)) (hs : ∀ w, (sizeOf e).run P w = .ok z w) (A : Option Addr) (len cap m : Nat) (kd : IntKind)
    (hx : a.eval x = .slice A len cap) (hy : a.eval y = .int kd m) (h1 : m ≤ cap) : (execOp a.eval o).run P w = .ok (.value (.slice A m cap)) w := by
  unfold execOp
  simp only [ho, hx, hy, Option.map_some, Option.map_none, Sem.run_bind, run_sliceTo w T e z hu hs A len cap kd (m : Int) m rfl h1, Result.andThen_ok, Sem.run_pure]
theorem run_sliceFromO {P : Program} {w : World} {a : Act} {o : Oper} (T : Nat) (x y : Operand) (ho : o.op = .slice T x (some y) none none) (e : Nat) (hu : P.underlying T = some (.slice e)) (hs : ∀ w, (sizeOf e).run P w = .ok 1 w) (A : Option Addr) (len cap I : Nat) (kl : IntKind)
    (hx : a.eval x = .slice A len cap) (hy : a.eval y = .int kl I) (h1 : I ≤ len) : (execOp a.eval o).run P w = .ok (.value (.slice (subA A cap I) (len - I) (cap - I))) w := by
  unfold execOp
  simp only [ho, hx, hy, Option.map_some, Option.map_none, Sem.run_bind, run_sliceFrom w T e hu hs A len cap kl I h1, Result.andThen_ok, Sem.run_pure]
theorem wl_build1A {P : Program} {ops : Array Oper} {rest : List Oper} {o : Oper} {a : Act} {w : World} {Q : Exit → Act → World → Prop} (hgd : o.guard = none) (t : TypeId) (x : Operand) (ho : o.op = .buildSlice t 1 #[(0, x)]) (e : TypeId) (i : TypeInfo) (z : Value) (M : List Value) (n : Nat) (ht : P.underlying t = some (.slice e)) (hi : P.info? e = some i) (hz : i.zero = some z) (hzs : z.cells.size = n) (hsz : i.size = n) (hl : M.length = n) (h0 : 0 < n) (hn : n ≤ 1000) (hx : a.eval x = .agg M.toArray)
    (hk : ∀ g w', Row w' e g M → w.heap.size ≤ g → g < w'.heap.size → Below w.heap.size w w' → wpList P ops Q rest (a.put o.dst (.slice (some ⟨g, 0, none⟩) 1 1)) w') : wpList P ops Q (o :: rest) a w :=
  wpList_plain hgd fun K hK => st_build1A t x ho e i z M n ht hi hz hzs hsz hl h0 hn hx fun g w' h1 h2 h3 h4 => hK _ _ (hk g w' h1 h2 h3 h4)
theorem ownsRow_lo {w : World} {base base' e size n : Nat} {v : Value} {xs : List Value} (h : w.ownsRow base e size v n xs) (hb : base' ≤ base) : w.ownsRow base' e size v n xs :=
  ⟨h.1, h.2.imp id fun ⟨g, cap, cur, e1, h1, h2⟩ => ⟨g, cap, cur, e1, Nat.le_trans hb h1, h2⟩⟩
set_option maxRecDepth 100000 in
set_option maxHeartbeats 4000000 in
theorem rpath_any : ∀ (N : Nat) (css : List (List Int)) (A : Option Addr) (n c j : Nat) (w : World), css.length ≤ N → Bss w w.heap.size A n css → (∀ xs ∈ css, IsBy xs) → (∀ xs ∈ css, xs.length ≤ 50000000) → n ≤ 1000000 → n ≤ c → j < n →
    Calls Tryd.prog 19 #[.slice A n c, .int .i64 (j : Int)] w (IsPath (pathT leafS nodeS noneS css j) w) := by
  intro N
  induction N with
  | zero => intro css A n c j w hN hx hby hm hn hc hj; have := hx.1; omega
  | succ N ih =>
    intro css A n c j w hN hx hby hm hn hc hj
    have hlen := hx.1
    have hd1 : ¬ ((j : Int) < 0) := by omega
    have hd2 : ¬ ((n : Int) ≤ (j : Int)) := by omega
    have hd3 : decide ((n : Int) ≤ (j : Int)) = false := by simp; omega
    by_cases h1 : n = 1
    · have hp : pathT leafS nodeS noneS css j = [] := path_one _ _ _ (by omega)
      rw [hp]
      subst h1
      clear hx hby hm ih hp
      go_enter Tryd.func19, Tryd.ntmps19
      go_wp2_with fail
      go_ret2
      exact ⟨.slice none 0 0, rfl, World.ownsRow_nil _ _ _ _, Below.refl _ _⟩
    · have h2 : 2 ≤ css.length := by omega
      obtain ⟨i32, hi32, hz32, hs32, hb32⟩ := s32_info
      have zs32c : (Value.agg (bv (List.replicate 32 0)).toArray).cells.size = 32 := by simp [Value.cells, bv]
      have hkl := half_lt h2
      have hkp := half_pos css.length
      have hH := fun w => half_any n w (by omega) (by omega)
      rw [← hlen] at hH
      have hq1 : ((n : Int) == 1) = false := beq_eq_false_iff_ne.2 (by omega)
      have hlo := fun h => path_lo leafS nodeS noneS (l := css) (i := j) h2 h
      have hhi := fun h => path_hi leafS nodeS noneS (l := css) (i := j) h2 h
      have hlenI : (css.length : Int) = (n : Int) := by omega
      rw [hlenI] at hH
      obtain ⟨k, hk⟩ : ∃ k, halfN css.length = k := ⟨_, rfl⟩
      rw [hk] at hlo hhi hH hkl hkp
      have hkn : k < n := by omega
      have hkc : k ≤ c := by omega
      have hkn2 : k ≤ n := by omega
      have hmany := others_many n 0 n j (by omega) 20 (by omega)
      have hpl : (pathT leafS nodeS noneS css j).length ≤ 20 := by unfold pathT; rw [List.length_map, hlen]; exact hmany
      have hbyT : ∀ xs ∈ css.take k, IsBy xs := fun xs h => hby xs (List.mem_of_mem_take h)
      have hbyD : ∀ xs ∈ css.drop k, IsBy xs := fun xs h => hby xs (List.mem_of_mem_drop h)
      have hmT : ∀ xs ∈ css.take k, xs.length ≤ 50000000 := fun xs h => hm xs (List.mem_of_mem_take h)
      have hmD : ∀ xs ∈ css.drop k, xs.length ≤ 50000000 := fun xs h => hm xs (List.mem_of_mem_drop h)
      have hxT := hx.take k hkn2
      have hxD := hx.drop (c := c) k hkn2 hc
      have hkI : (k : Int) ≤ 1000000 := by omega
      have hjI : (j : Int) ≤ 1000000 := by omega
      clear hmany hk hx hby hm hlenI
      have h1000 : 32 ≤ 1000 := by decide
      have h032 : 0 < 32 := by decide
      by_cases hjk : j < k
      · have hpath := hlo hjk
        have hd4 : decide ((j : Int) < (k : Int)) = true := by simp; omega
        have hIH := ih (css.take k) A k c j w (by rw [List.length_take]; omega) hxT hbyT hmT (by omega) (by omega) (by omega)
        
        have HR := fun w1 (b : Below w.heap.size w w1) => rroot_any _ (css.drop k) (subA A c k) (n - k) (c - k) w1 (Nat.le_refl _) ((hxD.below b).up b.size) hbyD hmD (by omega) (by omega)
        have hrl := rtS_len (css.drop k)
        have hbl : (bv (rtS (css.drop k))).length = 32 := by rw [bv_len, hrl]
        rw [hpath, List.length_append] at hpl
        have hpl1 : (pathT leafS nodeS noneS (css.take k) j).length + 1 ≤ 20 := hpl
        have hbl1 : (bv (rtS (css.drop k))).length = 1 * 32 := by rw [hbl]
        have hm1 : (pathT leafS nodeS noneS (css.take k) j).length + 1 ≤ maxLen := by simp only [maxLen]; omega
        have hm2 : ((pathT leafS nodeS noneS (css.take k) j).length + 1) * 32 ≤ 140737488355328 := by omega
        have hfl : (pathT leafS nodeS noneS css j).flatten = (pathT leafS nodeS noneS (css.take k) j).flatten ++ rtS (css.drop k) := by rw [hpath, List.flatten_append, List.flatten_singleton]
        have hle : (pathT leafS nodeS noneS css j).length = (pathT leafS nodeS noneS (css.take k) j).length + 1 := by rw [hpath, List.length_append]; rfl
        have HFL := hide hfl
        have HLE := hide hle
        clear hpath hpl hpl1 hfl hle hlo hhi ih hrl hbyT hbyD hmT hmD hxT hxD hN hlen h2
        generalize pathT leafS nodeS noneS (css.take k) j = pp at *
        generalize rtS (css.drop k) = rr at *
        go_enter Tryd.func19, Tryd.ntmps19
        go_wp2_with fail
        refine (hH w).mono ?_
        rintro e w0 ⟨rfl, rfl⟩
        clear hH
        go_wp2_with (first | (with_reducible refine wl_run (o := ⟨some 31, _, _, _, _, _⟩) rfl _ (run_sliceToO 28 (.tmp 29) (.tmp 30) rfl 22 1 Tryd.underlying28 Tryd.sizeOf22 A n c k .i64 rfl rfl hkc) ?_))
        refine hIH.mono ?_
        rintro e w2 ⟨pv, rfl, own, b2⟩
        clear hIH
        go_wp2_with (first | (with_reducible refine wl_run (o := ⟨some 39, _, _, _, _, _⟩) rfl _ (run_sliceFromO 28 (.tmp 37) (.tmp 38) rfl 22 Tryd.underlying28 Tryd.sizeOf22 A n c k .i64 rfl rfl hkn2) ?_))
        refine (HR w2 b2).mono ?_
        rintro e w3 ⟨rfl, b3⟩
        have own3 := ownsRow_lat own b3
        have B3 := b2.trans (b3.mono b2.size)
        have hwb : w.heap.size ≤ w3.heap.size := B3.size
        clear own HR
        go_wp2_with (first
          | ((with_reducible refine wl_build1A rfl 31 (.tmp 40) rfl 23 i32 _ (bv rr) 32 Tryd.underlying31 hi32 hz32 zs32c hs32 hbl h032 h1000 rfl ?_); intro g7 w4 r7 p7 l7 b4; have own4 := ownsRow_lat own3 b4; have hwb4 := Nat.le_trans hwb b4.size)
          | ((at_builtin; with_reducible refine wl_append_at rfl (.tmp 36) (.tmp 41) 31 rfl w.heap.size 23 i32 _ 32 32 Tryd.underlying31 hi32 hz32 hs32 hb32 zs32c h032 pv pp.length (bv pp.flatten) rfl own4 ⟨g7, 0, none⟩ 1 1 (bv rr) rfl hbl1 (row_src r7) (bv_one _) hm1 hm2 hwb4 ?_); intro v5 w5 own5 gr5 _))
        have B5 : Below w.heap.size w w5 := (B3.trans (b4.mono hwb)).grown gr5 hwb4 fun k hk => (own4.lt k hk).1
        go_ret2
        refine ⟨v5, rfl, ?_, B5⟩
        rw [HFL.out, HLE.out, show bv (pp.flatten ++ rr) = bv pp.flatten ++ bv rr by simp [bv]]
        exact own5
      
      · have hpath := hhi hjk
        have hd4 : decide ((j : Int) < (k : Int)) = false := by simp; omega
        have hIH := ih (css.drop k) (subA A c k) (n - k) (c - k) (j - k) w (by rw [List.length_drop]; omega) hxD hbyD hmD (by omega) (by omega) (by omega)
        rw [show ((j - k : Nat) : Int) = (j : Int) - (k : Int) by omega] at hIH
        have HR := fun w1 (b : Below w.heap.size w w1) => rroot_any _ (css.take k) A k c w1 (Nat.le_refl _) ((hxT.below b).up b.size) hbyT hmT (by omega) (by omega)
        have hrl := rtS_len (css.take k)
        have hbl : (bv (rtS (css.take k))).length = 32 := by rw [bv_len, hrl]
        rw [hpath, List.length_append] at hpl
        have hpl1 : (pathT leafS nodeS noneS (css.drop k) (j - k)).length + 1 ≤ 20 := hpl
        have hbl1 : (bv (rtS (css.take k))).length = 1 * 32 := by rw [hbl]
        have hm1 : (pathT leafS nodeS noneS (css.drop k) (j - k)).length + 1 ≤ maxLen := by simp only [maxLen]; omega
        have hm2 : ((pathT leafS nodeS noneS (css.drop k) (j - k)).length + 1) * 32 ≤ 140737488355328 := by omega
        have hfl : (pathT leafS nodeS noneS css j).flatten = (pathT leafS nodeS noneS (css.drop k) (j - k)).flatten ++ rtS (css.take k) := by rw [hpath, List.flatten_append, List.flatten_singleton]
        have hle : (pathT leafS nodeS noneS css j).length = (pathT leafS nodeS noneS (css.drop k) (j - k)).length + 1 := by rw [hpath, List.length_append]; rfl
        have HFL := hide hfl
        have HLE := hide hle
        clear hpath hpl hpl1 hfl hle hlo hhi ih hrl hbyT hbyD hmT hmD hxT hxD hN hlen h2
        generalize pathT leafS nodeS noneS (css.drop k) (j - k) = pp at *
        generalize rtS (css.take k) = rr at *
        go_enter Tryd.func19, Tryd.ntmps19
        go_wp2_with fail
        refine (hH w).mono ?_
        rintro e w0 ⟨rfl, rfl⟩
        clear hH
        go_wp2_with (first | (with_reducible refine wl_run (o := ⟨some 46, _, _, _, _, _⟩) rfl _ (run_sliceFromO 28 (.tmp 44) (.tmp 45) rfl 22 Tryd.underlying28 Tryd.sizeOf22 A n c k .i64 rfl rfl hkn2) ?_))
        refine hIH.mono ?_
        rintro e w2 ⟨pv, rfl, own, b2⟩
        clear hIH
        go_wp2_with (first | (with_reducible refine wl_run (o := ⟨some 56, _, _, _, _, _⟩) rfl _ (run_sliceToO 28 (.tmp 54) (.tmp 55) rfl 22 1 Tryd.underlying28 Tryd.sizeOf22 A n c k .i64 rfl rfl hkc) ?_))
        refine (HR w2 b2).mono ?_
        rintro e w3 ⟨rfl, b3⟩
        have own3 := ownsRow_lat own b3
        have B3 := b2.trans (b3.mono b2.size)
        have hwb : w.heap.size ≤ w3.heap.size := B3.size
        clear own HR
        go_wp2_with (first
          | ((with_reducible refine wl_build1A rfl 31 (.tmp 57) rfl 23 i32 _ (bv rr) 32 Tryd.underlying31 hi32 hz32 zs32c hs32 hbl h032 h1000 rfl ?_); intro g7 w4 r7 p7 l7 b4; have own4 := ownsRow_lat own3 b4; have hwb4 := Nat.le_trans hwb b4.size)
          | ((at_builtin; with_reducible refine wl_append_at rfl (.tmp 53) (.tmp 58) 31 rfl w.heap.size 23 i32 _ 32 32 Tryd.underlying31 hi32 hz32 hs32 hb32 zs32c h032 pv pp.length (bv pp.flatten) rfl own4 ⟨g7, 0, none⟩ 1 1 (bv rr) rfl hbl1 (row_src r7) (bv_one _) hm1 hm2 hwb4 ?_); intro v5 w5 own5 gr5 _))
        have B5 : Below w.heap.size w w5 := (B3.trans (b4.mono hwb)).grown gr5 hwb4 fun k hk => (own4.lt k hk).1
        go_ret2
        refine ⟨v5, rfl, ?_, B5⟩
        rw [HFL.out, HLE.out, show bv (pp.flatten ++ rr) = bv pp.flatten ++ bv rr by simp [bv]]
        exact own5
end Go.Proofs.YtbolfkigiachlaaDoor

/-
  The law TreePaths: contract. Own work.
-/
namespace Go.Proofs.YtbolfkigiachlaaDoor
open Go.RowKit Tr
/-- A path, or none. -/
def RetPt (ss : List (List Int)) (b : Bool) (w : World) (e : Ending) (w' : World) : Prop := ∃ A c, e = .returned (.tuple #[.slice A ss.length c, .bool b]) ∧ Sms w' w'.heap.size A ss ∧ ss.length ≤ c ∧ Below w.heap.size w w'
theorem path_sums (css : List (List Int)) (j : Nat) : (∀ s ∈ pathT leafS nodeS noneS css j, s.length = 32) ∧ ∀ s ∈ pathT leafS nodeS noneS css j, IsBy s := by
  unfold pathT
  constructor
  · intro s hs
    obtain ⟨p, _, rfl⟩ := List.mem_map.1 hs
    exact rtS_len _
  · intro s hs
    obtain ⟨p, _, rfl⟩ := List.mem_map.1 hs
    exact rtS_by _
theorem isPath_ret {css : List (List Int)} {j : Nat} {w w' : World} {e : Ending} (h : IsPath (pathT leafS nodeS noneS css j) w e w') : RetPt (pathT leafS nodeS noneS css j) true w e w' := by
  obtain ⟨pv, rfl, own, b⟩ := h
  obtain ⟨A, c, rfl, hb, hc, _, _⟩ := owns_bs (N := 32 * (pathT leafS nodeS noneS css j).length) own (Nat.mul_comm _ _)
  exact ⟨A, c, rfl, ⟨hb, (path_sums css j).1, (path_sums css j).2⟩, hc, b⟩
theorem noPath_ret {w w' : World} {e : Ending} (h : NoPath w e w') : RetPt [] false w e w' := by
  obtain ⟨rfl, b⟩ := h
  exact ⟨none, 0, rfl, Sms.nil_, Nat.le_refl _, b⟩
set_option maxRecDepth 100000 in
theorem rpath_no (A : Option Addr) (n c : Nat) (i : Int) (w : World) (hi : i < 0 ∨ (n : Int) ≤ i) : Calls Tryd.prog 19 #[.slice A n c, .int .i64 i] w (NoPath w) := by
  by_cases h0 : i < 0
  · go_enter Tryd.func19, Tryd.ntmps19
    go_wp2_with fail
    go_ret2
    exact ⟨rfl, Below.refl _ _⟩
  · have h1 : (n : Int) ≤ i := by omega
    have h2 : ¬ (i < (n : Int)) := by omega
    clear hi
    go_enter Tryd.func19, Tryd.ntmps19
    go_wp2_with fail
    go_ret2
    exact ⟨rfl, Below.refl _ _⟩
/-- Both answer the same. -/
theorem both_paths (css : List (List Int)) (A : Option Addr) (n c : Nat) (i : Int) (hby : ∀ xs ∈ css, IsBy xs) (hm1 : ∀ xs ∈ css, xs.length ≤ 100000000) (hm2 : ∀ xs ∈ css, xs.length ≤ 50000000) (hn : n ≤ 1000000) (hc : n ≤ c) (hlen : css.length = n) :
    ∃ ss b, (∀ s ∈ ss, s.length = 32) ∧ ss.length ≤ 1000 ∧ ∀ w, Tb4 w → Bss w w.heap.size A n css → Calls Tryd.prog 18 #[.slice A n c, .int .i64 i] w (RetPt ss b w) ∧ Calls Tryd.prog 19 #[.slice A n c, .int .i64 i] w (RetPt ss b w) := by
  by_cases hi : i < 0 ∨ (n : Int) ≤ i
  · exact ⟨[], false, (fun _ h => by cases h), by decide, fun w hT hx => ⟨(path_no A n c i w hi).mono fun e w' h => noPath_ret h, (rpath_no A n c i w hi).mono fun e w' h => noPath_ret h⟩⟩
  · obtain ⟨j, rfl⟩ : ∃ j : Nat, i = (j : Int) := ⟨i.toNat, by omega⟩
    have hj : j < n := by omega
    refine ⟨pathT leafS nodeS noneS css j, true, (path_sums css j).1, ?_, fun w hT hx => ⟨(path_any css A n c j w hT hx hby hm1 hn hc hj).mono fun e w' h => isPath_ret h, (rpath_any css.length css A n c j w (Nat.le_refl _) hx hby hm2 hn hc hj).mono fun e w' h => isPath_ret h⟩⟩
    unfold pathT
    rw [List.length_map]
    exact Nat.le_trans (others_many css.length 0 css.length j (by omega) 20 (by omega)) (by decide)
def STp (s : List Int) (b1 o1 c1 b2 o2 c2 m k : Nat) (opn : Nat) (v : Value) : Prop :=
  match opn with
  | 0 => v = .slice (some ⟨b1, o1, none⟩) m c1
  | 1 | 5 => v = .int .i64 (k : Int)
  | 2 => v = .pointer (some ⟨b1, o1 + k * 32, none⟩)
  | 3 | 7 => v = .agg (bv s).toArray
  | 4 => v = .slice (some ⟨b2, o2, none⟩) m c2
  | 6 => v = .pointer (some ⟨b2, o2 + k * 32, none⟩)
  | 8 => v = .bool false
  | _ => True

set_option maxRecDepth 100000 in
set_option maxHeartbeats 4000000 in
theorem treePaths_any (css : List (List Int)) (A : Option Addr) (n c : Nat) (i : Int) (w : World) (hT : Tb4 w) (hx : Bss w w.heap.size A n css) (hby : ∀ xs ∈ css, IsBy xs) (hc : n ≤ c) :
    Calls Tryd.prog 5 #[.slice A n c, .int .i64 i] w fun e w' => e = .returned (.bool true) ∧ Below w.heap.size w w' := by
  have hL := light_any css A n c w hx
  cases hl : lightB css with
  | false =>
    rw [hl] at hL
    clear hl hx hby
    go_enter Tryd.func5, Tryd.ntmps5
    go_wp2_with fail
    refine hL.mono ?_
    rintro e w1 ⟨rfl, rfl⟩
    go_wp2_with fail
    refine (tawake_any w hT).mono ?_
    rintro e w4 ⟨rfl, b4⟩
    go_wp2_with fail
    go_ret
    exact ⟨rfl, b4⟩
  | true =>
    rw [hl] at hL
    obtain ⟨hm1, hm2, hn24⟩ := light_ok hl
    have hlen := hx.1
    obtain ⟨ss, b, hss, hs1000, H⟩ := both_paths css A n c i hby hm1 hm2 (by omega) hc hlen
    have H1 := (H w hT hx).1
    have H2 := fun w1 (b : Below w.heap.size w w1) => (H w1 (hT.later b) ((hx.below b).up b.size)).2
    obtain ⟨m, hm⟩ : ∃ m, ss.length = m := ⟨_, rfl⟩
    have hq1 : (b != b) = false := by cases b <;> rfl
    have hq2 : ((m : Int) != (m : Int)) = false := by simp
    have hmI : (m : Int) ≤ 1000 := by omega
    clear hl hx hby hm1 hm2 hlen hn24 H hs1000
    go_enter Tryd.func5, Tryd.ntmps5
    go_wp2_with fail
    refine hL.mono ?_
    rintro e w1 ⟨rfl, rfl⟩
    go_wp2_with fail
    refine H1.mono ?_
    rintro e w2 ⟨A1, c1, rfl, hS1, hc1, b2⟩
    rw [hm] at hc1 ⊢
    go_wp2_with fail
    refine (H2 w2 b2).mono ?_
    rintro e w3 ⟨A2, c2, rfl, hS2, hc2, b3⟩
    rw [hm] at hc2 ⊢
    have B3 := b2.trans (b3.mono b2.size)
    have hS1b := hS1.later b3
    clear H1 H2 hL hS1
    go_wp2_with fail
    go_loopw [9] (fun iv wr => ∃ k : Nat, k ≤ m ∧ iv = .int .i64 k ∧ Below w3.heap.size w3 wr) (fun iv _ => m - (intOf iv).toNat)
    case atStart => exact ⟨0, Nat.zero_le _, rfl, Below.refl _ _⟩
    case round =>
      obtain ⟨k, hk, rfl, bk⟩ := hrel
      by_cases hlt : k < m
      · obtain ⟨s, hs⟩ : ∃ s, ss[k]? = some s := ⟨_, List.getElem?_eq_getElem (by omega)⟩
        have hs32 := hss s (List.mem_of_getElem? hs)
        have zs := hide (size32b hs32)
        obtain ⟨b1, o1, rfl, hb1, hcA⟩ := hS1b.cells hs
        obtain ⟨b2, o2, rfl, hb2, hcB⟩ := hS2.cells hs
        have hc1 : ∀ w1, Below wr.heap.size wr w1 → ∀ j v, (bv s)[j]? = some v → w1.cell? ⟨b1, o1 + k * 32 + j, none⟩ = some v := fun w1 b j v hv => (b.cell (p := ⟨b1, o1 + k * 32 + j, none⟩) (Nat.lt_of_lt_of_le hb1 bk.size)).trans ((bk.cell (p := ⟨b1, o1 + k * 32 + j, none⟩) hb1).trans (hcA j v hv))
        have hc2 : ∀ w1, Below wr.heap.size wr w1 → ∀ j v, (bv s)[j]? = some v → w1.cell? ⟨b2, o2 + k * 32 + j, none⟩ = some v := fun w1 b j v hv => (b.cell (p := ⟨b2, o2 + k * 32 + j, none⟩) (Nat.lt_of_lt_of_le hb2 bk.size)).trans ((bk.cell (p := ⟨b2, o2 + k * 32 + j, none⟩) hb2).trans (hcB j v hv))
        have hd1 : decide ((k : Int) < (m : Int)) = true := by simp; omega
        have hq : k < m := hlt
        clear hcA hcB hS1b hS2 hss hs
        go_wp2_with fail
        rename_i K1 hK1
        refine wp_region_valsG [] (STp s b1 o1 c1 b2 o2 c2 m k) (JR wr) (by kernel_rfl) (by kernel_rfl) (by kernel_rfl) (by kernel_rfl) (Below.refl _ _).drew ?obs ?he
        case obs =>
          refine ⟨?_, ?_, ?_, ?_, ?_, ?_, ?_, ?_, ?_, trivial⟩
          · refine ⟨.inl rfl, ?_⟩
            exact .inl ⟨by kernel_rfl, fun L a1 w1 n h => ⟨_, rfl, run_move (.tmp 5) rfl (h.var n 5 (by kernel_rfl))⟩⟩
          · refine ⟨.inl rfl, ?_⟩
            exact .inl ⟨by kernel_rfl, fun L a1 w1 n h => ⟨_, rfl, run_move (.tmp 9) rfl (h.var n 9 (by kernel_rfl))⟩⟩
          · refine ⟨.inl rfl, ?_⟩
            exact .inl ⟨by kernel_rfl, fun L a1 w1 n h => ⟨_, rfl, run_indexSlN 31 (.tmp 42) (.tmp 43) 23 32 b1 o1 m c1 k rfl Tryd.underlying31 Tryd.sizeOf23 (h.dep n 0 42 (by kernel_rfl) rfl) (h.dep n 1 43 (by kernel_rfl) rfl) hq⟩⟩
          · refine ⟨.inl rfl, ?_⟩
            exact .inl ⟨by kernel_rfl, fun L a1 w1 n h => ⟨_, rfl, run_loadM 23 (.tmp 44) b1 (o1 + k * 32) (bv s) _ rfl (h.dep n 2 44 (by kernel_rfl) rfl) (hc1 w1 h.inv) Tryd.underlying23 rfl zs.out⟩⟩
          · refine ⟨.inl rfl, ?_⟩
            exact .inl ⟨by kernel_rfl, fun L a1 w1 n h => ⟨_, rfl, run_move (.tmp 7) rfl (h.var n 7 (by kernel_rfl))⟩⟩
          · refine ⟨.inl rfl, ?_⟩
            exact .inl ⟨by kernel_rfl, fun L a1 w1 n h => ⟨_, rfl, run_move (.tmp 9) rfl (h.var n 9 (by kernel_rfl))⟩⟩
          · refine ⟨.inl rfl, ?_⟩
            exact .inl ⟨by kernel_rfl, fun L a1 w1 n h => ⟨_, rfl, run_indexSlN 31 (.tmp 46) (.tmp 47) 23 32 b2 o2 m c2 k rfl Tryd.underlying31 Tryd.sizeOf23 (h.dep n 4 46 (by kernel_rfl) rfl) (h.dep n 5 47 (by kernel_rfl) rfl) hq⟩⟩
          · refine ⟨.inl rfl, ?_⟩
            exact .inl ⟨by kernel_rfl, fun L a1 w1 n h => ⟨_, rfl, run_loadM 23 (.tmp 48) b2 (o2 + k * 32) (bv s) _ rfl (h.dep n 6 48 (by kernel_rfl) rfl) (hc2 w1 h.inv) Tryd.underlying23 rfl zs.out⟩⟩
          · refine ⟨.inl rfl, ?_⟩
            exact .inl ⟨by kernel_rfl, fun L a1 w1 n h => ⟨_, rfl, run_neqF (.tmp 45) (.tmp 49) rfl Tryd.underlying23 (Classical.choose_spec u8_info).1 (by kernel_rfl) Tryd.underlying5 Tryd.isAgg5 s (h.dep n 3 45 (by kernel_rfl) rfl) (h.dep n 7 49 (by kernel_rfl) rfl) (hs32) (by kernel_rfl)⟩⟩
        case he =>
          intro V w9 hV hJ
          have b9 : Below wr.heap.size wr w9 := hJ
          have hv : V 8 = .bool false := hV 8 50 rfl
          clear hV hJ
          simp only [putOps, List.setIfInBounds_toArray, List.set_cons_succ, List.set_cons_zero, Nat.reduceAdd]
          rw [hv]
          refine hK1 _ _ ?_
          go_wp2_with fail
          go_roundw
          case rel => exact ⟨k + 1, by omega, by go_num, bk.trans (b9.mono bk.size)⟩
          case measure => simp [intOf]; omega
      · have hd1 : decide ((k : Int) < (m : Int)) = false := by simp; omega
        go_wp2_with fail
        refine (tawake_any wr ((hT.later B3).later bk)).mono ?_
        rintro e w4 ⟨rfl, b4⟩
        go_wp2_with fail
        go_ret
        exact ⟨rfl, (B3.trans (bk.mono B3.size)).trans (b4.mono (B3.trans (bk.mono B3.size)).size)⟩
end Go.Proofs.YtbolfkigiachlaaDoor

/-
  The law TreeBuilds: contract. Own work.
-/
namespace Go.Proofs.YtbolfkigiachlaaDoor
open Go.RowKit Tr
theorem bLenB_any (w : World) (gb : Nat) (l : List (List Int)) (k : Nat) (h : BuildAt w gb l) (hk : l.length = k) : Calls Tryd.prog 24 #[.pointer (some ⟨gb, 0, none⟩)] w fun e w' => e = .returned (.int .i64 (k : Int)) ∧ Below w.heap.size w w' :=
  (bLen_any w gb l h).mono fun e w' h => by obtain ⟨h1, rfl⟩ := h; rw [← hk]; exact ⟨h1, Below.refl _ _⟩
theorem NoBuild.later {w w' : World} {p : Option Addr} (h : NoBuild w p) (hb : Below w.heap.size w w') : NoBuild w' p := by
  rcases h with rfl | ⟨gb, rfl, h1⟩
  · exact .inl rfl
  · exact .inr ⟨gb, rfl, h1.later hb⟩
theorem builtB0 : Tryd.prog.built 47 [] = some [Value.bool false, .int .i64 0, .slice none 0 0].toArray := by kernel_rfl
theorem ptrB_info_ : (Tryd.prog.info? 41).map (fun i => (i.zero, i.size)) = some (some (.pointer none), 1) := by kernel_rfl
theorem ptrB_info : ∃ i, Tryd.prog.info? 41 = some i ∧ i.zero = some (.pointer none) ∧ i.size = 1 := by
  have h := ptrB_info_
  obtain ⟨i, h1, h2⟩ := Option.map_eq_some_iff.1 h
  simp only [Prod.mk.injEq] at h2
  exact ⟨i, h1, h2.1, h2.2⟩
theorem but_below {g B : Nat} {w w' : World} (h : But g w w') (hg : B ≤ g) (hB : B ≤ w.heap.size) : Below B w w' := h.below hg hB
def STbu (RT : List Int) (b o nn c gb i : Nat) (opn : Nat) (v : Value) : Prop :=
  match opn with
  | 0 | 5 => v = .pointer (some ⟨gb, 0, none⟩)
  | 1 | 2 | 8 => v = .int .i64 (i : Int)
  | 3 | 4 | 11 | 12 => v = .bool false
  | 6 | 10 => v = .agg (bv RT).toArray
  | 7 => v = .slice (some ⟨b, o, none⟩) nn c
  | 9 => v = .slice (some ⟨b, o, none⟩) i c
  | _ => True

set_option maxRecDepth 100000 in
set_option maxHeartbeats 4000000 in
theorem treeBuilds_any (css : List (List Int)) (A : Option Addr) (nn c : Nat) (w : World) (hT : Tb4 w) (hx : Bss w w.heap.size A nn css) (hby : ∀ xs ∈ css, IsBy xs) (hc : nn ≤ c) :
    Calls Tryd.prog 7 #[.slice A nn c] w fun e w' => e = .returned (.bool true) ∧ Below w.heap.size w w' := by
  have hL := light_any css A nn c w hx
  cases hl : lightB css with
  | false =>
    rw [hl] at hL
    clear hl hx hby
    go_enter Tryd.func7, Tryd.ntmps7
    go_wp2_with fail
    refine hL.mono ?_
    rintro e w1 ⟨rfl, rfl⟩
    go_wp2_with fail
    refine (tawake_any w hT).mono ?_
    rintro e w4 ⟨rfl, b4⟩
    go_wp2_with fail
    go_ret
    exact ⟨rfl, b4⟩
  | true =>
    rw [hl] at hL
    obtain ⟨hm1, hm2, hn24⟩ := light_ok hl
    have hlen := hx.1
    have hR := fun i (hi : i ≤ nn) w1 (b : Below w.heap.size w w1) => rroot_any (css.take i).length (css.take i) A i c w1 (Nat.le_refl _) (((hx.take i hi).below b).up b.size) (fun xs h => hby xs (List.mem_of_mem_take h)) (fun xs h => hm2 xs (List.mem_of_mem_take h)) (by omega) (by omega)
    have hnI : (nn : Int) ≤ 24 := by omega
    obtain ⟨ip, hip, hpz, hps⟩ := ptrB_info
    have bB := builtB0
    have hR := hide hR
    clear hl hm1
    go_enter Tryd.func7, Tryd.ntmps7
    go_wp2_with fail
    refine hL.mono ?_
    rintro e w1 ⟨rfl, rfl⟩
    clear hL
    go_wp2_with fail
    refine (bNew_any w).mono ?_
    rintro e w2 ⟨gb, rfl, hgb, hB0, b2⟩
    have hgs : 3 + 1 ≤ gb := Nat.le_trans hT.1.1 hgb
    have hB0' : BuildAt w2 gb (css.take 0) := hB0
    clear hB0
    go_wp2_with fail
    go_loopw [4] (fun iv wr => ∃ i : Nat, i ≤ nn ∧ iv = .int .i64 i ∧ BuildAt wr gb (css.take i) ∧ Below w.heap.size w wr) (fun iv _ => nn - (intOf iv).toNat)
    case atStart => exact ⟨0, Nat.zero_le _, rfl, hB0', b2⟩
    case round =>
      obtain ⟨i, hi, rfl, hB, bi⟩ := hrel
      have htl : (css.take i).length = i := by rw [List.length_take]; omega
      by_cases hlt : i < nn
      · obtain ⟨xs, hxs⟩ : ∃ xs, css[i]? = some xs := ⟨_, List.getElem?_eq_getElem (by omega)⟩
        have hmem := List.mem_of_getElem? hxs
        have htk : css.take i ++ [xs] = css.take (i + 1) := by
          obtain ⟨h1, rfl⟩ := List.getElem?_eq_some_iff.1 hxs
          rw [List.take_succ_eq_append_getElem h1]
        have hRi := fun w1 b => hR.out i hi w1 b
        obtain ⟨b, o, rfl, hbB, hcx⟩ := hx.2 (by omega)
        obtain ⟨A', m', c', hcell0, hbi⟩ := hcx i hlt
        rw [show css.getD i [] = xs by rw [List.getD, hxs]; rfl] at hbi
        have hbyi := hby xs hmem
        have hmi := hm2 xs hmem
        have hml := hbi.1
        have hd1 : decide ((i : Int) < (nn : Int)) = true := by simp; omega
        have HLn := fun w1 (b : Below wr.heap.size wr w1) => bLenB_any w1 gb (css.take i) i (hB.later b) htl
        have HRt := fun w1 (b : Below wr.heap.size wr w1) => bRootS_any w1 gb (css.take i) (hT.later (bi.trans (b.mono bi.size))).1 (hB.later b) (by rw [htl]; omega)
        have HRr := fun w1 (b : Below wr.heap.size wr w1) => hRi w1 (bi.trans (b.mono bi.size))
        have HAd := fun w1 (b : Below wr.heap.size wr w1) => bAdd_any w1 gb (css.take i) xs A' m' c' (hT.later (bi.trans (b.mono bi.size))) (hB.later b) ((hbi.below (bi.trans (b.mono bi.size))).up (bi.trans (b.mono bi.size)).size) hbyi (by omega) (by rw [htl]; omega) hgs (Off.of hbi hgb)
        rw [htk] at HAd
        have hrt := rtS_len (css.take i)
        have hic : i ≤ c := by omega
        have HAd := hide HAd
        have hq : i < nn := hlt
        clear hR hRi hB hcx hxs hmem hby hm2 hbyi hmi hml htk hbi htl hlen
        generalize rtS (css.take i) = RT at *
        go_wp2_with fail
        rename_i K1 hK1
        refine wp_region_valsG [1, 6, 10] (STbu RT b o nn c gb i) (JR wr) (by kernel_rfl) (by kernel_rfl) (by kernel_rfl) (by kernel_rfl) (Below.refl _ _).drew ?obs ?he
        case obs =>
          refine ⟨?_, ?_, ?_, ?_, ?_, ?_, ?_, ?_, ?_, ?_, ?_, ?_, ?_, trivial⟩
          · refine ⟨.inl rfl, ?_⟩
            exact .inl ⟨by kernel_rfl, fun L a1 w1 n h => ⟨_, rfl, run_move (.tmp 3) rfl (h.var n 3 (by kernel_rfl))⟩⟩
          · refine ⟨.inl rfl, ?_⟩
            refine .inr fun L a1 w1 n h K hK => ?_
            have e0 : a1.eval (.tmp 18) = .pointer (some ⟨gb, 0, none⟩) := h.dep n 0 18 (by kernel_rfl) rfl
            refine st_call 24 _ _ #[.pointer (some ⟨gb, 0, none⟩)] rfl Tryd.call24 ?_ (HLn w1 h.inv) ?_
            · simp only [List.map_toArray, List.map_cons, List.map_nil, e0]
            · rintro e w3 ⟨rfl, b9⟩
              exact ⟨_, rfl, hK _ w3 rfl (h.inv.trans (b9.mono h.inv.size))⟩
          · refine ⟨.inl rfl, ?_⟩
            exact .inl ⟨by kernel_rfl, fun L a1 w1 n h => ⟨_, rfl, run_move (.tmp 4) rfl (h.var n 4 (by kernel_rfl))⟩⟩
          · refine ⟨.inl rfl, ?_⟩
            exact .inl ⟨by kernel_rfl, fun L a1 w1 n h => ⟨_, rfl, run_neqI (.tmp 19) (.tmp 20) rfl (h.dep n 1 19 (by kernel_rfl) rfl) (h.dep n 2 20 (by kernel_rfl) rfl) (by simp)⟩⟩
          · refine ⟨.inl rfl, ?_⟩
            exact .inl ⟨by kernel_rfl, fun L a1 w1 n h => ⟨_, rfl, run_move (.tmp 21) rfl (h.dep n 3 21 (by kernel_rfl) rfl)⟩⟩
          · refine ⟨.inr ⟨4, false, 22, rfl, by kernel_rfl, rfl, by simp, fun v h => h⟩, ?_⟩
            exact .inl ⟨by kernel_rfl, fun L a1 w1 n h => ⟨_, rfl, run_move (.tmp 3) rfl (h.var n 3 (by kernel_rfl))⟩⟩
          · refine ⟨.inr ⟨4, false, 22, rfl, by kernel_rfl, rfl, by simp, fun v h => h⟩, ?_⟩
            refine .inr fun L a1 w1 n h K hK => ?_
            have e0 : a1.eval (.tmp 23) = .pointer (some ⟨gb, 0, none⟩) := h.dep n 5 23 (by kernel_rfl) rfl
            refine st_call 25 _ _ #[.pointer (some ⟨gb, 0, none⟩)] rfl Tryd.call25 ?_ (HRt w1 h.inv) ?_
            · simp only [List.map_toArray, List.map_cons, List.map_nil, e0]
            · rintro e w3 ⟨rfl, b9⟩
              exact ⟨_, rfl, hK _ w3 rfl (h.inv.trans (b9.mono h.inv.size))⟩
          · refine ⟨.inr ⟨4, false, 22, rfl, by kernel_rfl, rfl, by simp, fun v h => h⟩, ?_⟩
            exact .inl ⟨by kernel_rfl, fun L a1 w1 n h => ⟨_, rfl, run_move (.tmp 0) rfl (h.var n 0 (by kernel_rfl))⟩⟩
          · refine ⟨.inr ⟨4, false, 22, rfl, by kernel_rfl, rfl, by simp, fun v h => h⟩, ?_⟩
            exact .inl ⟨by kernel_rfl, fun L a1 w1 n h => ⟨_, rfl, run_move (.tmp 4) rfl (h.var n 4 (by kernel_rfl))⟩⟩
          · refine ⟨.inr ⟨4, false, 22, rfl, by kernel_rfl, rfl, by simp, fun v h => h⟩, ?_⟩
            exact .inl ⟨by kernel_rfl, fun L a1 w1 n h => ⟨_, rfl, run_sliceToO 28 (.tmp 25) (.tmp 26) rfl 22 1 Tryd.underlying28 Tryd.sizeOf22 (some ⟨b, o, none⟩) nn c i .i64 (h.dep n 7 25 (by kernel_rfl) rfl) (h.dep n 8 26 (by kernel_rfl) rfl) hic⟩⟩
          · refine ⟨.inr ⟨4, false, 22, rfl, by kernel_rfl, rfl, by simp, fun v h => h⟩, ?_⟩
            refine .inr fun L a1 w1 n h K hK => ?_
            have e0 : a1.eval (.tmp 27) = .slice (some ⟨b, o, none⟩) i c := h.dep n 9 27 (by kernel_rfl) rfl
            refine st_call 17 _ _ #[.slice (some ⟨b, o, none⟩) i c] rfl Tryd.call17 ?_ (HRr w1 h.inv) ?_
            · simp only [List.map_toArray, List.map_cons, List.map_nil, e0]
            · rintro e w3 ⟨rfl, b9⟩
              exact ⟨_, rfl, hK _ w3 rfl (h.inv.trans (b9.mono h.inv.size))⟩
          · refine ⟨.inr ⟨4, false, 22, rfl, by kernel_rfl, rfl, by simp, fun v h => h⟩, ?_⟩
            exact .inl ⟨by kernel_rfl, fun L a1 w1 n h => ⟨_, rfl, run_neqF (.tmp 24) (.tmp 28) rfl Tryd.underlying23 (Classical.choose_spec u8_info).1 (by kernel_rfl) Tryd.underlying5 Tryd.isAgg5 RT (h.dep n 6 24 (by kernel_rfl) rfl) (h.dep n 10 28 (by kernel_rfl) rfl) (hrt) (by kernel_rfl)⟩⟩
          · refine ⟨.inl rfl, ?_⟩
            exact .inl ⟨by kernel_rfl, fun L a1 w1 n h => ⟨_, rfl, run_pickF (.tmp 22) _ _ rfl (h.dep n 4 22 (by kernel_rfl) rfl) (h.dep n 11 29 (by kernel_rfl) rfl)⟩⟩
        case he =>
          intro V w9 hV hJ
          have b9 : Below wr.heap.size wr w9 := hJ
          have hv : V 12 = .bool false := hV 12 30 rfl
          clear hV hJ HLn HRt HRr
          have B9 := bi.trans (b9.mono bi.size)
          have hcell : w9.cell? ⟨b, o + i, none⟩ = some (.slice A' m' c') := (B9.cell (p := ⟨b, o + i, none⟩) hbB).trans hcell0
          simp only [putOps, List.setIfInBounds_toArray, List.set_cons_succ, List.set_cons_zero, Nat.reduceAdd]
          rw [hv]
          refine hK1 _ _ ?_
          go_wp2_with fail
          refine (HAd.out w9 b9).mono ?_
          rintro e w10 ⟨rfl, hB', bu⟩
          go_wp2_with fail
          go_roundw
          case rel => exact ⟨i + 1, by omega, by go_num, hB', B9.trans (bu.below hgb B9.size)⟩
          case measure => simp [intOf]; omega
      · obtain rfl : i = nn := by omega
        have hd1 : decide ((i : Int) < (i : Int)) = false := by simp
        rw [List.take_of_length_le (by omega)] at hB
        go_wp2_with (first
          | ((with_reducible refine wl_build rfl 47 [] rfl _ ?hv _ bB ?hk); case hv => rfl)
          | (with_reducible refine wl_box rfl 47 (.tmp 37) _ [.bool false, .int .i64 0, .slice none 0 0] rfl rfl rfl ?_; intro g3 w3 r3 a3 l3 b3)
          | (with_reducible refine wl_build2P rfl 48 (.const (.pointer none)) (.tmp 38) rfl 41 ip (.pointer none) (.pointer none) (.pointer (some ⟨g3, 0, none⟩)) Tryd.underlying48 hip hpz hps rfl rfl rfl rfl rfl ?_; intro gs w4 rs q3 l3b b4))
        have B3 := bi.trans (b3.mono bi.size)
        have B4 := B3.trans (b4.mono B3.size)
        have hB4 := (hB.later b3).later b4
        have r3b := r3.later b4
        have hN4 : ∀ j, j < 2 → ∃ p, w4.cell? ⟨gs, j, none⟩ = some (.pointer p) ∧ NoBuild w4 p := by
          intro j hj
          match j, hj with
          | 0, _ => exact ⟨none, rs.cell (j := 0) rfl, .inl rfl⟩
          | 1, _ => exact ⟨_, rs.cell (j := 1) rfl, .inr ⟨g3, rfl, r3b⟩⟩
        have hgs4 : gs < w4.heap.size := rs.lt
        have hE0 := eq32S noneS noneS_len
        have hE1 := eq32S (rtS css) (rtS_len css)
        have hE0 := hide hE0
        have hE1 := hide hE1
        obtain ⟨i8, h8i, h8z, h8s, h8b⟩ := u8_info
        have hRn := hR.out i (Nat.le_refl _)
        rw [List.take_of_length_le (by omega)] at hRn
        have hRn := hide hRn
        clear hB bi hB0' r3 r3b rs b3 b4 B3 hR
        go_loopw [6] (fun jv wr => ∃ j : Nat, j ≤ 2 ∧ jv = .int .i64 j ∧ Below w4.heap.size w4 wr) (fun jv _ => 2 - (intOf jv).toNat)
        case atStart => exact ⟨0, by omega, rfl, Below.refl _ _⟩
        case round =>
          obtain ⟨j, hj2, rfl, bj⟩ := hrel
          have Bj := B4.trans (bj.mono B4.size)
          by_cases hj : j < 2
          · obtain ⟨p, hpc, hNo⟩ := hN4 j hj
            have cj : wr.cell? ⟨gs, j, none⟩ = some (.pointer p) := (bj.cell (p := ⟨gs, j, none⟩) hgs4).trans hpc
            have hd2 : decide ((j : Int) < 2) = true := by simp; omega
            clear hN4 hpc
            go_wp2_with (first
              | ((with_reducible refine wl_build1 rfl 22 (.const (.int .u8 1)) rfl 5 i8 (.int .u8 0) (.int .u8 1) Tryd.underlying22 h8i h8z h8s rfl rfl rfl ?_); intro ga w5 ra pa la b5))
            have b45 := bj.trans (b5.mono bj.size)
            have cj5 : w5.cell? ⟨gs, j, none⟩ = some (.pointer p) := (b5.cell (p := ⟨gs, j, none⟩) (Nat.lt_of_lt_of_le hgs4 bj.size)).trans cj
            have hNo5 := hNo.later b45
            refine (bAdd_no w5 p _ hNo5).mono ?_
            rintro e w6 ⟨rfl, rfl⟩
            clear cj
            go_wp2_with fail
            refine (bLen_no w5 p hNo5).mono ?_
            rintro e w6 ⟨rfl, rfl⟩
            go_wp2_with fail
            refine (bRootN_any w5 p (hT.later (B4.trans (b45.mono B4.size))).1 hNo5).mono ?_
            rintro e w6 ⟨rfl, b6⟩
            go_wp2_with fail
            refine (rroot_any 0 [] none 0 0 w6 (Nat.le_refl _) ⟨rfl, fun h => absurd h (by omega)⟩ (fun _ h => by cases h) (fun _ h => by cases h) (by decide) (by decide)).mono ?_
            rw [show rtS [] = noneS from root_nil _ _ _]
            rintro e w7 ⟨rfl, b7⟩
            have hE := hE0.out
            go_wp2_with (first | rw [hE])
            go_roundw
            case rel => exact ⟨j + 1, by omega, by go_num, (b45.trans (b6.mono b45.size)).trans (b7.mono (Nat.le_trans b45.size b6.size))⟩
            case measure => simp [intOf]; omega
          · have hd2 : decide ((j : Int) < 2) = false := by simp; omega
            go_wp2_with fail
            refine (bLenB_any wr gb css i (hB4.later bj) hlen).mono ?_
            rintro e w5 ⟨rfl, b5⟩
            have b45 := bj.trans (b5.mono bj.size)
            go_wp2_with fail
            refine (bRootS_any w5 gb css (hT.later (B4.trans (b45.mono B4.size))).1 (hB4.later b45) (by omega)).mono ?_
            rintro e w6 ⟨rfl, b6⟩
            have b46 := b45.trans (b6.mono b45.size)
            go_wp2_with fail
            refine (hRn.out w6 (B4.trans (b46.mono B4.size))).mono ?_
            rintro e w7 ⟨rfl, b7⟩
            have B7 := (B4.trans (b46.mono B4.size)).trans (b7.mono (B4.trans (b46.mono B4.size)).size)
            have hE := hE1.out
            go_wp2_with (first | rw [hE])
            refine (tawake_any w7 (hT.later B7)).mono ?_
            rintro e w8 ⟨rfl, b8⟩
            go_wp2_with fail
            go_ret
            exact ⟨rfl, B7.trans (b8.mono B7.size)⟩
end Go.Proofs.YtbolfkigiachlaaDoor

/-
  A slice of slices of bytes that came in, with its capacity. Own work.
-/
namespace Go.Proofs.YtbolfkigiachlaaDoor
open Go.RowKit Go.ChangeShapes Go.WideShapes
theorem trod_bssK {H : Type} {enc : TypeId × Value → H} {P : Program} {w : World} {spare : Nat → Bool} {held : Bool} {t e e1 : TypeId} {A : Option Addr} {n c : Nat} {d : DataW H} {p : List MemPlace} (ht : P.underlying t = some (.slice e)) (hc : P.cellsOf e = 1) (ht1 : P.underlying e = some (.slice e1)) (he1 : P.underlying e1 = some (.int .u8)) (hc1 : P.cellsOf e1 = 1)
    (h : DataW.Trod enc P w 0 spare held t (.slice A n c) d p) : ∃ xss, Bss w w.heap.size A n xss ∧ (∀ xs ∈ xss, IsBy xs) ∧ n ≤ c := by
  obtain ⟨xss, h1, h2⟩ := trod_bss ht hc ht1 he1 hc1 h
  refine ⟨xss, h1, h2, ?_⟩
  obtain ⟨fuel, hf⟩ := h
  rcases Go.Deep.open_slice1 ht hc hf with ⟨hcs, _⟩ | ⟨a, len, cap, m, k, V, D, Pl, hcs, _, hl, hm, hmm, _, hx⟩
  · simp [Value.cells] at hcs
    obtain ⟨rfl, rfl, rfl⟩ := hcs
    exact Nat.le_refl _
  · simp [Value.cells] at hcs
    obtain ⟨rfl, rfl, rfl⟩ := hcs
    exact hl
end Go.Proofs.YtbolfkigiachlaaDoor

/- Proved: the law TreeBuilds (P12.3) answers true and leaves its argument as it reads before. For every list of lists of bytes; no condition but the tie of the tables of sha and math/bits to the program's text. -/
namespace Go.Proofs.YtbolfkigiachlaaDoor.treeBuilds
open Go.ChangeShapes Go.WideShapes Go.ChangeAt Go.WideMaps Go.WideElems Go.RowKit

theorem own : ownKnob Tryd.prog.godebug = none := by kernel_rfl
theorem laidOut : laidOutB Tryd.prog = true := by kernel_rfl
theorem door_met (os : Os) (args : Array Value) : laidMetH Tryd.prog laid4 ((World.doorLaid Tryd.prog 400 os).forCall (fun _ _ => 0) ⟨#[], args, []⟩).memory :=
  laidMetH_of_parts3 (fuel := 8) (laidMet_of_run' 8 (by kernel_rfl) (by kernel_rfl)) (by kernel_rfl) (by kernel_rfl)

set_option maxRecDepth 100000 in
theorem lifted (os : Os) (started : os.Started) (H : Type) (enc : TypeId × Value → H) :
    ReturnsInHanded {} Tryd.checked os 7 .any (fun w args => (Rows.treeBuildsSpec.pre enc Tryd.prog Tryd.f7 [] false w args ∧ laidMetH Tryd.prog laid4 w) ∧ sizedMet enc Tryd.prog Tryd.f7 (OpenSpec.ofChange Rows.treeBuildsSpec) false w args)
      (Rows.treeBuildsSpec.post enc Tryd.prog Tryd.f7 false true false false) := by
  refine returnsInHanded_of_change_and (C := Tryd.checked) (X := fun w _ => laidMetH Tryd.prog laid4 w) (fun _ _ _ hh h => h.of_heap hh) own started (by kernel_rfl) Tryd.func7
    (ChangeSpec.witness_shaped (enc := enc) (C := Tryd.checked) (os := os) (X := fun w _ => laidMetH Tryd.prog laid4 w) false (World.doorLaid Tryd.prog 400 os) #[.slice none 0 0] 8 rfl (World.shaped_of_RefB (by kernel_rfl) (by kernel_rfl)) (by kernel_rfl) (by kernel_rfl) (by kernel_rfl) (door_met os _)) ?_
  intro W base args ds gs before hval0 hW _ _ hL _
  have hval : ∀ (j : Nat) t v, Tryd.f7.params[j]? = some t → args[j]? = some v → Value.okWide Tryd.prog W .any base t v := hval0
  have hW' := hW
  obtain ⟨p, q, hA0, hV, rfl, hfz, hnd⟩ := hW
  have hA : DataW.TrodAll enc Tryd.prog W 0 (fun _ => true) true Tryd.f7.params.toList args.toList ds p := hA0
  rw [Tryd.params7] at hA hval
  obtain ⟨v0, vs0, d0, ds0, p0, q0, hargs, rfl, rfl, h0, r0⟩ := trodAll_cons hA
  obtain ⟨rfl, rfl, rfl⟩ := trodAll_nil r0
  obtain rfl : args = #[v0] := by cases args; simp_all
  obtain ⟨rfl, rfl⟩ := trodVars_none hV
  obtain ⟨a0, len0, cap0, rfl⟩ := okWide_slice Tryd.underlying28 (hval 0 28 v0 rfl rfl)
  have k0 := h0
  have lt0 : ∀ x ∈ p0, x.block < W.heap.size := by obtain ⟨m, hm⟩ := k0; exact DataW.trod_lt m _ _ _ hm
  clear hA0 hval0
  have hT : Tb4 W := tb4_of_laid hL
  obtain ⟨xss, b1, by1, hc1⟩ := trod_bssK Tryd.underlying28 (by kernel_rfl) Tryd.underlying22 Tryd.underlying5 (by kernel_rfl) k0
  refine (treeBuilds_any xss a0 len0 cap0 W hT b1 by1 hc1).mono fun e W' ⟨he, bel⟩ => ?_
  subst he
  exact ⟨_, rfl, _, _, _, [], _, [], hW', trodAll_mk1 (shut_bool Tryd.underlying4 _), (trodAll_cons_mk (Below.trod laidOut (by kernel_rfl) (of_decide_eq_true (by kernel_rfl)) k0 bel lt0) trodAll_mk0), rfl, bel.frame _, fun h => by cases h⟩

theorem over : Rows.TreeBuildsSaid :=
  OpenClaim.holds_of_wide 7 Tryd.f7 rfl rfl rfl rfl rfl rfl rfl ⟨rfl, rfl, rfl, rfl, rfl⟩ rfl rfl rfl rfl rfl (by kernel_rfl) Tryd.func7 (by kernel_rfl)
    (of_decide_eq_true (by kernel_rfl)) (by unfold Func.isWrapper; first | (rw [if_pos (by decide +kernel)]; kernel_rfl) | (rw [if_neg (by decide +kernel)]; exact ⟨rfl, rfl⟩))
    (fun os started H enc _ => lifted os started H enc)

/-- The given statement. -/
theorem proved : Rows.TreeBuildsCardSaid :=
  Claim7.holds_tied_plain_at .later [] [.data, .data, .data, .data] true (true, "b0648fd518c4990ce08bac7685aa8f2f5a1b9293710d0082bfd0a6ad335a5abc") false
    over (fun _ h => by cases h) (by kernel_rfl) (fun _ h => by cases h) treeBuilds_row_tie rfl ⟨rfl, rfl⟩ (by kernel_rfl) rfl
    (fun f fn hf hfn => by
      obtain rfl : f = 7 := Option.some.inj ((show Tryd.prog.funcNamed "intaglio/intagliolaw12.TreeBuilds" = some 7 by kernel_rfl).symm.trans hf) |>.symm
      obtain rfl : fn = Tryd.f7 := (Option.some.inj (Tryd.func7.symm.trans hfn)).symm
      exact ⟨by kernel_rfl, fun j t ht => by
        rw [Tryd.params7] at ht
        have hm : t ∈ [28] := by simpa using Array.mem_of_getElem? ht
        have hall : ([28].all fun u => !Tryd.prog.wantsStandIn u) = true := by kernel_rfl
        exact (show Tryd.prog.wantsStandIn t = false by simpa using List.all_eq_true.1 hall t hm)⟩)
    (by kernel_rfl)
#print axioms proved
end Go.Proofs.YtbolfkigiachlaaDoor.treeBuilds
