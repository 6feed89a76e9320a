/-
  Several own texts in one: TreeS, TreeT, TreeU, TreeV, TreeY, TreeX, TreeZ, TreeBc, BssK. Own work.
-/
import Derived.Test.YtbolfkigiachlaaDoorGE
import Derived.Test.YtbolfkigiachlaaDoorGA
import Derived.Test.YtbolfkigiachlaaDoorGD
set_option linter.unusedVariables false
set_option linter.unusedSimpArgs false
/-
  The law TreeRoots: contract. Own work.
-/
namespace Go.Proofs.YtbolfkigiachlaaDoor
open Go.RowKit Tr
/-- Chunks that came in, light: what the calls ask of them. -/
theorem light_ok {css : List (List Int)} (h : lightB css = true) : (∀ xs ∈ css, xs.length ≤ 100000000) ∧ (∀ xs ∈ css, xs.length ≤ 50000000) ∧ css.length ≤ 24 := by
  obtain ⟨h1, h2⟩ := light_len h
  exact ⟨fun xs hx => Nat.le_trans (h2 xs hx) (by decide), fun xs hx => Nat.le_trans (h2 xs hx) (by decide), h1⟩
set_option maxRecDepth 100000 in
set_option maxHeartbeats 2000000 in
theorem treeRoots_any (css : List (List Int)) (A : Option Addr) (n c : Nat) (w : World) (hT : Tb4 w) (hx : Bss w w.heap.size A n css) (hby : ∀ xs ∈ css, IsBy xs) (hc : n ≤ c) :
    Calls Tryd.prog 4 #[.slice A n c] w fun e w' => e = .returned (.bool true) ∧ Below w.heap.size w w' := by
  have hL := light_any css A n c w hx
  cases hl : lightB css with
  | false =>
    rw [hl] at hL
    clear hl hx hby
    go_enter Tryd.func4, Tryd.ntmps4
    go_wp2_with fail
    refine hL.mono ?_
    rintro e w1 ⟨rfl, rfl⟩
    go_wp2_with fail
    refine (tawake_any w hT).mono ?_
    rintro e w4 ⟨rfl, b4⟩
    go_wp2_with fail
    go_ret
    exact ⟨rfl, b4⟩
  | true =>
    rw [hl] at hL
    obtain ⟨hm1, hm2, hn24⟩ := light_ok hl
    have hlen := hx.1
    have H1 := troot_any css A n c w hT hx hby hm1 (by omega)
    have H2 := fun w1 (b : Below w.heap.size w w1) => rroot_any css.length css A n c w1 (Nat.le_refl _) ((hx.below b).up b.size) hby hm2 (by omega) hc
    have hE := eq32S (rtS css) (rtS_len css)
    clear hl hx hby hm1 hm2 hlen hn24
    generalize rtS css = RT at *
    go_enter Tryd.func4, Tryd.ntmps4
    go_wp2_with fail
    refine hL.mono ?_
    rintro e w1 ⟨rfl, rfl⟩
    go_wp2_with fail
    refine H1.mono ?_
    rintro e w2 ⟨rfl, b2⟩
    go_wp2_with fail
    refine (H2 w2 b2).mono ?_
    rintro e w3 ⟨rfl, b3⟩
    have B3 := b2.trans (b3.mono b2.size)
    go_wp2_with (first | rw [hE])
    refine (tawake_any w3 (hT.later B3)).mono ?_
    rintro e w4 ⟨rfl, b4⟩
    go_wp2_with fail
    go_ret
    exact ⟨rfl, B3.trans (b4.mono B3.size)⟩
end Go.Proofs.YtbolfkigiachlaaDoor

/-
  Trees, the document's answer: a chunk's path: contract. Own work.
-/
namespace Go.Proofs.YtbolfkigiachlaaDoor
open Go.RowKit Tr
theorem run_sliceToO {P : Program} {w : World} {a : Act} {o : Oper} (T : Nat) (x y : Operand) (ho : o.op = .slice T x none (some y) none) (e z : Nat) (hu : P.underlying T = some (.slice e)) (hs : ∀ w, (sizeOf e).run P w = .ok z w) (A : Option Addr) (len cap m : Nat) (kd : IntKind)
    (hx : a.eval x = .slice A len cap) (hy : a.eval y = .int kd m) (h1 : m ≤ cap) : (execOp a.eval o).run P w = .ok (.value (.slice A m cap)) w := by
  unfold execOp
  simp only [ho, hx, hy, Option.map_some, Option.map_none, Sem.run_bind, run_sliceTo w T e z hu hs A len cap kd (m : Int) m rfl h1, Result.andThen_ok, Sem.run_pure]
theorem run_sliceFromO {P : Program} {w : World} {a : Act} {o : Oper} (T : Nat) (x y : Operand) (ho : o.op = .slice T x (some y) none none) (e : Nat) (hu : P.underlying T = some (.slice e)) (hs : ∀ w, (sizeOf e).run P w = .ok 1 w) (A : Option Addr) (len cap I : Nat) (kl : IntKind)
    (hx : a.eval x = .slice A len cap) (hy : a.eval y = .int kl I) (h1 : I ≤ len) : (execOp a.eval o).run P w = .ok (.value (.slice (subA A cap I) (len - I) (cap - I))) w := by
  unfold execOp
  simp only [ho, hx, hy, Option.map_some, Option.map_none, Sem.run_bind, run_sliceFrom w T e hu hs A len cap kl I h1, Result.andThen_ok, Sem.run_pure]
theorem wl_build1A {P : Program} {ops : Array Oper} {rest : List Oper} {o : Oper} {a : Act} {w : World} {Q : Exit → Act → World → Prop} (hgd : o.guard = none) (t : TypeId) (x : Operand) (ho : o.op = .buildSlice t 1 #[(0, x)]) (e : TypeId) (i : TypeInfo) (z : Value) (M : List Value) (n : Nat) (ht : P.underlying t = some (.slice e)) (hi : P.info? e = some i) (hz : i.zero = some z) (hzs : z.cells.size = n) (hsz : i.size = n) (hl : M.length = n) (h0 : 0 < n) (hn : n ≤ 1000) (hx : a.eval x = .agg M.toArray)
    (hk : ∀ g w', Row w' e g M → w.heap.size ≤ g → g < w'.heap.size → Below w.heap.size w w' → wpList P ops Q rest (a.put o.dst (.slice (some ⟨g, 0, none⟩) 1 1)) w') : wpList P ops Q (o :: rest) a w :=
  wpList_plain hgd fun K hK => st_build1A t x ho e i z M n ht hi hz hzs hsz hl h0 hn hx fun g w' h1 h2 h3 h4 => hK _ _ (hk g w' h1 h2 h3 h4)
theorem ownsRow_lo {w : World} {base base' e size n : Nat} {v : Value} {xs : List Value} (h : w.ownsRow base e size v n xs) (hb : base' ≤ base) : w.ownsRow base' e size v n xs :=
  ⟨h.1, h.2.imp id fun ⟨g, cap, cur, e1, h1, h2⟩ => ⟨g, cap, cur, e1, Nat.le_trans hb h1, h2⟩⟩
set_option maxRecDepth 100000 in
set_option maxHeartbeats 4000000 in
theorem rpath_any : ∀ (N : Nat) (css : List (List Int)) (A : Option Addr) (n c j : Nat) (w : World), css.length ≤ N → Bss w w.heap.size A n css → (∀ xs ∈ css, IsBy xs) → (∀ xs ∈ css, xs.length ≤ 50000000) → n ≤ 1000000 → n ≤ c → j < n →
    Calls Tryd.prog 19 #[.slice A n c, .int .i64 (j : Int)] w (IsPath (pathT leafS nodeS noneS css j) w) := by
  intro N
  induction N with
  | zero => intro css A n c j w hN hx hby hm hn hc hj; have := hx.1; omega
  | succ N ih =>
    intro css A n c j w hN hx hby hm hn hc hj
    have hlen := hx.1
    have hd1 : ¬ ((j : Int) < 0) := by omega
    have hd2 : ¬ ((n : Int) ≤ (j : Int)) := by omega
    have hd3 : decide ((n : Int) ≤ (j : Int)) = false := by simp; omega
    by_cases h1 : n = 1
    · have hp : pathT leafS nodeS noneS css j = [] := path_one _ _ _ (by omega)
      rw [hp]
      subst h1
      clear hx hby hm ih hp
      go_enter Tryd.func19, Tryd.ntmps19
      go_wp2_with fail
      go_ret2
      exact ⟨.slice none 0 0, rfl, World.ownsRow_nil _ _ _ _, Below.refl _ _⟩
    · have h2 : 2 ≤ css.length := by omega
      obtain ⟨i32, hi32, hz32, hs32, hb32⟩ := s32_info
      have zs32c : (Value.agg (bv (List.replicate 32 0)).toArray).cells.size = 32 := by simp [Value.cells, bv]
      have hkl := half_lt h2
      have hkp := half_pos css.length
      have hH := fun w => half_any n w (by omega) (by omega)
      rw [← hlen] at hH
      have hq1 : ((n : Int) == 1) = false := beq_eq_false_iff_ne.2 (by omega)
      have hlo := fun h => path_lo leafS nodeS noneS (l := css) (i := j) h2 h
      have hhi := fun h => path_hi leafS nodeS noneS (l := css) (i := j) h2 h
      have hlenI : (css.length : Int) = (n : Int) := by omega
      rw [hlenI] at hH
      obtain ⟨k, hk⟩ : ∃ k, halfN css.length = k := ⟨_, rfl⟩
      rw [hk] at hlo hhi hH hkl hkp
      have hkn : k < n := by omega
      have hkc : k ≤ c := by omega
      have hkn2 : k ≤ n := by omega
      have hmany := others_many n 0 n j (by omega) 20 (by omega)
      have hpl : (pathT leafS nodeS noneS css j).length ≤ 20 := by unfold pathT; rw [List.length_map, hlen]; exact hmany
      have hbyT : ∀ xs ∈ css.take k, IsBy xs := fun xs h => hby xs (List.mem_of_mem_take h)
      have hbyD : ∀ xs ∈ css.drop k, IsBy xs := fun xs h => hby xs (List.mem_of_mem_drop h)
      have hmT : ∀ xs ∈ css.take k, xs.length ≤ 50000000 := fun xs h => hm xs (List.mem_of_mem_take h)
      have hmD : ∀ xs ∈ css.drop k, xs.length ≤ 50000000 := fun xs h => hm xs (List.mem_of_mem_drop h)
      have hxT := hx.take k hkn2
      have hxD := hx.drop (c := c) k hkn2 hc
      have hkI : (k : Int) ≤ 1000000 := by omega
      have hjI : (j : Int) ≤ 1000000 := by omega
      clear hmany hk hx hby hm hlenI
      have h1000 : 32 ≤ 1000 := by decide
      have h032 : 0 < 32 := by decide
      by_cases hjk : j < k
      · have hpath := hlo hjk
        have hd4 : decide ((j : Int) < (k : Int)) = true := by simp; omega
        have hIH := ih (css.take k) A k c j w (by rw [List.length_take]; omega) hxT hbyT hmT (by omega) (by omega) (by omega)
        
        have HR := fun w1 (b : Below w.heap.size w w1) => rroot_any _ (css.drop k) (subA A c k) (n - k) (c - k) w1 (Nat.le_refl _) ((hxD.below b).up b.size) hbyD hmD (by omega) (by omega)
        have hrl := rtS_len (css.drop k)
        have hbl : (bv (rtS (css.drop k))).length = 32 := by rw [bv_len, hrl]
        rw [hpath, List.length_append] at hpl
        have hpl1 : (pathT leafS nodeS noneS (css.take k) j).length + 1 ≤ 20 := hpl
        have hbl1 : (bv (rtS (css.drop k))).length = 1 * 32 := by rw [hbl]
        have hm1 : (pathT leafS nodeS noneS (css.take k) j).length + 1 ≤ maxLen := by simp only [maxLen]; omega
        have hm2 : ((pathT leafS nodeS noneS (css.take k) j).length + 1) * 32 ≤ 140737488355328 := by omega
        have hfl : (pathT leafS nodeS noneS css j).flatten = (pathT leafS nodeS noneS (css.take k) j).flatten ++ rtS (css.drop k) := by rw [hpath, List.flatten_append, List.flatten_singleton]
        have hle : (pathT leafS nodeS noneS css j).length = (pathT leafS nodeS noneS (css.take k) j).length + 1 := by rw [hpath, List.length_append]; rfl
        have HFL := hide hfl
        have HLE := hide hle
        clear hpath hpl hpl1 hfl hle hlo hhi ih hrl hbyT hbyD hmT hmD hxT hxD hN hlen h2
        generalize pathT leafS nodeS noneS (css.take k) j = pp at *
        generalize rtS (css.drop k) = rr at *
        go_enter Tryd.func19, Tryd.ntmps19
        go_wp2_with fail
        refine (hH w).mono ?_
        rintro e w0 ⟨rfl, rfl⟩
        clear hH
        go_wp2_with (first | (with_reducible refine wl_run (o := ⟨some 31, _, _, _, _, _⟩) rfl _ (run_sliceToO 28 (.tmp 29) (.tmp 30) rfl 22 1 Tryd.underlying28 Tryd.sizeOf22 A n c k .i64 rfl rfl hkc) ?_))
        refine hIH.mono ?_
        rintro e w2 ⟨pv, rfl, own, b2⟩
        clear hIH
        go_wp2_with (first | (with_reducible refine wl_run (o := ⟨some 39, _, _, _, _, _⟩) rfl _ (run_sliceFromO 28 (.tmp 37) (.tmp 38) rfl 22 Tryd.underlying28 Tryd.sizeOf22 A n c k .i64 rfl rfl hkn2) ?_))
        refine (HR w2 b2).mono ?_
        rintro e w3 ⟨rfl, b3⟩
        have own3 := ownsRow_lat own b3
        have B3 := b2.trans (b3.mono b2.size)
        have hwb : w.heap.size ≤ w3.heap.size := B3.size
        clear own HR
        go_wp2_with (first
          | ((with_reducible refine wl_build1A rfl 31 (.tmp 40) rfl 23 i32 _ (bv rr) 32 Tryd.underlying31 hi32 hz32 zs32c hs32 hbl h032 h1000 rfl ?_); intro g7 w4 r7 p7 l7 b4; have own4 := ownsRow_lat own3 b4; have hwb4 := Nat.le_trans hwb b4.size)
          | ((at_builtin; with_reducible refine wl_append_at rfl (.tmp 36) (.tmp 41) 31 rfl w.heap.size 23 i32 _ 32 32 Tryd.underlying31 hi32 hz32 hs32 hb32 zs32c h032 pv pp.length (bv pp.flatten) rfl own4 ⟨g7, 0, none⟩ 1 1 (bv rr) rfl hbl1 (row_src r7) (bv_one _) hm1 hm2 hwb4 ?_); intro v5 w5 own5 gr5 _))
        have B5 : Below w.heap.size w w5 := (B3.trans (b4.mono hwb)).grown gr5 hwb4 fun k hk => (own4.lt k hk).1
        go_ret2
        refine ⟨v5, rfl, ?_, B5⟩
        rw [HFL.out, HLE.out, show bv (pp.flatten ++ rr) = bv pp.flatten ++ bv rr by simp [bv]]
        exact own5
      
      · have hpath := hhi hjk
        have hd4 : decide ((j : Int) < (k : Int)) = false := by simp; omega
        have hIH := ih (css.drop k) (subA A c k) (n - k) (c - k) (j - k) w (by rw [List.length_drop]; omega) hxD hbyD hmD (by omega) (by omega) (by omega)
        rw [show ((j - k : Nat) : Int) = (j : Int) - (k : Int) by omega] at hIH
        have HR := fun w1 (b : Below w.heap.size w w1) => rroot_any _ (css.take k) A k c w1 (Nat.le_refl _) ((hxT.below b).up b.size) hbyT hmT (by omega) (by omega)
        have hrl := rtS_len (css.take k)
        have hbl : (bv (rtS (css.take k))).length = 32 := by rw [bv_len, hrl]
        rw [hpath, List.length_append] at hpl
        have hpl1 : (pathT leafS nodeS noneS (css.drop k) (j - k)).length + 1 ≤ 20 := hpl
        have hbl1 : (bv (rtS (css.take k))).length = 1 * 32 := by rw [hbl]
        have hm1 : (pathT leafS nodeS noneS (css.drop k) (j - k)).length + 1 ≤ maxLen := by simp only [maxLen]; omega
        have hm2 : ((pathT leafS nodeS noneS (css.drop k) (j - k)).length + 1) * 32 ≤ 140737488355328 := by omega
        have hfl : (pathT leafS nodeS noneS css j).flatten = (pathT leafS nodeS noneS (css.drop k) (j - k)).flatten ++ rtS (css.take k) := by rw [hpath, List.flatten_append, List.flatten_singleton]
        have hle : (pathT leafS nodeS noneS css j).length = (pathT leafS nodeS noneS (css.drop k) (j - k)).length + 1 := by rw [hpath, List.length_append]; rfl
        have HFL := hide hfl
        have HLE := hide hle
        clear hpath hpl hpl1 hfl hle hlo hhi ih hrl hbyT hbyD hmT hmD hxT hxD hN hlen h2
        generalize pathT leafS nodeS noneS (css.drop k) (j - k) = pp at *
        generalize rtS (css.take k) = rr at *
        go_enter Tryd.func19, Tryd.ntmps19
        go_wp2_with fail
        refine (hH w).mono ?_
        rintro e w0 ⟨rfl, rfl⟩
        clear hH
        go_wp2_with (first | (with_reducible refine wl_run (o := ⟨some 46, _, _, _, _, _⟩) rfl _ (run_sliceFromO 28 (.tmp 44) (.tmp 45) rfl 22 Tryd.underlying28 Tryd.sizeOf22 A n c k .i64 rfl rfl hkn2) ?_))
        refine hIH.mono ?_
        rintro e w2 ⟨pv, rfl, own, b2⟩
        clear hIH
        go_wp2_with (first | (with_reducible refine wl_run (o := ⟨some 56, _, _, _, _, _⟩) rfl _ (run_sliceToO 28 (.tmp 54) (.tmp 55) rfl 22 1 Tryd.underlying28 Tryd.sizeOf22 A n c k .i64 rfl rfl hkc) ?_))
        refine (HR w2 b2).mono ?_
        rintro e w3 ⟨rfl, b3⟩
        have own3 := ownsRow_lat own b3
        have B3 := b2.trans (b3.mono b2.size)
        have hwb : w.heap.size ≤ w3.heap.size := B3.size
        clear own HR
        go_wp2_with (first
          | ((with_reducible refine wl_build1A rfl 31 (.tmp 57) rfl 23 i32 _ (bv rr) 32 Tryd.underlying31 hi32 hz32 zs32c hs32 hbl h032 h1000 rfl ?_); intro g7 w4 r7 p7 l7 b4; have own4 := ownsRow_lat own3 b4; have hwb4 := Nat.le_trans hwb b4.size)
          | ((at_builtin; with_reducible refine wl_append_at rfl (.tmp 53) (.tmp 58) 31 rfl w.heap.size 23 i32 _ 32 32 Tryd.underlying31 hi32 hz32 hs32 hb32 zs32c h032 pv pp.length (bv pp.flatten) rfl own4 ⟨g7, 0, none⟩ 1 1 (bv rr) rfl hbl1 (row_src r7) (bv_one _) hm1 hm2 hwb4 ?_); intro v5 w5 own5 gr5 _))
        have B5 : Below w.heap.size w w5 := (B3.trans (b4.mono hwb)).grown gr5 hwb4 fun k hk => (own4.lt k hk).1
        go_ret2
        refine ⟨v5, rfl, ?_, B5⟩
        rw [HFL.out, HLE.out, show bv (pp.flatten ++ rr) = bv pp.flatten ++ bv rr by simp [bv]]
        exact own5
end Go.Proofs.YtbolfkigiachlaaDoor

/-
  The law TreePaths: contract. Own work.
-/
namespace Go.Proofs.YtbolfkigiachlaaDoor
open Go.RowKit Tr
/-- A path, or none. -/
def RetPt (ss : List (List Int)) (b : Bool) (w : World) (e : Ending) (w' : World) : Prop := ∃ A c, e = .returned (.tuple #[.slice A ss.length c, .bool b]) ∧ Sms w' w'.heap.size A ss ∧ ss.length ≤ c ∧ Below w.heap.size w w'
theorem path_sums (css : List (List Int)) (j : Nat) : (∀ s ∈ pathT leafS nodeS noneS css j, s.length = 32) ∧ ∀ s ∈ pathT leafS nodeS noneS css j, IsBy s := by
  unfold pathT
  constructor
  · intro s hs
    obtain ⟨p, _, rfl⟩ := List.mem_map.1 hs
    exact rtS_len _
  · intro s hs
    obtain ⟨p, _, rfl⟩ := List.mem_map.1 hs
    exact rtS_by _
theorem isPath_ret {css : List (List Int)} {j : Nat} {w w' : World} {e : Ending} (h : IsPath (pathT leafS nodeS noneS css j) w e w') : RetPt (pathT leafS nodeS noneS css j) true w e w' := by
  obtain ⟨pv, rfl, own, b⟩ := h
  obtain ⟨A, c, rfl, hb, hc, _, _⟩ := owns_bs (N := 32 * (pathT leafS nodeS noneS css j).length) own (Nat.mul_comm _ _)
  exact ⟨A, c, rfl, ⟨hb, (path_sums css j).1, (path_sums css j).2⟩, hc, b⟩
theorem noPath_ret {w w' : World} {e : Ending} (h : NoPath w e w') : RetPt [] false w e w' := by
  obtain ⟨rfl, b⟩ := h
  exact ⟨none, 0, rfl, Sms.nil_, Nat.le_refl _, b⟩
set_option maxRecDepth 100000 in
theorem rpath_no (A : Option Addr) (n c : Nat) (i : Int) (w : World) (hi : i < 0 ∨ (n : Int) ≤ i) : Calls Tryd.prog 19 #[.slice A n c, .int .i64 i] w (NoPath w) := by
  by_cases h0 : i < 0
  · go_enter Tryd.func19, Tryd.ntmps19
    go_wp2_with fail
    go_ret2
    exact ⟨rfl, Below.refl _ _⟩
  · have h1 : (n : Int) ≤ i := by omega
    have h2 : ¬ (i < (n : Int)) := by omega
    clear hi
    go_enter Tryd.func19, Tryd.ntmps19
    go_wp2_with fail
    go_ret2
    exact ⟨rfl, Below.refl _ _⟩
/-- Both answer the same. -/
theorem both_paths (css : List (List Int)) (A : Option Addr) (n c : Nat) (i : Int) (hby : ∀ xs ∈ css, IsBy xs) (hm1 : ∀ xs ∈ css, xs.length ≤ 100000000) (hm2 : ∀ xs ∈ css, xs.length ≤ 50000000) (hn : n ≤ 1000000) (hc : n ≤ c) (hlen : css.length = n) :
    ∃ ss b, (∀ s ∈ ss, s.length = 32) ∧ ss.length ≤ 1000 ∧ ∀ w, Tb4 w → Bss w w.heap.size A n css → Calls Tryd.prog 18 #[.slice A n c, .int .i64 i] w (RetPt ss b w) ∧ Calls Tryd.prog 19 #[.slice A n c, .int .i64 i] w (RetPt ss b w) := by
  by_cases hi : i < 0 ∨ (n : Int) ≤ i
  · exact ⟨[], false, (fun _ h => by cases h), by decide, fun w hT hx => ⟨(path_no A n c i w hi).mono fun e w' h => noPath_ret h, (rpath_no A n c i w hi).mono fun e w' h => noPath_ret h⟩⟩
  · obtain ⟨j, rfl⟩ : ∃ j : Nat, i = (j : Int) := ⟨i.toNat, by omega⟩
    have hj : j < n := by omega
    refine ⟨pathT leafS nodeS noneS css j, true, (path_sums css j).1, ?_, fun w hT hx => ⟨(path_any css A n c j w hT hx hby hm1 hn hc hj).mono fun e w' h => isPath_ret h, (rpath_any css.length css A n c j w (Nat.le_refl _) hx hby hm2 hn hc hj).mono fun e w' h => isPath_ret h⟩⟩
    unfold pathT
    rw [List.length_map]
    exact Nat.le_trans (others_many css.length 0 css.length j (by omega) 20 (by omega)) (by decide)
def STp (s : List Int) (b1 o1 c1 b2 o2 c2 m k : Nat) (opn : Nat) (v : Value) : Prop :=
  match opn with
  | 0 => v = .slice (some ⟨b1, o1, none⟩) m c1
  | 1 | 5 => v = .int .i64 (k : Int)
  | 2 => v = .pointer (some ⟨b1, o1 + k * 32, none⟩)
  | 3 | 7 => v = .agg (bv s).toArray
  | 4 => v = .slice (some ⟨b2, o2, none⟩) m c2
  | 6 => v = .pointer (some ⟨b2, o2 + k * 32, none⟩)
  | 8 => v = .bool false
  | _ => True

set_option maxRecDepth 100000 in
set_option maxHeartbeats 4000000 in
theorem treePaths_any (css : List (List Int)) (A : Option Addr) (n c : Nat) (i : Int) (w : World) (hT : Tb4 w) (hx : Bss w w.heap.size A n css) (hby : ∀ xs ∈ css, IsBy xs) (hc : n ≤ c) :
    Calls Tryd.prog 5 #[.slice A n c, .int .i64 i] w fun e w' => e = .returned (.bool true) ∧ Below w.heap.size w w' := by
  have hL := light_any css A n c w hx
  cases hl : lightB css with
  | false =>
    rw [hl] at hL
    clear hl hx hby
    go_enter Tryd.func5, Tryd.ntmps5
    go_wp2_with fail
    refine hL.mono ?_
    rintro e w1 ⟨rfl, rfl⟩
    go_wp2_with fail
    refine (tawake_any w hT).mono ?_
    rintro e w4 ⟨rfl, b4⟩
    go_wp2_with fail
    go_ret
    exact ⟨rfl, b4⟩
  | true =>
    rw [hl] at hL
    obtain ⟨hm1, hm2, hn24⟩ := light_ok hl
    have hlen := hx.1
    obtain ⟨ss, b, hss, hs1000, H⟩ := both_paths css A n c i hby hm1 hm2 (by omega) hc hlen
    have H1 := (H w hT hx).1
    have H2 := fun w1 (b : Below w.heap.size w w1) => (H w1 (hT.later b) ((hx.below b).up b.size)).2
    obtain ⟨m, hm⟩ : ∃ m, ss.length = m := ⟨_, rfl⟩
    have hq1 : (b != b) = false := by cases b <;> rfl
    have hq2 : ((m : Int) != (m : Int)) = false := by simp
    have hmI : (m : Int) ≤ 1000 := by omega
    clear hl hx hby hm1 hm2 hlen hn24 H hs1000
    go_enter Tryd.func5, Tryd.ntmps5
    go_wp2_with fail
    refine hL.mono ?_
    rintro e w1 ⟨rfl, rfl⟩
    go_wp2_with fail
    refine H1.mono ?_
    rintro e w2 ⟨A1, c1, rfl, hS1, hc1, b2⟩
    rw [hm] at hc1 ⊢
    go_wp2_with fail
    refine (H2 w2 b2).mono ?_
    rintro e w3 ⟨A2, c2, rfl, hS2, hc2, b3⟩
    rw [hm] at hc2 ⊢
    have B3 := b2.trans (b3.mono b2.size)
    have hS1b := hS1.later b3
    clear H1 H2 hL hS1
    go_wp2_with fail
    go_loopw [9] (fun iv wr => ∃ k : Nat, k ≤ m ∧ iv = .int .i64 k ∧ Below w3.heap.size w3 wr) (fun iv _ => m - (intOf iv).toNat)
    case atStart => exact ⟨0, Nat.zero_le _, rfl, Below.refl _ _⟩
    case round =>
      obtain ⟨k, hk, rfl, bk⟩ := hrel
      by_cases hlt : k < m
      · obtain ⟨s, hs⟩ : ∃ s, ss[k]? = some s := ⟨_, List.getElem?_eq_getElem (by omega)⟩
        have hs32 := hss s (List.mem_of_getElem? hs)
        have zs := hide (size32b hs32)
        obtain ⟨b1, o1, rfl, hb1, hcA⟩ := hS1b.cells hs
        obtain ⟨b2, o2, rfl, hb2, hcB⟩ := hS2.cells hs
        have hc1 : ∀ w1, Below wr.heap.size wr w1 → ∀ j v, (bv s)[j]? = some v → w1.cell? ⟨b1, o1 + k * 32 + j, none⟩ = some v := fun w1 b j v hv => (b.cell (p := ⟨b1, o1 + k * 32 + j, none⟩) (Nat.lt_of_lt_of_le hb1 bk.size)).trans ((bk.cell (p := ⟨b1, o1 + k * 32 + j, none⟩) hb1).trans (hcA j v hv))
        have hc2 : ∀ w1, Below wr.heap.size wr w1 → ∀ j v, (bv s)[j]? = some v → w1.cell? ⟨b2, o2 + k * 32 + j, none⟩ = some v := fun w1 b j v hv => (b.cell (p := ⟨b2, o2 + k * 32 + j, none⟩) (Nat.lt_of_lt_of_le hb2 bk.size)).trans ((bk.cell (p := ⟨b2, o2 + k * 32 + j, none⟩) hb2).trans (hcB j v hv))
        have hd1 : decide ((k : Int) < (m : Int)) = true := by simp; omega
        have hq : k < m := hlt
        clear hcA hcB hS1b hS2 hss hs
        go_wp2_with fail
        rename_i K1 hK1
        refine wp_region_valsG [] (STp s b1 o1 c1 b2 o2 c2 m k) (JR wr) (by kernel_rfl) (by kernel_rfl) (by kernel_rfl) (by kernel_rfl) (Below.refl _ _).drew ?obs ?he
        case obs =>
          refine ⟨?_, ?_, ?_, ?_, ?_, ?_, ?_, ?_, ?_, trivial⟩
          · refine ⟨.inl rfl, ?_⟩
            exact .inl ⟨by kernel_rfl, fun L a1 w1 n h => ⟨_, rfl, run_move (.tmp 5) rfl (h.var n 5 (by kernel_rfl))⟩⟩
          · refine ⟨.inl rfl, ?_⟩
            exact .inl ⟨by kernel_rfl, fun L a1 w1 n h => ⟨_, rfl, run_move (.tmp 9) rfl (h.var n 9 (by kernel_rfl))⟩⟩
          · refine ⟨.inl rfl, ?_⟩
            exact .inl ⟨by kernel_rfl, fun L a1 w1 n h => ⟨_, rfl, run_indexSlN 31 (.tmp 42) (.tmp 43) 23 32 b1 o1 m c1 k rfl Tryd.underlying31 Tryd.sizeOf23 (h.dep n 0 42 (by kernel_rfl) rfl) (h.dep n 1 43 (by kernel_rfl) rfl) hq⟩⟩
          · refine ⟨.inl rfl, ?_⟩
            exact .inl ⟨by kernel_rfl, fun L a1 w1 n h => ⟨_, rfl, run_loadM 23 (.tmp 44) b1 (o1 + k * 32) (bv s) _ rfl (h.dep n 2 44 (by kernel_rfl) rfl) (hc1 w1 h.inv) Tryd.underlying23 rfl zs.out⟩⟩
          · refine ⟨.inl rfl, ?_⟩
            exact .inl ⟨by kernel_rfl, fun L a1 w1 n h => ⟨_, rfl, run_move (.tmp 7) rfl (h.var n 7 (by kernel_rfl))⟩⟩
          · refine ⟨.inl rfl, ?_⟩
            exact .inl ⟨by kernel_rfl, fun L a1 w1 n h => ⟨_, rfl, run_move (.tmp 9) rfl (h.var n 9 (by kernel_rfl))⟩⟩
          · refine ⟨.inl rfl, ?_⟩
            exact .inl ⟨by kernel_rfl, fun L a1 w1 n h => ⟨_, rfl, run_indexSlN 31 (.tmp 46) (.tmp 47) 23 32 b2 o2 m c2 k rfl Tryd.underlying31 Tryd.sizeOf23 (h.dep n 4 46 (by kernel_rfl) rfl) (h.dep n 5 47 (by kernel_rfl) rfl) hq⟩⟩
          · refine ⟨.inl rfl, ?_⟩
            exact .inl ⟨by kernel_rfl, fun L a1 w1 n h => ⟨_, rfl, run_loadM 23 (.tmp 48) b2 (o2 + k * 32) (bv s) _ rfl (h.dep n 6 48 (by kernel_rfl) rfl) (hc2 w1 h.inv) Tryd.underlying23 rfl zs.out⟩⟩
          · refine ⟨.inl rfl, ?_⟩
            exact .inl ⟨by kernel_rfl, fun L a1 w1 n h => ⟨_, rfl, run_neqF (.tmp 45) (.tmp 49) rfl Tryd.underlying23 (Classical.choose_spec u8_info).1 (by kernel_rfl) Tryd.underlying5 Tryd.isAgg5 s (h.dep n 3 45 (by kernel_rfl) rfl) (h.dep n 7 49 (by kernel_rfl) rfl) (hs32) (by kernel_rfl)⟩⟩
        case he =>
          intro V w9 hV hJ
          have b9 : Below wr.heap.size wr w9 := hJ
          have hv : V 8 = .bool false := hV 8 50 rfl
          clear hV hJ
          simp only [putOps, List.setIfInBounds_toArray, List.set_cons_succ, List.set_cons_zero, Nat.reduceAdd]
          rw [hv]
          refine hK1 _ _ ?_
          go_wp2_with fail
          go_roundw
          case rel => exact ⟨k + 1, by omega, by go_num, bk.trans (b9.mono bk.size)⟩
          case measure => simp [intOf]; omega
      · have hd1 : decide ((k : Int) < (m : Int)) = false := by simp; omega
        go_wp2_with fail
        refine (tawake_any wr ((hT.later B3).later bk)).mono ?_
        rintro e w4 ⟨rfl, b4⟩
        go_wp2_with fail
        go_ret
        exact ⟨rfl, (B3.trans (bk.mono B3.size)).trans (b4.mono (B3.trans (bk.mono B3.size)).size)⟩
end Go.Proofs.YtbolfkigiachlaaDoor

/-
  Trees, the document's answer: on which sides the other parts stand: contract. Own work.
-/
namespace Go.Proofs.YtbolfkigiachlaaDoor
open Go.RowKit Tr
section
variable {P : Program}
/-- 'append(l, out...)', both rows of the call's own. -/
theorem run_append_two (w : World) (base base2 t ty e : Nat) (i : TypeInfo) (z : Value) (bytes : Nat) (ht : P.underlying t = some (.slice e)) (hi : P.info? e = some i) (hz : i.zero = some z) (hsz : i.size = 1) (hby : i.bytes = bytes) (hzc : z.cells.size = 1)
    (v : Value) (n : Nat) (xs : List Value) (hown : w.ownsRow base e 1 v n xs) (v2 : Value) (m : Nat) (ys : List Value) (hown2 : w.ownsRow base2 e 1 v2 m ys) (h1 : ∀ u ∈ ys, u.oneCell' = true) (h63 : n + m ≤ maxLen) (hbytes : (n + m) * bytes ≤ 140737488355328) (hbase : base ≤ w.heap.size) :
    ∃ v' w', (Builtin.append_ #[t, t] ty #[v, v2]).run P w = .ok v' w' ∧ w'.ownsRow base e 1 v' (n + m) (xs ++ ys) ∧ w.grownBy w' v.ownBlock := by
  have hyl := hown2.1
  rcases hown2.2 with ⟨rfl, rfl⟩ | ⟨g2, cap2, cur2, rfl, _⟩
  · obtain rfl : ys = [] := List.eq_nil_of_length_eq_zero (by omega)
    refine ⟨v, w, ?_, by simpa using hown, ⟨rfl, rfl, rfl, Nat.le_refl _, fun _ _ _ => rfl⟩⟩
    rcases hown.2 with ⟨rfl, rfl⟩ | ⟨g, cap, cur, rfl, _, _, hnc, _⟩
    · simp [Builtin.append_, run_underlying ht, sizeOf, typeInfo, hi, Builtin.lenOf, Builtin.firstCells]
    · simp [Builtin.append_, run_underlying ht, sizeOf, typeInfo, hi, Builtin.lenOf, Builtin.firstCells, hnc, storeCells]
  · obtain ⟨v', w', r1, r2, r3, _⟩ := run_append_own (P := P) w base t ty e i z 1 bytes ht hi hz hsz hby hzc (by decide) v n xs hown ⟨g2, 0, none⟩ m cap2 ys (by rw [hyl]) (hown2.cells rfl) h1 h63 hbytes hbase
    exact ⟨v', w', r1, r2, r3⟩
theorem wl_append_two {w : World} {ops : Array Oper} {rest : List Oper} {o : Oper} {a : Act} {Q : Exit → Act → World → Prop} (hgd : o.guard = none) (s x : Operand) (t : TypeId) (ho : o.op = .call { callee := .builtin .append, args := #[s, x], argTypes := #[t, t] })
    (base base2 : Nat) (e : TypeId) (i : TypeInfo) (z : Value) (bytes : Nat) (ht : P.underlying t = some (.slice e)) (hi : P.info? e = some i) (hz : i.zero = some z) (hsz : i.size = 1) (hby : i.bytes = bytes) (hzc : z.cells.size = 1)
    (v : Value) (n : Nat) (xs : List Value) (hs : a.eval s = v) (hown : w.ownsRow base e 1 v n xs) (v2 : Value) (m : Nat) (ys : List Value) (hx : a.eval x = v2) (hown2 : w.ownsRow base2 e 1 v2 m ys) (h1 : ∀ u ∈ ys, u.oneCell' = true) (h63 : n + m ≤ maxLen) (hbytes : (n + m) * bytes ≤ 140737488355328) (hbase : base ≤ w.heap.size)
    (hk : ∀ v' w', w'.ownsRow base e 1 v' (n + m) (xs ++ ys) → w.grownBy w' v.ownBlock → wpList P ops Q rest (a.put o.dst v') w') : wpList P ops Q (o :: rest) a w := by
  refine wpList_plain hgd fun K hK => ?_
  obtain ⟨v', w', hrun, h2, h3⟩ := run_append_two (P := P) w base base2 t o.type e i z bytes ht hi hz hsz hby hzc v n xs hown v2 m ys hown2 h1 h63 hbytes hbase
  unfold Oper.wp execOp
  simp only [ho, resolve, invoke, builtin, Sem.run_bind, Sem.run_pure, Result.andThen_ok, List.map_toArray, List.map_cons, List.map_nil, hs, hx, hrun]
  exact hK _ _ (hk v' w' h2 h3)
end
theorem own_kept0 {w w' : World} {base e size n : Nat} {v : Value} {xs : List Value} (h : w.ownsRow base e size v n xs) (hg : w.grownBy w' none) : w'.ownsRow base e size v n xs := by
  refine h.kept hg ?_
  cases hv : v.ownBlock with
  | none => exact .inl rfl
  | some k => exact .inr (fun e => by cases e)
/-- A side as the document tells it: 1 to the right, 0 to the left. -/
def sideV (b : Bool) : Value := .int .i64 (bif b then 0 else 1)
theorem side_one (l : List Bool) : ∀ u ∈ l.map sideV, u.oneCell' = true := by
  intro u hu
  obtain ⟨b, _, rfl⟩ := List.mem_map.1 hu
  cases b <;> rfl
/-- A list of sides that a call made. -/
def RetSd (ss : List Bool) (w : World) (e : Ending) (w' : World) : Prop := ∃ v, e = .returned v ∧ w'.ownsRow w.heap.size 3 1 v ss.length (ss.map sideV) ∧ Below w.heap.size w w'
def FitJ (n j : Nat) : Prop := n ≤ 2 ^ (63 - j)
theorem fit_start {n : Nat} (h : n < 9223372036854775808) : FitJ n 0 := by
  unfold FitJ
  have : (2 : Nat) ^ (63 - 0) = 9223372036854775808 := by decide
  omega
theorem fit_step {n j : Nat} (h : FitJ n j) (h2 : 2 ≤ n) : j < 63 ∧ FitJ (halfN n) (j + 1) ∧ FitJ (n - halfN n) (j + 1) := by
  unfold FitJ at h ⊢
  have hge := half_ge h2
  obtain ⟨k, hk⟩ := half_is n
  have hlt := half_lt h2
  have hj : j < 63 := by
    rcases Nat.lt_or_ge j 63 with h1 | h1
    · exact h1
    · rw [show 63 - j = 0 by omega] at h
      omega
  have e : 2 ^ (63 - j) = 2 * 2 ^ (63 - (j + 1)) := by rw [show 63 - j = (63 - (j + 1)) + 1 by omega, Nat.pow_succ, Nat.mul_comm]
  have hle : halfN n ≤ 2 ^ (63 - (j + 1)) := by
    rw [hk]
    have : 2 ^ k < 2 ^ (63 - j) := by rw [← hk]; omega
    exact Nat.pow_le_pow_right (by decide) (by have := pow_mono_lt this; omega)
  exact ⟨hj, hle, by omega⟩
theorem int_info_ : (Tryd.prog.info? 3).map (fun i => (i.zero, i.size, i.bytes)) = some (some (.int .i64 0), 1, 8) := by kernel_rfl
theorem int_info : ∃ i, Tryd.prog.info? 3 = some i ∧ i.zero = some (.int .i64 0) ∧ i.size = 1 ∧ i.bytes = 8 := by
  have h := int_info_
  obtain ⟨i, h1, h2⟩ := Option.map_eq_some_iff.1 h
  simp only [Prod.mk.injEq] at h2
  exact ⟨i, h1, h2.1, h2.2.1, h2.2.2⟩
set_option maxRecDepth 100000 in
set_option maxHeartbeats 4000000 in
theorem rsides_any (n i : Nat) (w : World) (hn : n < 9223372036854775808) (hi : i < n) :
    Calls Tryd.prog 20 #[.int .i64 (n : Int), .int .i64 (i : Int)] w (RetSd (sidesT n i) w) := by
  obtain ⟨ii, hii, hiz, his, hib⟩ := int_info
  have HN := hide hn
  have hf0 := fit_start hn
  obtain ⟨SD, hSD⟩ : ∃ SD, SD = sidesT n i := ⟨_, rfl⟩
  rw [← hSD]
  have HSD := hide hSD
  have h01 : 0 < 1 := by decide
  clear hn hSD
  go_enter Tryd.func20, Tryd.ntmps20
  go_wp2_with fail
  go_loopw [0, 1, 5, 6] (fun nv iv ov jv wr => ∃ (m p j : Nat) (dn : List Bool), nv = .int .i64 (m : Int) ∧ iv = .int .i64 (p : Int) ∧ jv = .int .i64 (j : Int) ∧ wr.ownsRow w.heap.size 3 1 ov dn.length (dn.map sideV) ∧ SD = sidesT m p ++ dn ∧ p < m ∧ m ≤ n ∧ FitJ m j ∧ dn.length = j ∧ j ≤ 63 ∧ Below w.heap.size w wr) (fun nv _ _ _ _ => (intOf nv).toNat)
  case atStart => exact ⟨n, i, 0, [], rfl, rfl, rfl, World.ownsRow_nil _ _ _ _, by rw [HSD.out, List.append_nil], hi, Nat.le_refl _, hf0, rfl, by decide, Below.refl _ _⟩
  case round =>
    obtain ⟨m, p, j, dn, rfl, rfl, rfl, own, hsd, hpm, hmn, hfit, hdl, hj63, bk⟩ := hrel
    have hnI : (n : Int) < 9223372036854775808 := by have := HN.out; omega
    have hmI : (m : Int) ≤ 9223372036854775807 := by omega
    have hpI : (p : Int) < (m : Int) := by omega
    have hjI : (j : Int) ≤ 63 := by omega
    clear hnI
    by_cases h2 : 2 ≤ m
    · obtain ⟨hj, hfL, hfR⟩ := fit_step hfit h2
      have hkl := half_lt h2
      have hkp := half_pos m
      have hH := fun w => half_any m w h2 (by have := HN.out; omega)
      have hslo := fun h => sides_lo (n := m) (i := p) h2 h
      have hshi := fun h => sides_hi (n := m) (i := p) h2 h
      obtain ⟨k, hk⟩ : ∃ k, halfN m = k := ⟨_, rfl⟩
      rw [hk] at hfL hfR hkl hkp hH hslo hshi
      have hd1 : decide ((j : Int) < 64) = true := by simp; omega
      have hd2 : decide (1 < (m : Int)) = true := by simp; omega
      have hkI : (k : Int) < (m : Int) := by omega
      have hk0 : (0 : Int) < (k : Int) := by omega
      have h1c : ∀ z : Int, ∀ u ∈ [Value.int .i64 z], u.oneCell' = true := by intro z u hu; obtain rfl := List.mem_singleton.1 hu; rfl
      have hl1 : ∀ z : Int, [Value.int .i64 z].length = 1 * 1 := fun _ => rfl
      have hm0 : 0 + 1 ≤ maxLen := by decide
      have hm8 : (0 + 1) * 8 ≤ 140737488355328 := by decide
      clear hk hj63
      by_cases hlo : p < k
      · have hs := hslo hlo
        have hd3 : decide ((p : Int) < (k : Int)) = true := by simp; omega
        have hsd2 : SD = sidesT k p ++ false :: dn := by rw [hsd, hs, List.append_assoc]; rfl
        have HS2 := hide hsd2
        have hmA : 1 + dn.length ≤ maxLen := by simp only [maxLen]; omega
        have hmB : (1 + dn.length) * 8 ≤ 140737488355328 := by omega
        clear hs hsd hsd2 hslo hshi hfit
        go_wp2_with fail
        refine (hH wr).mono ?_
        rintro e w3 ⟨rfl, rfl⟩
        clear hH
        have hwb := bk.size
        go_wp2_with (first
          | ((with_reducible refine wl_build1 (o := ⟨some 23, _, _, _, _, _⟩) rfl 37 (.const (.int .i64 1)) rfl 3 ii (.int .i64 0) (.int .i64 1) Tryd.underlying37 hii hiz his rfl rfl rfl ?_); intro g7 w4 r7 p7 l7 b4; have own4 := ownsRow_lat own b4; have hwb4 := Nat.le_trans hwb b4.size)
          | ((at_builtin; with_reducible refine wl_append_at (o := ⟨some 24, _, _, _, _, _⟩) rfl (.tmp 22) (.tmp 23) 37 rfl w.heap.size 3 ii (.int .i64 0) 1 8 Tryd.underlying37 hii hiz his hib rfl h01 (.slice none 0 0) 0 [] rfl (World.ownsRow_nil _ _ _ _) ⟨g7, 0, none⟩ 1 1 [.int .i64 1] rfl (hl1 1) (row_src r7) (h1c 1) hm0 hm8 hwb4 ?_); intro v5 w5 own50 gr5 at5; have own5 : w5.ownsRow w.heap.size 3 1 v5 1 [.int .i64 1] := own50; have own45 := own_kept0 own4 gr5; have hwb5 := Nat.le_trans hwb4 gr5.size)
          | ((at_builtin; with_reducible refine wl_append_two (o := ⟨some 37, _, _, _, _, _⟩) rfl (.tmp 35) (.tmp 36) 37 rfl w.heap.size w.heap.size 3 ii (.int .i64 0) 8 Tryd.underlying37 hii hiz his hib rfl v5 1 [.int .i64 1] rfl own5 u5 dn.length (dn.map sideV) rfl own45 (side_one dn) hmA hmB hwb5 ?_); intro v6 w6 own6 gr6))
        have B5 : Below w.heap.size w w5 := (bk.trans (b4.mono hwb)).grown gr5 hwb4 (fun k hk => by cases hk)
        have B6 : Below w.heap.size w w6 := B5.grown gr6 hwb5 fun k hk => (own5.lt k hk).1
        rw [Nat.add_comm] at own6
        go_roundw
        case rel => exact ⟨k, p, j + 1, false :: dn, rfl, rfl, by go_num, own6, HS2.out, by omega, by omega, hfL, by simp; omega, by omega, B6⟩
        case measure => simp [intOf]; omega
      
      · have hs := hshi hlo
        have hd3 : decide ((p : Int) < (k : Int)) = false := by simp; omega
        have hsd2 : SD = sidesT (m - k) (p - k) ++ true :: dn := by rw [hsd, hs, List.append_assoc]; rfl
        have HS2 := hide hsd2
        have hmA : 1 + dn.length ≤ maxLen := by simp only [maxLen]; omega
        have hmB : (1 + dn.length) * 8 ≤ 140737488355328 := by omega
        clear hs hsd hsd2 hslo hshi hfit
        go_wp2_with fail
        refine (hH wr).mono ?_
        rintro e w3 ⟨rfl, rfl⟩
        clear hH
        have hwb := bk.size
        go_wp2_with (first
          | ((with_reducible refine wl_build1 (o := ⟨some 27, _, _, _, _, _⟩) rfl 37 (.const (.int .i64 0)) rfl 3 ii (.int .i64 0) (.int .i64 0) Tryd.underlying37 hii hiz his rfl rfl rfl ?_); intro g7 w4 r7 p7 l7 b4; have own4 := ownsRow_lat own b4; have hwb4 := Nat.le_trans hwb b4.size)
          | ((at_builtin; with_reducible refine wl_append_at (o := ⟨some 28, _, _, _, _, _⟩) rfl (.tmp 26) (.tmp 27) 37 rfl w.heap.size 3 ii (.int .i64 0) 1 8 Tryd.underlying37 hii hiz his hib rfl h01 (.slice none 0 0) 0 [] rfl (World.ownsRow_nil _ _ _ _) ⟨g7, 0, none⟩ 1 1 [.int .i64 0] rfl (hl1 0) (row_src r7) (h1c 0) hm0 hm8 hwb4 ?_); intro v5 w5 own50 gr5 at5; have own5 : w5.ownsRow w.heap.size 3 1 v5 1 [.int .i64 0] := own50; have own45 := own_kept0 own4 gr5; have hwb5 := Nat.le_trans hwb4 gr5.size)
          | ((at_builtin; with_reducible refine wl_append_two (o := ⟨some 37, _, _, _, _, _⟩) rfl (.tmp 35) (.tmp 36) 37 rfl w.heap.size w.heap.size 3 ii (.int .i64 0) 8 Tryd.underlying37 hii hiz his hib rfl v5 1 [.int .i64 0] rfl own5 u5 dn.length (dn.map sideV) rfl own45 (side_one dn) hmA hmB hwb5 ?_); intro v6 w6 own6 gr6))
        have B5 : Below w.heap.size w w5 := (bk.trans (b4.mono hwb)).grown gr5 hwb4 (fun k hk => by cases hk)
        have B6 : Below w.heap.size w w6 := B5.grown gr6 hwb5 fun k hk => (own5.lt k hk).1
        rw [Nat.add_comm] at own6
        go_roundw
        case rel => exact ⟨(m - k), (p - k), j + 1, true :: dn, by rw [show ((m - k : Nat) : Int) = (m : Int) - (k : Int) by omega], by rw [show ((p - k : Nat) : Int) = (p : Int) - (k : Int) by omega], by go_num, own6, HS2.out, by omega, by omega, hfR, by simp; omega, by omega, B6⟩
        case measure => simp [intOf]; omega
    · have hd1 : decide ((j : Int) < 64) = true := by simp; omega
      have hd2 : decide (1 < (m : Int)) = false := by simp; omega
      rw [sides_one h2, List.nil_append] at hsd
      have HS2 := hide hsd
      clear hsd hfit
      go_wp2_with fail
      go_ret
      refine ⟨_, rfl, ?_, bk⟩
      rw [HS2.out]
      exact own
end Go.Proofs.YtbolfkigiachlaaDoor

/-
  Trees, the document's answer: Check: contract. Own work.
-/
namespace Go.Proofs.YtbolfkigiachlaaDoor
open Go.RowKit Tr
/-- Sides in memory. -/
def SdAt (w : World) (B : Nat) (A : Option Addr) (ss : List Bool) : Prop := 0 < ss.length → ∃ b o, A = some ⟨b, o, none⟩ ∧ b < B ∧ ∀ j, j < ss.length → w.cell? ⟨b, o + j, none⟩ = some (sideV (ss.getD j false))
theorem SdAt.below {w w' : World} {B : Nat} {A : Option Addr} {ss : List Bool} (h : SdAt w B A ss) (hb : Below B w w') : SdAt w' B A ss := fun h0 => by
  obtain ⟨b, o, e, hlt, hc⟩ := h h0
  exact ⟨b, o, e, hlt, fun j hj => (hb.cell (p := ⟨b, o + j, none⟩) hlt).trans (hc j hj)⟩
theorem SdAt.later {w w' : World} {A : Option Addr} {ss : List Bool} (h : SdAt w w.heap.size A ss) (hb : Below w.heap.size w w') : SdAt w' w'.heap.size A ss := fun h0 => by
  obtain ⟨b, o, e, hlt, hc⟩ := h.below hb h0
  exact ⟨b, o, e, Nat.lt_of_lt_of_le hlt hb.size, hc⟩
theorem SdAt.but {w w' : World} {g B : Nat} {A : Option Addr} {ss : List Bool} (h : SdAt w B A ss) (hw : But g w w') (hg : B ≤ g) (hB : B ≤ w.heap.size) : SdAt w' B A ss := h.below (hw.below hg hB)
theorem owns_sd {w : World} {base : Nat} {v : Value} {ss : List Bool} (h : w.ownsRow base 3 1 v ss.length (ss.map sideV)) : ∃ A c, v = .slice A ss.length c ∧ SdAt w w.heap.size A ss := by
  have hlt := h.lt
  rcases h.2 with ⟨rfl, h0⟩ | ⟨g, cap, cur, rfl, hb, hg, hnc, hcm, hcs, htake⟩
  · exact ⟨none, 0, by rw [h0], fun h1 => by omega⟩
  · refine ⟨some ⟨g, 0, none⟩, cap, rfl, fun _ => ⟨g, 0, rfl, (hlt g rfl).2, fun j hj => ?_⟩⟩
    have := h.cells (g := g) rfl j (sideV (ss.getD j false)) (by simp [List.getD, List.getElem?_eq_getElem hj])
    rw [addr_plain] at this
    exact this
theorem retSd_at {ss : List Bool} {w w' : World} {e : Ending} (h : RetSd ss w e w') : ∃ A c, e = .returned (.slice A ss.length c) ∧ SdAt w' w'.heap.size A ss ∧ Below w.heap.size w w' := by
  obtain ⟨v, rfl, own, b⟩ := h
  obtain ⟨A, c, rfl, hs⟩ := owns_sd own
  exact ⟨A, c, rfl, hs, b⟩
/-- The sum that the sides and sums up to one come to. -/
def upK (x : List Int) (ss : List Bool) (ps : List (List Int)) (k : Nat) : List Int := upS x (ss.take k) (ps.take k)
theorem upK_zero (x : List Int) (ss : List Bool) (ps : List (List Int)) : upK x ss ps 0 = x := rfl
theorem upK_len {x : List Int} (ss : List Bool) (ps : List (List Int)) (k : Nat) (h : x.length = 32) : (upK x ss ps k).length = 32 := up_all (fun s => s.length = 32) nodeS_len _ _ _ h
theorem upK_by {x : List Int} (ss : List Bool) (ps : List (List Int)) (k : Nat) (h : IsBy x) : IsBy (upK x ss ps k) := up_all IsBy nodeS_by _ _ _ h
theorem upK_succ (x : List Int) (ss : List Bool) (ps : List (List Int)) (k : Nat) (b : Bool) (q : List Int) (hb : ss[k]? = some b) (hq : ps[k]? = some q) : upK x ss ps (k + 1) = stS b (upK x ss ps k) q := by
  obtain ⟨h1, rfl⟩ := List.getElem?_eq_some_iff.1 hb
  obtain ⟨h2, rfl⟩ := List.getElem?_eq_some_iff.1 hq
  exact up_take nodeS x ss ps k h1 h2
theorem upK_all (x : List Int) (ss : List Bool) (ps : List (List Int)) (k : Nat) (h1 : ss.length ≤ k) (h2 : ps.length ≤ k) : upK x ss ps k = upS x ss ps := by unfold upK; rw [List.take_of_length_le h1, List.take_of_length_le h2]
def SRcA (cur q nxt : List Int) (g12 pb po np pc k : Nat) (opn : Nat) (v : Value) : Prop :=
  match opn with
  | 0 => v = .agg (bv cur).toArray
  | 1 => v = .slice (some ⟨pb, po, none⟩) np pc
  | 2 => v = .int .i64 (k : Int)
  | 3 => v = .pointer (some ⟨pb, po + k * 32, none⟩)
  | 4 => v = .agg (bv q).toArray
  | 5 => v = .agg (bv nxt).toArray
  | _ => True
def SRcB (cur q nxt : List Int) (g12 pb po np pc k : Nat) (opn : Nat) (v : Value) : Prop :=
  match opn with
  | 0 => v = .slice (some ⟨pb, po, none⟩) np pc
  | 1 => v = .int .i64 (k : Int)
  | 2 => v = .pointer (some ⟨pb, po + k * 32, none⟩)
  | 3 => v = .agg (bv q).toArray
  | 4 => v = .agg (bv cur).toArray
  | 5 => v = .agg (bv nxt).toArray
  | _ => True

set_option maxRecDepth 100000 in
theorem rcheck_no (r : List Int) (n i : Int) (A PA : Option Addr) (m c pn pc : Nat) (w : World) (hi : i < 0 ∨ n ≤ i) : Calls Tryd.prog 22 #[.agg (bv r).toArray, .int .i64 n, .int .i64 i, .slice A m c, .slice PA pn pc] w fun e w' => e = .returned (.bool false) ∧ Below w.heap.size w w' := by
  by_cases h0 : i < 0
  · go_enter Tryd.func22, Tryd.ntmps22
    go_wp2_with (first
      | (with_reducible refine wl_box rfl 23 _ (.agg (bv r).toArray) (bv r) rfl rfl rfl ?_; intro g5 w2 r2 p2 l2 b2))
    go_ret
    exact ⟨rfl, b2⟩
  · have h1 : n ≤ i := by omega
    have h2 : ¬ (i < n) := by omega
    clear hi
    go_enter Tryd.func22, Tryd.ntmps22
    go_wp2_with (first
      | (with_reducible refine wl_box rfl 23 _ (.agg (bv r).toArray) (bv r) rfl rfl rfl ?_; intro g5 w2 r2 p2 l2 b2))
    go_ret
    exact ⟨rfl, b2⟩
set_option maxRecDepth 100000 in
set_option maxHeartbeats 4000000 in
theorem rcheck_any (r : List Int) (n j : Nat) (xs : List Int) (ps : List (List Int)) (A PA : Option Addr) (m c pc : Nat) (w : World) (hr : r.length = 32) (hn : n < 9223372036854775808) (hj : j < n) (hx : Bs w w.heap.size A m xs) (hby : IsBy xs) (hm : m ≤ 50000000) (hS : Sms w w.heap.size PA ps) (hpl : ps.length ≤ 1000000) :
    Calls Tryd.prog 22 #[.agg (bv r).toArray, .int .i64 (n : Int), .int .i64 (j : Int), .slice A m c, .slice PA ps.length pc] w fun e w' => e = .returned (.bool (chkB r n j xs ps)) ∧ Below w.heap.size w w' := by
  have HS := fun w => rsides_any n j w hn hj
  have hx0 := leafS_len xs
  have hx0b := leafS_by xs
  have hup : (upS (leafS xs) (sidesT n j) ps).length = 32 := up_all (fun s => s.length = 32) nodeS_len _ _ _ hx0
  have hcb : chkB r n j xs ps = (decide ((sidesT n j).length = ps.length) && decide (upS (leafS xs) (sidesT n j) ps = r)) := rfl
  have HL := fun w hx => rleaf_any xs A m c w hx hby hm
  have hE := eq32 (upS (leafS xs) (sidesT n j) ps) r hup hr
  have zr := hide (size32b hr)
  have zu := hide (size32b hup)
  have zx := hide (size32b hx0)
  have lx := hide (show (bv (List.replicate 32 0)).length = (bv (leafS xs)).length by rw [bv_len, bv_len, hx0, List.length_replicate])
  have hUA := fun k h1 h2 => upK_all (leafS xs) (sidesT n j) ps k h1 h2
  obtain ⟨cb, hcb2⟩ : ∃ cb, cb = chkB r n j xs ps := ⟨_, rfl⟩
  rw [← hcb2]
  rw [← hcb2] at hcb
  have HCB := hide hcb
  have HUA := hide hUA
  have hmany := sides_many (n := n) (i := j) (k := 63) (Nat.le_of_lt hn)
  have hd1 : ¬ ((j : Int) < 0) := by omega
  have hd2 : ¬ ((n : Int) ≤ (j : Int)) := by omega
  have hd3 : decide ((n : Int) ≤ (j : Int)) = false := by simp; omega
  clear hcb2 hcb hup hUA hn hby hm
  generalize sidesT n j = ss at *
  generalize leafS xs = x0 at *
  have hslI : (ss.length : Int) ≤ 63 := by omega
  go_enter Tryd.func22, Tryd.ntmps22
  go_wp2_with (first
    | (with_reducible refine wl_box rfl 23 _ (.agg (bv r).toArray) (bv r) rfl rfl rfl ?_; intro g5 w2 r5 p2 l2 b2))
  refine (HS w2).mono ?_
  rintro e w3 hret
  obtain ⟨AS, cs, rfl, hsd, b3⟩ := retSd_at hret
  have B3 := b2.trans (b3.mono b2.size)
  have r5b := r5.later b3
  clear hret HS r5 b3
  by_cases hq : ss.length = ps.length
  · have hqq : (((ss.length : Nat) : Int) != ((ps.length : Nat) : Int)) = false := by simp; omega
    rw [decide_eq_true hq, Bool.true_and] at HCB
    go_wp2_with fail
    refine (HL w3 (hx.later B3)).mono ?_
    rintro e w4 ⟨rfl, b4⟩
    have B4 := B3.trans (b4.mono B3.size)
    have r5c := r5b.later b4
    have hsd4 := hsd.later b4
    clear hsd r5b HL hx
    go_wp2_with (first
      | ((with_reducible refine wl_alloc rfl 23 _ (bv (List.replicate 32 0)) rfl zero32b rfl ?_); intro g12 w6 r12 p12 l12 b6; have n5 : g5 ≠ g12 := (by have := r5c.lt; omega))
      | ((with_reducible refine wl_store_row rfl 23 (.tmp 12) (.tmp 30) g12 23 _ (bv x0) rfl rfl rfl r12 zx.out lx.out (bv_one _) ?_); intro w8 r12c o8))
    have B6 := B4.trans (b6.mono B4.size)
    have hB12 : w.heap.size ≤ g12 := by have := B4.size; omega
    have B8 : Below w.heap.size w w8 := B6.trans (o8.below hB12)
    have r5d := (r5c.later b6).only o8 n5
    have hsd8 : SdAt w8 w4.heap.size AS ss := (hsd4.below b6).below (o8.below p12)
    have hS8 : Sms w8 w.heap.size PA ps := hS.below B8
    have hw48 : w4.heap.size ≤ w8.heap.size := by rw [o8.size]; exact b6.size
    clear hsd4 hS r5c r12
    go_wp2_with fail
    go_loopw [13] (fun iv wr => ∃ k : Nat, k ≤ ps.length ∧ iv = .int .i64 k ∧ Row wr 23 g12 (bv (upK x0 ss ps k)) ∧ But g12 w8 wr) (fun iv _ => ps.length - (intOf iv).toNat)
    case atStart => exact ⟨0, Nat.zero_le _, rfl, r12c, But.refl _ _⟩
    case round =>
      obtain ⟨k, hk, rfl, rt, bk⟩ := hrel
      by_cases hlt : k < ps.length
      · obtain ⟨q, hqq⟩ : ∃ q, ps[k]? = some q := ⟨_, List.getElem?_eq_getElem hlt⟩
        obtain ⟨b, hbb⟩ : ∃ b, ss[k]? = some b := ⟨_, List.getElem?_eq_getElem (by omega)⟩
        have hcur := upK_len ss ps k hx0
        have hcby := upK_by ss ps k hx0b
        have hql := hS8.len q (List.mem_of_getElem? hqq)
        have hqb := hS8.byt q (List.mem_of_getElem? hqq)
        have zc := hide (size32b hcur)
        have zq := hide (size32b hql)
        obtain ⟨pb, po, rfl, hpB, hcM⟩ := hS8.cells hqq
        obtain ⟨sb, so, rfl, hsB, hcS⟩ := (hsd8.but bk p12 hw48) (by omega)
        have hcs := hcS k (by omega)
        rw [show ss.getD k false = b by rw [List.getD, hbb]; rfl] at hcs
        have hcl : ∀ w1, But g12 wr w1 → ∀ j v, (bv q)[j]? = some v → w1.cell? ⟨pb, po + k * 32 + j, none⟩ = some v := fun w1 hb j v hv => ((bk.trans hb).cellB hB12 B8.size (show (⟨pb, po + k * 32 + j, none⟩ : Addr).block < w.heap.size from hpB)).trans (hcM j v hv)
        have hd4 : decide ((k : Int) < (ps.length : Int)) = true := by simp; omega
        have hq2 : k < ps.length := hlt
        have hq3 : k < ss.length := by omega
        have hkI : (k : Int) ≤ 1000000 := by omega
        clear hsd8 hS8 hcS hcM r12c HCB HUA
        obtain ⟨np, hnp⟩ : ∃ np, ps.length = np := ⟨_, rfl⟩
        have hq : k < np := by omega
        rw [hnp]
        rw [hnp] at hd4
        cases b
        · have HN := fun w => rnode_any (upK x0 ss ps k) q w hcur hql hcby hqb
          have hup := upK_succ x0 ss ps k false q hbb hqq
          rw [show stS false (upK x0 ss ps k) q = nodeS (upK x0 ss ps k) q from rfl] at hup
          have zn := hide (size32b (nodeS_len (upK x0 ss ps k) q))
          have ln := hide (show (bv (upK x0 ss ps k)).length = (bv (nodeS (upK x0 ss ps k) q)).length by rw [bv_len, bv_len, nodeS_len, hcur])
          have HUp := hide hup
          have hcs1 : wr.cell? ⟨sb, so + k, none⟩ = some (.int .i64 1) := hcs
          clear hup hcur hcby hql hqb hbb hqq hcs
          generalize nodeS (upK x0 ss ps k) q = nxt at *
          generalize upK x0 ss ps k = cur at *
          go_wp2_with fail
          rename_i K1 hK1
          refine wp_region_vals [5, 6] (SRcA cur q nxt g12 pb po np pc k) (JB g12 23 wr 1 (bv cur) (bv nxt)) (by kernel_rfl) (by kernel_rfl) (by kernel_rfl) (by kernel_rfl) (by kernel_rfl) (JB.start rt rfl) ?obs11 ?he11
          case obs11 =>
            refine ⟨?_, ?_, ?_, ?_, ?_, ?_, ?_, trivial⟩
            · exact .inl ⟨by kernel_rfl, fun L a1 w1 n' h => ⟨_, rfl, run_loadRow 23 (.tmp 12) g12 23 _ _ rfl (h.var n' 12 (by kernel_rfl)) (h.inv.1 (n'.later (by kernel_rfl))) Tryd.underlying23 rfl (zc.out)⟩⟩
            · exact .inl ⟨by kernel_rfl, fun L a1 w1 n' h => ⟨_, rfl, run_move (.tmp 4) rfl (h.var n' 4 (by kernel_rfl))⟩⟩
            · exact .inl ⟨by kernel_rfl, fun L a1 w1 n' h => ⟨_, rfl, run_move (.tmp 13) rfl (h.var n' 13 (by kernel_rfl))⟩⟩
            · exact .inl ⟨by kernel_rfl, fun L a1 w1 n' h => ⟨_, rfl, run_indexSlN 31 (.tmp 43) (.tmp 44) 23 32 pb po np pc k rfl Tryd.underlying31 Tryd.sizeOf23 (h.dep n' 1 43 (by kernel_rfl) rfl) (h.dep n' 2 44 (by kernel_rfl) rfl) hq⟩⟩
            · exact .inl ⟨by kernel_rfl, fun L a1 w1 n' h => ⟨_, rfl, run_loadM 23 (.tmp 45) pb (po + k * 32) (bv q) _ rfl (h.dep n' 3 45 (by kernel_rfl) rfl) (hcl w1 h.inv.2.2) Tryd.underlying23 rfl zq.out⟩⟩
            · refine .inr fun L a1 w1 n' h K hK => ?_
              have e0 : a1.eval (.tmp 42) = .agg (bv cur).toArray := h.dep n' 0 42 (by kernel_rfl) rfl
              have e1 : a1.eval (.tmp 46) = .agg (bv q).toArray := h.dep n' 4 46 (by kernel_rfl) rfl
              refine st_call 14 _ _ #[.agg (bv cur).toArray, .agg (bv q).toArray] rfl Tryd.call14 ?_ (HN w1) ?_
              · simp only [List.map_toArray, List.map_cons, List.map_nil, e0, e1]
              · rintro e w3 ⟨rfl, b9⟩
                exact ⟨_, rfl, hK _ w3 rfl (JB.callX h.inv b9 rfl)⟩
            · refine .inr fun L a1 w1 n' h K hK => ?_
              have no : L.getD 6 false = false := n'.not_yet
              refine st_store_row 23 (.tmp 12) (.tmp 47) g12 23 (bv cur) (bv nxt) rfl (h.var n' 12 (by kernel_rfl)) (h.dep n' 5 47 (by kernel_rfl) rfl) (h.inv.1 no) (zn.out) ln.out (bv_one _) ?_
              intro w3 r3 o3
              exact hK undef w3 trivial (JB.store h.inv o3 r3 rfl)
          case he11 =>
            intro V w7 hV hJ
            have r7 := hJ.2.1 rfl
            have bu := hJ.2.2
            clear hV hJ
            simp only [putOps, List.setIfInBounds_toArray, List.set_cons_succ, List.set_cons_zero, Nat.reduceAdd]
            refine hK1 _ _ ?_
            go_wp2_with fail
            go_roundw
            case rel => exact ⟨k + 1, by omega, by go_num, by rw [HUp.out]; exact r7, bk.trans bu⟩
            case measure => simp [intOf]; omega
        · have HN := fun w => rnode_any q (upK x0 ss ps k) w hql hcur hqb hcby
          have hup := upK_succ x0 ss ps k true q hbb hqq
          rw [show stS true (upK x0 ss ps k) q = nodeS q (upK x0 ss ps k) from rfl] at hup
          have zn := hide (size32b (nodeS_len q (upK x0 ss ps k)))
          have ln := hide (show (bv (upK x0 ss ps k)).length = (bv (nodeS q (upK x0 ss ps k))).length by rw [bv_len, bv_len, nodeS_len, hcur])
          have HUp := hide hup
          have hcs1 : wr.cell? ⟨sb, so + k, none⟩ = some (.int .i64 0) := hcs
          clear hup hcur hcby hql hqb hbb hqq hcs
          generalize nodeS q (upK x0 ss ps k) = nxt at *
          generalize upK x0 ss ps k = cur at *
          go_wp2_with fail
          rename_i K1 hK1
          refine wp_region_vals [5, 6] (SRcB cur q nxt g12 pb po np pc k) (JB g12 23 wr 1 (bv cur) (bv nxt)) (by kernel_rfl) (by kernel_rfl) (by kernel_rfl) (by kernel_rfl) (by kernel_rfl) (JB.start rt rfl) ?obs12 ?he12
          case obs12 =>
            refine ⟨?_, ?_, ?_, ?_, ?_, ?_, ?_, trivial⟩
            · exact .inl ⟨by kernel_rfl, fun L a1 w1 n' h => ⟨_, rfl, run_move (.tmp 4) rfl (h.var n' 4 (by kernel_rfl))⟩⟩
            · exact .inl ⟨by kernel_rfl, fun L a1 w1 n' h => ⟨_, rfl, run_move (.tmp 13) rfl (h.var n' 13 (by kernel_rfl))⟩⟩
            · exact .inl ⟨by kernel_rfl, fun L a1 w1 n' h => ⟨_, rfl, run_indexSlN 31 (.tmp 48) (.tmp 49) 23 32 pb po np pc k rfl Tryd.underlying31 Tryd.sizeOf23 (h.dep n' 0 48 (by kernel_rfl) rfl) (h.dep n' 1 49 (by kernel_rfl) rfl) hq⟩⟩
            · exact .inl ⟨by kernel_rfl, fun L a1 w1 n' h => ⟨_, rfl, run_loadM 23 (.tmp 50) pb (po + k * 32) (bv q) _ rfl (h.dep n' 2 50 (by kernel_rfl) rfl) (hcl w1 h.inv.2.2) Tryd.underlying23 rfl zq.out⟩⟩
            · exact .inl ⟨by kernel_rfl, fun L a1 w1 n' h => ⟨_, rfl, run_loadRow 23 (.tmp 12) g12 23 _ _ rfl (h.var n' 12 (by kernel_rfl)) (h.inv.1 (n'.later (by kernel_rfl))) Tryd.underlying23 rfl (zc.out)⟩⟩
            · refine .inr fun L a1 w1 n' h K hK => ?_
              have e0 : a1.eval (.tmp 51) = .agg (bv q).toArray := h.dep n' 3 51 (by kernel_rfl) rfl
              have e1 : a1.eval (.tmp 52) = .agg (bv cur).toArray := h.dep n' 4 52 (by kernel_rfl) rfl
              refine st_call 14 _ _ #[.agg (bv q).toArray, .agg (bv cur).toArray] rfl Tryd.call14 ?_ (HN w1) ?_
              · simp only [List.map_toArray, List.map_cons, List.map_nil, e0, e1]
              · rintro e w3 ⟨rfl, b9⟩
                exact ⟨_, rfl, hK _ w3 rfl (JB.callX h.inv b9 rfl)⟩
            · refine .inr fun L a1 w1 n' h K hK => ?_
              have no : L.getD 6 false = false := n'.not_yet
              refine st_store_row 23 (.tmp 12) (.tmp 53) g12 23 (bv cur) (bv nxt) rfl (h.var n' 12 (by kernel_rfl)) (h.dep n' 5 53 (by kernel_rfl) rfl) (h.inv.1 no) (zn.out) ln.out (bv_one _) ?_
              intro w3 r3 o3
              exact hK undef w3 trivial (JB.store h.inv o3 r3 rfl)
          case he12 =>
            intro V w7 hV hJ
            have r7 := hJ.2.1 rfl
            have bu := hJ.2.2
            clear hV hJ
            simp only [putOps, List.setIfInBounds_toArray, List.set_cons_succ, List.set_cons_zero, Nat.reduceAdd]
            refine hK1 _ _ ?_
            go_wp2_with fail
            go_roundw
            case rel => exact ⟨k + 1, by omega, by go_num, by rw [HUp.out]; exact r7, bk.trans bu⟩
            case measure => simp [intOf]; omega
      · obtain rfl : k = ps.length := by omega
        have hd4 : decide ((ps.length : Int) < (ps.length : Int)) = false := by simp
        have rt2 := rt
        rw [HUA.out _ (by omega) (Nat.le_refl _)] at rt2
        have r5e := r5d.but bk n5
        clear rt
        go_wp2_with (first
          | (with_reducible refine wl_load_row rfl 23 (.tmp 12) g12 23 (bv (upS x0 ss ps)) _ rfl rfl rt2 Tryd.underlying23 rfl zu.out ?_)
          | (with_reducible refine wl_load_row rfl 23 (.tmp 5) g5 23 (bv r) _ rfl rfl r5e Tryd.underlying23 rfl zr.out ?_)
          | rw [hE])
        go_ret
        exact ⟨by rw [HCB.out]; rfl, B8.trans (bk.below hB12 B8.size)⟩
  · have hqq : (((ss.length : Nat) : Int) != ((ps.length : Nat) : Int)) = true := by simp; omega
    have hcb := HCB.out
    rw [decide_eq_false hq, Bool.false_and] at hcb
    subst hcb
    go_wp2_with fail
    go_ret
    exact ⟨rfl, B3⟩
end Go.Proofs.YtbolfkigiachlaaDoor

/-
  From the readings of the tree laws' arguments to the walks' words: a list of sums; a claim. Own work.
-/
namespace Go.Proofs.YtbolfkigiachlaaDoor
open Go.RowKit Go.ChangeShapes Go.WideShapes
section
variable {H : Type} {enc : TypeId × Value → H} {w : World} {spare : Nat → Bool} {held : Bool}
/-- A field of a struct that was read. -/
theorem field_one {n off : Nat} {t : TypeId} {fs : Array Field} {cs : List Value} {xs : List (DataW H × List MemPlace)} (hlen : xs.length = fs.size)
    (hf : ∀ (i : Nat) (f : Field), fs[i]? = some f → DataW.trod enc Tryd.prog w 0 spare held n f.type ((cs.drop f.offset).take (Tryd.prog.cellsOf f.type)) = xs[i]?)
    (i : Nat) (hi : fs[i]?.map (fun f => (f.offset, f.type)) = some (off, t)) (h1 : Tryd.prog.cellsOf t = 1) (ho : off < cs.length) : ∃ v x, cs[off]? = some v ∧ DataW.trod enc Tryd.prog w 0 spare held n t [v] = some x := by
  obtain ⟨f, hfi, hft⟩ := Option.map_eq_some_iff.1 hi
  injection hft with h2 h3
  have hlt : i < xs.length := by rw [hlen]; exact (Array.getElem?_eq_some_iff.1 hfi).1
  have h := hf i f hfi
  rw [h2, h3, h1, List.getElem?_eq_getElem hlt] at h
  have e : (cs.drop off).take 1 = [cs[off]] := by
    rw [List.drop_eq_getElem_cons ho]; rfl
  rw [e] at h
  exact ⟨_, _, List.getElem?_eq_getElem ho, h⟩
/-- A slice of sums that came in. -/
theorem trod_sms {fuel : Nat} {v : Value} {x : DataW H × List MemPlace} (h : DataW.trod enc Tryd.prog w 0 spare held fuel 31 [v] = some x) :
    ∃ A c ss, v = .slice A ss.length c ∧ Sms w w.heap.size A ss ∧ ss.length ≤ c := by
  rcases Go.Deep.open_slice Tryd.underlying31 h with ⟨hcs, _⟩ | ⟨a, len, cap, m, k, D, Pl, hcs, _, hl, hm, hmm, _, hx⟩
  · obtain rfl : v = .slice none 0 0 := by simpa using hcs
    exact ⟨none, 0, [], rfl, Sms.nil_, Nat.le_refl _⟩
  · obtain rfl : v = .slice (some a) len cap := by simpa using hcs
    have hnm : len ≤ m := by rw [hmm]; split <;> omega
    have key : ∀ i, i < len → ∃ q : List Int, q.length = 32 ∧ IsBy q ∧ ∀ j v, (bv q)[j]? = some v → w.cell? ((a.add (i * 32)).add j) = some v := by
      intro i hi
      obtain ⟨cs', h1, h2⟩ := hx i (by omega)
      rw [show Tryd.prog.cellsOf 23 = 32 by kernel_rfl] at h1
      obtain ⟨_, hlen, hat⟩ := World.cells?_some h1
      obtain ⟨ks, hcs, lk, bk⟩ := trod_bytes Tryd.underlying23 Tryd.underlying5 (by kernel_rfl) (by kernel_rfl) h2
      subst hcs
      refine ⟨ks, lk, bk, fun j v hj => ?_⟩
      have hj6 := (List.getElem?_eq_some_iff.1 hj).1
      rw [bv_len, lk] at hj6
      rw [hat j hj6]
      exact hj
    obtain ⟨q, hq⟩ := Go.Deep.choose_lt (α := List Int) key
    have hss : ((List.range len).map q).length = len := by simp
    have h32 : ∀ s ∈ (List.range len).map q, s.length = 32 := by
      intro s hs
      obtain ⟨i, hi, rfl⟩ := List.mem_map.1 hs
      exact (hq i (by simpa using hi)).1
    refine ⟨some a, cap, (List.range len).map q, by rw [hss], ⟨⟨flat_len h32, fun h0 => ?_⟩, h32, ?_⟩, by rw [hss]; exact hl⟩
    · rw [hss] at h0
      obtain ⟨b, off, spot⟩ := a
      have hc0 := (hq 0 (by omega)).2.2 0 (.int .u8 ((q 0).getD 0 0)) (by simp [bv, List.getD, List.getElem?_eq_getElem (show 0 < (q 0).length by rw [(hq 0 (by omega)).1]; decide)])
      have hspot : spot = none := by simpa [Addr.add] using World.cell?_spot hc0
      subst hspot
      refine ⟨b, off, rfl, ?_, fun j hj => ?_⟩
      · have := block_lt_of_cell hc0
        simpa [Addr.add] using this
      · rw [hss] at hj
        have hi : j / 32 < len := by omega
        have hlen := (hq (j / 32) hi).1
        have := (hq (j / 32) hi).2.2 (j % 32) (.int .u8 ((q (j / 32)).getD (j % 32) 0)) (by simp [bv, List.getD, List.getElem?_eq_getElem (show j % 32 < (q (j / 32)).length by rw [hlen]; omega)])
        rw [addr_plain, addr_plain] at this
        rw [show off + j = off + j / 32 * 32 + j % 32 by omega, this]
        have hf := flat_at h32 (j / 32) (q (j / 32)) (by simp [hi]) (j % 32) (by omega)
        rw [show 32 * (j / 32) + j % 32 = j by omega] at hf
        rw [hf]
    · intro s hs
      obtain ⟨i, hi, rfl⟩ := List.mem_map.1 hs
      exact (hq i (by simpa using hi)).2.1
set_option maxRecDepth 100000 in
/-- A claim, as it was read. -/
theorem open_claim {fuel : Nat} {cs : List Value} {x : DataW H × List MemPlace} (h : DataW.trod enc Tryd.prog w 0 spare held fuel 36 cs = some x) :
    ∃ (N I : Int) (A PA : Option Addr) (m c pc : Nat) (xs : List Int) (ps : List (List Int)), cs = [.int .i64 N, .int .i64 I, .slice A m c, .slice PA ps.length pc] ∧ N < 9223372036854775808 ∧ Bs w w.heap.size A m xs ∧ IsBy xs ∧ m ≤ c ∧ Sms w w.heap.size PA ps ∧ ps.length ≤ pc := by
  obtain ⟨xs, n, _, rfl, hl, hlen, hf⟩ := DataW.trod_struct (fs := Tryd.prog.fieldsOf 36) Tryd.underlying36 h
  rw [show Tryd.prog.cellsOf 36 = 4 by kernel_rfl] at hl
  obtain ⟨v0, x0, g0, h0⟩ := field_one hlen hf 0 (show (Tryd.prog.fieldsOf 36)[0]?.map (fun f => (f.offset, f.type)) = some (0, 3) by kernel_rfl) (by kernel_rfl) (by omega)
  obtain ⟨v1, x1, g1, h1⟩ := field_one hlen hf 1 (show (Tryd.prog.fieldsOf 36)[1]?.map (fun f => (f.offset, f.type)) = some (1, 3) by kernel_rfl) (by kernel_rfl) (by omega)
  obtain ⟨v2, x2, g2, h2⟩ := field_one hlen hf 2 (show (Tryd.prog.fieldsOf 36)[2]?.map (fun f => (f.offset, f.type)) = some (2, 22) by kernel_rfl) (by kernel_rfl) (by omega)
  obtain ⟨v3, x3, g3, h3⟩ := field_one hlen hf 3 (show (Tryd.prog.fieldsOf 36)[3]?.map (fun f => (f.offset, f.type)) = some (3, 31) by kernel_rfl) (by kernel_rfl) (by omega)
  obtain ⟨N, e0, _, hN⟩ := DataW.trod_int Tryd.underlying3 h0
  obtain ⟨I, e1, _, hI⟩ := DataW.trod_int Tryd.underlying3 h1
  obtain ⟨A, m, c, ys, e2, hb, hby, hmc, _⟩ := trod_bs Tryd.underlying22 Tryd.underlying5 (by kernel_rfl) h2
  obtain ⟨PA, pc, ps, rfl, hS, hpc⟩ := trod_sms h3
  refine ⟨N, I, A, PA, m, c, pc, ys, ps, ?_, by have := (wf_i64 hN).2; omega, hb, hby, hmc, hS, hpc⟩
  simp only [List.cons.injEq, and_true] at e0 e1 e2
  subst e0 e1 e2
  match cs, hl with
  | [u0, u1, u2, u3], _ =>
    simp at g0 g1 g2 g3
    rw [g0, g1, g2, g3]
end
end Go.Proofs.YtbolfkigiachlaaDoor

/-
  The law TreeChecks: contract. Own work.
-/
namespace Go.Proofs.YtbolfkigiachlaaDoor
open Go.RowKit Tr
theorem eqBoolT (b c : Bool) (w : World) : (Op.equal 4 (.bool b) (.bool c)).run Tryd.prog w = .ok (b == c) w := by
  cases b <;> cases c <;> kernel_rfl
theorem But.cellN {g : Nat} {w w' : World} (h : But g w w') {p : Addr} (hp : p.block < w.heap.size) (hne : p.block ≠ g) : w'.cell? p = w.cell? p := World.cell?_of_block (w := w) (h.block p.block hp hne)
theorem retSd_at2 {ss : List Bool} {w w' : World} {e : Ending} (h : RetSd ss w e w') : ∃ A c, e = .returned (.slice A ss.length c) ∧ SdAt w' w'.heap.size A ss ∧ (∀ x, A = some x → w.heap.size ≤ x.block) ∧ Below w.heap.size w w' := by
  obtain ⟨v, rfl, own, b⟩ := h
  have hlt := own.lt
  obtain ⟨A, c, rfl, hs⟩ := owns_sd own
  refine ⟨A, c, rfl, hs, fun x hx => ?_, b⟩
  subst hx
  exact (hlt x.block rfl).1
/-- Both answer so. -/
def BothC (r : List Int) (N I : Int) (A PA : Option Addr) (m c np pc : Nat) (b : Bool) (w : World) : Prop :=
      Calls Tryd.prog 21 #[.agg (bv r).toArray, .int .i64 N, .int .i64 I, .slice A m c, .slice PA np pc] w (fun e w' => e = .returned (.bool b) ∧ Below w.heap.size w w') ∧
      Calls Tryd.prog 22 #[.agg (bv r).toArray, .int .i64 N, .int .i64 I, .slice A m c, .slice PA np pc] w (fun e w' => e = .returned (.bool b) ∧ Below w.heap.size w w')
theorem both_checks (r : List Int) (N I : Int) (xs : List Int) (ps : List (List Int)) (A PA : Option Addr) (m c pc : Nat) (hr : r.length = 32) (hN : N < 9223372036854775808) (hby : IsBy xs) (hm : m ≤ 50000000) (hpl : ps.length ≤ 1000000) :
    ∃ b, ∀ w, Tb4 w → Bs w w.heap.size A m xs → Sms w w.heap.size PA ps → BothC r N I A PA m c ps.length pc b w := by
  by_cases hi : I < 0 ∨ N ≤ I
  · exact ⟨false, fun w hT hx hS => ⟨check_no r N I A PA m c _ pc w hi, rcheck_no r N I A PA m c _ pc w hi⟩⟩
  · obtain ⟨j, rfl⟩ : ∃ j : Nat, I = (j : Int) := ⟨I.toNat, by omega⟩
    obtain ⟨n, rfl⟩ : ∃ n : Nat, N = (n : Int) := ⟨N.toNat, by omega⟩
    exact ⟨chkB r n j xs ps, fun w hT hx hS => ⟨check_any r n j xs ps A PA m c pc w hT.1 hr (by omega) (by omega) hx hby (by omega) hS hpl, rcheck_any r n j xs ps A PA m c pc w hr (by omega) (by omega) hx hby hm hS hpl⟩⟩
def SCh (cur : List Int) (g3 g5 m c np pc : Nat) (A PA : Option Addr) (N I : Int) (bc : Bool) (opn : Nat) (v : Value) : Prop :=
  match opn with
  | 0 | 10 => v = .agg (bv cur).toArray
  | 1 | 11 => v = .pointer (some ⟨g3, 0, none⟩)
  | 2 | 12 => v = .int .i64 N
  | 3 | 13 => v = .pointer (some ⟨g3, 1, none⟩)
  | 4 | 14 => v = .int .i64 I
  | 5 | 15 => v = .pointer (some ⟨g3, 2, none⟩)
  | 6 | 16 => v = .slice A m c
  | 7 | 17 => v = .pointer (some ⟨g3, 3, none⟩)
  | 8 | 18 => v = .slice PA np pc
  | 9 | 19 => v = .bool bc
  | 20 | 21 => v = .bool true
  | _ => True
def SCi (r : List Int) (g2 g3 m c np pc : Nat) (A PA : Option Addr) (N I : Int) (br : Bool) (opn : Nat) (v : Value) : Prop :=
  match opn with
  | 0 | 1 | 22 | 23 | 24 | 25 | 26 | 27 => v = .bool true
  | 2 | 12 => v = .agg (bv r).toArray
  | 3 | 13 => v = .pointer (some ⟨g3, 0, none⟩)
  | 4 | 14 => v = .int .i64 N
  | 5 | 15 => v = .pointer (some ⟨g3, 1, none⟩)
  | 6 | 16 => v = .int .i64 I
  | 7 | 17 => v = .pointer (some ⟨g3, 2, none⟩)
  | 8 | 18 => v = .slice A m c
  | 9 | 19 => v = .pointer (some ⟨g3, 3, none⟩)
  | 10 | 20 => v = .slice PA np pc
  | 11 | 21 => v = .bool br
  | _ => True
def SClA (cur q nxt : List Int) (g3 g5 pb po np pc k : Nat) (opn : Nat) (v : Value) : Prop :=
  match opn with
  | 0 => v = .agg (bv cur).toArray
  | 1 => v = .pointer (some ⟨g3, 3, none⟩)
  | 2 => v = .slice (some ⟨pb, po, none⟩) np pc
  | 3 => v = .int .i64 (k : Int)
  | 4 => v = .pointer (some ⟨pb, po + k * 32, none⟩)
  | 5 => v = .agg (bv q).toArray
  | 6 => v = .agg (bv nxt).toArray
  | _ => True
def SClB (cur q nxt : List Int) (g3 g5 pb po np pc k : Nat) (opn : Nat) (v : Value) : Prop :=
  match opn with
  | 0 => v = .pointer (some ⟨g3, 3, none⟩)
  | 1 => v = .slice (some ⟨pb, po, none⟩) np pc
  | 2 => v = .int .i64 (k : Int)
  | 3 => v = .pointer (some ⟨pb, po + k * 32, none⟩)
  | 4 => v = .agg (bv q).toArray
  | 5 => v = .agg (bv cur).toArray
  | 6 => v = .agg (bv nxt).toArray
  | _ => True

theorem szClaim (N I : Int) (A PA : Option Addr) (m c np pc : Nat) : (Tryd.prog.info? 36).map (·.size) = some ([Value.int .i64 N, .int .i64 I, .slice A m c, .slice PA np pc] : List Value).length := by kernel_rfl
set_option maxRecDepth 100000 in
set_option maxHeartbeats 8000000 in
theorem treeChecks_any (r : List Int) (N I : Int) (xs : List Int) (ps : List (List Int)) (A PA : Option Addr) (m c pc : Nat) (w : World) (hT : Tb4 w) (hr : r.length = 32) (hN : N < 9223372036854775808) (hx : Bs w w.heap.size A m xs) (hby : IsBy xs) (hS : Sms w w.heap.size PA ps) :
    Calls Tryd.prog 6 #[.agg (bv r).toArray, .agg [Value.int .i64 N, .int .i64 I, .slice A m c, .slice PA ps.length pc].toArray] w fun e w' => e = .returned (.bool true) ∧ Below w.heap.size w w' := by
  have HSD := fun (h1 : 0 ≤ I) (h2 : I < N) w => rsides_any N.toNat I.toNat w (by omega) (by omega)
  have HSM := fun (h1 : 0 ≤ I) (h2 : I < N) => sides_many (n := N.toNat) (i := I.toNat) (k := 63) (by omega)
  have HB := fun r hr hm hpl => both_checks r N I xs ps A PA m c pc hr hN hby hm hpl
  have HL := fun w hx hm => rleaf_any xs A m c w hx hby hm
  obtain ⟨np, hnp⟩ : ∃ np, ps.length = np := ⟨_, rfl⟩
  rw [hnp] at HB
  rw [hnp]
  have HNp := hide hnp
  have hx0 := leafS_len xs
  have hx0b := leafS_by xs
  have HSD := hide HSD
  have HSM := hide HSM
  clear hN hby
  generalize leafS xs = x0 at *
  by_cases h200 : 200 < m
  · have hd1 : decide ((200 : Int) < (m : Int)) = true := by simp; omega
    go_enter Tryd.func6, Tryd.ntmps6
    go_wp2_with (first
      | (with_reducible refine wl_box (o := ⟨some 2, _, _, _, _, _⟩) rfl 23 _ (.agg (bv r).toArray) (bv r) rfl rfl rfl ?_; intro g2 w2 r2 p2 l2 b2)
      | (with_reducible refine wl_box (o := ⟨some 3, _, _, _, _, _⟩) rfl 36 _ (.agg [Value.int .i64 N, .int .i64 I, .slice A m c, .slice PA np pc].toArray) [Value.int .i64 N, .int .i64 I, .slice A m c, .slice PA np pc] rfl rfl rfl ?_; intro g3 w3 r3 p3 l3 b3; have d2 := r3.cell (j := 2) rfl; have d3 := r3.cell (j := 3) rfl))
    have B3 := b2.trans (b3.mono b2.size)
    refine (tawake_any w3 (hT.later B3)).mono ?_
    rintro e w4 ⟨rfl, b4⟩
    go_wp2_with fail
    go_ret
    exact ⟨rfl, B3.trans (b4.mono B3.size)⟩
  have hd1 : decide ((200 : Int) < (m : Int)) = false := by simp; omega
  by_cases h80 : 80 < np
  · have hd2 : decide ((80 : Int) < (np : Int)) = true := by simp; omega
    go_enter Tryd.func6, Tryd.ntmps6
    go_wp2_with (first
      | (with_reducible refine wl_box (o := ⟨some 2, _, _, _, _, _⟩) rfl 23 _ (.agg (bv r).toArray) (bv r) rfl rfl rfl ?_; intro g2 w2 r2 p2 l2 b2)
      | (with_reducible refine wl_box (o := ⟨some 3, _, _, _, _, _⟩) rfl 36 _ (.agg [Value.int .i64 N, .int .i64 I, .slice A m c, .slice PA np pc].toArray) [Value.int .i64 N, .int .i64 I, .slice A m c, .slice PA np pc] rfl rfl rfl ?_; intro g3 w3 r3 p3 l3 b3; have d2 := r3.cell (j := 2) rfl; have d3 := r3.cell (j := 3) rfl))
    have B3 := b2.trans (b3.mono b2.size)
    refine (tawake_any w3 (hT.later B3)).mono ?_
    rintro e w4 ⟨rfl, b4⟩
    go_wp2_with fail
    go_ret
    exact ⟨rfl, B3.trans (b4.mono B3.size)⟩
  have hd2 : decide ((80 : Int) < (np : Int)) = false := by simp; omega
  have HB1 : ∀ r, r.length = 32 → ∃ b, ∀ w1, Below w.heap.size w w1 → BothC r N I A PA m c np pc b w1 := fun r hr => (HB r hr (by omega) (by omega)).imp fun b hb w1 b1 => hb w1 (hT.later b1) (hx.later b1) (hS.later b1)
  replace HB := HB1
  clear HB1
  have HLf := fun w1 (b : Below w.heap.size w w1) => HL w1 (hx.later b) (by omega)
  clear HL
  have hnpI : (np : Int) ≤ 80 := by omega
  go_enter Tryd.func6, Tryd.ntmps6
  go_wp2_with (first
    | (with_reducible refine wl_box (o := ⟨some 2, _, _, _, _, _⟩) rfl 23 _ (.agg (bv r).toArray) (bv r) rfl rfl rfl ?_; intro g2 w2 r2 p2 l2 b2)
    | (with_reducible refine wl_box (o := ⟨some 3, _, _, _, _, _⟩) rfl 36 _ (.agg [Value.int .i64 N, .int .i64 I, .slice A m c, .slice PA np pc].toArray) [Value.int .i64 N, .int .i64 I, .slice A m c, .slice PA np pc] rfl rfl rfl ?_; intro g3 w3 r3 p3 l3 b3; have d2 := r3.cell (j := 2) rfl; have d3 := r3.cell (j := 3) rfl))
  have B3 := b2.trans (b3.mono b2.size)
  have r2b := r2.later b3
  refine (HLf w3 B3).mono ?_
  rintro e w4 ⟨rfl, b4⟩
  have B4 := B3.trans (b4.mono B3.size)
  have r2c := r2b.later b4
  have r3c := r3.later b4
  have zx := hide (size32b hx0)
  have lx := hide (show (bv (List.replicate 32 0)).length = (bv x0).length by rw [bv_len, bv_len, hx0, List.length_replicate])
  clear r2 r2b r3 d2 d3 HLf b3 b4 hx
  by_cases hI : 0 ≤ I
  · have hdI : decide (0 ≤ I) = true := by simp; omega
    by_cases hIN : I < N
    · have hdN : decide (I < N) = true := by simp; omega
      by_cases h40 : np < 40
      · have hd4 : decide ((np : Int) < 40) = true := by simp; omega
        have hs63 := HSM.out hI hIN
        have HS : ∀ w, Calls Tryd.prog 20 #[.int .i64 N, .int .i64 I] w (RetSd (sidesT N.toNat I.toNat) w) := fun w => by
          have := HSD.out hI hIN w
          rwa [show ((N.toNat : Nat) : Int) = N by omega, show ((I.toNat : Nat) : Int) = I by omega] at this
        generalize sidesT N.toNat I.toNat = ss at *
        clear HSM HSD
        have hslI : (ss.length : Int) ≤ 63 := by omega
        go_wp2_with (first
          | ((with_reducible refine wl_alloc (o := ⟨some 5, _, _, _, _, _⟩) rfl 23 _ (bv (List.replicate 32 0)) rfl zero32b rfl ?_); intro g5 w5 r5 p5 l5 b5; have n2 : g2 ≠ g5 := (by have := r2c.lt; omega); have n3 : g3 ≠ g5 := (by have := r3c.lt; omega))
          | ((with_reducible refine wl_store_row rfl 23 (.tmp 5) (.tmp 22) g5 23 _ (bv x0) rfl rfl rfl r5 zx.out lx.out (bv_one _) ?_); intro w6 rt o6; have r3d := (r3c.later b5).only o6 n3; have d0 := r3d.cell (j := 0) rfl; have d1 := r3d.cell (j := 1) rfl; have d3 := r3d.cell (j := 3) rfl))
        have p5w : w.heap.size ≤ g5 := by have := B4.size; omega
        have B6 : Below w.heap.size w w6 := (B4.trans (b5.mono B4.size)).trans (o6.below p5w)
        have r2d := (r2c.later b5).only o6 n2
        clear r2c r3c r5 b5 o6 zx lx
        refine (HS w6).mono ?_
        rintro e w7 hret
        obtain ⟨AS, cs, rfl, hsd, hsg, b7⟩ := retSd_at2 hret
        have B7 := B6.trans (b7.mono B6.size)
        have rt7 := rt.later b7
        have r2e := r2d.later b7
        have r3e := r3d.later b7
        have hS7 : Sms w7 w.heap.size PA ps := hS.below B7
        have hg7 : g5 < w6.heap.size := rt.lt
        have hsd7 : SdAt w7 w7.heap.size AS ss := hsd
        clear r2d r3d b7 hret HS d0 d1 d3 B6
        go_wp2_with fail
        go_loopw [7] (fun iv wr => ∃ (k : Nat) (cur : List Int), k ≤ np ∧ iv = .int .i64 k ∧ cur.length = 32 ∧ IsBy cur ∧ Row wr 23 g5 (bv cur) ∧ But g5 w7 wr) (fun iv _ => np - (intOf iv).toNat)
        case atStart => exact ⟨0, x0, Nat.zero_le _, rfl, hx0, hx0b, rt7, But.refl _ _⟩
        case round =>
          obtain ⟨k, cur, hk, rfl, hcur, hcby, rt, bk⟩ := hrel
          have r3k := r3e.but bk n3
          have r2k := r2e.but bk n2
          have d3 := r3k.cell (j := 3) rfl
          have Bk : Below w.heap.size w wr := B7.trans (bk.below p5w B7.size)
          clear rt7
          by_cases hlt : k < np
          · have hd5 : decide ((k : Int) < (np : Int)) = true := by simp; omega
            by_cases hls : k < ss.length
            · have hd6 : decide ((k : Int) < (ss.length : Int)) = true := by simp; omega
              have hlt0 : k < ps.length := by have := HNp.out; omega
              obtain ⟨q, hqq⟩ : ∃ q, ps[k]? = some q := ⟨_, List.getElem?_eq_getElem hlt0⟩
              obtain ⟨b, hbb⟩ : ∃ b, ss[k]? = some b := ⟨_, List.getElem?_eq_getElem (by omega)⟩
              have hql := hS7.len q (List.mem_of_getElem? hqq)
              have hqb := hS7.byt q (List.mem_of_getElem? hqq)
              have zc := hide (size32b hcur)
              have zq := hide (size32b hql)
              obtain ⟨pb, po, rfl, hpB, hcM⟩ := hS7.cells hqq
              obtain ⟨sb, so, rfl, hsB, hcS⟩ := hsd7 (by omega)
              have hsne : sb ≠ g5 := by have := hsg _ rfl; have := p5w; have h6 : sb ≥ w6.heap.size := hsg _ rfl; omega
              have hcs : wr.cell? ⟨sb, so + k, none⟩ = some (sideV b) := by
                rw [bk.cellN (p := ⟨sb, so + k, none⟩) hsB hsne, hcS k (by omega), List.getD, hbb]; rfl
              have hcl : ∀ w1, But g5 wr w1 → ∀ j v, (bv q)[j]? = some v → w1.cell? ⟨pb, po + k * 32 + j, none⟩ = some v := fun w1 hb j v hv => ((bk.trans hb).cellB p5w B7.size (show (⟨pb, po + k * 32 + j, none⟩ : Addr).block < w.heap.size from hpB)).trans (hcM j v hv)
              have hq : k < np := hlt
              have hq3 : k < ss.length := hls
              have hkI : (k : Int) ≤ 1000000 := by omega
              clear hsd hsd7 hS7 hS hcS hcM hx0 hx0b HB hT hr hbb hsg
              cases b
              · have HN := fun w => rnode_any cur q w hcur hql hcby hqb
                have hnl : (nodeS cur q).length = 32 := nodeS_len _ _
                have hnb : IsBy (nodeS cur q) := nodeS_by _ _
                have zn := hide (size32b hnl)
                have ln := hide (show (bv cur).length = (bv (nodeS cur q)).length by rw [bv_len, bv_len, hnl, hcur])
                have hcs1 : wr.cell? ⟨sb, so + k, none⟩ = some (.int .i64 1) := hcs
                clear hcur hcby hql hqb hqq hcs
                generalize nodeS cur q = nxt at *
                go_wp2_with fail
                rename_i K1 hK1
                refine wp_region_vals [6, 7] (SClA cur q nxt g3 g5 pb po np pc k) (JB g5 23 wr 1 (bv cur) (bv nxt)) (by kernel_rfl) (by kernel_rfl) (by kernel_rfl) (by kernel_rfl) (by kernel_rfl) (JB.start rt rfl) ?obsL10 ?heL10
                case obsL10 =>
                  refine ⟨?_, ?_, ?_, ?_, ?_, ?_, ?_, ?_, trivial⟩
                  · exact .inl ⟨by kernel_rfl, fun L a1 w1 n' h => ⟨_, rfl, run_loadRow 23 (.tmp 5) g5 23 _ _ rfl (h.var n' 5 (by kernel_rfl)) (h.inv.1 (n'.later (by kernel_rfl))) Tryd.underlying23 rfl (zc.out)⟩⟩
                  · refine .inl ⟨by kernel_rfl, fun L a1 w1 n' h => ⟨.pointer (some ⟨g3, 3, none⟩), rfl, ?_⟩⟩
                    have e0 : a1.eval (.tmp 3) = _ := h.var n' 3 (by kernel_rfl)
                    unfold execOp
                    simp only [e0]
                    go_simp
                  · exact .inl ⟨by kernel_rfl, fun L a1 w1 n' h => ⟨_, rfl, run_loadA 31 (.tmp 63) ⟨g3, 3, none⟩ rfl Tryd.isAgg31 (h.dep n' 1 63 (by kernel_rfl) rfl) (((r3k).but h.inv.2.2 n3).cell (j := 3) rfl)⟩⟩
                  · exact .inl ⟨by kernel_rfl, fun L a1 w1 n' h => ⟨_, rfl, run_move (.tmp 7) rfl (h.var n' 7 (by kernel_rfl))⟩⟩
                  · exact .inl ⟨by kernel_rfl, fun L a1 w1 n' h => ⟨_, rfl, run_indexSlN 31 (.tmp 64) (.tmp 65) 23 32 pb po np pc k rfl Tryd.underlying31 Tryd.sizeOf23 (h.dep n' 2 64 (by kernel_rfl) rfl) (h.dep n' 3 65 (by kernel_rfl) rfl) hq⟩⟩
                  · exact .inl ⟨by kernel_rfl, fun L a1 w1 n' h => ⟨_, rfl, run_loadM 23 (.tmp 66) pb (po + k * 32) (bv q) _ rfl (h.dep n' 4 66 (by kernel_rfl) rfl) (hcl w1 h.inv.2.2) Tryd.underlying23 rfl zq.out⟩⟩
                  · refine .inr fun L a1 w1 n' h K hK => ?_
                    have e0 : a1.eval (.tmp 62) = .agg (bv cur).toArray := h.dep n' 0 62 (by kernel_rfl) rfl
                    have e1 : a1.eval (.tmp 67) = .agg (bv q).toArray := h.dep n' 5 67 (by kernel_rfl) rfl
                    refine st_call 14 _ _ #[.agg (bv cur).toArray, .agg (bv q).toArray] rfl Tryd.call14 ?_ (HN w1) ?_
                    · simp only [List.map_toArray, List.map_cons, List.map_nil, e0, e1]
                    · rintro e w3 ⟨rfl, b9⟩
                      exact ⟨_, rfl, hK _ w3 rfl (JB.callX h.inv b9 rfl)⟩
                  · refine .inr fun L a1 w1 n' h K hK => ?_
                    have no : L.getD 7 false = false := n'.not_yet
                    refine st_store_row 23 (.tmp 5) (.tmp 68) g5 23 (bv cur) (bv nxt) rfl (h.var n' 5 (by kernel_rfl)) (h.dep n' 6 68 (by kernel_rfl) rfl) (h.inv.1 no) (zn.out) ln.out (bv_one _) ?_
                    intro w3 r3 o3
                    exact hK undef w3 trivial (JB.store h.inv o3 r3 rfl)
                case heL10 =>
                  intro V w7 hV hJ
                  have r7 := hJ.2.1 rfl
                  have bu := hJ.2.2
                  clear hV hJ
                  simp only [putOps, List.setIfInBounds_toArray, List.set_cons_succ, List.set_cons_zero, Nat.reduceAdd]
                  refine hK1 _ _ ?_
                  go_wp2_with fail
                  go_roundw
                  case rel => exact ⟨k + 1, nxt, by omega, by go_num, hnl, hnb, r7, bk.trans bu⟩
                  case measure => simp [intOf]; omega
              · have HN := fun w => rnode_any q cur w hql hcur hqb hcby
                have hnl : (nodeS q cur).length = 32 := nodeS_len _ _
                have hnb : IsBy (nodeS q cur) := nodeS_by _ _
                have zn := hide (size32b hnl)
                have ln := hide (show (bv cur).length = (bv (nodeS q cur)).length by rw [bv_len, bv_len, hnl, hcur])
                have hcs1 : wr.cell? ⟨sb, so + k, none⟩ = some (.int .i64 0) := hcs
                clear hcur hcby hql hqb hqq hcs
                generalize nodeS q cur = nxt at *
                go_wp2_with fail
                rename_i K1 hK1
                refine wp_region_vals [6, 7] (SClB cur q nxt g3 g5 pb po np pc k) (JB g5 23 wr 1 (bv cur) (bv nxt)) (by kernel_rfl) (by kernel_rfl) (by kernel_rfl) (by kernel_rfl) (by kernel_rfl) (JB.start rt rfl) ?obsL11 ?heL11
                case obsL11 =>
                  refine ⟨?_, ?_, ?_, ?_, ?_, ?_, ?_, ?_, trivial⟩
                  · refine .inl ⟨by kernel_rfl, fun L a1 w1 n' h => ⟨.pointer (some ⟨g3, 3, none⟩), rfl, ?_⟩⟩
                    have e0 : a1.eval (.tmp 3) = _ := h.var n' 3 (by kernel_rfl)
                    unfold execOp
                    simp only [e0]
                    go_simp
                  · exact .inl ⟨by kernel_rfl, fun L a1 w1 n' h => ⟨_, rfl, run_loadA 31 (.tmp 69) ⟨g3, 3, none⟩ rfl Tryd.isAgg31 (h.dep n' 0 69 (by kernel_rfl) rfl) (((r3k).but h.inv.2.2 n3).cell (j := 3) rfl)⟩⟩
                  · exact .inl ⟨by kernel_rfl, fun L a1 w1 n' h => ⟨_, rfl, run_move (.tmp 7) rfl (h.var n' 7 (by kernel_rfl))⟩⟩
                  · exact .inl ⟨by kernel_rfl, fun L a1 w1 n' h => ⟨_, rfl, run_indexSlN 31 (.tmp 70) (.tmp 71) 23 32 pb po np pc k rfl Tryd.underlying31 Tryd.sizeOf23 (h.dep n' 1 70 (by kernel_rfl) rfl) (h.dep n' 2 71 (by kernel_rfl) rfl) hq⟩⟩
                  · exact .inl ⟨by kernel_rfl, fun L a1 w1 n' h => ⟨_, rfl, run_loadM 23 (.tmp 72) pb (po + k * 32) (bv q) _ rfl (h.dep n' 3 72 (by kernel_rfl) rfl) (hcl w1 h.inv.2.2) Tryd.underlying23 rfl zq.out⟩⟩
                  · exact .inl ⟨by kernel_rfl, fun L a1 w1 n' h => ⟨_, rfl, run_loadRow 23 (.tmp 5) g5 23 _ _ rfl (h.var n' 5 (by kernel_rfl)) (h.inv.1 (n'.later (by kernel_rfl))) Tryd.underlying23 rfl (zc.out)⟩⟩
                  · refine .inr fun L a1 w1 n' h K hK => ?_
                    have e0 : a1.eval (.tmp 73) = .agg (bv q).toArray := h.dep n' 4 73 (by kernel_rfl) rfl
                    have e1 : a1.eval (.tmp 74) = .agg (bv cur).toArray := h.dep n' 5 74 (by kernel_rfl) rfl
                    refine st_call 14 _ _ #[.agg (bv q).toArray, .agg (bv cur).toArray] rfl Tryd.call14 ?_ (HN w1) ?_
                    · simp only [List.map_toArray, List.map_cons, List.map_nil, e0, e1]
                    · rintro e w3 ⟨rfl, b9⟩
                      exact ⟨_, rfl, hK _ w3 rfl (JB.callX h.inv b9 rfl)⟩
                  · refine .inr fun L a1 w1 n' h K hK => ?_
                    have no : L.getD 7 false = false := n'.not_yet
                    refine st_store_row 23 (.tmp 5) (.tmp 75) g5 23 (bv cur) (bv nxt) rfl (h.var n' 5 (by kernel_rfl)) (h.dep n' 6 75 (by kernel_rfl) rfl) (h.inv.1 no) (zn.out) ln.out (bv_one _) ?_
                    intro w3 r3 o3
                    exact hK undef w3 trivial (JB.store h.inv o3 r3 rfl)
                case heL11 =>
                  intro V w7 hV hJ
                  have r7 := hJ.2.1 rfl
                  have bu := hJ.2.2
                  clear hV hJ
                  simp only [putOps, List.setIfInBounds_toArray, List.set_cons_succ, List.set_cons_zero, Nat.reduceAdd]
                  refine hK1 _ _ ?_
                  go_wp2_with fail
                  go_roundw
                  case rel => exact ⟨k + 1, nxt, by omega, by go_num, hnl, hnb, r7, bk.trans bu⟩
                  case measure => simp [intOf]; omega
            · have hd6 : decide ((k : Int) < (ss.length : Int)) = false := by simp; omega
              obtain ⟨bc, HBc⟩ := HB cur hcur
              obtain ⟨br, HBr⟩ := HB r hr
              have zc := hide (size32b hcur)
              have zr := hide (size32b hr)
              have hbc : (bc == bc) = true := by simp
              have hbr : (br == br) = true := by simp
              have BT := hide (Bk)
              have H1 := fun w1 (b : Below (wr).heap.size wr w1) => (HBc w1 (BT.out.trans (b.mono BT.out.size))).1
              have H2 := fun w1 (b : Below (wr).heap.size wr w1) => (HBc w1 (BT.out.trans (b.mono BT.out.size))).2
              have H3 := fun w1 (b : Below (wr).heap.size wr w1) => (HBr w1 (BT.out.trans (b.mono BT.out.size))).1
              have H4 := fun w1 (b : Below (wr).heap.size wr w1) => (HBr w1 (BT.out.trans (b.mono BT.out.size))).2
              have H5 := fun w1 (b : Below (wr).heap.size wr w1) => tawake_any w1 (hT.later (BT.out.trans (b.mono BT.out.size)))
              have rt := rt
              have r2t := r2k
              have r3t := r3k
              clear HBc HBr HB hcur hr hT 
              go_wp2_with fail
              rename_i K1 hK1
              refine wp_region_vals [9, 19] (SCh cur g3 g5 m c np pc A PA N I bc) (JR wr) (by kernel_rfl) (by kernel_rfl) (by kernel_rfl) (by kernel_rfl) (by kernel_rfl) (Below.refl _ _).drew ?obsA1 ?heA1
              case obsA1 =>
                refine ⟨?_, ?_, ?_, ?_, ?_, ?_, ?_, ?_, ?_, ?_, ?_, ?_, ?_, ?_, ?_, ?_, ?_, ?_, ?_, ?_, ?_, ?_, trivial⟩
                · exact .inl ⟨by kernel_rfl, fun L a1 w1 n h => ⟨_, rfl, run_loadRow 23 (.tmp 5) g5 23 _ _ rfl (h.var n 5 (by kernel_rfl)) ((rt.later h.inv)) Tryd.underlying23 rfl (zc.out)⟩⟩
                · refine .inl ⟨by kernel_rfl, fun L a1 w1 n h => ⟨.pointer (some ⟨g3, 0, none⟩), rfl, ?_⟩⟩
                  have e0 : a1.eval (.tmp 3) = _ := h.var n 3 (by kernel_rfl)
                  unfold execOp
                  simp only [e0]
                  go_simp
                · exact .inl ⟨by kernel_rfl, fun L a1 w1 n h => ⟨_, rfl, run_loadA 3 (.tmp 77) ⟨g3, 0, none⟩ rfl Tryd.isAgg3 (h.dep n 1 77 (by kernel_rfl) rfl) ((Row.later r3t h.inv).cell (j := 0) (v := .int .i64 N) rfl)⟩⟩
                · refine .inl ⟨by kernel_rfl, fun L a1 w1 n h => ⟨.pointer (some ⟨g3, 1, none⟩), rfl, ?_⟩⟩
                  have e0 : a1.eval (.tmp 3) = _ := h.var n 3 (by kernel_rfl)
                  unfold execOp
                  simp only [e0]
                  go_simp
                · exact .inl ⟨by kernel_rfl, fun L a1 w1 n h => ⟨_, rfl, run_loadA 3 (.tmp 79) ⟨g3, 1, none⟩ rfl Tryd.isAgg3 (h.dep n 3 79 (by kernel_rfl) rfl) ((Row.later r3t h.inv).cell (j := 1) (v := .int .i64 I) rfl)⟩⟩
                · refine .inl ⟨by kernel_rfl, fun L a1 w1 n h => ⟨.pointer (some ⟨g3, 2, none⟩), rfl, ?_⟩⟩
                  have e0 : a1.eval (.tmp 3) = _ := h.var n 3 (by kernel_rfl)
                  unfold execOp
                  simp only [e0]
                  go_simp
                · exact .inl ⟨by kernel_rfl, fun L a1 w1 n h => ⟨_, rfl, run_loadA 22 (.tmp 81) ⟨g3, 2, none⟩ rfl Tryd.isAgg22 (h.dep n 5 81 (by kernel_rfl) rfl) ((Row.later r3t h.inv).cell (j := 2) (v := .slice A m c) rfl)⟩⟩
                · refine .inl ⟨by kernel_rfl, fun L a1 w1 n h => ⟨.pointer (some ⟨g3, 3, none⟩), rfl, ?_⟩⟩
                  have e0 : a1.eval (.tmp 3) = _ := h.var n 3 (by kernel_rfl)
                  unfold execOp
                  simp only [e0]
                  go_simp
                · exact .inl ⟨by kernel_rfl, fun L a1 w1 n h => ⟨_, rfl, run_loadA 31 (.tmp 83) ⟨g3, 3, none⟩ rfl Tryd.isAgg31 (h.dep n 7 83 (by kernel_rfl) rfl) ((Row.later r3t h.inv).cell (j := 3) (v := .slice PA np pc) rfl)⟩⟩
                · refine .inr fun L a1 w1 n h K hK => ?_
                  have e0 : a1.eval (.tmp 76) = .agg (bv cur).toArray := h.dep n 0 76 (by kernel_rfl) rfl
                  have e1 : a1.eval (.tmp 78) = .int .i64 N := h.dep n 2 78 (by kernel_rfl) rfl
                  have e2 : a1.eval (.tmp 80) = .int .i64 I := h.dep n 4 80 (by kernel_rfl) rfl
                  have e3 : a1.eval (.tmp 82) = .slice A m c := h.dep n 6 82 (by kernel_rfl) rfl
                  have e4 : a1.eval (.tmp 84) = .slice PA np pc := h.dep n 8 84 (by kernel_rfl) rfl
                  refine st_call 21 _ _ #[.agg (bv cur).toArray, .int .i64 N, .int .i64 I, .slice A m c, .slice PA np pc] rfl Tryd.call21 ?_ (H1 w1 h.inv) ?_
                  · simp only [List.map_toArray, List.map_cons, List.map_nil, e0, e1, e2, e3, e4]
                  · rintro e w3 ⟨rfl, b9⟩
                    exact ⟨_, rfl, hK _ w3 rfl (h.inv.trans (b9.mono h.inv.size))⟩
                · exact .inl ⟨by kernel_rfl, fun L a1 w1 n h => ⟨_, rfl, run_loadRow 23 (.tmp 5) g5 23 _ _ rfl (h.var n 5 (by kernel_rfl)) ((rt.later h.inv)) Tryd.underlying23 rfl (zc.out)⟩⟩
                · refine .inl ⟨by kernel_rfl, fun L a1 w1 n h => ⟨.pointer (some ⟨g3, 0, none⟩), rfl, ?_⟩⟩
                  have e0 : a1.eval (.tmp 3) = _ := h.var n 3 (by kernel_rfl)
                  unfold execOp
                  simp only [e0]
                  go_simp
                · exact .inl ⟨by kernel_rfl, fun L a1 w1 n h => ⟨_, rfl, run_loadA 3 (.tmp 87) ⟨g3, 0, none⟩ rfl Tryd.isAgg3 (h.dep n 11 87 (by kernel_rfl) rfl) ((Row.later r3t h.inv).cell (j := 0) (v := .int .i64 N) rfl)⟩⟩
                · refine .inl ⟨by kernel_rfl, fun L a1 w1 n h => ⟨.pointer (some ⟨g3, 1, none⟩), rfl, ?_⟩⟩
                  have e0 : a1.eval (.tmp 3) = _ := h.var n 3 (by kernel_rfl)
                  unfold execOp
                  simp only [e0]
                  go_simp
                · exact .inl ⟨by kernel_rfl, fun L a1 w1 n h => ⟨_, rfl, run_loadA 3 (.tmp 89) ⟨g3, 1, none⟩ rfl Tryd.isAgg3 (h.dep n 13 89 (by kernel_rfl) rfl) ((Row.later r3t h.inv).cell (j := 1) (v := .int .i64 I) rfl)⟩⟩
                · refine .inl ⟨by kernel_rfl, fun L a1 w1 n h => ⟨.pointer (some ⟨g3, 2, none⟩), rfl, ?_⟩⟩
                  have e0 : a1.eval (.tmp 3) = _ := h.var n 3 (by kernel_rfl)
                  unfold execOp
                  simp only [e0]
                  go_simp
                · exact .inl ⟨by kernel_rfl, fun L a1 w1 n h => ⟨_, rfl, run_loadA 22 (.tmp 91) ⟨g3, 2, none⟩ rfl Tryd.isAgg22 (h.dep n 15 91 (by kernel_rfl) rfl) ((Row.later r3t h.inv).cell (j := 2) (v := .slice A m c) rfl)⟩⟩
                · refine .inl ⟨by kernel_rfl, fun L a1 w1 n h => ⟨.pointer (some ⟨g3, 3, none⟩), rfl, ?_⟩⟩
                  have e0 : a1.eval (.tmp 3) = _ := h.var n 3 (by kernel_rfl)
                  unfold execOp
                  simp only [e0]
                  go_simp
                · exact .inl ⟨by kernel_rfl, fun L a1 w1 n h => ⟨_, rfl, run_loadA 31 (.tmp 93) ⟨g3, 3, none⟩ rfl Tryd.isAgg31 (h.dep n 17 93 (by kernel_rfl) rfl) ((Row.later r3t h.inv).cell (j := 3) (v := .slice PA np pc) rfl)⟩⟩
                · refine .inr fun L a1 w1 n h K hK => ?_
                  have e0 : a1.eval (.tmp 86) = .agg (bv cur).toArray := h.dep n 10 86 (by kernel_rfl) rfl
                  have e1 : a1.eval (.tmp 88) = .int .i64 N := h.dep n 12 88 (by kernel_rfl) rfl
                  have e2 : a1.eval (.tmp 90) = .int .i64 I := h.dep n 14 90 (by kernel_rfl) rfl
                  have e3 : a1.eval (.tmp 92) = .slice A m c := h.dep n 16 92 (by kernel_rfl) rfl
                  have e4 : a1.eval (.tmp 94) = .slice PA np pc := h.dep n 18 94 (by kernel_rfl) rfl
                  refine st_call 22 _ _ #[.agg (bv cur).toArray, .int .i64 N, .int .i64 I, .slice A m c, .slice PA np pc] rfl Tryd.call22 ?_ (H2 w1 h.inv) ?_
                  · simp only [List.map_toArray, List.map_cons, List.map_nil, e0, e1, e2, e3, e4]
                  · rintro e w3 ⟨rfl, b9⟩
                    exact ⟨_, rfl, hK _ w3 rfl (h.inv.trans (b9.mono h.inv.size))⟩
                · exact .inl ⟨by kernel_rfl, fun L a1 w1 n h => ⟨_, rfl, run_eqlB (.tmp 85) (.tmp 95) _ _ rfl (h.dep n 9 85 (by kernel_rfl) rfl) (h.dep n 19 95 (by kernel_rfl) rfl) (fun w => (eqBoolT _ _ w).trans (by rw [hbc]))⟩⟩
                · exact .inl ⟨by kernel_rfl, fun L a1 w1 n h => ⟨_, rfl, run_assign (.tmp 96) rfl (h.dep n 20 96 (by kernel_rfl) rfl)⟩⟩
              case heA1 =>
                intro V w9 hV hJ
                have b9 : Below (wr).heap.size wr w9 := hJ
                have hv : V 21 = .bool true := hV 21 8 rfl
                clear hV hJ
                simp only [putOps, List.setIfInBounds_toArray, List.set_cons_succ, List.set_cons_zero, Nat.reduceAdd]
                rw [hv]
                refine hK1 _ _ ?_
                replace H3 := fun w1 (b : Below w9.heap.size w9 w1) => H3 w1 (b9.trans (b.mono b9.size))
                replace H4 := fun w1 (b : Below w9.heap.size w9 w1) => H4 w1 (b9.trans (b.mono b9.size))
                replace H5 := fun w1 (b : Below w9.heap.size w9 w1) => H5 w1 (b9.trans (b.mono b9.size))
                replace r2t := r2t.later b9
                replace r3t := r3t.later b9
                have B9 := hide (BT.out.trans (b9.mono BT.out.size))
                clear H1 H2 rt BT b9 hv
                go_wp2_with fail
                rename_i K2 hK2
                refine wp_region_valsG [11, 21, 25] (SCi r g2 g3 m c np pc A PA N I br) (JR w9) (by kernel_rfl) (by kernel_rfl) (by kernel_rfl) (by kernel_rfl) (Below.refl _ _).drew ?obsB1 ?heB1
                case obsB1 =>
                  refine ⟨?_, ?_, ?_, ?_, ?_, ?_, ?_, ?_, ?_, ?_, ?_, ?_, ?_, ?_, ?_, ?_, ?_, ?_, ?_, ?_, ?_, ?_, ?_, ?_, ?_, ?_, ?_, ?_, trivial⟩
                  · refine ⟨.inl rfl, ?_⟩
                    exact .inl ⟨by kernel_rfl, fun L a1 w1 n h => ⟨_, rfl, run_move (.tmp 8) rfl (h.var n 8 (by kernel_rfl))⟩⟩
                  · refine ⟨.inl rfl, ?_⟩
                    exact .inl ⟨by kernel_rfl, fun L a1 w1 n h => ⟨_, rfl, run_move (.tmp 97) rfl (h.dep n 0 97 (by kernel_rfl) rfl)⟩⟩
                  · refine ⟨.inr ⟨1, true, 98, rfl, by kernel_rfl, rfl, by simp, fun v h => h⟩, ?_⟩
                    exact .inl ⟨by kernel_rfl, fun L a1 w1 n h => ⟨_, rfl, run_loadRow 23 (.tmp 2) g2 23 _ _ rfl (h.var n 2 (by kernel_rfl)) ((r2t.later h.inv)) Tryd.underlying23 rfl (zr.out)⟩⟩
                  · refine ⟨.inr ⟨1, true, 98, rfl, by kernel_rfl, rfl, by simp, fun v h => h⟩, ?_⟩
                    refine .inl ⟨by kernel_rfl, fun L a1 w1 n h => ⟨.pointer (some ⟨g3, 0, none⟩), rfl, ?_⟩⟩
                    have e0 : a1.eval (.tmp 3) = _ := h.var n 3 (by kernel_rfl)
                    unfold execOp
                    simp only [e0]
                    go_simp
                  · refine ⟨.inr ⟨1, true, 98, rfl, by kernel_rfl, rfl, by simp, fun v h => h⟩, ?_⟩
                    exact .inl ⟨by kernel_rfl, fun L a1 w1 n h => ⟨_, rfl, run_loadA 3 (.tmp 100) ⟨g3, 0, none⟩ rfl Tryd.isAgg3 (h.dep n 3 100 (by kernel_rfl) rfl) ((Row.later r3t h.inv).cell (j := 0) (v := .int .i64 N) rfl)⟩⟩
                  · refine ⟨.inr ⟨1, true, 98, rfl, by kernel_rfl, rfl, by simp, fun v h => h⟩, ?_⟩
                    refine .inl ⟨by kernel_rfl, fun L a1 w1 n h => ⟨.pointer (some ⟨g3, 1, none⟩), rfl, ?_⟩⟩
                    have e0 : a1.eval (.tmp 3) = _ := h.var n 3 (by kernel_rfl)
                    unfold execOp
                    simp only [e0]
                    go_simp
                  · refine ⟨.inr ⟨1, true, 98, rfl, by kernel_rfl, rfl, by simp, fun v h => h⟩, ?_⟩
                    exact .inl ⟨by kernel_rfl, fun L a1 w1 n h => ⟨_, rfl, run_loadA 3 (.tmp 102) ⟨g3, 1, none⟩ rfl Tryd.isAgg3 (h.dep n 5 102 (by kernel_rfl) rfl) ((Row.later r3t h.inv).cell (j := 1) (v := .int .i64 I) rfl)⟩⟩
                  · refine ⟨.inr ⟨1, true, 98, rfl, by kernel_rfl, rfl, by simp, fun v h => h⟩, ?_⟩
                    refine .inl ⟨by kernel_rfl, fun L a1 w1 n h => ⟨.pointer (some ⟨g3, 2, none⟩), rfl, ?_⟩⟩
                    have e0 : a1.eval (.tmp 3) = _ := h.var n 3 (by kernel_rfl)
                    unfold execOp
                    simp only [e0]
                    go_simp
                  · refine ⟨.inr ⟨1, true, 98, rfl, by kernel_rfl, rfl, by simp, fun v h => h⟩, ?_⟩
                    exact .inl ⟨by kernel_rfl, fun L a1 w1 n h => ⟨_, rfl, run_loadA 22 (.tmp 104) ⟨g3, 2, none⟩ rfl Tryd.isAgg22 (h.dep n 7 104 (by kernel_rfl) rfl) ((Row.later r3t h.inv).cell (j := 2) (v := .slice A m c) rfl)⟩⟩
                  · refine ⟨.inr ⟨1, true, 98, rfl, by kernel_rfl, rfl, by simp, fun v h => h⟩, ?_⟩
                    refine .inl ⟨by kernel_rfl, fun L a1 w1 n h => ⟨.pointer (some ⟨g3, 3, none⟩), rfl, ?_⟩⟩
                    have e0 : a1.eval (.tmp 3) = _ := h.var n 3 (by kernel_rfl)
                    unfold execOp
                    simp only [e0]
                    go_simp
                  · refine ⟨.inr ⟨1, true, 98, rfl, by kernel_rfl, rfl, by simp, fun v h => h⟩, ?_⟩
                    exact .inl ⟨by kernel_rfl, fun L a1 w1 n h => ⟨_, rfl, run_loadA 31 (.tmp 106) ⟨g3, 3, none⟩ rfl Tryd.isAgg31 (h.dep n 9 106 (by kernel_rfl) rfl) ((Row.later r3t h.inv).cell (j := 3) (v := .slice PA np pc) rfl)⟩⟩
                  · refine ⟨.inr ⟨1, true, 98, rfl, by kernel_rfl, rfl, by simp, fun v h => h⟩, ?_⟩
                    refine .inr fun L a1 w1 n h K hK => ?_
                    have e0 : a1.eval (.tmp 99) = .agg (bv r).toArray := h.dep n 2 99 (by kernel_rfl) rfl
                    have e1 : a1.eval (.tmp 101) = .int .i64 N := h.dep n 4 101 (by kernel_rfl) rfl
                    have e2 : a1.eval (.tmp 103) = .int .i64 I := h.dep n 6 103 (by kernel_rfl) rfl
                    have e3 : a1.eval (.tmp 105) = .slice A m c := h.dep n 8 105 (by kernel_rfl) rfl
                    have e4 : a1.eval (.tmp 107) = .slice PA np pc := h.dep n 10 107 (by kernel_rfl) rfl
                    refine st_call 21 _ _ #[.agg (bv r).toArray, .int .i64 N, .int .i64 I, .slice A m c, .slice PA np pc] rfl Tryd.call21 ?_ (H3 w1 h.inv) ?_
                    · simp only [List.map_toArray, List.map_cons, List.map_nil, e0, e1, e2, e3, e4]
                    · rintro e w3 ⟨rfl, b9⟩
                      exact ⟨_, rfl, hK _ w3 rfl (h.inv.trans (b9.mono h.inv.size))⟩
                  · refine ⟨.inr ⟨1, true, 98, rfl, by kernel_rfl, rfl, by simp, fun v h => h⟩, ?_⟩
                    exact .inl ⟨by kernel_rfl, fun L a1 w1 n h => ⟨_, rfl, run_loadRow 23 (.tmp 2) g2 23 _ _ rfl (h.var n 2 (by kernel_rfl)) ((r2t.later h.inv)) Tryd.underlying23 rfl (zr.out)⟩⟩
                  · refine ⟨.inr ⟨1, true, 98, rfl, by kernel_rfl, rfl, by simp, fun v h => h⟩, ?_⟩
                    refine .inl ⟨by kernel_rfl, fun L a1 w1 n h => ⟨.pointer (some ⟨g3, 0, none⟩), rfl, ?_⟩⟩
                    have e0 : a1.eval (.tmp 3) = _ := h.var n 3 (by kernel_rfl)
                    unfold execOp
                    simp only [e0]
                    go_simp
                  · refine ⟨.inr ⟨1, true, 98, rfl, by kernel_rfl, rfl, by simp, fun v h => h⟩, ?_⟩
                    exact .inl ⟨by kernel_rfl, fun L a1 w1 n h => ⟨_, rfl, run_loadA 3 (.tmp 110) ⟨g3, 0, none⟩ rfl Tryd.isAgg3 (h.dep n 13 110 (by kernel_rfl) rfl) ((Row.later r3t h.inv).cell (j := 0) (v := .int .i64 N) rfl)⟩⟩
                  · refine ⟨.inr ⟨1, true, 98, rfl, by kernel_rfl, rfl, by simp, fun v h => h⟩, ?_⟩
                    refine .inl ⟨by kernel_rfl, fun L a1 w1 n h => ⟨.pointer (some ⟨g3, 1, none⟩), rfl, ?_⟩⟩
                    have e0 : a1.eval (.tmp 3) = _ := h.var n 3 (by kernel_rfl)
                    unfold execOp
                    simp only [e0]
                    go_simp
                  · refine ⟨.inr ⟨1, true, 98, rfl, by kernel_rfl, rfl, by simp, fun v h => h⟩, ?_⟩
                    exact .inl ⟨by kernel_rfl, fun L a1 w1 n h => ⟨_, rfl, run_loadA 3 (.tmp 112) ⟨g3, 1, none⟩ rfl Tryd.isAgg3 (h.dep n 15 112 (by kernel_rfl) rfl) ((Row.later r3t h.inv).cell (j := 1) (v := .int .i64 I) rfl)⟩⟩
                  · refine ⟨.inr ⟨1, true, 98, rfl, by kernel_rfl, rfl, by simp, fun v h => h⟩, ?_⟩
                    refine .inl ⟨by kernel_rfl, fun L a1 w1 n h => ⟨.pointer (some ⟨g3, 2, none⟩), rfl, ?_⟩⟩
                    have e0 : a1.eval (.tmp 3) = _ := h.var n 3 (by kernel_rfl)
                    unfold execOp
                    simp only [e0]
                    go_simp
                  · refine ⟨.inr ⟨1, true, 98, rfl, by kernel_rfl, rfl, by simp, fun v h => h⟩, ?_⟩
                    exact .inl ⟨by kernel_rfl, fun L a1 w1 n h => ⟨_, rfl, run_loadA 22 (.tmp 114) ⟨g3, 2, none⟩ rfl Tryd.isAgg22 (h.dep n 17 114 (by kernel_rfl) rfl) ((Row.later r3t h.inv).cell (j := 2) (v := .slice A m c) rfl)⟩⟩
                  · refine ⟨.inr ⟨1, true, 98, rfl, by kernel_rfl, rfl, by simp, fun v h => h⟩, ?_⟩
                    refine .inl ⟨by kernel_rfl, fun L a1 w1 n h => ⟨.pointer (some ⟨g3, 3, none⟩), rfl, ?_⟩⟩
                    have e0 : a1.eval (.tmp 3) = _ := h.var n 3 (by kernel_rfl)
                    unfold execOp
                    simp only [e0]
                    go_simp
                  · refine ⟨.inr ⟨1, true, 98, rfl, by kernel_rfl, rfl, by simp, fun v h => h⟩, ?_⟩
                    exact .inl ⟨by kernel_rfl, fun L a1 w1 n h => ⟨_, rfl, run_loadA 31 (.tmp 116) ⟨g3, 3, none⟩ rfl Tryd.isAgg31 (h.dep n 19 116 (by kernel_rfl) rfl) ((Row.later r3t h.inv).cell (j := 3) (v := .slice PA np pc) rfl)⟩⟩
                  · refine ⟨.inr ⟨1, true, 98, rfl, by kernel_rfl, rfl, by simp, fun v h => h⟩, ?_⟩
                    refine .inr fun L a1 w1 n h K hK => ?_
                    have e0 : a1.eval (.tmp 109) = .agg (bv r).toArray := h.dep n 12 109 (by kernel_rfl) rfl
                    have e1 : a1.eval (.tmp 111) = .int .i64 N := h.dep n 14 111 (by kernel_rfl) rfl
                    have e2 : a1.eval (.tmp 113) = .int .i64 I := h.dep n 16 113 (by kernel_rfl) rfl
                    have e3 : a1.eval (.tmp 115) = .slice A m c := h.dep n 18 115 (by kernel_rfl) rfl
                    have e4 : a1.eval (.tmp 117) = .slice PA np pc := h.dep n 20 117 (by kernel_rfl) rfl
                    refine st_call 22 _ _ #[.agg (bv r).toArray, .int .i64 N, .int .i64 I, .slice A m c, .slice PA np pc] rfl Tryd.call22 ?_ (H4 w1 h.inv) ?_
                    · simp only [List.map_toArray, List.map_cons, List.map_nil, e0, e1, e2, e3, e4]
                    · rintro e w3 ⟨rfl, b9⟩
                      exact ⟨_, rfl, hK _ w3 rfl (h.inv.trans (b9.mono h.inv.size))⟩
                  · refine ⟨.inr ⟨1, true, 98, rfl, by kernel_rfl, rfl, by simp, fun v h => h⟩, ?_⟩
                    exact .inl ⟨by kernel_rfl, fun L a1 w1 n h => ⟨_, rfl, run_eqlB (.tmp 108) (.tmp 118) _ _ rfl (h.dep n 11 108 (by kernel_rfl) rfl) (h.dep n 21 118 (by kernel_rfl) rfl) (fun w => (eqBoolT _ _ w).trans (by rw [hbr]))⟩⟩
                  · refine ⟨.inl rfl, ?_⟩
                    exact .inl ⟨by kernel_rfl, fun L a1 w1 n h => ⟨_, rfl, run_pickT (.tmp 98) _ _ rfl (h.dep n 1 98 (by kernel_rfl) rfl) (h.dep n 22 119 (by kernel_rfl) rfl)⟩⟩
                  · refine ⟨.inl rfl, ?_⟩
                    exact .inl ⟨by kernel_rfl, fun L a1 w1 n h => ⟨_, rfl, run_move (.tmp 120) rfl (h.dep n 23 120 (by kernel_rfl) rfl)⟩⟩
                  · refine ⟨.inr ⟨24, true, 121, rfl, by kernel_rfl, rfl, by simp, fun v h => h⟩, ?_⟩
                    refine .inr fun L a1 w1 n h K hK => ?_
                    refine st_call 10 _ _ #[] rfl Tryd.call10 ?_ (H5 w1 h.inv) ?_
                    · simp
                    · rintro e w3 ⟨rfl, b9⟩
                      exact ⟨_, rfl, hK _ w3 rfl (h.inv.trans (b9.mono h.inv.size))⟩
                  · refine ⟨.inl rfl, ?_⟩
                    exact .inl ⟨by kernel_rfl, fun L a1 w1 n h => ⟨_, rfl, run_pickT (.tmp 121) _ _ rfl (h.dep n 24 121 (by kernel_rfl) rfl) (h.dep n 25 122 (by kernel_rfl) rfl)⟩⟩
                  · refine ⟨.inl rfl, ?_⟩
                    exact .inl ⟨by kernel_rfl, fun L a1 w1 n h => ⟨_, rfl, run_assign (.tmp 123) rfl (h.dep n 26 123 (by kernel_rfl) rfl)⟩⟩
                case heB1 =>
                  intro V2 w10 hV hJ
                  have b10 : Below w9.heap.size w9 w10 := hJ
                  have hv : V2 27 = .bool true := hV 27 4 rfl
                  clear hV hJ
                  simp only [putOps, List.setIfInBounds_toArray, List.set_cons_succ, List.set_cons_zero, Nat.reduceAdd]
                  rw [hv]
                  refine hK2 _ _ ?_
                  go_wp2_with fail
                  go_ret
                  exact ⟨rfl, B9.out.trans (b10.mono B9.out.size)⟩
          · have hd5 : decide ((k : Int) < (np : Int)) = false := by simp; omega
            obtain ⟨bc, HBc⟩ := HB cur hcur
            obtain ⟨br, HBr⟩ := HB r hr
            have zc := hide (size32b hcur)
            have zr := hide (size32b hr)
            have hbc : (bc == bc) = true := by simp
            have hbr : (br == br) = true := by simp
            have BT := hide (Bk)
            have H1 := fun w1 (b : Below (wr).heap.size wr w1) => (HBc w1 (BT.out.trans (b.mono BT.out.size))).1
            have H2 := fun w1 (b : Below (wr).heap.size wr w1) => (HBc w1 (BT.out.trans (b.mono BT.out.size))).2
            have H3 := fun w1 (b : Below (wr).heap.size wr w1) => (HBr w1 (BT.out.trans (b.mono BT.out.size))).1
            have H4 := fun w1 (b : Below (wr).heap.size wr w1) => (HBr w1 (BT.out.trans (b.mono BT.out.size))).2
            have H5 := fun w1 (b : Below (wr).heap.size wr w1) => tawake_any w1 (hT.later (BT.out.trans (b.mono BT.out.size)))
            have rt := rt
            have r2t := r2k
            have r3t := r3k
            clear HBc HBr HB hcur hr hT 
            go_wp2_with fail
            rename_i K1 hK1
            refine wp_region_vals [9, 19] (SCh cur g3 g5 m c np pc A PA N I bc) (JR wr) (by kernel_rfl) (by kernel_rfl) (by kernel_rfl) (by kernel_rfl) (by kernel_rfl) (Below.refl _ _).drew ?obsA2 ?heA2
            case obsA2 =>
              refine ⟨?_, ?_, ?_, ?_, ?_, ?_, ?_, ?_, ?_, ?_, ?_, ?_, ?_, ?_, ?_, ?_, ?_, ?_, ?_, ?_, ?_, ?_, trivial⟩
              · exact .inl ⟨by kernel_rfl, fun L a1 w1 n h => ⟨_, rfl, run_loadRow 23 (.tmp 5) g5 23 _ _ rfl (h.var n 5 (by kernel_rfl)) ((rt.later h.inv)) Tryd.underlying23 rfl (zc.out)⟩⟩
              · refine .inl ⟨by kernel_rfl, fun L a1 w1 n h => ⟨.pointer (some ⟨g3, 0, none⟩), rfl, ?_⟩⟩
                have e0 : a1.eval (.tmp 3) = _ := h.var n 3 (by kernel_rfl)
                unfold execOp
                simp only [e0]
                go_simp
              · exact .inl ⟨by kernel_rfl, fun L a1 w1 n h => ⟨_, rfl, run_loadA 3 (.tmp 77) ⟨g3, 0, none⟩ rfl Tryd.isAgg3 (h.dep n 1 77 (by kernel_rfl) rfl) ((Row.later r3t h.inv).cell (j := 0) (v := .int .i64 N) rfl)⟩⟩
              · refine .inl ⟨by kernel_rfl, fun L a1 w1 n h => ⟨.pointer (some ⟨g3, 1, none⟩), rfl, ?_⟩⟩
                have e0 : a1.eval (.tmp 3) = _ := h.var n 3 (by kernel_rfl)
                unfold execOp
                simp only [e0]
                go_simp
              · exact .inl ⟨by kernel_rfl, fun L a1 w1 n h => ⟨_, rfl, run_loadA 3 (.tmp 79) ⟨g3, 1, none⟩ rfl Tryd.isAgg3 (h.dep n 3 79 (by kernel_rfl) rfl) ((Row.later r3t h.inv).cell (j := 1) (v := .int .i64 I) rfl)⟩⟩
              · refine .inl ⟨by kernel_rfl, fun L a1 w1 n h => ⟨.pointer (some ⟨g3, 2, none⟩), rfl, ?_⟩⟩
                have e0 : a1.eval (.tmp 3) = _ := h.var n 3 (by kernel_rfl)
                unfold execOp
                simp only [e0]
                go_simp
              · exact .inl ⟨by kernel_rfl, fun L a1 w1 n h => ⟨_, rfl, run_loadA 22 (.tmp 81) ⟨g3, 2, none⟩ rfl Tryd.isAgg22 (h.dep n 5 81 (by kernel_rfl) rfl) ((Row.later r3t h.inv).cell (j := 2) (v := .slice A m c) rfl)⟩⟩
              · refine .inl ⟨by kernel_rfl, fun L a1 w1 n h => ⟨.pointer (some ⟨g3, 3, none⟩), rfl, ?_⟩⟩
                have e0 : a1.eval (.tmp 3) = _ := h.var n 3 (by kernel_rfl)
                unfold execOp
                simp only [e0]
                go_simp
              · exact .inl ⟨by kernel_rfl, fun L a1 w1 n h => ⟨_, rfl, run_loadA 31 (.tmp 83) ⟨g3, 3, none⟩ rfl Tryd.isAgg31 (h.dep n 7 83 (by kernel_rfl) rfl) ((Row.later r3t h.inv).cell (j := 3) (v := .slice PA np pc) rfl)⟩⟩
              · refine .inr fun L a1 w1 n h K hK => ?_
                have e0 : a1.eval (.tmp 76) = .agg (bv cur).toArray := h.dep n 0 76 (by kernel_rfl) rfl
                have e1 : a1.eval (.tmp 78) = .int .i64 N := h.dep n 2 78 (by kernel_rfl) rfl
                have e2 : a1.eval (.tmp 80) = .int .i64 I := h.dep n 4 80 (by kernel_rfl) rfl
                have e3 : a1.eval (.tmp 82) = .slice A m c := h.dep n 6 82 (by kernel_rfl) rfl
                have e4 : a1.eval (.tmp 84) = .slice PA np pc := h.dep n 8 84 (by kernel_rfl) rfl
                refine st_call 21 _ _ #[.agg (bv cur).toArray, .int .i64 N, .int .i64 I, .slice A m c, .slice PA np pc] rfl Tryd.call21 ?_ (H1 w1 h.inv) ?_
                · simp only [List.map_toArray, List.map_cons, List.map_nil, e0, e1, e2, e3, e4]
                · rintro e w3 ⟨rfl, b9⟩
                  exact ⟨_, rfl, hK _ w3 rfl (h.inv.trans (b9.mono h.inv.size))⟩
              · exact .inl ⟨by kernel_rfl, fun L a1 w1 n h => ⟨_, rfl, run_loadRow 23 (.tmp 5) g5 23 _ _ rfl (h.var n 5 (by kernel_rfl)) ((rt.later h.inv)) Tryd.underlying23 rfl (zc.out)⟩⟩
              · refine .inl ⟨by kernel_rfl, fun L a1 w1 n h => ⟨.pointer (some ⟨g3, 0, none⟩), rfl, ?_⟩⟩
                have e0 : a1.eval (.tmp 3) = _ := h.var n 3 (by kernel_rfl)
                unfold execOp
                simp only [e0]
                go_simp
              · exact .inl ⟨by kernel_rfl, fun L a1 w1 n h => ⟨_, rfl, run_loadA 3 (.tmp 87) ⟨g3, 0, none⟩ rfl Tryd.isAgg3 (h.dep n 11 87 (by kernel_rfl) rfl) ((Row.later r3t h.inv).cell (j := 0) (v := .int .i64 N) rfl)⟩⟩
              · refine .inl ⟨by kernel_rfl, fun L a1 w1 n h => ⟨.pointer (some ⟨g3, 1, none⟩), rfl, ?_⟩⟩
                have e0 : a1.eval (.tmp 3) = _ := h.var n 3 (by kernel_rfl)
                unfold execOp
                simp only [e0]
                go_simp
              · exact .inl ⟨by kernel_rfl, fun L a1 w1 n h => ⟨_, rfl, run_loadA 3 (.tmp 89) ⟨g3, 1, none⟩ rfl Tryd.isAgg3 (h.dep n 13 89 (by kernel_rfl) rfl) ((Row.later r3t h.inv).cell (j := 1) (v := .int .i64 I) rfl)⟩⟩
              · refine .inl ⟨by kernel_rfl, fun L a1 w1 n h => ⟨.pointer (some ⟨g3, 2, none⟩), rfl, ?_⟩⟩
                have e0 : a1.eval (.tmp 3) = _ := h.var n 3 (by kernel_rfl)
                unfold execOp
                simp only [e0]
                go_simp
              · exact .inl ⟨by kernel_rfl, fun L a1 w1 n h => ⟨_, rfl, run_loadA 22 (.tmp 91) ⟨g3, 2, none⟩ rfl Tryd.isAgg22 (h.dep n 15 91 (by kernel_rfl) rfl) ((Row.later r3t h.inv).cell (j := 2) (v := .slice A m c) rfl)⟩⟩
              · refine .inl ⟨by kernel_rfl, fun L a1 w1 n h => ⟨.pointer (some ⟨g3, 3, none⟩), rfl, ?_⟩⟩
                have e0 : a1.eval (.tmp 3) = _ := h.var n 3 (by kernel_rfl)
                unfold execOp
                simp only [e0]
                go_simp
              · exact .inl ⟨by kernel_rfl, fun L a1 w1 n h => ⟨_, rfl, run_loadA 31 (.tmp 93) ⟨g3, 3, none⟩ rfl Tryd.isAgg31 (h.dep n 17 93 (by kernel_rfl) rfl) ((Row.later r3t h.inv).cell (j := 3) (v := .slice PA np pc) rfl)⟩⟩
              · refine .inr fun L a1 w1 n h K hK => ?_
                have e0 : a1.eval (.tmp 86) = .agg (bv cur).toArray := h.dep n 10 86 (by kernel_rfl) rfl
                have e1 : a1.eval (.tmp 88) = .int .i64 N := h.dep n 12 88 (by kernel_rfl) rfl
                have e2 : a1.eval (.tmp 90) = .int .i64 I := h.dep n 14 90 (by kernel_rfl) rfl
                have e3 : a1.eval (.tmp 92) = .slice A m c := h.dep n 16 92 (by kernel_rfl) rfl
                have e4 : a1.eval (.tmp 94) = .slice PA np pc := h.dep n 18 94 (by kernel_rfl) rfl
                refine st_call 22 _ _ #[.agg (bv cur).toArray, .int .i64 N, .int .i64 I, .slice A m c, .slice PA np pc] rfl Tryd.call22 ?_ (H2 w1 h.inv) ?_
                · simp only [List.map_toArray, List.map_cons, List.map_nil, e0, e1, e2, e3, e4]
                · rintro e w3 ⟨rfl, b9⟩
                  exact ⟨_, rfl, hK _ w3 rfl (h.inv.trans (b9.mono h.inv.size))⟩
              · exact .inl ⟨by kernel_rfl, fun L a1 w1 n h => ⟨_, rfl, run_eqlB (.tmp 85) (.tmp 95) _ _ rfl (h.dep n 9 85 (by kernel_rfl) rfl) (h.dep n 19 95 (by kernel_rfl) rfl) (fun w => (eqBoolT _ _ w).trans (by rw [hbc]))⟩⟩
              · exact .inl ⟨by kernel_rfl, fun L a1 w1 n h => ⟨_, rfl, run_assign (.tmp 96) rfl (h.dep n 20 96 (by kernel_rfl) rfl)⟩⟩
            case heA2 =>
              intro V w9 hV hJ
              have b9 : Below (wr).heap.size wr w9 := hJ
              have hv : V 21 = .bool true := hV 21 8 rfl
              clear hV hJ
              simp only [putOps, List.setIfInBounds_toArray, List.set_cons_succ, List.set_cons_zero, Nat.reduceAdd]
              rw [hv]
              refine hK1 _ _ ?_
              replace H3 := fun w1 (b : Below w9.heap.size w9 w1) => H3 w1 (b9.trans (b.mono b9.size))
              replace H4 := fun w1 (b : Below w9.heap.size w9 w1) => H4 w1 (b9.trans (b.mono b9.size))
              replace H5 := fun w1 (b : Below w9.heap.size w9 w1) => H5 w1 (b9.trans (b.mono b9.size))
              replace r2t := r2t.later b9
              replace r3t := r3t.later b9
              have B9 := hide (BT.out.trans (b9.mono BT.out.size))
              clear H1 H2 rt BT b9 hv
              go_wp2_with fail
              rename_i K2 hK2
              refine wp_region_valsG [11, 21, 25] (SCi r g2 g3 m c np pc A PA N I br) (JR w9) (by kernel_rfl) (by kernel_rfl) (by kernel_rfl) (by kernel_rfl) (Below.refl _ _).drew ?obsB2 ?heB2
              case obsB2 =>
                refine ⟨?_, ?_, ?_, ?_, ?_, ?_, ?_, ?_, ?_, ?_, ?_, ?_, ?_, ?_, ?_, ?_, ?_, ?_, ?_, ?_, ?_, ?_, ?_, ?_, ?_, ?_, ?_, ?_, trivial⟩
                · refine ⟨.inl rfl, ?_⟩
                  exact .inl ⟨by kernel_rfl, fun L a1 w1 n h => ⟨_, rfl, run_move (.tmp 8) rfl (h.var n 8 (by kernel_rfl))⟩⟩
                · refine ⟨.inl rfl, ?_⟩
                  exact .inl ⟨by kernel_rfl, fun L a1 w1 n h => ⟨_, rfl, run_move (.tmp 97) rfl (h.dep n 0 97 (by kernel_rfl) rfl)⟩⟩
                · refine ⟨.inr ⟨1, true, 98, rfl, by kernel_rfl, rfl, by simp, fun v h => h⟩, ?_⟩
                  exact .inl ⟨by kernel_rfl, fun L a1 w1 n h => ⟨_, rfl, run_loadRow 23 (.tmp 2) g2 23 _ _ rfl (h.var n 2 (by kernel_rfl)) ((r2t.later h.inv)) Tryd.underlying23 rfl (zr.out)⟩⟩
                · refine ⟨.inr ⟨1, true, 98, rfl, by kernel_rfl, rfl, by simp, fun v h => h⟩, ?_⟩
                  refine .inl ⟨by kernel_rfl, fun L a1 w1 n h => ⟨.pointer (some ⟨g3, 0, none⟩), rfl, ?_⟩⟩
                  have e0 : a1.eval (.tmp 3) = _ := h.var n 3 (by kernel_rfl)
                  unfold execOp
                  simp only [e0]
                  go_simp
                · refine ⟨.inr ⟨1, true, 98, rfl, by kernel_rfl, rfl, by simp, fun v h => h⟩, ?_⟩
                  exact .inl ⟨by kernel_rfl, fun L a1 w1 n h => ⟨_, rfl, run_loadA 3 (.tmp 100) ⟨g3, 0, none⟩ rfl Tryd.isAgg3 (h.dep n 3 100 (by kernel_rfl) rfl) ((Row.later r3t h.inv).cell (j := 0) (v := .int .i64 N) rfl)⟩⟩
                · refine ⟨.inr ⟨1, true, 98, rfl, by kernel_rfl, rfl, by simp, fun v h => h⟩, ?_⟩
                  refine .inl ⟨by kernel_rfl, fun L a1 w1 n h => ⟨.pointer (some ⟨g3, 1, none⟩), rfl, ?_⟩⟩
                  have e0 : a1.eval (.tmp 3) = _ := h.var n 3 (by kernel_rfl)
                  unfold execOp
                  simp only [e0]
                  go_simp
                · refine ⟨.inr ⟨1, true, 98, rfl, by kernel_rfl, rfl, by simp, fun v h => h⟩, ?_⟩
                  exact .inl ⟨by kernel_rfl, fun L a1 w1 n h => ⟨_, rfl, run_loadA 3 (.tmp 102) ⟨g3, 1, none⟩ rfl Tryd.isAgg3 (h.dep n 5 102 (by kernel_rfl) rfl) ((Row.later r3t h.inv).cell (j := 1) (v := .int .i64 I) rfl)⟩⟩
                · refine ⟨.inr ⟨1, true, 98, rfl, by kernel_rfl, rfl, by simp, fun v h => h⟩, ?_⟩
                  refine .inl ⟨by kernel_rfl, fun L a1 w1 n h => ⟨.pointer (some ⟨g3, 2, none⟩), rfl, ?_⟩⟩
                  have e0 : a1.eval (.tmp 3) = _ := h.var n 3 (by kernel_rfl)
                  unfold execOp
                  simp only [e0]
                  go_simp
                · refine ⟨.inr ⟨1, true, 98, rfl, by kernel_rfl, rfl, by simp, fun v h => h⟩, ?_⟩
                  exact .inl ⟨by kernel_rfl, fun L a1 w1 n h => ⟨_, rfl, run_loadA 22 (.tmp 104) ⟨g3, 2, none⟩ rfl Tryd.isAgg22 (h.dep n 7 104 (by kernel_rfl) rfl) ((Row.later r3t h.inv).cell (j := 2) (v := .slice A m c) rfl)⟩⟩
                · refine ⟨.inr ⟨1, true, 98, rfl, by kernel_rfl, rfl, by simp, fun v h => h⟩, ?_⟩
                  refine .inl ⟨by kernel_rfl, fun L a1 w1 n h => ⟨.pointer (some ⟨g3, 3, none⟩), rfl, ?_⟩⟩
                  have e0 : a1.eval (.tmp 3) = _ := h.var n 3 (by kernel_rfl)
                  unfold execOp
                  simp only [e0]
                  go_simp
                · refine ⟨.inr ⟨1, true, 98, rfl, by kernel_rfl, rfl, by simp, fun v h => h⟩, ?_⟩
                  exact .inl ⟨by kernel_rfl, fun L a1 w1 n h => ⟨_, rfl, run_loadA 31 (.tmp 106) ⟨g3, 3, none⟩ rfl Tryd.isAgg31 (h.dep n 9 106 (by kernel_rfl) rfl) ((Row.later r3t h.inv).cell (j := 3) (v := .slice PA np pc) rfl)⟩⟩
                · refine ⟨.inr ⟨1, true, 98, rfl, by kernel_rfl, rfl, by simp, fun v h => h⟩, ?_⟩
                  refine .inr fun L a1 w1 n h K hK => ?_
                  have e0 : a1.eval (.tmp 99) = .agg (bv r).toArray := h.dep n 2 99 (by kernel_rfl) rfl
                  have e1 : a1.eval (.tmp 101) = .int .i64 N := h.dep n 4 101 (by kernel_rfl) rfl
                  have e2 : a1.eval (.tmp 103) = .int .i64 I := h.dep n 6 103 (by kernel_rfl) rfl
                  have e3 : a1.eval (.tmp 105) = .slice A m c := h.dep n 8 105 (by kernel_rfl) rfl
                  have e4 : a1.eval (.tmp 107) = .slice PA np pc := h.dep n 10 107 (by kernel_rfl) rfl
                  refine st_call 21 _ _ #[.agg (bv r).toArray, .int .i64 N, .int .i64 I, .slice A m c, .slice PA np pc] rfl Tryd.call21 ?_ (H3 w1 h.inv) ?_
                  · simp only [List.map_toArray, List.map_cons, List.map_nil, e0, e1, e2, e3, e4]
                  · rintro e w3 ⟨rfl, b9⟩
                    exact ⟨_, rfl, hK _ w3 rfl (h.inv.trans (b9.mono h.inv.size))⟩
                · refine ⟨.inr ⟨1, true, 98, rfl, by kernel_rfl, rfl, by simp, fun v h => h⟩, ?_⟩
                  exact .inl ⟨by kernel_rfl, fun L a1 w1 n h => ⟨_, rfl, run_loadRow 23 (.tmp 2) g2 23 _ _ rfl (h.var n 2 (by kernel_rfl)) ((r2t.later h.inv)) Tryd.underlying23 rfl (zr.out)⟩⟩
                · refine ⟨.inr ⟨1, true, 98, rfl, by kernel_rfl, rfl, by simp, fun v h => h⟩, ?_⟩
                  refine .inl ⟨by kernel_rfl, fun L a1 w1 n h => ⟨.pointer (some ⟨g3, 0, none⟩), rfl, ?_⟩⟩
                  have e0 : a1.eval (.tmp 3) = _ := h.var n 3 (by kernel_rfl)
                  unfold execOp
                  simp only [e0]
                  go_simp
                · refine ⟨.inr ⟨1, true, 98, rfl, by kernel_rfl, rfl, by simp, fun v h => h⟩, ?_⟩
                  exact .inl ⟨by kernel_rfl, fun L a1 w1 n h => ⟨_, rfl, run_loadA 3 (.tmp 110) ⟨g3, 0, none⟩ rfl Tryd.isAgg3 (h.dep n 13 110 (by kernel_rfl) rfl) ((Row.later r3t h.inv).cell (j := 0) (v := .int .i64 N) rfl)⟩⟩
                · refine ⟨.inr ⟨1, true, 98, rfl, by kernel_rfl, rfl, by simp, fun v h => h⟩, ?_⟩
                  refine .inl ⟨by kernel_rfl, fun L a1 w1 n h => ⟨.pointer (some ⟨g3, 1, none⟩), rfl, ?_⟩⟩
                  have e0 : a1.eval (.tmp 3) = _ := h.var n 3 (by kernel_rfl)
                  unfold execOp
                  simp only [e0]
                  go_simp
                · refine ⟨.inr ⟨1, true, 98, rfl, by kernel_rfl, rfl, by simp, fun v h => h⟩, ?_⟩
                  exact .inl ⟨by kernel_rfl, fun L a1 w1 n h => ⟨_, rfl, run_loadA 3 (.tmp 112) ⟨g3, 1, none⟩ rfl Tryd.isAgg3 (h.dep n 15 112 (by kernel_rfl) rfl) ((Row.later r3t h.inv).cell (j := 1) (v := .int .i64 I) rfl)⟩⟩
                · refine ⟨.inr ⟨1, true, 98, rfl, by kernel_rfl, rfl, by simp, fun v h => h⟩, ?_⟩
                  refine .inl ⟨by kernel_rfl, fun L a1 w1 n h => ⟨.pointer (some ⟨g3, 2, none⟩), rfl, ?_⟩⟩
                  have e0 : a1.eval (.tmp 3) = _ := h.var n 3 (by kernel_rfl)
                  unfold execOp
                  simp only [e0]
                  go_simp
                · refine ⟨.inr ⟨1, true, 98, rfl, by kernel_rfl, rfl, by simp, fun v h => h⟩, ?_⟩
                  exact .inl ⟨by kernel_rfl, fun L a1 w1 n h => ⟨_, rfl, run_loadA 22 (.tmp 114) ⟨g3, 2, none⟩ rfl Tryd.isAgg22 (h.dep n 17 114 (by kernel_rfl) rfl) ((Row.later r3t h.inv).cell (j := 2) (v := .slice A m c) rfl)⟩⟩
                · refine ⟨.inr ⟨1, true, 98, rfl, by kernel_rfl, rfl, by simp, fun v h => h⟩, ?_⟩
                  refine .inl ⟨by kernel_rfl, fun L a1 w1 n h => ⟨.pointer (some ⟨g3, 3, none⟩), rfl, ?_⟩⟩
                  have e0 : a1.eval (.tmp 3) = _ := h.var n 3 (by kernel_rfl)
                  unfold execOp
                  simp only [e0]
                  go_simp
                · refine ⟨.inr ⟨1, true, 98, rfl, by kernel_rfl, rfl, by simp, fun v h => h⟩, ?_⟩
                  exact .inl ⟨by kernel_rfl, fun L a1 w1 n h => ⟨_, rfl, run_loadA 31 (.tmp 116) ⟨g3, 3, none⟩ rfl Tryd.isAgg31 (h.dep n 19 116 (by kernel_rfl) rfl) ((Row.later r3t h.inv).cell (j := 3) (v := .slice PA np pc) rfl)⟩⟩
                · refine ⟨.inr ⟨1, true, 98, rfl, by kernel_rfl, rfl, by simp, fun v h => h⟩, ?_⟩
                  refine .inr fun L a1 w1 n h K hK => ?_
                  have e0 : a1.eval (.tmp 109) = .agg (bv r).toArray := h.dep n 12 109 (by kernel_rfl) rfl
                  have e1 : a1.eval (.tmp 111) = .int .i64 N := h.dep n 14 111 (by kernel_rfl) rfl
                  have e2 : a1.eval (.tmp 113) = .int .i64 I := h.dep n 16 113 (by kernel_rfl) rfl
                  have e3 : a1.eval (.tmp 115) = .slice A m c := h.dep n 18 115 (by kernel_rfl) rfl
                  have e4 : a1.eval (.tmp 117) = .slice PA np pc := h.dep n 20 117 (by kernel_rfl) rfl
                  refine st_call 22 _ _ #[.agg (bv r).toArray, .int .i64 N, .int .i64 I, .slice A m c, .slice PA np pc] rfl Tryd.call22 ?_ (H4 w1 h.inv) ?_
                  · simp only [List.map_toArray, List.map_cons, List.map_nil, e0, e1, e2, e3, e4]
                  · rintro e w3 ⟨rfl, b9⟩
                    exact ⟨_, rfl, hK _ w3 rfl (h.inv.trans (b9.mono h.inv.size))⟩
                · refine ⟨.inr ⟨1, true, 98, rfl, by kernel_rfl, rfl, by simp, fun v h => h⟩, ?_⟩
                  exact .inl ⟨by kernel_rfl, fun L a1 w1 n h => ⟨_, rfl, run_eqlB (.tmp 108) (.tmp 118) _ _ rfl (h.dep n 11 108 (by kernel_rfl) rfl) (h.dep n 21 118 (by kernel_rfl) rfl) (fun w => (eqBoolT _ _ w).trans (by rw [hbr]))⟩⟩
                · refine ⟨.inl rfl, ?_⟩
                  exact .inl ⟨by kernel_rfl, fun L a1 w1 n h => ⟨_, rfl, run_pickT (.tmp 98) _ _ rfl (h.dep n 1 98 (by kernel_rfl) rfl) (h.dep n 22 119 (by kernel_rfl) rfl)⟩⟩
                · refine ⟨.inl rfl, ?_⟩
                  exact .inl ⟨by kernel_rfl, fun L a1 w1 n h => ⟨_, rfl, run_move (.tmp 120) rfl (h.dep n 23 120 (by kernel_rfl) rfl)⟩⟩
                · refine ⟨.inr ⟨24, true, 121, rfl, by kernel_rfl, rfl, by simp, fun v h => h⟩, ?_⟩
                  refine .inr fun L a1 w1 n h K hK => ?_
                  refine st_call 10 _ _ #[] rfl Tryd.call10 ?_ (H5 w1 h.inv) ?_
                  · simp
                  · rintro e w3 ⟨rfl, b9⟩
                    exact ⟨_, rfl, hK _ w3 rfl (h.inv.trans (b9.mono h.inv.size))⟩
                · refine ⟨.inl rfl, ?_⟩
                  exact .inl ⟨by kernel_rfl, fun L a1 w1 n h => ⟨_, rfl, run_pickT (.tmp 121) _ _ rfl (h.dep n 24 121 (by kernel_rfl) rfl) (h.dep n 25 122 (by kernel_rfl) rfl)⟩⟩
                · refine ⟨.inl rfl, ?_⟩
                  exact .inl ⟨by kernel_rfl, fun L a1 w1 n h => ⟨_, rfl, run_assign (.tmp 123) rfl (h.dep n 26 123 (by kernel_rfl) rfl)⟩⟩
              case heB2 =>
                intro V2 w10 hV hJ
                have b10 : Below w9.heap.size w9 w10 := hJ
                have hv : V2 27 = .bool true := hV 27 4 rfl
                clear hV hJ
                simp only [putOps, List.setIfInBounds_toArray, List.set_cons_succ, List.set_cons_zero, Nat.reduceAdd]
                rw [hv]
                refine hK2 _ _ ?_
                go_wp2_with fail
                go_ret
                exact ⟨rfl, B9.out.trans (b10.mono B9.out.size)⟩
      · have hd4 : decide ((np : Int) < 40) = false := by simp; omega
        clear HSM HSD
        go_wp2_with (first
          | ((with_reducible refine wl_alloc (o := ⟨some 5, _, _, _, _, _⟩) rfl 23 _ (bv (List.replicate 32 0)) rfl zero32b rfl ?_); intro g5 w5 r5 p5 l5 b5; have n2 : g2 ≠ g5 := (by have := r2c.lt; omega); have n3 : g3 ≠ g5 := (by have := r3c.lt; omega))
          | ((with_reducible refine wl_store_row rfl 23 (.tmp 5) (.tmp 22) g5 23 _ (bv x0) rfl rfl rfl r5 zx.out lx.out (bv_one _) ?_); intro w6 rt o6; have r3d := (r3c.later b5).only o6 n3; have d0 := r3d.cell (j := 0) rfl; have d1 := r3d.cell (j := 1) rfl; have d3 := r3d.cell (j := 3) rfl))
        have p5w : w.heap.size ≤ g5 := by have := B4.size; omega
        have B6 : Below w.heap.size w w6 := (B4.trans (b5.mono B4.size)).trans (o6.below p5w)
        have r2d := (r2c.later b5).only o6 n2
        clear r2c r3c r5 b5 o6 zx lx
        have hcur := hx0
        obtain ⟨bc, HBc⟩ := HB x0 hcur
        obtain ⟨br, HBr⟩ := HB r hr
        have zc := hide (size32b hcur)
        have zr := hide (size32b hr)
        have hbc : (bc == bc) = true := by simp
        have hbr : (br == br) = true := by simp
        have BT := hide (B6)
        have H1 := fun w1 (b : Below (w6).heap.size w6 w1) => (HBc w1 (BT.out.trans (b.mono BT.out.size))).1
        have H2 := fun w1 (b : Below (w6).heap.size w6 w1) => (HBc w1 (BT.out.trans (b.mono BT.out.size))).2
        have H3 := fun w1 (b : Below (w6).heap.size w6 w1) => (HBr w1 (BT.out.trans (b.mono BT.out.size))).1
        have H4 := fun w1 (b : Below (w6).heap.size w6 w1) => (HBr w1 (BT.out.trans (b.mono BT.out.size))).2
        have H5 := fun w1 (b : Below (w6).heap.size w6 w1) => tawake_any w1 (hT.later (BT.out.trans (b.mono BT.out.size)))
        have rt := rt
        have r2t := r2d
        have r3t := r3d
        clear HBc HBr HB hcur hr hT 
        go_wp2_with fail
        rename_i K1 hK1
        refine wp_region_vals [9, 19] (SCh x0 g3 g5 m c np pc A PA N I bc) (JR w6) (by kernel_rfl) (by kernel_rfl) (by kernel_rfl) (by kernel_rfl) (by kernel_rfl) (Below.refl _ _).drew ?obsA3 ?heA3
        case obsA3 =>
          refine ⟨?_, ?_, ?_, ?_, ?_, ?_, ?_, ?_, ?_, ?_, ?_, ?_, ?_, ?_, ?_, ?_, ?_, ?_, ?_, ?_, ?_, ?_, trivial⟩
          · exact .inl ⟨by kernel_rfl, fun L a1 w1 n h => ⟨_, rfl, run_loadRow 23 (.tmp 5) g5 23 _ _ rfl (h.var n 5 (by kernel_rfl)) ((rt.later h.inv)) Tryd.underlying23 rfl (zc.out)⟩⟩
          · refine .inl ⟨by kernel_rfl, fun L a1 w1 n h => ⟨.pointer (some ⟨g3, 0, none⟩), rfl, ?_⟩⟩
            have e0 : a1.eval (.tmp 3) = _ := h.var n 3 (by kernel_rfl)
            unfold execOp
            simp only [e0]
            go_simp
          · exact .inl ⟨by kernel_rfl, fun L a1 w1 n h => ⟨_, rfl, run_loadA 3 (.tmp 77) ⟨g3, 0, none⟩ rfl Tryd.isAgg3 (h.dep n 1 77 (by kernel_rfl) rfl) ((Row.later r3t h.inv).cell (j := 0) (v := .int .i64 N) rfl)⟩⟩
          · refine .inl ⟨by kernel_rfl, fun L a1 w1 n h => ⟨.pointer (some ⟨g3, 1, none⟩), rfl, ?_⟩⟩
            have e0 : a1.eval (.tmp 3) = _ := h.var n 3 (by kernel_rfl)
            unfold execOp
            simp only [e0]
            go_simp
          · exact .inl ⟨by kernel_rfl, fun L a1 w1 n h => ⟨_, rfl, run_loadA 3 (.tmp 79) ⟨g3, 1, none⟩ rfl Tryd.isAgg3 (h.dep n 3 79 (by kernel_rfl) rfl) ((Row.later r3t h.inv).cell (j := 1) (v := .int .i64 I) rfl)⟩⟩
          · refine .inl ⟨by kernel_rfl, fun L a1 w1 n h => ⟨.pointer (some ⟨g3, 2, none⟩), rfl, ?_⟩⟩
            have e0 : a1.eval (.tmp 3) = _ := h.var n 3 (by kernel_rfl)
            unfold execOp
            simp only [e0]
            go_simp
          · exact .inl ⟨by kernel_rfl, fun L a1 w1 n h => ⟨_, rfl, run_loadA 22 (.tmp 81) ⟨g3, 2, none⟩ rfl Tryd.isAgg22 (h.dep n 5 81 (by kernel_rfl) rfl) ((Row.later r3t h.inv).cell (j := 2) (v := .slice A m c) rfl)⟩⟩
          · refine .inl ⟨by kernel_rfl, fun L a1 w1 n h => ⟨.pointer (some ⟨g3, 3, none⟩), rfl, ?_⟩⟩
            have e0 : a1.eval (.tmp 3) = _ := h.var n 3 (by kernel_rfl)
            unfold execOp
            simp only [e0]
            go_simp
          · exact .inl ⟨by kernel_rfl, fun L a1 w1 n h => ⟨_, rfl, run_loadA 31 (.tmp 83) ⟨g3, 3, none⟩ rfl Tryd.isAgg31 (h.dep n 7 83 (by kernel_rfl) rfl) ((Row.later r3t h.inv).cell (j := 3) (v := .slice PA np pc) rfl)⟩⟩
          · refine .inr fun L a1 w1 n h K hK => ?_
            have e0 : a1.eval (.tmp 76) = .agg (bv x0).toArray := h.dep n 0 76 (by kernel_rfl) rfl
            have e1 : a1.eval (.tmp 78) = .int .i64 N := h.dep n 2 78 (by kernel_rfl) rfl
            have e2 : a1.eval (.tmp 80) = .int .i64 I := h.dep n 4 80 (by kernel_rfl) rfl
            have e3 : a1.eval (.tmp 82) = .slice A m c := h.dep n 6 82 (by kernel_rfl) rfl
            have e4 : a1.eval (.tmp 84) = .slice PA np pc := h.dep n 8 84 (by kernel_rfl) rfl
            refine st_call 21 _ _ #[.agg (bv x0).toArray, .int .i64 N, .int .i64 I, .slice A m c, .slice PA np pc] rfl Tryd.call21 ?_ (H1 w1 h.inv) ?_
            · simp only [List.map_toArray, List.map_cons, List.map_nil, e0, e1, e2, e3, e4]
            · rintro e w3 ⟨rfl, b9⟩
              exact ⟨_, rfl, hK _ w3 rfl (h.inv.trans (b9.mono h.inv.size))⟩
          · exact .inl ⟨by kernel_rfl, fun L a1 w1 n h => ⟨_, rfl, run_loadRow 23 (.tmp 5) g5 23 _ _ rfl (h.var n 5 (by kernel_rfl)) ((rt.later h.inv)) Tryd.underlying23 rfl (zc.out)⟩⟩
          · refine .inl ⟨by kernel_rfl, fun L a1 w1 n h => ⟨.pointer (some ⟨g3, 0, none⟩), rfl, ?_⟩⟩
            have e0 : a1.eval (.tmp 3) = _ := h.var n 3 (by kernel_rfl)
            unfold execOp
            simp only [e0]
            go_simp
          · exact .inl ⟨by kernel_rfl, fun L a1 w1 n h => ⟨_, rfl, run_loadA 3 (.tmp 87) ⟨g3, 0, none⟩ rfl Tryd.isAgg3 (h.dep n 11 87 (by kernel_rfl) rfl) ((Row.later r3t h.inv).cell (j := 0) (v := .int .i64 N) rfl)⟩⟩
          · refine .inl ⟨by kernel_rfl, fun L a1 w1 n h => ⟨.pointer (some ⟨g3, 1, none⟩), rfl, ?_⟩⟩
            have e0 : a1.eval (.tmp 3) = _ := h.var n 3 (by kernel_rfl)
            unfold execOp
            simp only [e0]
            go_simp
          · exact .inl ⟨by kernel_rfl, fun L a1 w1 n h => ⟨_, rfl, run_loadA 3 (.tmp 89) ⟨g3, 1, none⟩ rfl Tryd.isAgg3 (h.dep n 13 89 (by kernel_rfl) rfl) ((Row.later r3t h.inv).cell (j := 1) (v := .int .i64 I) rfl)⟩⟩
          · refine .inl ⟨by kernel_rfl, fun L a1 w1 n h => ⟨.pointer (some ⟨g3, 2, none⟩), rfl, ?_⟩⟩
            have e0 : a1.eval (.tmp 3) = _ := h.var n 3 (by kernel_rfl)
            unfold execOp
            simp only [e0]
            go_simp
          · exact .inl ⟨by kernel_rfl, fun L a1 w1 n h => ⟨_, rfl, run_loadA 22 (.tmp 91) ⟨g3, 2, none⟩ rfl Tryd.isAgg22 (h.dep n 15 91 (by kernel_rfl) rfl) ((Row.later r3t h.inv).cell (j := 2) (v := .slice A m c) rfl)⟩⟩
          · refine .inl ⟨by kernel_rfl, fun L a1 w1 n h => ⟨.pointer (some ⟨g3, 3, none⟩), rfl, ?_⟩⟩
            have e0 : a1.eval (.tmp 3) = _ := h.var n 3 (by kernel_rfl)
            unfold execOp
            simp only [e0]
            go_simp
          · exact .inl ⟨by kernel_rfl, fun L a1 w1 n h => ⟨_, rfl, run_loadA 31 (.tmp 93) ⟨g3, 3, none⟩ rfl Tryd.isAgg31 (h.dep n 17 93 (by kernel_rfl) rfl) ((Row.later r3t h.inv).cell (j := 3) (v := .slice PA np pc) rfl)⟩⟩
          · refine .inr fun L a1 w1 n h K hK => ?_
            have e0 : a1.eval (.tmp 86) = .agg (bv x0).toArray := h.dep n 10 86 (by kernel_rfl) rfl
            have e1 : a1.eval (.tmp 88) = .int .i64 N := h.dep n 12 88 (by kernel_rfl) rfl
            have e2 : a1.eval (.tmp 90) = .int .i64 I := h.dep n 14 90 (by kernel_rfl) rfl
            have e3 : a1.eval (.tmp 92) = .slice A m c := h.dep n 16 92 (by kernel_rfl) rfl
            have e4 : a1.eval (.tmp 94) = .slice PA np pc := h.dep n 18 94 (by kernel_rfl) rfl
            refine st_call 22 _ _ #[.agg (bv x0).toArray, .int .i64 N, .int .i64 I, .slice A m c, .slice PA np pc] rfl Tryd.call22 ?_ (H2 w1 h.inv) ?_
            · simp only [List.map_toArray, List.map_cons, List.map_nil, e0, e1, e2, e3, e4]
            · rintro e w3 ⟨rfl, b9⟩
              exact ⟨_, rfl, hK _ w3 rfl (h.inv.trans (b9.mono h.inv.size))⟩
          · exact .inl ⟨by kernel_rfl, fun L a1 w1 n h => ⟨_, rfl, run_eqlB (.tmp 85) (.tmp 95) _ _ rfl (h.dep n 9 85 (by kernel_rfl) rfl) (h.dep n 19 95 (by kernel_rfl) rfl) (fun w => (eqBoolT _ _ w).trans (by rw [hbc]))⟩⟩
          · exact .inl ⟨by kernel_rfl, fun L a1 w1 n h => ⟨_, rfl, run_assign (.tmp 96) rfl (h.dep n 20 96 (by kernel_rfl) rfl)⟩⟩
        case heA3 =>
          intro V w9 hV hJ
          have b9 : Below (w6).heap.size w6 w9 := hJ
          have hv : V 21 = .bool true := hV 21 8 rfl
          clear hV hJ
          simp only [putOps, List.setIfInBounds_toArray, List.set_cons_succ, List.set_cons_zero, Nat.reduceAdd]
          rw [hv]
          refine hK1 _ _ ?_
          replace H3 := fun w1 (b : Below w9.heap.size w9 w1) => H3 w1 (b9.trans (b.mono b9.size))
          replace H4 := fun w1 (b : Below w9.heap.size w9 w1) => H4 w1 (b9.trans (b.mono b9.size))
          replace H5 := fun w1 (b : Below w9.heap.size w9 w1) => H5 w1 (b9.trans (b.mono b9.size))
          replace r2t := r2t.later b9
          replace r3t := r3t.later b9
          have B9 := hide (BT.out.trans (b9.mono BT.out.size))
          clear H1 H2 rt BT b9 hv
          go_wp2_with fail
          rename_i K2 hK2
          refine wp_region_valsG [11, 21, 25] (SCi r g2 g3 m c np pc A PA N I br) (JR w9) (by kernel_rfl) (by kernel_rfl) (by kernel_rfl) (by kernel_rfl) (Below.refl _ _).drew ?obsB3 ?heB3
          case obsB3 =>
            refine ⟨?_, ?_, ?_, ?_, ?_, ?_, ?_, ?_, ?_, ?_, ?_, ?_, ?_, ?_, ?_, ?_, ?_, ?_, ?_, ?_, ?_, ?_, ?_, ?_, ?_, ?_, ?_, ?_, trivial⟩
            · refine ⟨.inl rfl, ?_⟩
              exact .inl ⟨by kernel_rfl, fun L a1 w1 n h => ⟨_, rfl, run_move (.tmp 8) rfl (h.var n 8 (by kernel_rfl))⟩⟩
            · refine ⟨.inl rfl, ?_⟩
              exact .inl ⟨by kernel_rfl, fun L a1 w1 n h => ⟨_, rfl, run_move (.tmp 97) rfl (h.dep n 0 97 (by kernel_rfl) rfl)⟩⟩
            · refine ⟨.inr ⟨1, true, 98, rfl, by kernel_rfl, rfl, by simp, fun v h => h⟩, ?_⟩
              exact .inl ⟨by kernel_rfl, fun L a1 w1 n h => ⟨_, rfl, run_loadRow 23 (.tmp 2) g2 23 _ _ rfl (h.var n 2 (by kernel_rfl)) ((r2t.later h.inv)) Tryd.underlying23 rfl (zr.out)⟩⟩
            · refine ⟨.inr ⟨1, true, 98, rfl, by kernel_rfl, rfl, by simp, fun v h => h⟩, ?_⟩
              refine .inl ⟨by kernel_rfl, fun L a1 w1 n h => ⟨.pointer (some ⟨g3, 0, none⟩), rfl, ?_⟩⟩
              have e0 : a1.eval (.tmp 3) = _ := h.var n 3 (by kernel_rfl)
              unfold execOp
              simp only [e0]
              go_simp
            · refine ⟨.inr ⟨1, true, 98, rfl, by kernel_rfl, rfl, by simp, fun v h => h⟩, ?_⟩
              exact .inl ⟨by kernel_rfl, fun L a1 w1 n h => ⟨_, rfl, run_loadA 3 (.tmp 100) ⟨g3, 0, none⟩ rfl Tryd.isAgg3 (h.dep n 3 100 (by kernel_rfl) rfl) ((Row.later r3t h.inv).cell (j := 0) (v := .int .i64 N) rfl)⟩⟩
            · refine ⟨.inr ⟨1, true, 98, rfl, by kernel_rfl, rfl, by simp, fun v h => h⟩, ?_⟩
              refine .inl ⟨by kernel_rfl, fun L a1 w1 n h => ⟨.pointer (some ⟨g3, 1, none⟩), rfl, ?_⟩⟩
              have e0 : a1.eval (.tmp 3) = _ := h.var n 3 (by kernel_rfl)
              unfold execOp
              simp only [e0]
              go_simp
            · refine ⟨.inr ⟨1, true, 98, rfl, by kernel_rfl, rfl, by simp, fun v h => h⟩, ?_⟩
              exact .inl ⟨by kernel_rfl, fun L a1 w1 n h => ⟨_, rfl, run_loadA 3 (.tmp 102) ⟨g3, 1, none⟩ rfl Tryd.isAgg3 (h.dep n 5 102 (by kernel_rfl) rfl) ((Row.later r3t h.inv).cell (j := 1) (v := .int .i64 I) rfl)⟩⟩
            · refine ⟨.inr ⟨1, true, 98, rfl, by kernel_rfl, rfl, by simp, fun v h => h⟩, ?_⟩
              refine .inl ⟨by kernel_rfl, fun L a1 w1 n h => ⟨.pointer (some ⟨g3, 2, none⟩), rfl, ?_⟩⟩
              have e0 : a1.eval (.tmp 3) = _ := h.var n 3 (by kernel_rfl)
              unfold execOp
              simp only [e0]
              go_simp
            · refine ⟨.inr ⟨1, true, 98, rfl, by kernel_rfl, rfl, by simp, fun v h => h⟩, ?_⟩
              exact .inl ⟨by kernel_rfl, fun L a1 w1 n h => ⟨_, rfl, run_loadA 22 (.tmp 104) ⟨g3, 2, none⟩ rfl Tryd.isAgg22 (h.dep n 7 104 (by kernel_rfl) rfl) ((Row.later r3t h.inv).cell (j := 2) (v := .slice A m c) rfl)⟩⟩
            · refine ⟨.inr ⟨1, true, 98, rfl, by kernel_rfl, rfl, by simp, fun v h => h⟩, ?_⟩
              refine .inl ⟨by kernel_rfl, fun L a1 w1 n h => ⟨.pointer (some ⟨g3, 3, none⟩), rfl, ?_⟩⟩
              have e0 : a1.eval (.tmp 3) = _ := h.var n 3 (by kernel_rfl)
              unfold execOp
              simp only [e0]
              go_simp
            · refine ⟨.inr ⟨1, true, 98, rfl, by kernel_rfl, rfl, by simp, fun v h => h⟩, ?_⟩
              exact .inl ⟨by kernel_rfl, fun L a1 w1 n h => ⟨_, rfl, run_loadA 31 (.tmp 106) ⟨g3, 3, none⟩ rfl Tryd.isAgg31 (h.dep n 9 106 (by kernel_rfl) rfl) ((Row.later r3t h.inv).cell (j := 3) (v := .slice PA np pc) rfl)⟩⟩
            · refine ⟨.inr ⟨1, true, 98, rfl, by kernel_rfl, rfl, by simp, fun v h => h⟩, ?_⟩
              refine .inr fun L a1 w1 n h K hK => ?_
              have e0 : a1.eval (.tmp 99) = .agg (bv r).toArray := h.dep n 2 99 (by kernel_rfl) rfl
              have e1 : a1.eval (.tmp 101) = .int .i64 N := h.dep n 4 101 (by kernel_rfl) rfl
              have e2 : a1.eval (.tmp 103) = .int .i64 I := h.dep n 6 103 (by kernel_rfl) rfl
              have e3 : a1.eval (.tmp 105) = .slice A m c := h.dep n 8 105 (by kernel_rfl) rfl
              have e4 : a1.eval (.tmp 107) = .slice PA np pc := h.dep n 10 107 (by kernel_rfl) rfl
              refine st_call 21 _ _ #[.agg (bv r).toArray, .int .i64 N, .int .i64 I, .slice A m c, .slice PA np pc] rfl Tryd.call21 ?_ (H3 w1 h.inv) ?_
              · simp only [List.map_toArray, List.map_cons, List.map_nil, e0, e1, e2, e3, e4]
              · rintro e w3 ⟨rfl, b9⟩
                exact ⟨_, rfl, hK _ w3 rfl (h.inv.trans (b9.mono h.inv.size))⟩
            · refine ⟨.inr ⟨1, true, 98, rfl, by kernel_rfl, rfl, by simp, fun v h => h⟩, ?_⟩
              exact .inl ⟨by kernel_rfl, fun L a1 w1 n h => ⟨_, rfl, run_loadRow 23 (.tmp 2) g2 23 _ _ rfl (h.var n 2 (by kernel_rfl)) ((r2t.later h.inv)) Tryd.underlying23 rfl (zr.out)⟩⟩
            · refine ⟨.inr ⟨1, true, 98, rfl, by kernel_rfl, rfl, by simp, fun v h => h⟩, ?_⟩
              refine .inl ⟨by kernel_rfl, fun L a1 w1 n h => ⟨.pointer (some ⟨g3, 0, none⟩), rfl, ?_⟩⟩
              have e0 : a1.eval (.tmp 3) = _ := h.var n 3 (by kernel_rfl)
              unfold execOp
              simp only [e0]
              go_simp
            · refine ⟨.inr ⟨1, true, 98, rfl, by kernel_rfl, rfl, by simp, fun v h => h⟩, ?_⟩
              exact .inl ⟨by kernel_rfl, fun L a1 w1 n h => ⟨_, rfl, run_loadA 3 (.tmp 110) ⟨g3, 0, none⟩ rfl Tryd.isAgg3 (h.dep n 13 110 (by kernel_rfl) rfl) ((Row.later r3t h.inv).cell (j := 0) (v := .int .i64 N) rfl)⟩⟩
            · refine ⟨.inr ⟨1, true, 98, rfl, by kernel_rfl, rfl, by simp, fun v h => h⟩, ?_⟩
              refine .inl ⟨by kernel_rfl, fun L a1 w1 n h => ⟨.pointer (some ⟨g3, 1, none⟩), rfl, ?_⟩⟩
              have e0 : a1.eval (.tmp 3) = _ := h.var n 3 (by kernel_rfl)
              unfold execOp
              simp only [e0]
              go_simp
            · refine ⟨.inr ⟨1, true, 98, rfl, by kernel_rfl, rfl, by simp, fun v h => h⟩, ?_⟩
              exact .inl ⟨by kernel_rfl, fun L a1 w1 n h => ⟨_, rfl, run_loadA 3 (.tmp 112) ⟨g3, 1, none⟩ rfl Tryd.isAgg3 (h.dep n 15 112 (by kernel_rfl) rfl) ((Row.later r3t h.inv).cell (j := 1) (v := .int .i64 I) rfl)⟩⟩
            · refine ⟨.inr ⟨1, true, 98, rfl, by kernel_rfl, rfl, by simp, fun v h => h⟩, ?_⟩
              refine .inl ⟨by kernel_rfl, fun L a1 w1 n h => ⟨.pointer (some ⟨g3, 2, none⟩), rfl, ?_⟩⟩
              have e0 : a1.eval (.tmp 3) = _ := h.var n 3 (by kernel_rfl)
              unfold execOp
              simp only [e0]
              go_simp
            · refine ⟨.inr ⟨1, true, 98, rfl, by kernel_rfl, rfl, by simp, fun v h => h⟩, ?_⟩
              exact .inl ⟨by kernel_rfl, fun L a1 w1 n h => ⟨_, rfl, run_loadA 22 (.tmp 114) ⟨g3, 2, none⟩ rfl Tryd.isAgg22 (h.dep n 17 114 (by kernel_rfl) rfl) ((Row.later r3t h.inv).cell (j := 2) (v := .slice A m c) rfl)⟩⟩
            · refine ⟨.inr ⟨1, true, 98, rfl, by kernel_rfl, rfl, by simp, fun v h => h⟩, ?_⟩
              refine .inl ⟨by kernel_rfl, fun L a1 w1 n h => ⟨.pointer (some ⟨g3, 3, none⟩), rfl, ?_⟩⟩
              have e0 : a1.eval (.tmp 3) = _ := h.var n 3 (by kernel_rfl)
              unfold execOp
              simp only [e0]
              go_simp
            · refine ⟨.inr ⟨1, true, 98, rfl, by kernel_rfl, rfl, by simp, fun v h => h⟩, ?_⟩
              exact .inl ⟨by kernel_rfl, fun L a1 w1 n h => ⟨_, rfl, run_loadA 31 (.tmp 116) ⟨g3, 3, none⟩ rfl Tryd.isAgg31 (h.dep n 19 116 (by kernel_rfl) rfl) ((Row.later r3t h.inv).cell (j := 3) (v := .slice PA np pc) rfl)⟩⟩
            · refine ⟨.inr ⟨1, true, 98, rfl, by kernel_rfl, rfl, by simp, fun v h => h⟩, ?_⟩
              refine .inr fun L a1 w1 n h K hK => ?_
              have e0 : a1.eval (.tmp 109) = .agg (bv r).toArray := h.dep n 12 109 (by kernel_rfl) rfl
              have e1 : a1.eval (.tmp 111) = .int .i64 N := h.dep n 14 111 (by kernel_rfl) rfl
              have e2 : a1.eval (.tmp 113) = .int .i64 I := h.dep n 16 113 (by kernel_rfl) rfl
              have e3 : a1.eval (.tmp 115) = .slice A m c := h.dep n 18 115 (by kernel_rfl) rfl
              have e4 : a1.eval (.tmp 117) = .slice PA np pc := h.dep n 20 117 (by kernel_rfl) rfl
              refine st_call 22 _ _ #[.agg (bv r).toArray, .int .i64 N, .int .i64 I, .slice A m c, .slice PA np pc] rfl Tryd.call22 ?_ (H4 w1 h.inv) ?_
              · simp only [List.map_toArray, List.map_cons, List.map_nil, e0, e1, e2, e3, e4]
              · rintro e w3 ⟨rfl, b9⟩
                exact ⟨_, rfl, hK _ w3 rfl (h.inv.trans (b9.mono h.inv.size))⟩
            · refine ⟨.inr ⟨1, true, 98, rfl, by kernel_rfl, rfl, by simp, fun v h => h⟩, ?_⟩
              exact .inl ⟨by kernel_rfl, fun L a1 w1 n h => ⟨_, rfl, run_eqlB (.tmp 108) (.tmp 118) _ _ rfl (h.dep n 11 108 (by kernel_rfl) rfl) (h.dep n 21 118 (by kernel_rfl) rfl) (fun w => (eqBoolT _ _ w).trans (by rw [hbr]))⟩⟩
            · refine ⟨.inl rfl, ?_⟩
              exact .inl ⟨by kernel_rfl, fun L a1 w1 n h => ⟨_, rfl, run_pickT (.tmp 98) _ _ rfl (h.dep n 1 98 (by kernel_rfl) rfl) (h.dep n 22 119 (by kernel_rfl) rfl)⟩⟩
            · refine ⟨.inl rfl, ?_⟩
              exact .inl ⟨by kernel_rfl, fun L a1 w1 n h => ⟨_, rfl, run_move (.tmp 120) rfl (h.dep n 23 120 (by kernel_rfl) rfl)⟩⟩
            · refine ⟨.inr ⟨24, true, 121, rfl, by kernel_rfl, rfl, by simp, fun v h => h⟩, ?_⟩
              refine .inr fun L a1 w1 n h K hK => ?_
              refine st_call 10 _ _ #[] rfl Tryd.call10 ?_ (H5 w1 h.inv) ?_
              · simp
              · rintro e w3 ⟨rfl, b9⟩
                exact ⟨_, rfl, hK _ w3 rfl (h.inv.trans (b9.mono h.inv.size))⟩
            · refine ⟨.inl rfl, ?_⟩
              exact .inl ⟨by kernel_rfl, fun L a1 w1 n h => ⟨_, rfl, run_pickT (.tmp 121) _ _ rfl (h.dep n 24 121 (by kernel_rfl) rfl) (h.dep n 25 122 (by kernel_rfl) rfl)⟩⟩
            · refine ⟨.inl rfl, ?_⟩
              exact .inl ⟨by kernel_rfl, fun L a1 w1 n h => ⟨_, rfl, run_assign (.tmp 123) rfl (h.dep n 26 123 (by kernel_rfl) rfl)⟩⟩
          case heB3 =>
            intro V2 w10 hV hJ
            have b10 : Below w9.heap.size w9 w10 := hJ
            have hv : V2 27 = .bool true := hV 27 4 rfl
            clear hV hJ
            simp only [putOps, List.setIfInBounds_toArray, List.set_cons_succ, List.set_cons_zero, Nat.reduceAdd]
            rw [hv]
            refine hK2 _ _ ?_
            go_wp2_with fail
            go_ret
            exact ⟨rfl, B9.out.trans (b10.mono B9.out.size)⟩
    · have hdN : decide (I < N) = false := by simp; omega
      clear HSM HSD
      go_wp2_with (first
        | ((with_reducible refine wl_alloc (o := ⟨some 5, _, _, _, _, _⟩) rfl 23 _ (bv (List.replicate 32 0)) rfl zero32b rfl ?_); intro g5 w5 r5 p5 l5 b5; have n2 : g2 ≠ g5 := (by have := r2c.lt; omega); have n3 : g3 ≠ g5 := (by have := r3c.lt; omega))
        | ((with_reducible refine wl_store_row rfl 23 (.tmp 5) (.tmp 22) g5 23 _ (bv x0) rfl rfl rfl r5 zx.out lx.out (bv_one _) ?_); intro w6 rt o6; have r3d := (r3c.later b5).only o6 n3; have d0 := r3d.cell (j := 0) rfl; have d1 := r3d.cell (j := 1) rfl; have d3 := r3d.cell (j := 3) rfl))
      have p5w : w.heap.size ≤ g5 := by have := B4.size; omega
      have B6 : Below w.heap.size w w6 := (B4.trans (b5.mono B4.size)).trans (o6.below p5w)
      have r2d := (r2c.later b5).only o6 n2
      clear r2c r3c r5 b5 o6 zx lx
      have hcur := hx0
      obtain ⟨bc, HBc⟩ := HB x0 hcur
      obtain ⟨br, HBr⟩ := HB r hr
      have zc := hide (size32b hcur)
      have zr := hide (size32b hr)
      have hbc : (bc == bc) = true := by simp
      have hbr : (br == br) = true := by simp
      have BT := hide (B6)
      have H1 := fun w1 (b : Below (w6).heap.size w6 w1) => (HBc w1 (BT.out.trans (b.mono BT.out.size))).1
      have H2 := fun w1 (b : Below (w6).heap.size w6 w1) => (HBc w1 (BT.out.trans (b.mono BT.out.size))).2
      have H3 := fun w1 (b : Below (w6).heap.size w6 w1) => (HBr w1 (BT.out.trans (b.mono BT.out.size))).1
      have H4 := fun w1 (b : Below (w6).heap.size w6 w1) => (HBr w1 (BT.out.trans (b.mono BT.out.size))).2
      have H5 := fun w1 (b : Below (w6).heap.size w6 w1) => tawake_any w1 (hT.later (BT.out.trans (b.mono BT.out.size)))
      have rt := rt
      have r2t := r2d
      have r3t := r3d
      clear HBc HBr HB hcur hr hT 
      go_wp2_with fail
      rename_i K1 hK1
      refine wp_region_vals [9, 19] (SCh x0 g3 g5 m c np pc A PA N I bc) (JR w6) (by kernel_rfl) (by kernel_rfl) (by kernel_rfl) (by kernel_rfl) (by kernel_rfl) (Below.refl _ _).drew ?obsA4 ?heA4
      case obsA4 =>
        refine ⟨?_, ?_, ?_, ?_, ?_, ?_, ?_, ?_, ?_, ?_, ?_, ?_, ?_, ?_, ?_, ?_, ?_, ?_, ?_, ?_, ?_, ?_, trivial⟩
        · exact .inl ⟨by kernel_rfl, fun L a1 w1 n h => ⟨_, rfl, run_loadRow 23 (.tmp 5) g5 23 _ _ rfl (h.var n 5 (by kernel_rfl)) ((rt.later h.inv)) Tryd.underlying23 rfl (zc.out)⟩⟩
        · refine .inl ⟨by kernel_rfl, fun L a1 w1 n h => ⟨.pointer (some ⟨g3, 0, none⟩), rfl, ?_⟩⟩
          have e0 : a1.eval (.tmp 3) = _ := h.var n 3 (by kernel_rfl)
          unfold execOp
          simp only [e0]
          go_simp
        · exact .inl ⟨by kernel_rfl, fun L a1 w1 n h => ⟨_, rfl, run_loadA 3 (.tmp 77) ⟨g3, 0, none⟩ rfl Tryd.isAgg3 (h.dep n 1 77 (by kernel_rfl) rfl) ((Row.later r3t h.inv).cell (j := 0) (v := .int .i64 N) rfl)⟩⟩
        · refine .inl ⟨by kernel_rfl, fun L a1 w1 n h => ⟨.pointer (some ⟨g3, 1, none⟩), rfl, ?_⟩⟩
          have e0 : a1.eval (.tmp 3) = _ := h.var n 3 (by kernel_rfl)
          unfold execOp
          simp only [e0]
          go_simp
        · exact .inl ⟨by kernel_rfl, fun L a1 w1 n h => ⟨_, rfl, run_loadA 3 (.tmp 79) ⟨g3, 1, none⟩ rfl Tryd.isAgg3 (h.dep n 3 79 (by kernel_rfl) rfl) ((Row.later r3t h.inv).cell (j := 1) (v := .int .i64 I) rfl)⟩⟩
        · refine .inl ⟨by kernel_rfl, fun L a1 w1 n h => ⟨.pointer (some ⟨g3, 2, none⟩), rfl, ?_⟩⟩
          have e0 : a1.eval (.tmp 3) = _ := h.var n 3 (by kernel_rfl)
          unfold execOp
          simp only [e0]
          go_simp
        · exact .inl ⟨by kernel_rfl, fun L a1 w1 n h => ⟨_, rfl, run_loadA 22 (.tmp 81) ⟨g3, 2, none⟩ rfl Tryd.isAgg22 (h.dep n 5 81 (by kernel_rfl) rfl) ((Row.later r3t h.inv).cell (j := 2) (v := .slice A m c) rfl)⟩⟩
        · refine .inl ⟨by kernel_rfl, fun L a1 w1 n h => ⟨.pointer (some ⟨g3, 3, none⟩), rfl, ?_⟩⟩
          have e0 : a1.eval (.tmp 3) = _ := h.var n 3 (by kernel_rfl)
          unfold execOp
          simp only [e0]
          go_simp
        · exact .inl ⟨by kernel_rfl, fun L a1 w1 n h => ⟨_, rfl, run_loadA 31 (.tmp 83) ⟨g3, 3, none⟩ rfl Tryd.isAgg31 (h.dep n 7 83 (by kernel_rfl) rfl) ((Row.later r3t h.inv).cell (j := 3) (v := .slice PA np pc) rfl)⟩⟩
        · refine .inr fun L a1 w1 n h K hK => ?_
          have e0 : a1.eval (.tmp 76) = .agg (bv x0).toArray := h.dep n 0 76 (by kernel_rfl) rfl
          have e1 : a1.eval (.tmp 78) = .int .i64 N := h.dep n 2 78 (by kernel_rfl) rfl
          have e2 : a1.eval (.tmp 80) = .int .i64 I := h.dep n 4 80 (by kernel_rfl) rfl
          have e3 : a1.eval (.tmp 82) = .slice A m c := h.dep n 6 82 (by kernel_rfl) rfl
          have e4 : a1.eval (.tmp 84) = .slice PA np pc := h.dep n 8 84 (by kernel_rfl) rfl
          refine st_call 21 _ _ #[.agg (bv x0).toArray, .int .i64 N, .int .i64 I, .slice A m c, .slice PA np pc] rfl Tryd.call21 ?_ (H1 w1 h.inv) ?_
          · simp only [List.map_toArray, List.map_cons, List.map_nil, e0, e1, e2, e3, e4]
          · rintro e w3 ⟨rfl, b9⟩
            exact ⟨_, rfl, hK _ w3 rfl (h.inv.trans (b9.mono h.inv.size))⟩
        · exact .inl ⟨by kernel_rfl, fun L a1 w1 n h => ⟨_, rfl, run_loadRow 23 (.tmp 5) g5 23 _ _ rfl (h.var n 5 (by kernel_rfl)) ((rt.later h.inv)) Tryd.underlying23 rfl (zc.out)⟩⟩
        · refine .inl ⟨by kernel_rfl, fun L a1 w1 n h => ⟨.pointer (some ⟨g3, 0, none⟩), rfl, ?_⟩⟩
          have e0 : a1.eval (.tmp 3) = _ := h.var n 3 (by kernel_rfl)
          unfold execOp
          simp only [e0]
          go_simp
        · exact .inl ⟨by kernel_rfl, fun L a1 w1 n h => ⟨_, rfl, run_loadA 3 (.tmp 87) ⟨g3, 0, none⟩ rfl Tryd.isAgg3 (h.dep n 11 87 (by kernel_rfl) rfl) ((Row.later r3t h.inv).cell (j := 0) (v := .int .i64 N) rfl)⟩⟩
        · refine .inl ⟨by kernel_rfl, fun L a1 w1 n h => ⟨.pointer (some ⟨g3, 1, none⟩), rfl, ?_⟩⟩
          have e0 : a1.eval (.tmp 3) = _ := h.var n 3 (by kernel_rfl)
          unfold execOp
          simp only [e0]
          go_simp
        · exact .inl ⟨by kernel_rfl, fun L a1 w1 n h => ⟨_, rfl, run_loadA 3 (.tmp 89) ⟨g3, 1, none⟩ rfl Tryd.isAgg3 (h.dep n 13 89 (by kernel_rfl) rfl) ((Row.later r3t h.inv).cell (j := 1) (v := .int .i64 I) rfl)⟩⟩
        · refine .inl ⟨by kernel_rfl, fun L a1 w1 n h => ⟨.pointer (some ⟨g3, 2, none⟩), rfl, ?_⟩⟩
          have e0 : a1.eval (.tmp 3) = _ := h.var n 3 (by kernel_rfl)
          unfold execOp
          simp only [e0]
          go_simp
        · exact .inl ⟨by kernel_rfl, fun L a1 w1 n h => ⟨_, rfl, run_loadA 22 (.tmp 91) ⟨g3, 2, none⟩ rfl Tryd.isAgg22 (h.dep n 15 91 (by kernel_rfl) rfl) ((Row.later r3t h.inv).cell (j := 2) (v := .slice A m c) rfl)⟩⟩
        · refine .inl ⟨by kernel_rfl, fun L a1 w1 n h => ⟨.pointer (some ⟨g3, 3, none⟩), rfl, ?_⟩⟩
          have e0 : a1.eval (.tmp 3) = _ := h.var n 3 (by kernel_rfl)
          unfold execOp
          simp only [e0]
          go_simp
        · exact .inl ⟨by kernel_rfl, fun L a1 w1 n h => ⟨_, rfl, run_loadA 31 (.tmp 93) ⟨g3, 3, none⟩ rfl Tryd.isAgg31 (h.dep n 17 93 (by kernel_rfl) rfl) ((Row.later r3t h.inv).cell (j := 3) (v := .slice PA np pc) rfl)⟩⟩
        · refine .inr fun L a1 w1 n h K hK => ?_
          have e0 : a1.eval (.tmp 86) = .agg (bv x0).toArray := h.dep n 10 86 (by kernel_rfl) rfl
          have e1 : a1.eval (.tmp 88) = .int .i64 N := h.dep n 12 88 (by kernel_rfl) rfl
          have e2 : a1.eval (.tmp 90) = .int .i64 I := h.dep n 14 90 (by kernel_rfl) rfl
          have e3 : a1.eval (.tmp 92) = .slice A m c := h.dep n 16 92 (by kernel_rfl) rfl
          have e4 : a1.eval (.tmp 94) = .slice PA np pc := h.dep n 18 94 (by kernel_rfl) rfl
          refine st_call 22 _ _ #[.agg (bv x0).toArray, .int .i64 N, .int .i64 I, .slice A m c, .slice PA np pc] rfl Tryd.call22 ?_ (H2 w1 h.inv) ?_
          · simp only [List.map_toArray, List.map_cons, List.map_nil, e0, e1, e2, e3, e4]
          · rintro e w3 ⟨rfl, b9⟩
            exact ⟨_, rfl, hK _ w3 rfl (h.inv.trans (b9.mono h.inv.size))⟩
        · exact .inl ⟨by kernel_rfl, fun L a1 w1 n h => ⟨_, rfl, run_eqlB (.tmp 85) (.tmp 95) _ _ rfl (h.dep n 9 85 (by kernel_rfl) rfl) (h.dep n 19 95 (by kernel_rfl) rfl) (fun w => (eqBoolT _ _ w).trans (by rw [hbc]))⟩⟩
        · exact .inl ⟨by kernel_rfl, fun L a1 w1 n h => ⟨_, rfl, run_assign (.tmp 96) rfl (h.dep n 20 96 (by kernel_rfl) rfl)⟩⟩
      case heA4 =>
        intro V w9 hV hJ
        have b9 : Below (w6).heap.size w6 w9 := hJ
        have hv : V 21 = .bool true := hV 21 8 rfl
        clear hV hJ
        simp only [putOps, List.setIfInBounds_toArray, List.set_cons_succ, List.set_cons_zero, Nat.reduceAdd]
        rw [hv]
        refine hK1 _ _ ?_
        replace H3 := fun w1 (b : Below w9.heap.size w9 w1) => H3 w1 (b9.trans (b.mono b9.size))
        replace H4 := fun w1 (b : Below w9.heap.size w9 w1) => H4 w1 (b9.trans (b.mono b9.size))
        replace H5 := fun w1 (b : Below w9.heap.size w9 w1) => H5 w1 (b9.trans (b.mono b9.size))
        replace r2t := r2t.later b9
        replace r3t := r3t.later b9
        have B9 := hide (BT.out.trans (b9.mono BT.out.size))
        clear H1 H2 rt BT b9 hv
        go_wp2_with fail
        rename_i K2 hK2
        refine wp_region_valsG [11, 21, 25] (SCi r g2 g3 m c np pc A PA N I br) (JR w9) (by kernel_rfl) (by kernel_rfl) (by kernel_rfl) (by kernel_rfl) (Below.refl _ _).drew ?obsB4 ?heB4
        case obsB4 =>
          refine ⟨?_, ?_, ?_, ?_, ?_, ?_, ?_, ?_, ?_, ?_, ?_, ?_, ?_, ?_, ?_, ?_, ?_, ?_, ?_, ?_, ?_, ?_, ?_, ?_, ?_, ?_, ?_, ?_, trivial⟩
          · refine ⟨.inl rfl, ?_⟩
            exact .inl ⟨by kernel_rfl, fun L a1 w1 n h => ⟨_, rfl, run_move (.tmp 8) rfl (h.var n 8 (by kernel_rfl))⟩⟩
          · refine ⟨.inl rfl, ?_⟩
            exact .inl ⟨by kernel_rfl, fun L a1 w1 n h => ⟨_, rfl, run_move (.tmp 97) rfl (h.dep n 0 97 (by kernel_rfl) rfl)⟩⟩
          · refine ⟨.inr ⟨1, true, 98, rfl, by kernel_rfl, rfl, by simp, fun v h => h⟩, ?_⟩
            exact .inl ⟨by kernel_rfl, fun L a1 w1 n h => ⟨_, rfl, run_loadRow 23 (.tmp 2) g2 23 _ _ rfl (h.var n 2 (by kernel_rfl)) ((r2t.later h.inv)) Tryd.underlying23 rfl (zr.out)⟩⟩
          · refine ⟨.inr ⟨1, true, 98, rfl, by kernel_rfl, rfl, by simp, fun v h => h⟩, ?_⟩
            refine .inl ⟨by kernel_rfl, fun L a1 w1 n h => ⟨.pointer (some ⟨g3, 0, none⟩), rfl, ?_⟩⟩
            have e0 : a1.eval (.tmp 3) = _ := h.var n 3 (by kernel_rfl)
            unfold execOp
            simp only [e0]
            go_simp
          · refine ⟨.inr ⟨1, true, 98, rfl, by kernel_rfl, rfl, by simp, fun v h => h⟩, ?_⟩
            exact .inl ⟨by kernel_rfl, fun L a1 w1 n h => ⟨_, rfl, run_loadA 3 (.tmp 100) ⟨g3, 0, none⟩ rfl Tryd.isAgg3 (h.dep n 3 100 (by kernel_rfl) rfl) ((Row.later r3t h.inv).cell (j := 0) (v := .int .i64 N) rfl)⟩⟩
          · refine ⟨.inr ⟨1, true, 98, rfl, by kernel_rfl, rfl, by simp, fun v h => h⟩, ?_⟩
            refine .inl ⟨by kernel_rfl, fun L a1 w1 n h => ⟨.pointer (some ⟨g3, 1, none⟩), rfl, ?_⟩⟩
            have e0 : a1.eval (.tmp 3) = _ := h.var n 3 (by kernel_rfl)
            unfold execOp
            simp only [e0]
            go_simp
          · refine ⟨.inr ⟨1, true, 98, rfl, by kernel_rfl, rfl, by simp, fun v h => h⟩, ?_⟩
            exact .inl ⟨by kernel_rfl, fun L a1 w1 n h => ⟨_, rfl, run_loadA 3 (.tmp 102) ⟨g3, 1, none⟩ rfl Tryd.isAgg3 (h.dep n 5 102 (by kernel_rfl) rfl) ((Row.later r3t h.inv).cell (j := 1) (v := .int .i64 I) rfl)⟩⟩
          · refine ⟨.inr ⟨1, true, 98, rfl, by kernel_rfl, rfl, by simp, fun v h => h⟩, ?_⟩
            refine .inl ⟨by kernel_rfl, fun L a1 w1 n h => ⟨.pointer (some ⟨g3, 2, none⟩), rfl, ?_⟩⟩
            have e0 : a1.eval (.tmp 3) = _ := h.var n 3 (by kernel_rfl)
            unfold execOp
            simp only [e0]
            go_simp
          · refine ⟨.inr ⟨1, true, 98, rfl, by kernel_rfl, rfl, by simp, fun v h => h⟩, ?_⟩
            exact .inl ⟨by kernel_rfl, fun L a1 w1 n h => ⟨_, rfl, run_loadA 22 (.tmp 104) ⟨g3, 2, none⟩ rfl Tryd.isAgg22 (h.dep n 7 104 (by kernel_rfl) rfl) ((Row.later r3t h.inv).cell (j := 2) (v := .slice A m c) rfl)⟩⟩
          · refine ⟨.inr ⟨1, true, 98, rfl, by kernel_rfl, rfl, by simp, fun v h => h⟩, ?_⟩
            refine .inl ⟨by kernel_rfl, fun L a1 w1 n h => ⟨.pointer (some ⟨g3, 3, none⟩), rfl, ?_⟩⟩
            have e0 : a1.eval (.tmp 3) = _ := h.var n 3 (by kernel_rfl)
            unfold execOp
            simp only [e0]
            go_simp
          · refine ⟨.inr ⟨1, true, 98, rfl, by kernel_rfl, rfl, by simp, fun v h => h⟩, ?_⟩
            exact .inl ⟨by kernel_rfl, fun L a1 w1 n h => ⟨_, rfl, run_loadA 31 (.tmp 106) ⟨g3, 3, none⟩ rfl Tryd.isAgg31 (h.dep n 9 106 (by kernel_rfl) rfl) ((Row.later r3t h.inv).cell (j := 3) (v := .slice PA np pc) rfl)⟩⟩
          · refine ⟨.inr ⟨1, true, 98, rfl, by kernel_rfl, rfl, by simp, fun v h => h⟩, ?_⟩
            refine .inr fun L a1 w1 n h K hK => ?_
            have e0 : a1.eval (.tmp 99) = .agg (bv r).toArray := h.dep n 2 99 (by kernel_rfl) rfl
            have e1 : a1.eval (.tmp 101) = .int .i64 N := h.dep n 4 101 (by kernel_rfl) rfl
            have e2 : a1.eval (.tmp 103) = .int .i64 I := h.dep n 6 103 (by kernel_rfl) rfl
            have e3 : a1.eval (.tmp 105) = .slice A m c := h.dep n 8 105 (by kernel_rfl) rfl
            have e4 : a1.eval (.tmp 107) = .slice PA np pc := h.dep n 10 107 (by kernel_rfl) rfl
            refine st_call 21 _ _ #[.agg (bv r).toArray, .int .i64 N, .int .i64 I, .slice A m c, .slice PA np pc] rfl Tryd.call21 ?_ (H3 w1 h.inv) ?_
            · simp only [List.map_toArray, List.map_cons, List.map_nil, e0, e1, e2, e3, e4]
            · rintro e w3 ⟨rfl, b9⟩
              exact ⟨_, rfl, hK _ w3 rfl (h.inv.trans (b9.mono h.inv.size))⟩
          · refine ⟨.inr ⟨1, true, 98, rfl, by kernel_rfl, rfl, by simp, fun v h => h⟩, ?_⟩
            exact .inl ⟨by kernel_rfl, fun L a1 w1 n h => ⟨_, rfl, run_loadRow 23 (.tmp 2) g2 23 _ _ rfl (h.var n 2 (by kernel_rfl)) ((r2t.later h.inv)) Tryd.underlying23 rfl (zr.out)⟩⟩
          · refine ⟨.inr ⟨1, true, 98, rfl, by kernel_rfl, rfl, by simp, fun v h => h⟩, ?_⟩
            refine .inl ⟨by kernel_rfl, fun L a1 w1 n h => ⟨.pointer (some ⟨g3, 0, none⟩), rfl, ?_⟩⟩
            have e0 : a1.eval (.tmp 3) = _ := h.var n 3 (by kernel_rfl)
            unfold execOp
            simp only [e0]
            go_simp
          · refine ⟨.inr ⟨1, true, 98, rfl, by kernel_rfl, rfl, by simp, fun v h => h⟩, ?_⟩
            exact .inl ⟨by kernel_rfl, fun L a1 w1 n h => ⟨_, rfl, run_loadA 3 (.tmp 110) ⟨g3, 0, none⟩ rfl Tryd.isAgg3 (h.dep n 13 110 (by kernel_rfl) rfl) ((Row.later r3t h.inv).cell (j := 0) (v := .int .i64 N) rfl)⟩⟩
          · refine ⟨.inr ⟨1, true, 98, rfl, by kernel_rfl, rfl, by simp, fun v h => h⟩, ?_⟩
            refine .inl ⟨by kernel_rfl, fun L a1 w1 n h => ⟨.pointer (some ⟨g3, 1, none⟩), rfl, ?_⟩⟩
            have e0 : a1.eval (.tmp 3) = _ := h.var n 3 (by kernel_rfl)
            unfold execOp
            simp only [e0]
            go_simp
          · refine ⟨.inr ⟨1, true, 98, rfl, by kernel_rfl, rfl, by simp, fun v h => h⟩, ?_⟩
            exact .inl ⟨by kernel_rfl, fun L a1 w1 n h => ⟨_, rfl, run_loadA 3 (.tmp 112) ⟨g3, 1, none⟩ rfl Tryd.isAgg3 (h.dep n 15 112 (by kernel_rfl) rfl) ((Row.later r3t h.inv).cell (j := 1) (v := .int .i64 I) rfl)⟩⟩
          · refine ⟨.inr ⟨1, true, 98, rfl, by kernel_rfl, rfl, by simp, fun v h => h⟩, ?_⟩
            refine .inl ⟨by kernel_rfl, fun L a1 w1 n h => ⟨.pointer (some ⟨g3, 2, none⟩), rfl, ?_⟩⟩
            have e0 : a1.eval (.tmp 3) = _ := h.var n 3 (by kernel_rfl)
            unfold execOp
            simp only [e0]
            go_simp
          · refine ⟨.inr ⟨1, true, 98, rfl, by kernel_rfl, rfl, by simp, fun v h => h⟩, ?_⟩
            exact .inl ⟨by kernel_rfl, fun L a1 w1 n h => ⟨_, rfl, run_loadA 22 (.tmp 114) ⟨g3, 2, none⟩ rfl Tryd.isAgg22 (h.dep n 17 114 (by kernel_rfl) rfl) ((Row.later r3t h.inv).cell (j := 2) (v := .slice A m c) rfl)⟩⟩
          · refine ⟨.inr ⟨1, true, 98, rfl, by kernel_rfl, rfl, by simp, fun v h => h⟩, ?_⟩
            refine .inl ⟨by kernel_rfl, fun L a1 w1 n h => ⟨.pointer (some ⟨g3, 3, none⟩), rfl, ?_⟩⟩
            have e0 : a1.eval (.tmp 3) = _ := h.var n 3 (by kernel_rfl)
            unfold execOp
            simp only [e0]
            go_simp
          · refine ⟨.inr ⟨1, true, 98, rfl, by kernel_rfl, rfl, by simp, fun v h => h⟩, ?_⟩
            exact .inl ⟨by kernel_rfl, fun L a1 w1 n h => ⟨_, rfl, run_loadA 31 (.tmp 116) ⟨g3, 3, none⟩ rfl Tryd.isAgg31 (h.dep n 19 116 (by kernel_rfl) rfl) ((Row.later r3t h.inv).cell (j := 3) (v := .slice PA np pc) rfl)⟩⟩
          · refine ⟨.inr ⟨1, true, 98, rfl, by kernel_rfl, rfl, by simp, fun v h => h⟩, ?_⟩
            refine .inr fun L a1 w1 n h K hK => ?_
            have e0 : a1.eval (.tmp 109) = .agg (bv r).toArray := h.dep n 12 109 (by kernel_rfl) rfl
            have e1 : a1.eval (.tmp 111) = .int .i64 N := h.dep n 14 111 (by kernel_rfl) rfl
            have e2 : a1.eval (.tmp 113) = .int .i64 I := h.dep n 16 113 (by kernel_rfl) rfl
            have e3 : a1.eval (.tmp 115) = .slice A m c := h.dep n 18 115 (by kernel_rfl) rfl
            have e4 : a1.eval (.tmp 117) = .slice PA np pc := h.dep n 20 117 (by kernel_rfl) rfl
            refine st_call 22 _ _ #[.agg (bv r).toArray, .int .i64 N, .int .i64 I, .slice A m c, .slice PA np pc] rfl Tryd.call22 ?_ (H4 w1 h.inv) ?_
            · simp only [List.map_toArray, List.map_cons, List.map_nil, e0, e1, e2, e3, e4]
            · rintro e w3 ⟨rfl, b9⟩
              exact ⟨_, rfl, hK _ w3 rfl (h.inv.trans (b9.mono h.inv.size))⟩
          · refine ⟨.inr ⟨1, true, 98, rfl, by kernel_rfl, rfl, by simp, fun v h => h⟩, ?_⟩
            exact .inl ⟨by kernel_rfl, fun L a1 w1 n h => ⟨_, rfl, run_eqlB (.tmp 108) (.tmp 118) _ _ rfl (h.dep n 11 108 (by kernel_rfl) rfl) (h.dep n 21 118 (by kernel_rfl) rfl) (fun w => (eqBoolT _ _ w).trans (by rw [hbr]))⟩⟩
          · refine ⟨.inl rfl, ?_⟩
            exact .inl ⟨by kernel_rfl, fun L a1 w1 n h => ⟨_, rfl, run_pickT (.tmp 98) _ _ rfl (h.dep n 1 98 (by kernel_rfl) rfl) (h.dep n 22 119 (by kernel_rfl) rfl)⟩⟩
          · refine ⟨.inl rfl, ?_⟩
            exact .inl ⟨by kernel_rfl, fun L a1 w1 n h => ⟨_, rfl, run_move (.tmp 120) rfl (h.dep n 23 120 (by kernel_rfl) rfl)⟩⟩
          · refine ⟨.inr ⟨24, true, 121, rfl, by kernel_rfl, rfl, by simp, fun v h => h⟩, ?_⟩
            refine .inr fun L a1 w1 n h K hK => ?_
            refine st_call 10 _ _ #[] rfl Tryd.call10 ?_ (H5 w1 h.inv) ?_
            · simp
            · rintro e w3 ⟨rfl, b9⟩
              exact ⟨_, rfl, hK _ w3 rfl (h.inv.trans (b9.mono h.inv.size))⟩
          · refine ⟨.inl rfl, ?_⟩
            exact .inl ⟨by kernel_rfl, fun L a1 w1 n h => ⟨_, rfl, run_pickT (.tmp 121) _ _ rfl (h.dep n 24 121 (by kernel_rfl) rfl) (h.dep n 25 122 (by kernel_rfl) rfl)⟩⟩
          · refine ⟨.inl rfl, ?_⟩
            exact .inl ⟨by kernel_rfl, fun L a1 w1 n h => ⟨_, rfl, run_assign (.tmp 123) rfl (h.dep n 26 123 (by kernel_rfl) rfl)⟩⟩
        case heB4 =>
          intro V2 w10 hV hJ
          have b10 : Below w9.heap.size w9 w10 := hJ
          have hv : V2 27 = .bool true := hV 27 4 rfl
          clear hV hJ
          simp only [putOps, List.setIfInBounds_toArray, List.set_cons_succ, List.set_cons_zero, Nat.reduceAdd]
          rw [hv]
          refine hK2 _ _ ?_
          go_wp2_with fail
          go_ret
          exact ⟨rfl, B9.out.trans (b10.mono B9.out.size)⟩
  · have hdI : decide (0 ≤ I) = false := by simp; omega
    clear HSM HSD
    go_wp2_with (first
      | ((with_reducible refine wl_alloc (o := ⟨some 5, _, _, _, _, _⟩) rfl 23 _ (bv (List.replicate 32 0)) rfl zero32b rfl ?_); intro g5 w5 r5 p5 l5 b5; have n2 : g2 ≠ g5 := (by have := r2c.lt; omega); have n3 : g3 ≠ g5 := (by have := r3c.lt; omega))
      | ((with_reducible refine wl_store_row rfl 23 (.tmp 5) (.tmp 22) g5 23 _ (bv x0) rfl rfl rfl r5 zx.out lx.out (bv_one _) ?_); intro w6 rt o6; have r3d := (r3c.later b5).only o6 n3; have d0 := r3d.cell (j := 0) rfl; have d1 := r3d.cell (j := 1) rfl; have d3 := r3d.cell (j := 3) rfl))
    have p5w : w.heap.size ≤ g5 := by have := B4.size; omega
    have B6 : Below w.heap.size w w6 := (B4.trans (b5.mono B4.size)).trans (o6.below p5w)
    have r2d := (r2c.later b5).only o6 n2
    clear r2c r3c r5 b5 o6 zx lx
    have hcur := hx0
    obtain ⟨bc, HBc⟩ := HB x0 hcur
    obtain ⟨br, HBr⟩ := HB r hr
    have zc := hide (size32b hcur)
    have zr := hide (size32b hr)
    have hbc : (bc == bc) = true := by simp
    have hbr : (br == br) = true := by simp
    have BT := hide (B6)
    have H1 := fun w1 (b : Below (w6).heap.size w6 w1) => (HBc w1 (BT.out.trans (b.mono BT.out.size))).1
    have H2 := fun w1 (b : Below (w6).heap.size w6 w1) => (HBc w1 (BT.out.trans (b.mono BT.out.size))).2
    have H3 := fun w1 (b : Below (w6).heap.size w6 w1) => (HBr w1 (BT.out.trans (b.mono BT.out.size))).1
    have H4 := fun w1 (b : Below (w6).heap.size w6 w1) => (HBr w1 (BT.out.trans (b.mono BT.out.size))).2
    have H5 := fun w1 (b : Below (w6).heap.size w6 w1) => tawake_any w1 (hT.later (BT.out.trans (b.mono BT.out.size)))
    have rt := rt
    have r2t := r2d
    have r3t := r3d
    clear HBc HBr HB hcur hr hT 
    go_wp2_with fail
    rename_i K1 hK1
    refine wp_region_vals [9, 19] (SCh x0 g3 g5 m c np pc A PA N I bc) (JR w6) (by kernel_rfl) (by kernel_rfl) (by kernel_rfl) (by kernel_rfl) (by kernel_rfl) (Below.refl _ _).drew ?obsA5 ?heA5
    case obsA5 =>
      refine ⟨?_, ?_, ?_, ?_, ?_, ?_, ?_, ?_, ?_, ?_, ?_, ?_, ?_, ?_, ?_, ?_, ?_, ?_, ?_, ?_, ?_, ?_, trivial⟩
      · exact .inl ⟨by kernel_rfl, fun L a1 w1 n h => ⟨_, rfl, run_loadRow 23 (.tmp 5) g5 23 _ _ rfl (h.var n 5 (by kernel_rfl)) ((rt.later h.inv)) Tryd.underlying23 rfl (zc.out)⟩⟩
      · refine .inl ⟨by kernel_rfl, fun L a1 w1 n h => ⟨.pointer (some ⟨g3, 0, none⟩), rfl, ?_⟩⟩
        have e0 : a1.eval (.tmp 3) = _ := h.var n 3 (by kernel_rfl)
        unfold execOp
        simp only [e0]
        go_simp
      · exact .inl ⟨by kernel_rfl, fun L a1 w1 n h => ⟨_, rfl, run_loadA 3 (.tmp 77) ⟨g3, 0, none⟩ rfl Tryd.isAgg3 (h.dep n 1 77 (by kernel_rfl) rfl) ((Row.later r3t h.inv).cell (j := 0) (v := .int .i64 N) rfl)⟩⟩
      · refine .inl ⟨by kernel_rfl, fun L a1 w1 n h => ⟨.pointer (some ⟨g3, 1, none⟩), rfl, ?_⟩⟩
        have e0 : a1.eval (.tmp 3) = _ := h.var n 3 (by kernel_rfl)
        unfold execOp
        simp only [e0]
        go_simp
      · exact .inl ⟨by kernel_rfl, fun L a1 w1 n h => ⟨_, rfl, run_loadA 3 (.tmp 79) ⟨g3, 1, none⟩ rfl Tryd.isAgg3 (h.dep n 3 79 (by kernel_rfl) rfl) ((Row.later r3t h.inv).cell (j := 1) (v := .int .i64 I) rfl)⟩⟩
      · refine .inl ⟨by kernel_rfl, fun L a1 w1 n h => ⟨.pointer (some ⟨g3, 2, none⟩), rfl, ?_⟩⟩
        have e0 : a1.eval (.tmp 3) = _ := h.var n 3 (by kernel_rfl)
        unfold execOp
        simp only [e0]
        go_simp
      · exact .inl ⟨by kernel_rfl, fun L a1 w1 n h => ⟨_, rfl, run_loadA 22 (.tmp 81) ⟨g3, 2, none⟩ rfl Tryd.isAgg22 (h.dep n 5 81 (by kernel_rfl) rfl) ((Row.later r3t h.inv).cell (j := 2) (v := .slice A m c) rfl)⟩⟩
      · refine .inl ⟨by kernel_rfl, fun L a1 w1 n h => ⟨.pointer (some ⟨g3, 3, none⟩), rfl, ?_⟩⟩
        have e0 : a1.eval (.tmp 3) = _ := h.var n 3 (by kernel_rfl)
        unfold execOp
        simp only [e0]
        go_simp
      · exact .inl ⟨by kernel_rfl, fun L a1 w1 n h => ⟨_, rfl, run_loadA 31 (.tmp 83) ⟨g3, 3, none⟩ rfl Tryd.isAgg31 (h.dep n 7 83 (by kernel_rfl) rfl) ((Row.later r3t h.inv).cell (j := 3) (v := .slice PA np pc) rfl)⟩⟩
      · refine .inr fun L a1 w1 n h K hK => ?_
        have e0 : a1.eval (.tmp 76) = .agg (bv x0).toArray := h.dep n 0 76 (by kernel_rfl) rfl
        have e1 : a1.eval (.tmp 78) = .int .i64 N := h.dep n 2 78 (by kernel_rfl) rfl
        have e2 : a1.eval (.tmp 80) = .int .i64 I := h.dep n 4 80 (by kernel_rfl) rfl
        have e3 : a1.eval (.tmp 82) = .slice A m c := h.dep n 6 82 (by kernel_rfl) rfl
        have e4 : a1.eval (.tmp 84) = .slice PA np pc := h.dep n 8 84 (by kernel_rfl) rfl
        refine st_call 21 _ _ #[.agg (bv x0).toArray, .int .i64 N, .int .i64 I, .slice A m c, .slice PA np pc] rfl Tryd.call21 ?_ (H1 w1 h.inv) ?_
        · simp only [List.map_toArray, List.map_cons, List.map_nil, e0, e1, e2, e3, e4]
        · rintro e w3 ⟨rfl, b9⟩
          exact ⟨_, rfl, hK _ w3 rfl (h.inv.trans (b9.mono h.inv.size))⟩
      · exact .inl ⟨by kernel_rfl, fun L a1 w1 n h => ⟨_, rfl, run_loadRow 23 (.tmp 5) g5 23 _ _ rfl (h.var n 5 (by kernel_rfl)) ((rt.later h.inv)) Tryd.underlying23 rfl (zc.out)⟩⟩
      · refine .inl ⟨by kernel_rfl, fun L a1 w1 n h => ⟨.pointer (some ⟨g3, 0, none⟩), rfl, ?_⟩⟩
        have e0 : a1.eval (.tmp 3) = _ := h.var n 3 (by kernel_rfl)
        unfold execOp
        simp only [e0]
        go_simp
      · exact .inl ⟨by kernel_rfl, fun L a1 w1 n h => ⟨_, rfl, run_loadA 3 (.tmp 87) ⟨g3, 0, none⟩ rfl Tryd.isAgg3 (h.dep n 11 87 (by kernel_rfl) rfl) ((Row.later r3t h.inv).cell (j := 0) (v := .int .i64 N) rfl)⟩⟩
      · refine .inl ⟨by kernel_rfl, fun L a1 w1 n h => ⟨.pointer (some ⟨g3, 1, none⟩), rfl, ?_⟩⟩
        have e0 : a1.eval (.tmp 3) = _ := h.var n 3 (by kernel_rfl)
        unfold execOp
        simp only [e0]
        go_simp
      · exact .inl ⟨by kernel_rfl, fun L a1 w1 n h => ⟨_, rfl, run_loadA 3 (.tmp 89) ⟨g3, 1, none⟩ rfl Tryd.isAgg3 (h.dep n 13 89 (by kernel_rfl) rfl) ((Row.later r3t h.inv).cell (j := 1) (v := .int .i64 I) rfl)⟩⟩
      · refine .inl ⟨by kernel_rfl, fun L a1 w1 n h => ⟨.pointer (some ⟨g3, 2, none⟩), rfl, ?_⟩⟩
        have e0 : a1.eval (.tmp 3) = _ := h.var n 3 (by kernel_rfl)
        unfold execOp
        simp only [e0]
        go_simp
      · exact .inl ⟨by kernel_rfl, fun L a1 w1 n h => ⟨_, rfl, run_loadA 22 (.tmp 91) ⟨g3, 2, none⟩ rfl Tryd.isAgg22 (h.dep n 15 91 (by kernel_rfl) rfl) ((Row.later r3t h.inv).cell (j := 2) (v := .slice A m c) rfl)⟩⟩
      · refine .inl ⟨by kernel_rfl, fun L a1 w1 n h => ⟨.pointer (some ⟨g3, 3, none⟩), rfl, ?_⟩⟩
        have e0 : a1.eval (.tmp 3) = _ := h.var n 3 (by kernel_rfl)
        unfold execOp
        simp only [e0]
        go_simp
      · exact .inl ⟨by kernel_rfl, fun L a1 w1 n h => ⟨_, rfl, run_loadA 31 (.tmp 93) ⟨g3, 3, none⟩ rfl Tryd.isAgg31 (h.dep n 17 93 (by kernel_rfl) rfl) ((Row.later r3t h.inv).cell (j := 3) (v := .slice PA np pc) rfl)⟩⟩
      · refine .inr fun L a1 w1 n h K hK => ?_
        have e0 : a1.eval (.tmp 86) = .agg (bv x0).toArray := h.dep n 10 86 (by kernel_rfl) rfl
        have e1 : a1.eval (.tmp 88) = .int .i64 N := h.dep n 12 88 (by kernel_rfl) rfl
        have e2 : a1.eval (.tmp 90) = .int .i64 I := h.dep n 14 90 (by kernel_rfl) rfl
        have e3 : a1.eval (.tmp 92) = .slice A m c := h.dep n 16 92 (by kernel_rfl) rfl
        have e4 : a1.eval (.tmp 94) = .slice PA np pc := h.dep n 18 94 (by kernel_rfl) rfl
        refine st_call 22 _ _ #[.agg (bv x0).toArray, .int .i64 N, .int .i64 I, .slice A m c, .slice PA np pc] rfl Tryd.call22 ?_ (H2 w1 h.inv) ?_
        · simp only [List.map_toArray, List.map_cons, List.map_nil, e0, e1, e2, e3, e4]
        · rintro e w3 ⟨rfl, b9⟩
          exact ⟨_, rfl, hK _ w3 rfl (h.inv.trans (b9.mono h.inv.size))⟩
      · exact .inl ⟨by kernel_rfl, fun L a1 w1 n h => ⟨_, rfl, run_eqlB (.tmp 85) (.tmp 95) _ _ rfl (h.dep n 9 85 (by kernel_rfl) rfl) (h.dep n 19 95 (by kernel_rfl) rfl) (fun w => (eqBoolT _ _ w).trans (by rw [hbc]))⟩⟩
      · exact .inl ⟨by kernel_rfl, fun L a1 w1 n h => ⟨_, rfl, run_assign (.tmp 96) rfl (h.dep n 20 96 (by kernel_rfl) rfl)⟩⟩
    case heA5 =>
      intro V w9 hV hJ
      have b9 : Below (w6).heap.size w6 w9 := hJ
      have hv : V 21 = .bool true := hV 21 8 rfl
      clear hV hJ
      simp only [putOps, List.setIfInBounds_toArray, List.set_cons_succ, List.set_cons_zero, Nat.reduceAdd]
      rw [hv]
      refine hK1 _ _ ?_
      replace H3 := fun w1 (b : Below w9.heap.size w9 w1) => H3 w1 (b9.trans (b.mono b9.size))
      replace H4 := fun w1 (b : Below w9.heap.size w9 w1) => H4 w1 (b9.trans (b.mono b9.size))
      replace H5 := fun w1 (b : Below w9.heap.size w9 w1) => H5 w1 (b9.trans (b.mono b9.size))
      replace r2t := r2t.later b9
      replace r3t := r3t.later b9
      have B9 := hide (BT.out.trans (b9.mono BT.out.size))
      clear H1 H2 rt BT b9 hv
      go_wp2_with fail
      rename_i K2 hK2
      refine wp_region_valsG [11, 21, 25] (SCi r g2 g3 m c np pc A PA N I br) (JR w9) (by kernel_rfl) (by kernel_rfl) (by kernel_rfl) (by kernel_rfl) (Below.refl _ _).drew ?obsB5 ?heB5
      case obsB5 =>
        refine ⟨?_, ?_, ?_, ?_, ?_, ?_, ?_, ?_, ?_, ?_, ?_, ?_, ?_, ?_, ?_, ?_, ?_, ?_, ?_, ?_, ?_, ?_, ?_, ?_, ?_, ?_, ?_, ?_, trivial⟩
        · refine ⟨.inl rfl, ?_⟩
          exact .inl ⟨by kernel_rfl, fun L a1 w1 n h => ⟨_, rfl, run_move (.tmp 8) rfl (h.var n 8 (by kernel_rfl))⟩⟩
        · refine ⟨.inl rfl, ?_⟩
          exact .inl ⟨by kernel_rfl, fun L a1 w1 n h => ⟨_, rfl, run_move (.tmp 97) rfl (h.dep n 0 97 (by kernel_rfl) rfl)⟩⟩
        · refine ⟨.inr ⟨1, true, 98, rfl, by kernel_rfl, rfl, by simp, fun v h => h⟩, ?_⟩
          exact .inl ⟨by kernel_rfl, fun L a1 w1 n h => ⟨_, rfl, run_loadRow 23 (.tmp 2) g2 23 _ _ rfl (h.var n 2 (by kernel_rfl)) ((r2t.later h.inv)) Tryd.underlying23 rfl (zr.out)⟩⟩
        · refine ⟨.inr ⟨1, true, 98, rfl, by kernel_rfl, rfl, by simp, fun v h => h⟩, ?_⟩
          refine .inl ⟨by kernel_rfl, fun L a1 w1 n h => ⟨.pointer (some ⟨g3, 0, none⟩), rfl, ?_⟩⟩
          have e0 : a1.eval (.tmp 3) = _ := h.var n 3 (by kernel_rfl)
          unfold execOp
          simp only [e0]
          go_simp
        · refine ⟨.inr ⟨1, true, 98, rfl, by kernel_rfl, rfl, by simp, fun v h => h⟩, ?_⟩
          exact .inl ⟨by kernel_rfl, fun L a1 w1 n h => ⟨_, rfl, run_loadA 3 (.tmp 100) ⟨g3, 0, none⟩ rfl Tryd.isAgg3 (h.dep n 3 100 (by kernel_rfl) rfl) ((Row.later r3t h.inv).cell (j := 0) (v := .int .i64 N) rfl)⟩⟩
        · refine ⟨.inr ⟨1, true, 98, rfl, by kernel_rfl, rfl, by simp, fun v h => h⟩, ?_⟩
          refine .inl ⟨by kernel_rfl, fun L a1 w1 n h => ⟨.pointer (some ⟨g3, 1, none⟩), rfl, ?_⟩⟩
          have e0 : a1.eval (.tmp 3) = _ := h.var n 3 (by kernel_rfl)
          unfold execOp
          simp only [e0]
          go_simp
        · refine ⟨.inr ⟨1, true, 98, rfl, by kernel_rfl, rfl, by simp, fun v h => h⟩, ?_⟩
          exact .inl ⟨by kernel_rfl, fun L a1 w1 n h => ⟨_, rfl, run_loadA 3 (.tmp 102) ⟨g3, 1, none⟩ rfl Tryd.isAgg3 (h.dep n 5 102 (by kernel_rfl) rfl) ((Row.later r3t h.inv).cell (j := 1) (v := .int .i64 I) rfl)⟩⟩
        · refine ⟨.inr ⟨1, true, 98, rfl, by kernel_rfl, rfl, by simp, fun v h => h⟩, ?_⟩
          refine .inl ⟨by kernel_rfl, fun L a1 w1 n h => ⟨.pointer (some ⟨g3, 2, none⟩), rfl, ?_⟩⟩
          have e0 : a1.eval (.tmp 3) = _ := h.var n 3 (by kernel_rfl)
          unfold execOp
          simp only [e0]
          go_simp
        · refine ⟨.inr ⟨1, true, 98, rfl, by kernel_rfl, rfl, by simp, fun v h => h⟩, ?_⟩
          exact .inl ⟨by kernel_rfl, fun L a1 w1 n h => ⟨_, rfl, run_loadA 22 (.tmp 104) ⟨g3, 2, none⟩ rfl Tryd.isAgg22 (h.dep n 7 104 (by kernel_rfl) rfl) ((Row.later r3t h.inv).cell (j := 2) (v := .slice A m c) rfl)⟩⟩
        · refine ⟨.inr ⟨1, true, 98, rfl, by kernel_rfl, rfl, by simp, fun v h => h⟩, ?_⟩
          refine .inl ⟨by kernel_rfl, fun L a1 w1 n h => ⟨.pointer (some ⟨g3, 3, none⟩), rfl, ?_⟩⟩
          have e0 : a1.eval (.tmp 3) = _ := h.var n 3 (by kernel_rfl)
          unfold execOp
          simp only [e0]
          go_simp
        · refine ⟨.inr ⟨1, true, 98, rfl, by kernel_rfl, rfl, by simp, fun v h => h⟩, ?_⟩
          exact .inl ⟨by kernel_rfl, fun L a1 w1 n h => ⟨_, rfl, run_loadA 31 (.tmp 106) ⟨g3, 3, none⟩ rfl Tryd.isAgg31 (h.dep n 9 106 (by kernel_rfl) rfl) ((Row.later r3t h.inv).cell (j := 3) (v := .slice PA np pc) rfl)⟩⟩
        · refine ⟨.inr ⟨1, true, 98, rfl, by kernel_rfl, rfl, by simp, fun v h => h⟩, ?_⟩
          refine .inr fun L a1 w1 n h K hK => ?_
          have e0 : a1.eval (.tmp 99) = .agg (bv r).toArray := h.dep n 2 99 (by kernel_rfl) rfl
          have e1 : a1.eval (.tmp 101) = .int .i64 N := h.dep n 4 101 (by kernel_rfl) rfl
          have e2 : a1.eval (.tmp 103) = .int .i64 I := h.dep n 6 103 (by kernel_rfl) rfl
          have e3 : a1.eval (.tmp 105) = .slice A m c := h.dep n 8 105 (by kernel_rfl) rfl
          have e4 : a1.eval (.tmp 107) = .slice PA np pc := h.dep n 10 107 (by kernel_rfl) rfl
          refine st_call 21 _ _ #[.agg (bv r).toArray, .int .i64 N, .int .i64 I, .slice A m c, .slice PA np pc] rfl Tryd.call21 ?_ (H3 w1 h.inv) ?_
          · simp only [List.map_toArray, List.map_cons, List.map_nil, e0, e1, e2, e3, e4]
          · rintro e w3 ⟨rfl, b9⟩
            exact ⟨_, rfl, hK _ w3 rfl (h.inv.trans (b9.mono h.inv.size))⟩
        · refine ⟨.inr ⟨1, true, 98, rfl, by kernel_rfl, rfl, by simp, fun v h => h⟩, ?_⟩
          exact .inl ⟨by kernel_rfl, fun L a1 w1 n h => ⟨_, rfl, run_loadRow 23 (.tmp 2) g2 23 _ _ rfl (h.var n 2 (by kernel_rfl)) ((r2t.later h.inv)) Tryd.underlying23 rfl (zr.out)⟩⟩
        · refine ⟨.inr ⟨1, true, 98, rfl, by kernel_rfl, rfl, by simp, fun v h => h⟩, ?_⟩
          refine .inl ⟨by kernel_rfl, fun L a1 w1 n h => ⟨.pointer (some ⟨g3, 0, none⟩), rfl, ?_⟩⟩
          have e0 : a1.eval (.tmp 3) = _ := h.var n 3 (by kernel_rfl)
          unfold execOp
          simp only [e0]
          go_simp
        · refine ⟨.inr ⟨1, true, 98, rfl, by kernel_rfl, rfl, by simp, fun v h => h⟩, ?_⟩
          exact .inl ⟨by kernel_rfl, fun L a1 w1 n h => ⟨_, rfl, run_loadA 3 (.tmp 110) ⟨g3, 0, none⟩ rfl Tryd.isAgg3 (h.dep n 13 110 (by kernel_rfl) rfl) ((Row.later r3t h.inv).cell (j := 0) (v := .int .i64 N) rfl)⟩⟩
        · refine ⟨.inr ⟨1, true, 98, rfl, by kernel_rfl, rfl, by simp, fun v h => h⟩, ?_⟩
          refine .inl ⟨by kernel_rfl, fun L a1 w1 n h => ⟨.pointer (some ⟨g3, 1, none⟩), rfl, ?_⟩⟩
          have e0 : a1.eval (.tmp 3) = _ := h.var n 3 (by kernel_rfl)
          unfold execOp
          simp only [e0]
          go_simp
        · refine ⟨.inr ⟨1, true, 98, rfl, by kernel_rfl, rfl, by simp, fun v h => h⟩, ?_⟩
          exact .inl ⟨by kernel_rfl, fun L a1 w1 n h => ⟨_, rfl, run_loadA 3 (.tmp 112) ⟨g3, 1, none⟩ rfl Tryd.isAgg3 (h.dep n 15 112 (by kernel_rfl) rfl) ((Row.later r3t h.inv).cell (j := 1) (v := .int .i64 I) rfl)⟩⟩
        · refine ⟨.inr ⟨1, true, 98, rfl, by kernel_rfl, rfl, by simp, fun v h => h⟩, ?_⟩
          refine .inl ⟨by kernel_rfl, fun L a1 w1 n h => ⟨.pointer (some ⟨g3, 2, none⟩), rfl, ?_⟩⟩
          have e0 : a1.eval (.tmp 3) = _ := h.var n 3 (by kernel_rfl)
          unfold execOp
          simp only [e0]
          go_simp
        · refine ⟨.inr ⟨1, true, 98, rfl, by kernel_rfl, rfl, by simp, fun v h => h⟩, ?_⟩
          exact .inl ⟨by kernel_rfl, fun L a1 w1 n h => ⟨_, rfl, run_loadA 22 (.tmp 114) ⟨g3, 2, none⟩ rfl Tryd.isAgg22 (h.dep n 17 114 (by kernel_rfl) rfl) ((Row.later r3t h.inv).cell (j := 2) (v := .slice A m c) rfl)⟩⟩
        · refine ⟨.inr ⟨1, true, 98, rfl, by kernel_rfl, rfl, by simp, fun v h => h⟩, ?_⟩
          refine .inl ⟨by kernel_rfl, fun L a1 w1 n h => ⟨.pointer (some ⟨g3, 3, none⟩), rfl, ?_⟩⟩
          have e0 : a1.eval (.tmp 3) = _ := h.var n 3 (by kernel_rfl)
          unfold execOp
          simp only [e0]
          go_simp
        · refine ⟨.inr ⟨1, true, 98, rfl, by kernel_rfl, rfl, by simp, fun v h => h⟩, ?_⟩
          exact .inl ⟨by kernel_rfl, fun L a1 w1 n h => ⟨_, rfl, run_loadA 31 (.tmp 116) ⟨g3, 3, none⟩ rfl Tryd.isAgg31 (h.dep n 19 116 (by kernel_rfl) rfl) ((Row.later r3t h.inv).cell (j := 3) (v := .slice PA np pc) rfl)⟩⟩
        · refine ⟨.inr ⟨1, true, 98, rfl, by kernel_rfl, rfl, by simp, fun v h => h⟩, ?_⟩
          refine .inr fun L a1 w1 n h K hK => ?_
          have e0 : a1.eval (.tmp 109) = .agg (bv r).toArray := h.dep n 12 109 (by kernel_rfl) rfl
          have e1 : a1.eval (.tmp 111) = .int .i64 N := h.dep n 14 111 (by kernel_rfl) rfl
          have e2 : a1.eval (.tmp 113) = .int .i64 I := h.dep n 16 113 (by kernel_rfl) rfl
          have e3 : a1.eval (.tmp 115) = .slice A m c := h.dep n 18 115 (by kernel_rfl) rfl
          have e4 : a1.eval (.tmp 117) = .slice PA np pc := h.dep n 20 117 (by kernel_rfl) rfl
          refine st_call 22 _ _ #[.agg (bv r).toArray, .int .i64 N, .int .i64 I, .slice A m c, .slice PA np pc] rfl Tryd.call22 ?_ (H4 w1 h.inv) ?_
          · simp only [List.map_toArray, List.map_cons, List.map_nil, e0, e1, e2, e3, e4]
          · rintro e w3 ⟨rfl, b9⟩
            exact ⟨_, rfl, hK _ w3 rfl (h.inv.trans (b9.mono h.inv.size))⟩
        · refine ⟨.inr ⟨1, true, 98, rfl, by kernel_rfl, rfl, by simp, fun v h => h⟩, ?_⟩
          exact .inl ⟨by kernel_rfl, fun L a1 w1 n h => ⟨_, rfl, run_eqlB (.tmp 108) (.tmp 118) _ _ rfl (h.dep n 11 108 (by kernel_rfl) rfl) (h.dep n 21 118 (by kernel_rfl) rfl) (fun w => (eqBoolT _ _ w).trans (by rw [hbr]))⟩⟩
        · refine ⟨.inl rfl, ?_⟩
          exact .inl ⟨by kernel_rfl, fun L a1 w1 n h => ⟨_, rfl, run_pickT (.tmp 98) _ _ rfl (h.dep n 1 98 (by kernel_rfl) rfl) (h.dep n 22 119 (by kernel_rfl) rfl)⟩⟩
        · refine ⟨.inl rfl, ?_⟩
          exact .inl ⟨by kernel_rfl, fun L a1 w1 n h => ⟨_, rfl, run_move (.tmp 120) rfl (h.dep n 23 120 (by kernel_rfl) rfl)⟩⟩
        · refine ⟨.inr ⟨24, true, 121, rfl, by kernel_rfl, rfl, by simp, fun v h => h⟩, ?_⟩
          refine .inr fun L a1 w1 n h K hK => ?_
          refine st_call 10 _ _ #[] rfl Tryd.call10 ?_ (H5 w1 h.inv) ?_
          · simp
          · rintro e w3 ⟨rfl, b9⟩
            exact ⟨_, rfl, hK _ w3 rfl (h.inv.trans (b9.mono h.inv.size))⟩
        · refine ⟨.inl rfl, ?_⟩
          exact .inl ⟨by kernel_rfl, fun L a1 w1 n h => ⟨_, rfl, run_pickT (.tmp 121) _ _ rfl (h.dep n 24 121 (by kernel_rfl) rfl) (h.dep n 25 122 (by kernel_rfl) rfl)⟩⟩
        · refine ⟨.inl rfl, ?_⟩
          exact .inl ⟨by kernel_rfl, fun L a1 w1 n h => ⟨_, rfl, run_assign (.tmp 123) rfl (h.dep n 26 123 (by kernel_rfl) rfl)⟩⟩
      case heB5 =>
        intro V2 w10 hV hJ
        have b10 : Below w9.heap.size w9 w10 := hJ
        have hv : V2 27 = .bool true := hV 27 4 rfl
        clear hV hJ
        simp only [putOps, List.setIfInBounds_toArray, List.set_cons_succ, List.set_cons_zero, Nat.reduceAdd]
        rw [hv]
        refine hK2 _ _ ?_
        go_wp2_with fail
        go_ret
        exact ⟨rfl, B9.out.trans (b10.mono B9.out.size)⟩

end Go.Proofs.YtbolfkigiachlaaDoor

/-
  The law TreeBinds: two paths to one root, as lists. Own work.
-/
namespace Go.Proofs.YtbolfkigiachlaaDoor
open Go.RowKit Tr
theorem bytesOf_num {xs : List Int} (hx : IsBy xs) : (Lib.bytesOf xs).map (fun b => (b.toNat : Int)) = xs := by
  induction xs with
  | nil => rfl
  | cons x xs ih =>
    have h := hx x (by simp)
    have e : Lib.bytesOf (x :: xs) = UInt8.ofNat x.toNat :: Lib.bytesOf xs := rfl
    rw [e, List.map_cons, ih fun y hy => hx y (by simp [hy])]
    congr 1
    rw [UInt8.toNat_ofNat']
    omega
theorem bytesOf_dec {xs ys : List Int} (hx : IsBy xs) (hy : IsBy ys) : (Lib.bytesOf xs == Lib.bytesOf ys) = decide (xs = ys) := by
  by_cases h : xs = ys
  · subst h; simp
  · rw [decide_eq_false h]
    refine beq_eq_false_iff_ne.2 fun e => h ?_
    rw [← bytesOf_num hx, ← bytesOf_num hy, e]
theorem equal_dec (A B : Option Addr) (n m c d : Nat) (xs ys : List Int) (w : World) (h1 : Bs w w.heap.size A n xs) (h2 : Bs w w.heap.size B m ys) (hx : IsBy xs) (hy : IsBy ys) (r : Bool) (hr : decide (xs = ys) = r) :
    Calls Tryd.prog 28 #[.slice A n c, .slice B m d] w fun e w' => e = .returned (.bool r) ∧ Below w.heap.size w w' :=
  (equal_any A B n m c d xs ys w h1 h2).mono fun e w' h => by
    obtain ⟨h1, rfl⟩ := h
    rw [h1, bytesOf_dec hx hy, hr]
    exact ⟨rfl, Below.refl _ _⟩
/-- The text of one more step up. -/
def stT (b : Bool) (s q : List Int) : List Int := if b then 1 :: (q ++ s) else 1 :: (s ++ q)
theorem stT_sum (b : Bool) (s q : List Int) : sumS (stT b s q) = stS b s q := by cases b <;> rfl
theorem stT_len {b : Bool} {s q : List Int} (hs : s.length = 32) (hq : q.length = 32) : (stT b s q).length = 65 := by
  cases b <;> simp [stT, hs, hq]
theorem stT_by {b : Bool} {s q : List Int} (hs : IsBy s) (hq : IsBy q) : IsBy (stT b s q) := by
  have h1 : (0 : Int) ≤ 1 ∧ (1 : Int) < 256 := by decide
  cases b
  · refine by_cons h1 fun x hx => ?_
    rcases List.mem_append.1 hx with h | h
    · exact hs x h
    · exact hq x h
  · refine by_cons h1 fun x hx => ?_
    rcases List.mem_append.1 hx with h | h
    · exact hq x h
    · exact hs x h
theorem stT_inj {b : Bool} {s q s' q' : List Int} (hs : s.length = 32) (hs' : s'.length = 32) (hq : q.length = 32) (hq' : q'.length = 32) (h : stT b s q = stT b s' q') : s = s' := by
  cases b
  · have h1 : s ++ q = s' ++ q' := List.tail_eq_of_cons_eq h
    exact (List.append_inj h1 (by rw [hs, hs'])).1
  · have h1 : q ++ s = q' ++ s' := List.tail_eq_of_cons_eq h
    exact (List.append_inj h1 (by rw [hq, hq'])).2
/-- Two unlike texts have one sum. -/
def clB (ta tb : List Int) : Bool := !decide (ta = tb) && decide (sumS ta = sumS tb)
/-- What holds of the two texts at a step. -/
structure InvT (la lb : List Int) (ss : List Bool) (rs ps : List (List Int)) (k : Nat) (ta tb : List Int) (cl : Bool) : Prop where
  sa : sumS ta = upK (leafS la) ss rs k
  sb : sumS tb = upK (leafS lb) ss ps k
  ba : IsBy ta
  bb : IsBy tb
  la_ : ta.length ≤ 300
  lb_ : tb.length ≤ 300
  h : cl = false → sumS ta = sumS tb → la = lb
theorem InvT.start {la lb : List Int} (ss : List Bool) (rs ps : List (List Int)) (ha : IsBy la) (hb : IsBy lb) (hla : la.length ≤ 200) (hlb : lb.length ≤ 200) : InvT la lb ss rs ps 0 (0 :: la) (0 :: lb) (clB (0 :: la) (0 :: lb)) := by
  have h0 : (0 : Int) ≤ 0 ∧ (0 : Int) < 256 := by decide
  refine ⟨rfl, rfl, by_cons h0 ha, by_cons h0 hb, by simp; omega, by simp; omega, fun hc hs => ?_⟩
  unfold clB at hc
  rw [decide_eq_true hs, Bool.and_true] at hc
  have : (0 : Int) :: la = 0 :: lb := by simpa using hc
  exact List.tail_eq_of_cons_eq this
theorem InvT.step {la lb : List Int} {ss : List Bool} {rs ps : List (List Int)} {k : Nat} {ta tb : List Int} {cl : Bool} (h : InvT la lb ss rs ps k ta tb cl) (b : Bool) (q q' : List Int) (hb : ss[k]? = some b) (hq : rs[k]? = some q) (hq' : ps[k]? = some q') (l1 : q.length = 32) (l2 : q'.length = 32) (y1 : IsBy q) (y2 : IsBy q') :
    InvT la lb ss rs ps (k + 1) (stT b (sumS ta) q) (stT b (sumS tb) q') (cl || clB (stT b (sumS ta) q) (stT b (sumS tb) q')) := by
  refine ⟨?_, ?_, stT_by (sumS_by _) y1, stT_by (sumS_by _) y2, by rw [stT_len (sumS_len _) l1]; decide, by rw [stT_len (sumS_len _) l2]; decide, fun hc hs => ?_⟩
  · rw [stT_sum, upK_succ _ _ _ _ b q hb hq, h.sa]
  · rw [stT_sum, upK_succ _ _ _ _ b q' hb hq', h.sb]
  · rw [Bool.or_eq_false_iff] at hc
    have h2 := hc.2
    unfold clB at h2
    rw [decide_eq_true hs, Bool.and_true] at h2
    have h3 : stT b (sumS ta) q = stT b (sumS tb) q' := by simpa using h2
    exact h.h hc.1 (stT_inj (sumS_len _) (sumS_len _) l1 l2 h3)
theorem InvT.last {la lb : List Int} {ss : List Bool} {rs ps : List (List Int)} {k : Nat} {ta tb : List Int} {cl : Bool} (h : InvT la lb ss rs ps k ta tb cl) (h1 : ss.length ≤ k) (h2 : rs.length ≤ k) (h3 : ps.length ≤ k) (he : upS (leafS la) ss rs = upS (leafS lb) ss ps) (hc : cl = false) : la = lb := by
  refine h.h hc ?_
  rw [h.sa, h.sb, upK_all _ _ _ _ h1 h2, upK_all _ _ _ _ h1 h3, he]
/-- What a check that holds says. -/
theorem chkB_true {r : List Int} {n j : Nat} {xs : List Int} {ps : List (List Int)} (h : chkB r n j xs ps = true) : (sidesT n j).length = ps.length ∧ upS (leafS xs) (sidesT n j) ps = r := by
  unfold chkB at h
  rw [Bool.and_eq_true] at h
  exact ⟨of_decide_eq_true h.1, of_decide_eq_true h.2⟩
end Go.Proofs.YtbolfkigiachlaaDoor

/-
  A slice of slices of bytes that came in, with its capacity. Own work.
-/
namespace Go.Proofs.YtbolfkigiachlaaDoor
open Go.RowKit Go.ChangeShapes Go.WideShapes
theorem trod_bssK {H : Type} {enc : TypeId × Value → H} {P : Program} {w : World} {spare : Nat → Bool} {held : Bool} {t e e1 : TypeId} {A : Option Addr} {n c : Nat} {d : DataW H} {p : List MemPlace} (ht : P.underlying t = some (.slice e)) (hc : P.cellsOf e = 1) (ht1 : P.underlying e = some (.slice e1)) (he1 : P.underlying e1 = some (.int .u8)) (hc1 : P.cellsOf e1 = 1)
    (h : DataW.Trod enc P w 0 spare held t (.slice A n c) d p) : ∃ xss, Bss w w.heap.size A n xss ∧ (∀ xs ∈ xss, IsBy xs) ∧ n ≤ c := by
  obtain ⟨xss, h1, h2⟩ := trod_bss ht hc ht1 he1 hc1 h
  refine ⟨xss, h1, h2, ?_⟩
  obtain ⟨fuel, hf⟩ := h
  rcases Go.Deep.open_slice1 ht hc hf with ⟨hcs, _⟩ | ⟨a, len, cap, m, k, V, D, Pl, hcs, _, hl, hm, hmm, _, hx⟩
  · simp [Value.cells] at hcs
    obtain ⟨rfl, rfl, rfl⟩ := hcs
    exact Nat.le_refl _
  · simp [Value.cells] at hcs
    obtain ⟨rfl, rfl, rfl⟩ := hcs
    exact hl
end Go.Proofs.YtbolfkigiachlaaDoor
