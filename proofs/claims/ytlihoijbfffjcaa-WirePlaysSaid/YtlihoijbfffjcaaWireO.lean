/-
  The document's net: one way turned; Next: contracts. Own work.
-/
import Derived.Test.YtlihoijbfffjcaaWireN
namespace Go.Proofs.Ytlihoijbfffjcaa
open Go.RowKit Go.Conc
set_option linter.unusedVariables false
set_option linter.unusedSimpArgs false
theorem row_ne {w : World} {t t' g g' : Nat} {vs vs' : List Value} (h : Row w t g vs) (h' : Row w t' g' vs') (ht : t ≠ t') : g ≠ g' := by
  intro e
  subst e
  have := h.symm.trans h'
  simp at this
  exact ht this.2
theorem cell_only {w w' : World} {g b j : Nat} (o : Only g w w') (hne : b ≠ g) : w'.cell? ⟨b, j, none⟩ = w.cell? ⟨b, j, none⟩ := by
  simp [World.cell?, o.block b hne]
theorem own_ne_row {w : World} {B n g t : Nat} {v : Value} {xs vs : List Value} (h : w.ownsRow B 35 1 v n xs) (hr : Row w t g vs) (ht : t ≠ 35) : g ∉ v.ownBlock.toList := by
  intro hk
  obtain ⟨_, _, cs', hc⟩ := own_lo h g hk
  unfold Row at hr
  rw [hr] at hc
  simp at hc
  exact ht hc.2
theorem RNetAt.turn {w w' : World} {B gr gb : Nat} {rs : List RWay} (h : RNetAt w B gr gb rs) {i : Nat} {r r' : RWay} (hr : rs[i]? = some r) (hb : Buts (gb :: r.L.ownBlock.toList) w w') (hrow : Row w' 161 gb (rcells (rs.set i r')))
    (ho : w'.ownsRow B 35 1 r'.L r'.fs.length (r'.fs.map (·.1))) (hf : ∀ p ∈ r'.fs, ByV w' p.1 p.2) (hg : r'.gone ≤ r'.fs.length) (h2 : r'.fs.length ≤ 200) (hbv : r'.L.ownBlock = r.L.ownBlock ∨ ∀ k ∈ r'.L.ownBlock.toList, w.heap.size ≤ k) : RNetAt w' B gr gb (rs.set i r') := by
  have hlt : i < rs.length := (List.getElem?_eq_some_iff.1 hr).1
  have hrm := List.mem_of_getElem? hr
  have hNB : ∀ k ∈ gb :: r.L.ownBlock.toList, NotBy w k := by
    intro k hk
    rcases List.mem_cons.1 hk with rfl | hk
    · exact h.rows.notBy (by decide)
    · exact own_notBy' (h.own r hrm) k hk
  have hgr : gr ∉ gb :: r.L.ownBlock.toList := by
    intro hk
    rcases List.mem_cons.1 hk with e | hk
    · exact row_ne h.row h.rows (by decide) e
    · exact own_ne_row (h.own r hrm) h.row (by decide) hk
  have hoth : ∀ (j : Nat) (q : RWay), rs[j]? = some q → j ≠ i → ∀ k ∈ q.L.ownBlock.toList, k ∉ gb :: r.L.ownBlock.toList := by
    intro j q hq hj k hk hk2
    rcases List.mem_cons.1 hk2 with rfl | hk2
    · exact own_ne_row (h.own q (List.mem_of_getElem? hq)) h.rows (by decide) hk
    · exact h.apart j i q r hq hr hj k hk hk2
  have hmem : ∀ q ∈ rs.set i r', q = r' ∨ ∃ j, j ≠ i ∧ rs[j]? = some q := by
    intro q hq
    obtain ⟨j, hj⟩ := List.mem_iff_getElem?.1 hq
    by_cases hji : j = i
    · subst hji
      rw [List.getElem?_set_self hlt] at hj
      injection hj with hj
      exact .inl hj.symm
    · rw [List.getElem?_set_ne (Ne.symm hji)] at hj
      exact .inr ⟨j, hji, hj⟩
  refine ⟨by rw [List.length_set]; exact h.row.buts hb hgr, hrow, h.lo, ?_, ?_, ?_, ?_, ?_⟩
  · intro q hq
    rcases hmem q hq with rfl | ⟨j, hji, hj⟩
    · exact ho
    · exact own_buts (h.own q (List.mem_of_getElem? hj)) hb (hoth j q hj hji)
  · intro q hq
    rcases hmem q hq with rfl | ⟨j, hji, hj⟩
    · exact hf
    · exact fun p hp => (h.frames q (List.mem_of_getElem? hj) p hp).buts hb hNB
  · intro q hq
    rcases hmem q hq with rfl | ⟨j, hji, hj⟩
    · exact hg
    · exact h.gone q (List.mem_of_getElem? hj)
  · intro q hq
    rcases hmem q hq with rfl | ⟨j, hji, hj⟩
    · exact h2
    · exact h.few q (List.mem_of_getElem? hj)
  · intro a b x y hx hy hab k hk hk2
    have hnew : ∀ (j : Nat) (q : RWay), rs[j]? = some q → j ≠ i → ∀ k ∈ q.L.ownBlock.toList, k ∉ r'.L.ownBlock.toList := by
      intro j q hq hj k hk hk2
      rcases hbv with e | e
      · rw [e] at hk2
        exact h.apart j i q r hq hr hj k hk hk2
      · have := e k hk2
        have := (own_lo (h.own q (List.mem_of_getElem? hq)) k hk).2.1
        omega
    by_cases ha : a = i
    · subst ha
      rw [List.getElem?_set_self hlt] at hx
      injection hx with hx
      subst hx
      rw [List.getElem?_set_ne hab] at hy
      exact hnew b y hy (Ne.symm hab) k hk2 hk
    · rw [List.getElem?_set_ne (Ne.symm ha)] at hx
      by_cases hb2 : b = i
      · subst hb2
        rw [List.getElem?_set_self hlt] at hy
        injection hy with hy
        subst hy
        exact hnew a x hx ha k hk hk2
      · rw [List.getElem?_set_ne (Ne.symm hb2)] at hy
        exact h.apart a b x y hx hy hab k hk hk2
set_option maxRecDepth 100000 in
theorem rnext_no (w : World) (v : Value) (i : Int) (hI : Calls Try.prog 107 #[v, .int .i64 i] w fun e w' => e = .returned (.bool false) ∧ w = w') : Calls Try.prog 60 #[v, .int .i64 i] w fun e w' => e = .returned (.tuple #[.slice none 0 0, .int .i64 1]) ∧ w = w' := by
  go_enter Try.func60, Try.ntmps60
  go_wp2_with fail
  refine hI.mono ?_
  rintro en w1 ⟨rfl, rfl⟩
  go_wp2_with fail
  go_ret2
  exact ⟨rfl, rfl⟩
theorem szWay (a b : Value) : (Try.prog.info? 161).map (·.size) = some [a, b].length := by kernel_rfl
theorem zeroWay : (Try.prog.info? 161).map (fun i => i.zero) = some (some (.agg #[.slice none 0 0, .int .i64 0])) := by kernel_rfl
theorem one_way (A : Option Addr) (n c : Nat) (k : Int) : ∀ u ∈ [Value.slice A n c, .int .i64 k], u.oneCell' = true := by intro u hu; simp at hu; rcases hu with rfl | rfl <;> rfl
theorem szI : (Try.prog.info? 3).map (·.size) = some 1 := by kernel_rfl
theorem two_at {w : World} {g o : Nat} {x y : Value} (h0 : w.cell? ⟨g, o, none⟩ = some x) (h1 : w.cell? ⟨g, o + 1, none⟩ = some y) : ∀ j v, [x, y][j]? = some v → w.cell? ⟨g, o + j, none⟩ = some v := by
  intro j v hj
  match j, hj with
  | 0, hj => simp at hj; subst hj; exact h0
  | 1, hj => simp at hj; subst hj; exact h1
set_option maxRecDepth 100000 in
set_option maxHeartbeats 1000000 in
theorem rnext_some (w : World) (B gr gb : Nat) (rs : List RWay) (h : RNetAt w B gr gb rs) (hBw : B ≤ w.heap.size) (i : Nat) (r : RWay) (hr : rs[i]? = some r) (v : Value) (xs : List Int) (hv : r.fs[r.gone]? = some (v, xs)) :
    Calls Try.prog 60 #[ptr gr, .int .i64 i] w fun e w' => ∃ w1, e = .returned (.tuple #[v, .int .i64 0]) ∧ RNetAt w' B gr gb (rs.set i { r with gone := r.gone + 1 }) ∧ Below w.heap.size w w1 ∧ Buts [gb] w1 w' := by
  have hlt := (List.getElem?_eq_some_iff.1 hr).1
  have hkt := (List.getElem?_eq_some_iff.1 hv).1
  have hI := is_in w B gr gb rs h i hlt
  have c0 := h.row.cell (j := 0) (v := .slice (some ⟨gb, 0, none⟩) rs.length rs.length) rfl
  have ho := h.own r (List.mem_of_getElem? hr)
  obtain ⟨g, cap, e, cv⟩ := own_cell ho (k := r.gone) (x := v) (by rw [List.getElem?_map, hv]; rfl)
  have ca := h.rows.cell (rcell0 hr)
  have cb := h.rows.cell (rcell1 hr)
  rw [e] at ca
  have t2 := two_at ca cb
  have hd : decide ((r.fs.length : Int) ≤ (r.gone : Int)) = false := by simp; omega
  have hfew := h.few r (List.mem_of_getElem? hr)
  have hset := rcells_set1 (r' := { r with gone := r.gone + 1 }) hr rfl
  have hil : i * 2 + 1 < (rcells rs).length := by rw [rcells_len]; omega
  have hgr := h.row.lt
  have hgb := h.rows.lt
  have hgn : g ≠ gb := fun e2 => own_ne_row ho h.rows (by decide) (by rw [e, e2]; simp [Value.ownBlock])
  have hg : g < w.heap.size := (own_lo ho g (by rw [e]; simp [Value.ownBlock])).2.1
  have hH := hide h
  have HS := hide hset
  have HE := hide e
  have hm : rs.length = rs.length := rfl
  generalize hme : rs.length = m at c0 hlt
  generalize hqe : r.fs.length = q at *
  generalize hge : r.gone = k at *
  have HI := hide hI
  have HR := hide hr
  have HX := hide (And.intro hme (And.intro hqe hge))
  clear h ho hv hI hr e hset hm hme hqe hge
  go_enter Try.func60, Try.ntmps60
  go_wp2_with fail
  refine HI.out.mono ?_
  rintro en w1 ⟨rfl, rfl⟩
  go_wp2_with (first
    | (with_reducible refine wl_load_cells rfl 161 (.tmp 16) gb (i * 2) [.slice (some ⟨g, 0, none⟩) q cap, .int .i64 k] _ rfl rfl t2 Try.underlying161 rfl (szWay _ _) ?_)
    | ((with_reducible refine wl_alloc rfl 161 _ [.slice none 0 0, .int .i64 0] rfl zeroWay rfl ?_); intro g9 w2 r9 p9 l9 b9)
    | ((with_reducible refine wl_store_row rfl 161 (.tmp 6) (.tmp 17) g9 161 _ [.slice (some ⟨g, 0, none⟩) q cap, .int .i64 k] rfl rfl rfl r9 (szWay _ _) rfl (one_way _ _ _ _) ?_); intro w3 r10 o10; have bS : Below w.heap.size w w3 := b9.trans (o10.below p9); have h3 := hide (hH.out.later bS); have q0 := r10.cell (j := 0) rfl; have q1 := r10.cell (j := 1) rfl; have c0 := (bS.cell (p := ⟨gr, 0, none⟩) hgr).trans c0; have cb := (bS.cell (p := ⟨gb, i * 2 + 1, none⟩) hgb).trans cb; have cv := (bS.cell (p := ⟨g, k, none⟩) hg).trans cv)
    | ((with_reducible refine wl_store rfl 3 (.tmp 34) (.tmp 32) gb (i * 2 + 1) 161 (rcells rs) (.int .i64 (k + 1)) rfl szI rfl rfl h3.out.rows hil rfl ?_); intro w4 r11 o11; have r12 := r10.only o11 (Nat.ne_of_gt (Nat.lt_of_lt_of_le hgb p9)); have q0 := r12.cell (j := 0) rfl; have q1 := r12.cell (j := 1) rfl; have cv := (cell_only o11 (b := g) (j := k) hgn).trans cv))
  go_ret2
  have e5 : (rcells rs).set (i * 2 + 1) (.int .i64 ((k : Int) + 1)) = rcells (rs.set i ⟨r.L, r.fs, k + 1⟩) := HS.out
  rw [e5] at r11
  have hx := HX.out
  have hown := own_buts (h3.out.own r (List.mem_of_getElem? HR.out)) (Buts.only (S := [gb]) o11 (by simp)) (fun j hj hj2 => by simp at hj2; subst hj2; exact own_ne_row (h3.out.own r (List.mem_of_getElem? HR.out)) h3.out.rows (by decide) hj)
  exact ⟨w3, rfl, h3.out.turn (r' := ⟨r.L, r.fs, k + 1⟩) HR.out (Buts.only o11 (by simp)) r11 hown (fun p hp => (h3.out.frames r (List.mem_of_getElem? HR.out) p hp).buts (Buts.only (S := [gb]) o11 (by simp)) (fun j hj => by simp at hj; subst hj; exact h3.out.rows.notBy (by decide))) (by simp; omega) (by simp; omega) (.inl rfl), bS, Buts.only o11 (by simp)⟩
set_option maxRecDepth 100000 in
set_option maxHeartbeats 1000000 in
theorem rnext_none (w : World) (B gr gb : Nat) (rs : List RWay) (h : RNetAt w B gr gb rs) (i : Nat) (r : RWay) (hr : rs[i]? = some r) (hg : r.gone = r.fs.length) :
    Calls Try.prog 60 #[ptr gr, .int .i64 i] w fun e w' => e = .returned (.tuple #[.slice none 0 0, .int .i64 9]) ∧ Below w.heap.size w w' := by
  have hlt := (List.getElem?_eq_some_iff.1 hr).1
  have hI := is_in w B gr gb rs h i hlt
  have c0 := h.row.cell (j := 0) (v := .slice (some ⟨gb, 0, none⟩) rs.length rs.length) rfl
  have ho := h.own r (List.mem_of_getElem? hr)
  obtain ⟨A, cap, e⟩ := own_len ho
  have ca := h.rows.cell (rcell0 hr)
  have cb := h.rows.cell (rcell1 hr)
  rw [e] at ca
  have t2 := two_at ca cb
  have hd : decide ((r.fs.length : Int) ≤ (r.gone : Int)) = true := by simp; omega
  have hle : r.fs.length ≤ r.gone := by omega
  generalize hme : rs.length = m at c0 hlt
  generalize hqe : r.fs.length = q at *
  generalize hge : r.gone = k at *
  have HI := hide hI
  clear h ho hI hr e hme hqe hge hg
  go_enter Try.func60, Try.ntmps60
  go_wp2_with fail
  refine HI.out.mono ?_
  rintro en w1 ⟨rfl, rfl⟩
  go_wp2_with (first
    | (with_reducible refine wl_load_cells rfl 161 (.tmp 16) gb (i * 2) [.slice A q cap, .int .i64 k] _ rfl rfl t2 Try.underlying161 rfl (szWay _ _) ?_)
    | ((with_reducible refine wl_alloc rfl 161 _ [.slice none 0 0, .int .i64 0] rfl zeroWay rfl ?_); intro g9 w2 r9 p9 l9 b9)
    | ((with_reducible refine wl_store_row rfl 161 (.tmp 6) (.tmp 17) g9 161 _ [.slice A q cap, .int .i64 k] rfl rfl rfl r9 (szWay _ _) rfl (one_way _ _ _ _) ?_); intro w3 r10 o10; have bS : Below w.heap.size w w3 := b9.trans (o10.below p9); have q0 := r10.cell (j := 0) rfl; have q1 := r10.cell (j := 1) rfl))
  go_ret2
  exact ⟨rfl, bS⟩
end Go.Proofs.Ytlihoijbfffjcaa
