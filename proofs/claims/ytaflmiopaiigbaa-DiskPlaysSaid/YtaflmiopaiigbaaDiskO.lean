/-
  The disk: Crash. Own work.
-/
import Derived.Test.YtaflmiopaiigbaaDiskN
namespace Go.Proofs.Ytaflmiopaiigbaa
open Go.RowKit Go.Maps Go.ChangeMaps
set_option linter.unusedVariables false
set_option linter.unusedSimpArgs false
def riseF (l : Fs) : Prop := l.Pairwise fun p q => bytesBefore p.1 q.1 = true
theorem bb_asymm {a b : Nm} (h : bytesBefore a b = true) : bytesBefore b a = false := by
  cases hq : bytesBefore b a with
  | false => rfl
  | true => exact absurd (List.lt_trans (bb_lt _ _ h) (bb_lt _ _ hq)) (List.lt_irrefl _)
theorem bb_ne {a b : Nm} (h : bytesBefore a b = true) : a ≠ b := fun e => by
  subst e
  rw [Go.WideAt.bytes_irrefl] at h
  cases h
theorem FMap.rise {w : World} {b : Nat} {fs : Fs} (h : FMap w b fs) : riseF fs := by
  have := MapAt.rise h
  unfold riseE ents at this
  rw [List.pairwise_map] at this
  exact this
theorem del_none {l : Fs} {n : Nm} (h : ∀ p ∈ l, p.1 ≠ n) : delF l n = l := by
  unfold delF
  rw [List.filter_eq_self]
  intro p hp
  simpa using h p hp
theorem put_set : ∀ (l : Fs) (i : Nat) (n : Nm) (f v : FV), riseF l → l[i]? = some (n, f) → putF l n v = l.set i (n, v)
  | [], i, n, f, v, _, h => by simp at h
  | p :: r, 0, n, f, v, hr, h => by
    have h1 := (List.pairwise_cons.1 hr).1
    simp at h
    subst h
    have hd : delF ((n, f) :: r) n = r := by
      have : delF ((n, f) :: r) n = delF r n := by simp [delF]
      rw [this]
      exact del_none fun q hq e => bb_ne (h1 q hq) e.symm
    unfold putF
    rw [hd]
    cases r with
    | nil => rfl
    | cons q s =>
      have := h1 q (List.mem_cons_self ..)
      simp only [insF, this, if_true, List.set_cons_zero]
  | p :: r, i + 1, n, f, v, hr, h => by
    have hp := List.pairwise_cons.1 hr
    have h2 : r[i]? = some (n, f) := by simpa using h
    have hb := hp.1 (n, f) (List.mem_of_getElem? h2)
    have hd : delF (p :: r) n = p :: delF r n := by
      have : (p.1 == n) = false := by simpa using bb_ne hb
      simp [delF, this]
    have ih := put_set r i n f v hp.2 h2
    unfold putF at ih ⊢
    rw [hd]
    simp only [insF, bb_asymm hb, List.set_cons_succ, ← ih]
    rfl
theorem at_nth {l : Fs} {i : Nat} {n : Nm} {f : FV} (hr : riseF l) (h : l[i]? = some (n, f)) : atF l n = some f := by
  have hm := List.mem_of_getElem? h
  cases hq : atF l n with
  | none =>
    have : (l.find? fun p => p.1 == n) = none := by simpa [atF] using hq
    have := List.find?_eq_none.1 this _ hm
    simp at this
  | some g =>
    have h2 := atF_mem hq
    rcases pw_mem hr hm h2 with e | e | e
    · cases e; rfl
    · exact absurd rfl (bb_ne e)
    · exact absurd rfl (bb_ne e)
/-- What a crash leaves of a file. -/
def tornN (f : FV) (cut : Int) : Nat := f.kept.toNat + tornR cut (f.n - f.kept.toNat)
def tornV (f : FV) (cut : Int) : FV := ⟨f.A, tornN f cut, f.c, f.xs.take (tornN f cut), (tornN f cut : Int)⟩
theorem tornN_le {f : FV} (h : f.ok) (cut : Int) : tornN f cut ≤ f.n := by
  have h1 := (tornR_eq cut (f.n - f.kept.toNat)).2
  have h2 := h.2.1
  have h3 := h.1
  unfold tornN
  omega
theorem tornV_ok {f : FV} (h : f.ok) (cut : Int) : (tornV f cut).ok := ⟨by show (0 : Int) ≤ (tornN f cut : Int); omega, Int.le_refl _, Nat.le_trans (tornN_le h cut) h.2.2⟩
theorem owf_cap {w : World} {B : Nat} {f : FV} (h : OwnF w B f) : f.n ≤ f.c := by
  rcases h.2 with ⟨e, h0⟩ | ⟨g, cap, cur, e, _, _, hc, _⟩
  · omega
  · injection e with _ _ e3
    omega
theorem tornV_own {w : World} {B : Nat} {f : FV} (h : OwnF w B f) (hk : f.ok) (cut : Int) : OwnF w B (tornV f cut) := by
  have hle := tornN_le hk cut
  have hb := owf_bs h
  obtain ⟨hl, ho⟩ := h
  have hxl : f.xs.length = f.n := by simpa [bv] using hl
  refine ⟨by simp [bv, tornV]; omega, ?_⟩
  rcases ho with ⟨e, h0⟩ | ⟨g, cap, cur, e, h1, hg, h2, h3, h4, h5⟩
  · injection e with e1 e2 e3
    refine .inl ⟨?_, by show tornN f cut = 0; omega⟩
    show Value.slice f.A (tornN f cut) f.c = _
    rw [e1, e3, show tornN f cut = 0 by omega]
  · injection e with e1 e2 e3
    refine .inr ⟨g, cap, cur, ?_, h1, hg, Nat.le_trans hle h2, h3, h4, ?_⟩
    · show Value.slice f.A (tornN f cut) f.c = _
      rw [e1, e3]
      rfl
    · show cur.toList.take (tornN f cut * 1) = bv (f.xs.take (tornN f cut))
      rw [Nat.mul_one] at h5 ⊢
      have : cur.toList.take (tornN f cut) = (cur.toList.take f.n).take (tornN f cut) := by rw [List.take_take, Nat.min_eq_left hle]
      rw [this, h5, bv, bv, List.map_take]
theorem tornV_bk (f : FV) (cut : Int) : (tornV f cut).bk = f.bk := by
  unfold FV.bk FV.sl tornV
  cases f.A with
  | none => rfl
  | some a => rfl
theorem torn_fv (w : World) (f : FV) (cut : Int) (hk : f.ok) (hc : f.n ≤ f.c) :
    Calls Try.prog 62 #[f.val, .int .i64 cut] w fun e w' => e = .returned (tornV f cut).val ∧ Below w.heap.size w w' := by
  have h1 := hk.1
  have h2 := hk.2.1
  have := torn_any w f.A f.n f.c f.kept.toNat cut (by omega) hk.2.2 hc
  rw [show ((f.kept.toNat : Nat) : Int) = f.kept by omega] at this
  exact this
/-- Numbers that came in. -/
def IsAt (w : World) (B : Nat) (A : Option Addr) (m : Nat) (cs : List Int) : Prop := cs.length = m ∧ (0 < m → ∃ b o, A = some ⟨b, o, none⟩ ∧ b < B ∧ ∀ j, j < m → w.cell? ⟨b, o + j, none⟩ = some (.int .i64 (cs.getD j 0)))
theorem IsAt.below {w w' : World} {B : Nat} {A : Option Addr} {m : Nat} {cs : List Int} (h : IsAt w B A m cs) (hb : Below B w w') : IsAt w' B A m cs := ⟨h.1, fun h0 => by
  obtain ⟨b, o, e, hlt, hc⟩ := h.2 h0
  exact ⟨b, o, e, hlt, fun j hj => (hb.cell (p := ⟨b, o + j, none⟩) hlt).trans (hc j hj)⟩⟩
/-- The files behind the first i were torn. -/
def crashTo (fs : Fs) (cs : List Int) (i : Nat) : Fs := fs.mapIdx fun j p => if j < i then (p.1, tornV p.2 (cs.getD j 0)) else p
theorem crashTo_zero (fs : Fs) (cs : List Int) : crashTo fs cs 0 = fs := by
  apply List.ext_getElem?
  intro j
  simp [crashTo]
theorem crashTo_len (fs : Fs) (cs : List Int) (i : Nat) : (crashTo fs cs i).length = fs.length := by simp [crashTo]
theorem crashTo_at (fs : Fs) (cs : List Int) (i : Nat) : (crashTo fs cs i)[i]? = fs[i]? := by
  simp [crashTo]
theorem crashTo_set (fs : Fs) (cs : List Int) (i : Nat) {n : Nm} {f : FV} (h : fs[i]? = some (n, f)) : (crashTo fs cs i).set i (n, tornV f (cs.getD i 0)) = crashTo fs cs (i + 1) := by
  apply List.ext_getElem?
  intro j
  have hlt := (List.getElem?_eq_some_iff.1 h).1
  rw [List.getElem?_set]
  by_cases hj : i = j
  · subst hj
    have e := (List.getElem?_eq_some_iff.1 h).2
    simp [crashTo, hlt, e]
  · rw [if_neg hj]
    simp only [crashTo, List.getElem?_mapIdx]
    cases hq : fs[j]? with
    | none => rfl
    | some p =>
      by_cases h1 : j < i
      · simp [h1, show j < i + 1 by omega]
      · simp [h1, show ¬ j < i + 1 by omega]
theorem run_lookG {o : Oper} {a : Act} {w : World} {b : Nat} {fs : Fs} {n : Nm} {f : FV} (m x : Operand) (ho : o.op = .lookup 70 m x false) (hm : a.eval m = .map (some b)) (hx : a.eval x = encStr n) (h : FMap w b fs) (hn : n.length ≤ maxLen) (hf : (atF fs n).getD zV = f) :
    (execOp a.eval o).run Try.prog w = .ok (.value f.val) w := hf ▸ run_lookF1 m x ho hm hx h hn
end Go.Proofs.Ytaflmiopaiigbaa
