/-
  The law WirePlays: both nets in one world, one of them turned. Own work.
-/
import Derived.Test.YtlihoijbfffjcaaWireS
namespace Go.Proofs.Ytlihoijbfffjcaa
open Go.RowKit Go.Conc
set_option linter.unusedVariables false
set_option linter.unusedSimpArgs false
/-- Both nets stand, apart. -/
structure Duo (w : World) (B gw : Nat) (nv : Value) (ls : List Way) (gr gb : Nat) (rs : List RWay) : Prop where
  net : NetAt w B gw nv ls
  ref : RNetAt w B gr gb rs
  dis : ∀ k ∈ nblocks gw nv ls, k ∉ rblocks gr gb rs
theorem Duo.later {w w' : World} {B gw gr gb : Nat} {nv : Value} {ls : List Way} {rs : List RWay} (h : Duo w B gw nv ls gr gb rs) (hb : Below w.heap.size w w') : Duo w' B gw nv ls gr gb rs := ⟨h.net.later hb, h.ref.later hb, h.dis⟩
theorem way_in {gw k : Nat} {nv : Value} {ls : List Way} {i : Nat} {l : Way} (hl : ls[i]? = some l) (hk : k ∈ l.blocks) : k ∈ nblocks gw nv ls := mem_nblocks.2 (.inr (.inr ⟨l, List.mem_of_getElem? hl, hk⟩))
theorem rway_in {gr gb k : Nat} {rs : List RWay} {i : Nat} {r : RWay} (hr : rs[i]? = some r) (hk : k ∈ gb :: r.L.ownBlock.toList) : k ∈ rblocks gr gb rs := by
  rcases List.mem_cons.1 hk with rfl | hk
  · exact mem_rblocks.2 (.inr (.inl rfl))
  · exact mem_rblocks.2 (.inr (.inr ⟨r, List.mem_of_getElem? hr, hk⟩))
theorem nblocks_set {gw k T : Nat} {nv : Value} {ls : List Way} {i : Nat} {l l' : Way} (hl : ls[i]? = some l) (hg : l'.gl = l.gl) (hc : l'.c = l.c) (hbv : l'.bv.ownBlock = l.bv.ownBlock ∨ ∀ k ∈ l'.bv.ownBlock.toList, T ≤ k) (hk : k ∈ nblocks gw nv (ls.set i l')) : k ∈ nblocks gw nv ls ∨ T ≤ k := by
  rcases mem_nblocks.1 hk with e | h1 | ⟨q, hq, h1⟩
  · exact .inl (mem_nblocks.2 (.inl e))
  · exact .inl (mem_nblocks.2 (.inr (.inl h1)))
  · rcases List.mem_or_eq_of_mem_set hq with hq | e
    · exact .inl (mem_nblocks.2 (.inr (.inr ⟨q, hq, h1⟩)))
    · rw [e] at h1
      simp only [Way.blocks, List.mem_cons] at h1
      rcases h1 with e2 | e2 | h1
      · exact .inl (way_in hl (by rw [e2, hg]; simp [Way.blocks]))
      · exact .inl (way_in hl (by rw [e2, hc]; simp [Way.blocks]))
      · rcases hbv with e3 | e3
        · rw [e3] at h1
          exact .inl (way_in hl (by simp only [Way.blocks, List.mem_cons]; exact .inr (.inr h1)))
        · exact .inr (e3 k h1)
theorem rblocks_set {gr gb k T : Nat} {rs : List RWay} {i : Nat} {r r' : RWay} (hr : rs[i]? = some r) (hbv : r'.L.ownBlock = r.L.ownBlock ∨ ∀ k ∈ r'.L.ownBlock.toList, T ≤ k) (hk : k ∈ rblocks gr gb (rs.set i r')) : k ∈ rblocks gr gb rs ∨ T ≤ k := by
  rcases mem_rblocks.1 hk with e | e | ⟨q, hq, h1⟩
  · exact .inl (mem_rblocks.2 (.inl e))
  · exact .inl (mem_rblocks.2 (.inr (.inl e)))
  · rcases List.mem_or_eq_of_mem_set hq with hq | e
    · exact .inl (mem_rblocks.2 (.inr (.inr ⟨q, hq, h1⟩)))
    · rw [e] at h1
      rcases hbv with e3 | e3
      · rw [e3] at h1
        exact .inl (rway_in hr (List.mem_cons_of_mem _ h1))
      · exact .inr (e3 k h1)
theorem Duo.turnN {w w' : World} {B gw gr gb : Nat} {nv : Value} {ls : List Way} {rs : List RWay} (h : Duo w B gw nv ls gr gb rs) {i : Nat} {l l' : Way} (hl : ls[i]? = some l) (hb : Buts l.blocks w w') (hN : NetAt w' B gw nv (ls.set i l')) (hg : l'.gl = l.gl) (hc : l'.c = l.c) (hbv : l'.bv.ownBlock = l.bv.ownBlock ∨ ∀ k ∈ l'.bv.ownBlock.toList, w.heap.size ≤ k) : Duo w' B gw nv (ls.set i l') gr gb rs := by
  refine ⟨hN, h.ref.buts hb (fun k hk hk2 => h.dis k (way_in hl hk2) hk) ((h.net.mem hl).notBy), fun k hk hk2 => ?_⟩
  rcases nblocks_set hl hg hc hbv hk with hk | hk
  · exact h.dis k hk hk2
  · have := (h.ref.lt k hk2).2
    omega
theorem Duo.turnR {w w' : World} {B gw gr gb : Nat} {nv : Value} {ls : List Way} {rs : List RWay} (h : Duo w B gw nv ls gr gb rs) {i : Nat} {r r' : RWay} (hr : rs[i]? = some r) (hb : Buts (gb :: r.L.ownBlock.toList) w w') (hN : RNetAt w' B gr gb (rs.set i r')) (hbv : r'.L.ownBlock = r.L.ownBlock ∨ ∀ k ∈ r'.L.ownBlock.toList, w.heap.size ≤ k) : Duo w' B gw nv ls gr gb (rs.set i r') := by
  have hd := fun k (hk : k ∈ nblocks gw nv ls) (hk2 : k ∈ gb :: r.L.ownBlock.toList) => h.dis k hk (rway_in hr hk2)
  refine ⟨h.net.other hb (hd _ (mem_nblocks.2 (.inl rfl))) (fun k hk => hd k (mem_nblocks.2 (.inr (.inl hk)))) (fun l hl k hk => hd k (mem_nblocks.2 (.inr (.inr ⟨l, hl, hk⟩)))) ?_, hN, fun k hk hk2 => ?_⟩
  · intro k hk
    rcases List.mem_cons.1 hk with rfl | hk
    · exact h.ref.rows.notBy (by decide)
    · exact own_notBy' (h.ref.own r (List.mem_of_getElem? hr)) k hk
  · rcases rblocks_set hr hbv hk2 with hk2 | hk2
    · exact h.dis k hk hk2
    · have := (h.net.nlt k hk).2
      omega
/-- What the two sends keep: by which of the two has been carried out. -/
def PJ (w0 : World) (B gw : Nat) (nv : Value) (ls : List Way) (gr gb : Nat) (rs : List RWay) (i : Nat) (l : Way) (r : RWay) (xs : List Int) (bs : List Bool) (vs : List Value) (w : World) : Prop :=
  Below B w0 w ∧ ∃ ls' rs', Duo w B gw nv ls' gr gb rs' ∧ (bs.getD 0 false = false → ls' = ls) ∧ (bs.getD 0 false = true → ∃ v bv, ls' = ls.set i (l.sent v xs bv)) ∧ (bs.getD 1 false = false → rs' = rs) ∧ (bs.getD 1 false = true → ∃ v Lv, rs' = rs.set i ⟨Lv, r.fs ++ [(v, xs)], r.gone⟩)
theorem Sm.sent {ls : List Way} {rs : List RWay} (h : Sm ls rs) {i : Nat} {l : Way} {r : RWay} (hl : ls[i]? = some l) (hr : rs[i]? = some r) {v bv v' Lv : Value} {xs : List Int} (hx : xs.length ≤ 300) : Sm (ls.set i (l.sent v xs bv)) (rs.set i ⟨Lv, r.fs ++ [(v', xs)], r.gone⟩) := by
  obtain ⟨h1, h2, h3⟩ := h.eq i l r hl hr
  refine h.turn (by simp [Way.sent, h1]) h2 ?_
  intro p hp
  rcases List.mem_append.1 hp with hp | hp
  · exact h3 p hp
  · simp at hp; subst hp; exact hx
theorem Sm.went {ls : List Way} {rs : List RWay} (h : Sm ls rs) {i : Nat} {l : Way} {r : RWay} (hl : ls[i]? = some l) (hr : rs[i]? = some r) : Sm (ls.set i { l with gone := l.gone + 1 }) (rs.set i { r with gone := r.gone + 1 }) := by
  obtain ⟨h1, h2, h3⟩ := h.eq i l r hl hr
  exact h.turn h1 (by simp [h2]) h3
theorem Sm.at_ {ls : List Way} {rs : List RWay} (h : Sm ls rs) {i : Nat} {l : Way} {r : RWay} (hl : ls[i]? = some l) (hr : rs[i]? = some r) : l.fs.length = r.fs.length ∧ l.gone = r.gone ∧ ∀ (k : Nat) (v : Value) (xs : List Int), l.fs[k]? = some (v, xs) → ∃ v' : Value, r.fs[k]? = some (v', xs) := by
  obtain ⟨h1, h2, h3⟩ := h.eq i l r hl hr
  refine ⟨by simpa using congrArg List.length h1, h2, fun k v xs hk => ?_⟩
  have e : (l.fs.map (·.2))[k]? = (r.fs.map (·.2))[k]? := by rw [h1]
  rw [List.getElem?_map, List.getElem?_map, hk] at e
  cases hq : r.fs[k]? with
  | none => rw [hq] at e; cases e
  | some p =>
    rw [hq] at e
    simp at e
    exact ⟨p.1, by rw [e]⟩
end Go.Proofs.Ytlihoijbfffjcaa
