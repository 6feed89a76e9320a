/-
  The disk: what a disk is in memory: its row, its map, its files' bytes. Own work.
-/
import Derived.Test.YtaflmiopaiigbaaDiskD
namespace Go.Proofs.Ytaflmiopaiigbaa
open Go.RowKit Go.Maps Go.ChangeMaps
set_option linter.unusedVariables false
set_option linter.unusedSimpArgs false
/-- A file's bytes lie in a row of their own, at B or behind. -/
abbrev OwnF (w : World) (B : Nat) (f : FV) : Prop := w.ownsRow B 5 1 f.sl f.n (bv f.xs)
def FV.bk (f : FV) : List Nat := f.sl.ownBlock.toList
def FV.ok (f : FV) : Prop := 0 ≤ f.kept ∧ f.kept ≤ f.n ∧ f.n ≤ 1048576
structure FilesAt (w : World) (B : Nat) (fs : Fs) : Prop where
  own : ∀ p ∈ fs, OwnF w B p.2
  bd : ∀ p ∈ fs, p.2.ok
  apart : fs.Pairwise fun p q => ∀ k ∈ p.2.bk, k ∉ q.2.bk
structure DiskAt (w : World) (B gd : Nat) (pl : Value) (mb : Nat) (fs : Fs) : Prop where
  row : DRow w gd pl (.map (some mb))
  lo : B ≤ gd ∧ B ≤ mb
  map : FMap w mb fs
  files : FilesAt w B fs
  few : fs.length ≤ 64
theorem owf_lo {w : World} {B : Nat} {f : FV} (h : OwnF w B f) : ∀ k ∈ f.bk, B ≤ k ∧ k < w.heap.size ∧ ∃ cs, w.heap[k]? = some (.cells cs 5 (0, 0)) := by
  obtain ⟨hl, ho⟩ := h
  rcases ho with ⟨e, h0⟩ | ⟨g, cap, cur, e, h1, hg, _⟩
  · intro k hk
    rw [FV.bk, e] at hk
    simp [Value.ownBlock] at hk
  · intro k hk
    rw [FV.bk, e] at hk
    simp [Value.ownBlock] at hk
    subst hk
    exact ⟨h1, (Array.getElem?_eq_some_iff.1 hg).1, cur, hg⟩
theorem owf_buts {w w' : World} {B : Nat} {f : FV} {S : List Nat} (h : OwnF w B f) (hb : Buts S w w') (hS : ∀ k ∈ f.bk, k ∉ S) : OwnF w' B f := by
  have hlo := owf_lo h
  obtain ⟨hl, ho⟩ := h
  rcases ho with ⟨e, h0⟩ | ⟨g, cap, cur, e, h1, hg, hr⟩
  · exact ⟨hl, .inl ⟨e, h0⟩⟩
  · have hk : g ∈ f.bk := by rw [FV.bk, e]; simp [Value.ownBlock]
    exact ⟨hl, .inr ⟨g, cap, cur, e, h1, (hb.block g (hlo g hk).2.1 (hS g hk)).trans hg, hr⟩⟩
theorem owf_not_row {w : World} {B g t : Nat} {f : FV} {vs : List Value} (h : OwnF w B f) (hr : Row w t g vs) (ht : t ≠ 5) : g ∉ f.bk := by
  intro hk
  obtain ⟨_, _, cs, hc⟩ := owf_lo h g hk
  have := hr.symm.trans hc
  simp at this
  exact ht this.2
theorem owf_not_map {w : World} {B b : Nat} {f : FV} {l : Ents} (h : OwnF w B f) (hm : MapAt w b l) : b ∉ f.bk := by
  intro hk
  obtain ⟨_, _, cs, hc⟩ := owf_lo h b hk
  obtain ⟨es, clock, hb, _⟩ := hm
  rw [hb] at hc
  cases hc
theorem owf_bs {w : World} {B : Nat} {f : FV} (h : OwnF w B f) : Bs w w.heap.size f.A f.n f.xs := by
  obtain ⟨A', c', hv, hb, _⟩ := ownsRow_bs h
  injection hv with h1 _ _
  rw [h1]
  exact hb
theorem owf_nil {w : World} {B : Nat} : OwnF w B zV := ⟨rfl, .inl ⟨rfl, rfl⟩⟩
theorem FilesAt.buts {w w' : World} {B : Nat} {fs : Fs} {S : List Nat} (h : FilesAt w B fs) (hb : Buts S w w') (hS : ∀ p ∈ fs, ∀ k ∈ p.2.bk, k ∉ S) : FilesAt w' B fs := ⟨fun p hp => owf_buts (h.own p hp) hb (hS p hp), h.bd, h.apart⟩
theorem FilesAt.nil (w : World) (B : Nat) : FilesAt w B [] := ⟨fun p hp => absurd hp (by simp), fun p hp => absurd hp (by simp), List.Pairwise.nil⟩
theorem atF_mem {fs : Fs} {n : Nm} {f : FV} (h : atF fs n = some f) : (n, f) ∈ fs := by
  unfold atF at h
  cases hq : fs.find? fun p => p.1 == n with
  | none => rw [hq] at h; cases h
  | some p =>
    rw [hq] at h
    obtain rfl : p.2 = f := by simpa using h
    have h1 := List.mem_of_find?_eq_some hq
    have h2 := List.find?_some hq
    simp at h2
    rw [← h2]
    exact h1
theorem ins_perm (x : Nm × FV) : ∀ l : Fs, (insF x l).Perm (x :: l)
  | [] => List.Perm.refl _
  | y :: r => by
    unfold insF
    split
    · exact List.Perm.refl _
    · exact ((ins_perm x r).cons y).trans (List.Perm.swap ..)
theorem put_perm (l : Fs) (n : Nm) (f : FV) : (putF l n f).Perm ((n, f) :: delF l n) := ins_perm _ _
theorem mem_put {l : Fs} {n : Nm} {f : FV} {p : Nm × FV} (h : p ∈ putF l n f) : p = (n, f) ∨ (p ∈ l ∧ p.1 ≠ n) := by
  rcases List.mem_cons.1 ((put_perm l n f).mem_iff.1 h) with h | h
  · exact .inl h
  · have := List.mem_filter.1 h
    simp at this
    exact .inr this
theorem put_len (l : Fs) (n : Nm) (f : FV) : (putF l n f).length ≤ l.length + 1 := by
  rw [(put_perm l n f).length_eq]
  have := List.length_filter_le (fun p : Nm × FV => !(p.1 == n)) l
  simp only [List.length_cons, delF]
  omega
theorem put_len' {l : Fs} {n : Nm} (f : FV) (h : (atF l n).isSome = true) : (putF l n f).length ≤ l.length := by
  rw [(put_perm l n f).length_eq]
  obtain ⟨q, hq⟩ := Option.isSome_iff_exists.1 h
  have hm := atF_mem hq
  have : (delF l n).length < l.length := by
    refine List.length_filter_lt_length_iff_exists.2 ⟨_, hm, by simp⟩
  simp only [List.length_cons]
  omega
theorem FilesAt.put {w : World} {B : Nat} {fs : Fs} {n : Nm} {f : FV} (h : FilesAt w B fs) (ho : OwnF w B f) (hb : f.ok) (ha : ∀ p ∈ fs, p.1 ≠ n → ∀ k ∈ p.2.bk, k ∉ f.bk) : FilesAt w B (putF fs n f) := by
  refine ⟨fun p hp => ?_, fun p hp => ?_, ?_⟩
  · rcases mem_put hp with rfl | ⟨hp, _⟩
    · exact ho
    · exact h.own p hp
  · rcases mem_put hp with rfl | ⟨hp, _⟩
    · exact hb
    · exact h.bd p hp
  · refine ((put_perm fs n f).pairwise_iff (fun {x y} hxy k hk hk2 => hxy k hk2 hk)).2 (List.pairwise_cons.2 ⟨fun q hq k hk hk2 => ?_, h.apart.sublist List.filter_sublist⟩)
    have := List.mem_filter.1 hq
    simp at this
    exact ha q this.1 this.2 k hk2 hk
theorem DiskAt.later {w w' : World} {B gd mb : Nat} {pl : Value} {fs : Fs} (h : DiskAt w B gd pl mb fs) (hb : Below w.heap.size w w') : DiskAt w' B gd pl mb fs :=
  ⟨Row.later h.row hb, h.lo, h.map.later hb, h.files.buts (Buts.of hb []) (fun _ _ _ _ hk => by cases hk), h.few⟩
/-- The blocks of a disk. -/
def dblocks (gd mb : Nat) (fs : Fs) : List Nat := gd :: mb :: fs.flatMap (·.2.bk)
theorem mem_dblocks {gd mb k : Nat} {fs : Fs} : k ∈ dblocks gd mb fs ↔ k = gd ∨ k = mb ∨ ∃ p ∈ fs, k ∈ p.2.bk := by simp [dblocks]
theorem DiskAt.buts {w w' : World} {B gd mb : Nat} {pl : Value} {fs : Fs} {S : List Nat} (h : DiskAt w B gd pl mb fs) (hb : Buts S w w') (hS : ∀ k ∈ dblocks gd mb fs, k ∉ S) : DiskAt w' B gd pl mb fs :=
  ⟨Row.buts h.row hb (hS _ (mem_dblocks.2 (.inl rfl))), h.lo, h.map.buts hb (hS _ (mem_dblocks.2 (.inr (.inl rfl)))), h.files.buts hb (fun p hp k hk => hS k (mem_dblocks.2 (.inr (.inr ⟨p, hp, hk⟩)))), h.few⟩
theorem DiskAt.blo {w : World} {B gd mb : Nat} {pl : Value} {fs : Fs} (h : DiskAt w B gd pl mb fs) : ∀ k ∈ dblocks gd mb fs, B ≤ k ∧ k < w.heap.size := by
  intro k hk
  rcases mem_dblocks.1 hk with rfl | rfl | ⟨p, hp, hk⟩
  · exact ⟨h.lo.1, h.row.lt⟩
  · exact ⟨h.lo.2, h.map.lt⟩
  · exact ⟨(owf_lo (h.files.own p hp) k hk).1, (owf_lo (h.files.own p hp) k hk).2.1⟩
/-- A store into the map: what was there stays. -/
theorem DiskAt.stored {w w' : World} {B gd mb : Nat} {pl : Value} {fs : Fs} {n : Nm} {f : FV} (h : DiskAt w B gd pl mb fs) (hm : MapAt w' mb (putE (ents fs) n f.val)) (hB : Buts [mb] w w') (hf : OwnF w B f) (hb : f.ok) (ha : ∀ p ∈ fs, p.1 ≠ n → ∀ k ∈ p.2.bk, k ∉ f.bk) (hl : (atF fs n).isSome = true ∨ fs.length < 64) : DiskAt w' B gd pl mb (putF fs n f) := by
  refine ⟨Row.buts h.row hB (fun e => h.map.ne_row h.row (List.mem_singleton.1 e).symm), h.lo, ?_, (h.files.put hf hb ha).buts hB ?_, ?_⟩
  · show MapAt w' mb (ents (putF fs n f))
    rw [ents_put]
    exact hm
  · intro p hp k hk hk2
    simp at hk2
    subst hk2
    rcases mem_put hp with rfl | ⟨hp, _⟩
    · exact owf_not_map hf h.map hk
    · exact owf_not_map (h.files.own p hp) h.map hk
  · rcases hl with hl | hl
    · exact Nat.le_trans (put_len' f hl) h.few
    · have := put_len fs n f
      omega
end Go.Proofs.Ytaflmiopaiigbaa
