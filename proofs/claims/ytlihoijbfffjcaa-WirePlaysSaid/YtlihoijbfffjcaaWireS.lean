/-
  The law WirePlays: its acts, few, both sides held against each other. Own work.
-/
import Derived.Test.YtlihoijbfffjcaaWireR
namespace Go.Proofs.Ytlihoijbfffjcaa
open Go.RowKit Go.Conc
set_option linter.unusedVariables false
set_option linter.unusedSimpArgs false
/-- One act. -/
structure WAct where
  k : Int
  way : Int
  A : Option Addr
  n : Nat
  c : Nat
  xs : List Int
  q : Int
/-- Acts that came in. -/
def WActs (w : World) (B : Nat) (A : Option Addr) (n : Nat) (f : Nat → WAct) : Prop :=
  0 < n → ∃ b o, A = some ⟨b, o, none⟩ ∧ b < B ∧ ∀ j, j < n → (w.cell? ⟨b, o + j * 4, none⟩ = some (.int .u8 (f j).k) ∧ w.cell? ⟨b, o + j * 4 + 1, none⟩ = some (.int .i64 (f j).way) ∧ w.cell? ⟨b, o + j * 4 + 2, none⟩ = some (.slice (f j).A (f j).n (f j).c) ∧ w.cell? ⟨b, o + j * 4 + 3, none⟩ = some (.int .i64 (f j).q)) ∧ Bs w B (f j).A (f j).n (f j).xs
set_option maxRecDepth 100000 in
set_option maxHeartbeats 1000000 in
theorem few_any (w : World) (A : Option Addr) (m c : Nat) (f : Nat → WAct) (h : WActs w w.heap.size A m f) : Calls Try.prog 57 #[.slice A m c] w fun e w' => (∃ b : Bool, e = .returned (.bool b) ∧ (b = true → m ≤ 60 ∧ ∀ j, j < m → (f j).n ≤ 300)) ∧ w = w' := by
  by_cases hlong : (60 : Int) < (m : Int)
  · have hd : decide ((60 : Int) < (m : Int)) = true := by simp; omega
    go_enter Try.func57, Try.ntmps57
    go_wp2_with fail
    go_ret
    exact ⟨⟨false, rfl, fun h => by cases h⟩, rfl⟩
  · have hd : decide ((60 : Int) < (m : Int)) = false := by simp; omega
    have hm : m ≤ 60 := by omega
    have H := hide h
    clear h hlong
    go_enter Try.func57, Try.ntmps57
    go_wp2_with fail
    go_loopw [3] (fun iv wr => ∃ (i : Nat), i ≤ m ∧ iv = .int .i64 i ∧ wr = w ∧ ∀ j, j < i → (f j).n ≤ 300) (fun iv _ => m - (intOf iv).toNat)
    case atStart => exact ⟨0, by omega, rfl, rfl, fun j hj => absurd hj (by omega)⟩
    case round =>
      obtain ⟨i, him, rfl, rfl, hs⟩ := hrel
      have HS := hide hs
      clear hs
      by_cases hi : i < m
      · obtain ⟨bb, oo, rfl, hbb, hcc⟩ := H.out (by omega)
        obtain ⟨⟨_, _, ci, _⟩, _⟩ := hcc i hi
        clear hcc
        generalize hne : (f i).n = n' at ci
        by_cases hsh : (300 : Int) < (n' : Int)
        · have hd2 : decide ((300 : Int) < (n' : Int)) = true := by simp; omega
          have HNE := hide hne
          clear hne
          go_wp2_with fail
          go_ret
          exact ⟨⟨false, rfl, fun h => by cases h⟩, rfl⟩
        · have hd2 : decide ((300 : Int) < (n' : Int)) = false := by simp; omega
          have HNE := hide hne
          clear hne
          go_wp2_with fail
          go_roundw
          case rel => exact ⟨i + 1, by omega, by go_num, by first | rfl | trivial, fun j hj => by
            by_cases hji : j = i
            · subst hji; rw [HNE.out]; omega
            · exact HS.out j (by omega)⟩
          case measure => simp [intOf]; omega
      · obtain rfl : i = m := by omega
        go_wp2_with fail
        go_ret
        exact ⟨⟨true, rfl, fun _ => ⟨hm, HS.out⟩⟩, rfl⟩
set_option maxRecDepth 100000 in
theorem nsend_where (w : World) (B gw : Nat) (hB : B ≤ w.heap.size) (nv : Value) (ls : List Way) (h : NetAt w B gw nv ls) (i : Nat) (l : Way) (hl : ls[i]? = some l) (hlt : l.fs.length < 200) (A : Option Addr) (n c : Nat) (xs : List Int) (hx : Bs w w.heap.size A n xs) (hn : n ≤ 131072) :
    Calls Try.prog 64 #[ptr gw, .int .i64 i, .slice A n c] w fun e w' => e = .returned (.int .i64 0) ∧ ∃ v bv, NetAt w' B gw nv (ls.set i (l.sent v xs bv)) ∧ Buts l.blocks w w' ∧ (bv.ownBlock = l.bv.ownBlock ∨ ∀ k ∈ bv.ownBlock.toList, w.heap.size ≤ k) := by
  have hL := lane_in w B gw nv ls h i l hl
  have hd : decide (131072 < (n : Int)) = false := by simp; omega
  have hxl := hx.1
  go_enter Try.func64, Try.ntmps64
  go_wp2_with fail
  refine hL.mono ?_
  rintro en w1 ⟨rfl, rfl⟩
  go_wp2_with fail
  refine (clone_own A n c xs w hx (by omega)).mono ?_
  rintro en w1 ⟨A1, c1, rfl, ho, b1⟩
  have h1 := h.later b1
  go_wp2_with fail
  refine (send_room w1 B (Nat.le_trans hB b1.size) l (h1.mem hl) hlt A1 n c1 xs (ByV.of_row ho)).mono ?_
  rintro en w2 ⟨rfl, bv, hw2, b2, hbv⟩
  go_wp2_with fail
  go_ret
  exact ⟨rfl, _, bv, h1.turn hl b2 hw2 rfl rfl hbv, (Buts.of b1 _).trans b2, hbv.imp id fun e k hk => Nat.le_trans b1.size (e k hk)⟩
/-- All blocks of a net. -/
def nblocks (gw : Nat) (nv : Value) (ls : List Way) : List Nat := gw :: (nv.ownBlock.toList ++ ls.flatMap Way.blocks)
theorem mem_nblocks {gw k : Nat} {nv : Value} {ls : List Way} : k ∈ nblocks gw nv ls ↔ k = gw ∨ k ∈ nv.ownBlock.toList ∨ ∃ l ∈ ls, k ∈ l.blocks := by simp [nblocks]
theorem mem_rblocks {gr gb k : Nat} {rs : List RWay} : k ∈ rblocks gr gb rs ↔ k = gr ∨ k = gb ∨ ∃ r ∈ rs, k ∈ r.L.ownBlock.toList := by simp [rblocks]
theorem NetAt.nlt {w : World} {B gw : Nat} {nv : Value} {ls : List Way} (h : NetAt w B gw nv ls) : ∀ k ∈ nblocks gw nv ls, B ≤ k ∧ k < w.heap.size := by
  intro k hk
  rcases mem_nblocks.1 hk with rfl | hk | ⟨l, hl, hk⟩
  · exact ⟨h.lo, h.row.lt⟩
  · have := own_lo h.own k hk; exact ⟨this.1, this.2.1⟩
  · exact (h.ways l hl).lo k hk
/-- The same was sent, and the same is gone. -/
structure Sm (ls : List Way) (rs : List RWay) : Prop where
  len : ls.length = rs.length
  eq : ∀ (i : Nat) (l : Way) (r : RWay), ls[i]? = some l → rs[i]? = some r → l.fs.map (·.2) = r.fs.map (·.2) ∧ l.gone = r.gone ∧ ∀ p ∈ l.fs, p.2.length ≤ 300
theorem Sm.turn {ls : List Way} {rs : List RWay} (h : Sm ls rs) {i : Nat} {l : Way} {r : RWay} (hf : l.fs.map (·.2) = r.fs.map (·.2)) (hg : l.gone = r.gone) (hs : ∀ p ∈ l.fs, p.2.length ≤ 300) : Sm (ls.set i l) (rs.set i r) := by
  refine ⟨by simp [h.len], fun j a b ha hb => ?_⟩
  by_cases hji : j = i
  · subst hji
    by_cases hlt : j < ls.length
    · rw [List.getElem?_set_self hlt] at ha
      rw [List.getElem?_set_self (h.len ▸ hlt)] at hb
      injection ha with ha
      injection hb with hb
      subst ha
      subst hb
      exact ⟨hf, hg, hs⟩
    · rw [List.getElem?_eq_none (by simpa using hlt)] at ha
      cases ha
  · rw [List.getElem?_set_ne (Ne.symm hji)] at ha hb
    exact h.eq j a b ha hb
/-- Both nets stand, apart, and hold the same. -/
structure Two (w : World) (B gw : Nat) (nv : Value) (ls : List Way) (gr gb : Nat) (rs : List RWay) : Prop where
  net : NetAt w B gw nv ls
  ref : RNetAt w B gr gb rs
  sm : Sm ls rs
  dis : ∀ k ∈ nblocks gw nv ls, k ∉ rblocks gr gb rs
theorem Two.later {w w' : World} {B gw gr gb : Nat} {nv : Value} {ls : List Way} {rs : List RWay} (h : Two w B gw nv ls gr gb rs) (hb : Below w.heap.size w w') : Two w' B gw nv ls gr gb rs := ⟨h.net.later hb, h.ref.later hb, h.sm, h.dis⟩
end Go.Proofs.Ytlihoijbfffjcaa
