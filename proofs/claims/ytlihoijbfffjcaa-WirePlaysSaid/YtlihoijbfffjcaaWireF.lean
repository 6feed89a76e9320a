/-
  A net of ways: send, pick, lose, count, waiting; the laws' own 'awake': contracts. Own work.
-/
import Derived.Test.YtlihoijbfffjcaaWireE
namespace Go.Proofs.Ytlihoijbfffjcaa
open Go.RowKit Go.Conc
set_option linter.unusedVariables false
set_option linter.unusedSimpArgs false
theorem blocks_c {l : Way} : ∀ k ∈ [l.c], k ∈ l.blocks := by intro k hk; simp at hk; subst hk; simp [Way.blocks]
theorem blk_lo {w : World} {B gw : Nat} {nv : Value} {ls : List Way} (h : NetAt w B gw nv ls) {i : Nat} {l : Way} (hl : ls[i]? = some l) : ∀ k ∈ l.blocks, B ≤ k := fun k hk => ((h.mem hl).lo k hk).1
set_option maxRecDepth 100000 in
theorem npick_some (w : World) (B gw : Nat) (nv : Value) (ls : List Way) (h : NetAt w B gw nv ls) (i : Nat) (l : Way) (hl : ls[i]? = some l) (k : Nat) (v : Value) (xs : List Int) (hv : l.fs[k]? = some (v, xs)) (hx : xs.length ≤ 140737488355328) :
    Calls Try.prog 62 #[ptr gw, .int .i64 i, .int .i64 k] w fun e w' => ∃ A n c, e = .returned (.tuple #[.slice A n c, .int .i64 0]) ∧ OwnB w' w.heap.size A n c xs ∧ Below w.heap.size w w' := by
  have hL := lane_in w B gw nv ls h i l hl
  have hw := h.mem hl
  have hN := pick_some w B l hw k v xs hv
  have hvb := hw.frames (v, xs) (List.mem_of_getElem? hv)
  obtain ⟨A0, n0, c0, rfl, hn0, _⟩ := hvb
  have hf := (hw.frames (.slice A0 n0 c0, xs) (List.mem_of_getElem? (i := k) hv)).bs
  clear hv
  go_enter Try.func62, Try.ntmps62
  go_wp2_with fail
  refine hL.mono ?_
  rintro en w1 ⟨rfl, rfl⟩
  go_wp2_with fail
  refine hN.mono ?_
  rintro en w1 ⟨rfl, rfl⟩
  go_wp2_with fail
  refine (clone_own A0 n0 c0 xs w hf (by rw [← hn0]; exact hx)).mono ?_
  rintro en w2 ⟨A2, c2, rfl, ho, b2⟩
  go_wp2_with fail
  go_ret2
  exact ⟨A2, n0, c2, rfl, ho, b2⟩
set_option maxRecDepth 100000 in
theorem npick_none (w : World) (B gw : Nat) (nv : Value) (ls : List Way) (h : NetAt w B gw nv ls) (i : Nat) (l : Way) (hl : ls[i]? = some l) (k : Int) (hk : k < 0 ∨ (l.fs.length : Int) ≤ k) :
    Calls Try.prog 62 #[ptr gw, .int .i64 i, .int .i64 k] w fun e w' => e = .returned (.tuple #[.slice none 0 0, .int .i64 9]) ∧ w = w' := by
  have hL := lane_in w B gw nv ls h i l hl
  have hN := pick_none w B l (h.mem hl) k hk
  clear hk
  go_enter Try.func62, Try.ntmps62
  go_wp2_with fail
  refine hL.mono ?_
  rintro en w1 ⟨rfl, rfl⟩
  go_wp2_with fail
  refine hN.mono ?_
  rintro en w1 ⟨rfl, rfl⟩
  go_wp2_with fail
  refine (clone_nil w).mono ?_
  rintro en w2 ⟨rfl, rfl⟩
  go_wp2_with fail
  go_ret2
  exact ⟨rfl, rfl⟩
set_option maxRecDepth 100000 in
theorem nsend_room (w : World) (B gw : Nat) (hB : B ≤ w.heap.size) (nv : Value) (ls : List Way) (h : NetAt w B gw nv ls) (i : Nat) (l : Way) (hl : ls[i]? = some l) (hlt : l.fs.length < 200) (A : Option Addr) (n c : Nat) (xs : List Int) (hx : Bs w w.heap.size A n xs) (hn : n ≤ 131072) :
    Calls Try.prog 64 #[ptr gw, .int .i64 i, .slice A n c] w fun e w' => e = .returned (.int .i64 0) ∧ ∃ v bv, NetAt w' B gw nv (ls.set i (l.sent v xs bv)) ∧ Buts l.blocks w w' := by
  have hL := lane_in w B gw nv ls h i l hl
  have hd : decide (131072 < (n : Int)) = false := by simp; omega
  have hxl := hx.1
  go_enter Try.func64, Try.ntmps64
  go_wp2_with fail
  refine hL.mono ?_
  rintro en w1 ⟨rfl, rfl⟩
  go_wp2_with fail
  refine (clone_own A n c xs w hx (by omega)).mono ?_
  rintro en w1 ⟨A1, c1, rfl, ho, b1⟩
  have h1 := h.later b1
  go_wp2_with fail
  refine (send_room w1 B (Nat.le_trans hB b1.size) l (h1.mem hl) hlt A1 n c1 xs (ByV.of_row ho)).mono ?_
  rintro en w2 ⟨rfl, bv, hw2, b2, hbv⟩
  go_wp2_with fail
  go_ret
  exact ⟨rfl, _, bv, h1.turn hl b2 hw2 rfl rfl hbv, (Buts.of b1 _).trans b2⟩
set_option maxRecDepth 100000 in
theorem nsend_full (w : World) (B gw : Nat) (nv : Value) (ls : List Way) (h : NetAt w B gw nv ls) (i : Nat) (l : Way) (hl : ls[i]? = some l) (he : l.fs.length = 200) (A : Option Addr) (n c : Nat) (xs : List Int) (hx : Bs w w.heap.size A n xs) (hn : n ≤ 131072) :
    Calls Try.prog 64 #[ptr gw, .int .i64 i, .slice A n c] w fun e w' => e = .returned (.int .i64 10) ∧ Below w.heap.size w w' := by
  have hL := lane_in w B gw nv ls h i l hl
  have hd : decide (131072 < (n : Int)) = false := by simp; omega
  have hxl := hx.1
  have HE := hide he
  clear he
  go_enter Try.func64, Try.ntmps64
  go_wp2_with fail
  refine hL.mono ?_
  rintro en w1 ⟨rfl, rfl⟩
  go_wp2_with fail
  refine (clone_own A n c xs w hx (by omega)).mono ?_
  rintro en w1 ⟨A1, c1, rfl, ho, b1⟩
  have h1 := h.later b1
  go_wp2_with fail
  refine (send_full w1 B l (h1.mem hl) HE.out _).mono ?_
  rintro en w2 ⟨rfl, rfl⟩
  go_wp2_with fail
  go_ret
  exact ⟨rfl, b1⟩
theorem ncount_in (w : World) (B gw : Nat) (nv : Value) (ls : List Way) (h : NetAt w B gw nv ls) (i : Nat) (l : Way) (hl : ls[i]? = some l) :
    Calls Try.prog 66 #[ptr gw, .int .i64 i] w fun e w' => e = .returned (.int .i64 l.fs.length) ∧ w = w' := by
  have hL := lane_in w B gw nv ls h i l hl
  have hw := h.mem hl
  have c1 := hw.row.cell (j := 1) (v := l.bv) rfl
  have hlen : ∃ A c, l.bv = .slice A l.fs.length c := by
    rcases hw.own.2 with ⟨e, h0⟩ | ⟨g, cap, cur, e, _⟩
    · exact ⟨none, 0, by rw [e, h0]⟩
    · exact ⟨_, _, e⟩
  obtain ⟨A, c, e⟩ := hlen
  rw [e] at c1
  generalize l.fs.length = m at *
  go_enter Try.func66, Try.ntmps66
  go_wp2_with fail
  refine hL.mono ?_
  rintro en w1 ⟨rfl, rfl⟩
  go_wp2_with fail
  go_ret
  exact ⟨rfl, rfl⟩
theorem nwaiting_in (w : World) (B gw : Nat) (nv : Value) (ls : List Way) (h : NetAt w B gw nv ls) (i : Nat) (l : Way) (hl : ls[i]? = some l) :
    Calls Try.prog 67 #[ptr gw, .int .i64 i] w fun e w' => e = .returned (.int .i64 ((l.fs.length - l.gone : Nat) : Int)) ∧ w = w' := by
  have hL := lane_in w B gw nv ls h i l hl
  have hw := h.mem hl
  have c0 := hw.row.cell (j := 0) (v := .chan (some l.c)) rfl
  obtain ⟨s, r, hc⟩ := hw.chan
  have hlen := fun ty => run_len_chan (P := Try.prog) 164 ty Try.underlying164 hc
  rw [show ((l.fs.drop l.gone).map (·.1)).toArray.size = l.fs.length - l.gone by simp] at hlen
  generalize l.fs.length - l.gone = m at *
  clear hc hw
  go_enter Try.func67, Try.ntmps67
  go_wp2_with fail
  refine hL.mono ?_
  rintro en w1 ⟨rfl, rfl⟩
  go_wp2_with fail
  go_ret
  exact ⟨rfl, rfl⟩
theorem nlose_some (w : World) (B gw : Nat) (nv : Value) (ls : List Way) (h : NetAt w B gw nv ls) (i : Nat) (l : Way) (hl : ls[i]? = some l) (v : Value) (xs : List Int) (hv : l.fs[l.gone]? = some (v, xs)) (hx : xs.length ≤ 140737488355328) :
    Calls Try.prog 61 #[ptr gw, .int .i64 i] w fun e w' => ∃ w1, e = .returned (.int .i64 0) ∧ NetAt w' B gw nv (ls.set i { l with gone := l.gone + 1 }) ∧ Buts l.blocks w w1 ∧ Below w1.heap.size w1 w' := by
  have hN := nnext_some w B gw nv ls h i l hl v xs hv hx
  clear hv
  go_enter Try.func61, Try.ntmps61
  go_wp2_with fail
  refine hN.mono ?_
  rintro en w2 ⟨A, n, c, w1, rfl, ho, hN1, b1, b2⟩
  go_wp2_with fail
  go_ret
  exact ⟨w1, rfl, hN1.later b2, b1, b2⟩
theorem nlose_none (w : World) (B gw : Nat) (nv : Value) (ls : List Way) (h : NetAt w B gw nv ls) (i : Nat) (l : Way) (hl : ls[i]? = some l) (he : l.gone = l.fs.length) :
    Calls Try.prog 61 #[ptr gw, .int .i64 i] w fun e w' => e = .returned (.int .i64 9) ∧ w = w' := by
  have hN := nnext_none w B gw nv ls h i l hl he
  clear he
  go_enter Try.func61, Try.ntmps61
  go_wp2_with fail
  refine hN.mono ?_
  rintro en w1 ⟨rfl, rfl⟩
  go_wp2_with fail
  go_ret
  exact ⟨rfl, rfl⟩
theorem nsend_long (w : World) (v : Value) (i : Int) (A : Option Addr) (n c : Nat) (hn : 131072 < n) (g : Nat) (hL : Calls Try.prog 105 #[v, .int .i64 i] w fun e w' => e = .returned (ptr g) ∧ w = w') :
    Calls Try.prog 64 #[v, .int .i64 i, .slice A n c] w fun e w' => e = .returned (.int .i64 5) ∧ w = w' := by
  have hd : decide (131072 < (n : Int)) = true := by simp; omega
  go_enter Try.func64, Try.ntmps64
  go_wp2_with fail
  refine hL.mono ?_
  rintro en w1 ⟨rfl, rfl⟩
  go_wp2_with fail
  go_ret
  exact ⟨rfl, rfl⟩
theorem own_bs {w : World} {B : Nat} {A : Option Addr} {n c : Nat} {xs : List Int} (h : OwnB w B A n c xs) : Bs w w.heap.size A n xs := (ByV.of_row h).bs
set_option maxRecDepth 100000 in
set_option maxHeartbeats 2000000 in
theorem awake_any (w : World) : Calls Try.prog 58 #[] w fun e w' => e = .returned (.bool true) ∧ Below w.heap.size w w' := by
  have kc := fun (w : World) (C : Array Value) (n c : Nat) => Lib.run_convert_bytes_const (P := Try.prog) w 35 5 C n c Try.underlying35 Try.underlying5
  go_enter Try.func58, Try.ntmps58
  go_wp2_with fail
  refine (new_some w 1 (by decide) (by decide)).mono ?_
  rintro en w1 ⟨gw, nv, ls, rfl, hN, hlen, hbare, b1⟩
  obtain ⟨⟨gl, cc, bv0, fs, gone⟩, rfl⟩ : ∃ l, ls = [l] := by
    match ls, hlen with
    | [l], _ => exact ⟨l, rfl⟩
  obtain ⟨hfs, hgo⟩ := hbare _ (List.mem_singleton.2 rfl)
  simp only at hfs hgo
  subst hfs
  subst hgo
  clear hlen hbare
  obtain ⟨B, hBe⟩ : ∃ B, B = w.heap.size := ⟨_, rfl⟩
  rw [← hBe] at hN b1
  have hBw : B ≤ w.heap.size := Nat.le_of_eq hBe
  go_wp2_with fail
  have hb1 := Bs.lit' w1 5 (1, 2) [97] #[.int .u8 97] 1 _ rfl rfl rfl
  have b2 : Below w1.heap.size w1 (w1.alloc (.cells #[.int .u8 97] 5 (1, 2))) := (Below.refl _ _).alloc (Nat.le_refl _) _
  refine (nsend_room _ B gw (Nat.le_trans hBw (Nat.le_trans b1.size b2.size)) nv [⟨gl, cc, bv0, [], 0⟩] (hN.later b2) 0 _ rfl (by simp) _ 1 1 [97] hb1 (by decide)).mono ?_
  rintro en w3 ⟨rfl, v1, bv1, hN3, b3⟩
  have hN3 : NetAt w3 B gw nv [⟨gl, cc, bv1, [(v1, [97])], 0⟩] := hN3
  have B1 : Below B w w1 := b1
  have B2 : Below B w _ := B1.trans (b2.mono (Nat.le_trans hBw B1.size))
  have B3 : Below B w w3 := B2.trans (b3.below (blk_lo (hN.later b2) (i := 0) rfl) (Nat.le_trans hBw B2.size))
  clear hN hb1 b2 b3 B2 b1
  go_wp2_with fail
  have hb1 := Bs.lit' w3 5 (1, 2) [98] #[.int .u8 98] 1 _ rfl rfl rfl
  have b2 : Below w3.heap.size w3 (w3.alloc (.cells #[.int .u8 98] 5 (1, 2))) := (Below.refl _ _).alloc (Nat.le_refl _) _
  refine (nsend_room _ B gw (Nat.le_trans hBw (Nat.le_trans B3.size b2.size)) nv [⟨gl, cc, bv1, [(v1, [97])], 0⟩] (hN3.later b2) 0 _ rfl (by simp) _ 1 1 [98] hb1 (by decide)).mono ?_
  rintro en w4 ⟨rfl, v2, bv2, hN4, b3⟩
  have hN4 : NetAt w4 B gw nv [⟨gl, cc, bv2, [(v1, [97]), (v2, [98])], 0⟩] := hN4
  have B2 : Below B w _ := B3.trans (b2.mono (Nat.le_trans hBw B3.size))
  have B4 : Below B w w4 := B2.trans (b3.below (blk_lo (hN3.later b2) (i := 0) rfl) (Nat.le_trans hBw B2.size))
  clear hN3 hb1 b2 b3 B2 B3 B1
  go_wp2_with fail
  refine (nnext_some w4 B gw nv _ hN4 0 _ rfl v1 [97] rfl (by decide)).mono ?_
  rintro en w6 ⟨A1, n1, c1, w5, rfl, ho1, hN5, b5, b6⟩
  obtain rfl : n1 = 1 := by have := ho1.1; simp [bv] at this; omega
  have hs1 := ByV.of_row ho1
  have hN6 : NetAt w6 B gw nv [⟨gl, cc, bv2, [(v1, [97]), (v2, [98])], 1⟩] := hN5.later b6
  have B5 : Below B w w5 := B4.trans (b5.below (blk_lo hN4 (i := 0) rfl) (Nat.le_trans hBw B4.size))
  have B6 : Below B w w6 := B5.trans (b6.mono (Nat.le_trans hBw B5.size))
  clear hN4 hN5 b5 b6 B4 B5 ho1
  go_wp2_with fail
  refine (npick_some w6 B gw nv _ hN6 0 _ rfl 0 v1 [97] rfl (by decide)).mono ?_
  rintro en w7 ⟨A2, n2, c2, rfl, ho2, b7⟩
  obtain rfl : n2 = 1 := by have := ho2.1; simp [bv] at this; omega
  have hs2 := ByV.of_row ho2
  have hs1 := hs1.later b7
  have hN7 := hN6.later b7
  have B7 : Below B w w7 := B6.trans (b7.mono (Nat.le_trans hBw B6.size))
  clear hN6 b7 B6 ho2
  go_wp2_with fail
  refine (nnext_some w7 B gw nv _ hN7 0 _ rfl v2 [98] rfl (by decide)).mono ?_
  rintro en w9 ⟨A3, n3, c3, w8, rfl, ho3, hN8, b8, b9⟩
  obtain rfl : n3 = 1 := by have := ho3.1; simp [bv] at this; omega
  have hnb := (hN7.mem (i := 0) rfl).notBy
  have hs3 := (ByV.of_row ho3).bs
  have hs1 := ((hs1.buts b8 hnb).later b9).bs
  have hs2 := ((hs2.buts b8 hnb).later b9).bs
  have hN9 : NetAt w9 B gw nv [⟨gl, cc, bv2, [(v1, [97]), (v2, [98])], 2⟩] := hN8.later b9
  have B8 : Below B w w8 := B7.trans (b8.below (blk_lo hN7 (i := 0) rfl) (Nat.le_trans hBw B7.size))
  have B9 : Below B w w9 := B8.trans (b9.mono (Nat.le_trans hBw B8.size))
  clear hN7 hN8 b8 b9 B7 B8 ho3 hnb
  go_wp2_with fail
  refine (nnext_none w9 B gw nv _ hN9 0 _ rfl rfl).mono ?_
  rintro en w10 ⟨rfl, rfl⟩
  have e1 := hs1.convert (P := Try.prog) c1 35 5 9 Try.underlying35 Try.underlying5 Try.underlying9
  have e2 := hs2.convert (P := Try.prog) c2 35 5 9 Try.underlying35 Try.underlying5 Try.underlying9
  have e3 := hs3.convert (P := Try.prog) c3 35 5 9 Try.underlying35 Try.underlying5 Try.underlying9
  rw [show strOfNums [97] = ⟨#[97]⟩ from rfl] at e1 e2
  rw [show strOfNums [98] = ⟨#[98]⟩ from rfl] at e3
  clear hs1 hs2 hs3 hN9 kc
  go_wp2_with fail
  go_ret
  exact ⟨rfl, hBe ▸ B9⟩
end Go.Proofs.Ytlihoijbfffjcaa
