/-
  The disk: the example of its laws (awake). Own work.
-/
import Derived.Test.YtaflmiopaiigbaaDiskP
namespace Go.Proofs.Ytaflmiopaiigbaa
open Go.RowKit Go.Maps Go.ChangeMaps
set_option linter.unusedVariables false
set_option linter.unusedSimpArgs false
theorem DiskAt.mono {w : World} {B B' gd mb : Nat} {pl : Value} {fs : Fs} (h : DiskAt w B' gd pl mb fs) (hB : B ≤ B') : DiskAt w B gd pl mb fs := ⟨h.row, ⟨Nat.le_trans hB h.lo.1, Nat.le_trans hB h.lo.2⟩, h.map, ⟨fun p hp => owb_low (h.files.own p hp) hB, h.files.bd, h.files.apart⟩, h.few⟩
theorem frame_below {w w' : World} {B gd mb gp : Nat} {fs : Fs} {pl' : Value} (h : Buts (plB (ptr gp) ++ dblocks gd mb fs) w w') (hd : DiskAt w B gd pl' mb fs) (hg : B ≤ gp) (hB : B ≤ w.heap.size) : Below B w w' := by
  refine h.below (fun k hk => ?_) hB
  rcases List.mem_append.1 hk with hk | hk
  · simp [plB] at hk; omega
  · exact (hd.blo k hk).1
theorem PlAt.plg {w : World} {gp : Nat} {on : Bool} {fuse : Int} (h : PlAt w (ptr gp) on fuse) : Plg w gp on fuse := by
  rcases h with ⟨g9, e9, h9⟩ | ⟨e9, _⟩
  · cases e9; exact h9
  · cases e9
theorem Acted.ok {w w' : World} {B gd mb gp : Nat} {fs fs1 : Fs} (h : Acted w w' B gd (ptr gp) mb 0 true (-1) fs fs1) : DiskAt w' B gd (ptr gp) mb fs1 ∧ PlAt w' (ptr gp) true (-1) ∧ Buts (plB (ptr gp) ++ dblocks gd mb fs) w w' := h
theorem ActedP.ok {w w' : World} {B gd mb gp : Nat} {fs : Fs} {P : Fs → Prop} (h : ActedP w w' B gd (ptr gp) mb 0 true (-1) fs P) : ∃ fs', P fs' ∧ DiskAt w' B gd (ptr gp) mb fs' ∧ PlAt w' (ptr gp) true (-1) ∧ Buts (plB (ptr gp) ++ dblocks gd mb fs) w w' := by
  obtain ⟨fs', h1, h2, h3, h4, _⟩ := h
  rw [if_pos ⟨rfl, by decide⟩] at h1
  exact ⟨fs', h1, h2, h3, h4⟩
theorem isI_m1 : isI (-1) := ⟨by decide, by decide⟩
set_option maxRecDepth 100000 in
set_option maxHeartbeats 2000000 in
theorem awakeD_any (w : World) : Calls Try.prog 10 #[] w fun e w' => e = .returned (.bool true) ∧ Below w.heap.size w w' := by
  have kc := fun (w : World) (C : Array Value) (n c : Nat) => Lib.run_convert_bytes_const (P := Try.prog) w 35 5 C n c Try.underlying35 Try.underlying5
  obtain ⟨B, hBe⟩ : ∃ B, B = w.heap.size := ⟨_, rfl⟩
  have hBw : B ≤ w.heap.size := Nat.le_of_eq hBe
  go_enter Try.func10, Try.ntmps10
  go_wp2_with fail
  refine (plug_any w).mono ?_
  rintro en w1 ⟨gP, gp, rfl, hPw, hPl, hgP, hgp, hne, b1⟩
  go_wp2_with fail
  refine (new_any w1 gP (some ⟨gp, 0, none⟩) hPw).mono ?_
  rintro en w2 ⟨gd, mb, rfl, hD, b2⟩
  rw [← hBe] at hgP hgp b1
  have hD : DiskAt w2 B gd (ptr gp) mb [] := hD.mono (Nat.le_trans hBw b1.size)
  have hP : PlAt w2 (ptr gp) true (-1) := .inl ⟨gp, rfl, Row.later hPl b2⟩
  have B2 : Below B w w2 := b1.trans (b2.mono (Nat.le_trans hBw b1.size))
  clear hPw hPl hgP hne b1 b2
  go_wp2_with fail
  refine (create_any w2 B gd mb (ptr gp) true (-1) [] [97] hD hP isI_m1).mono ?_
  rintro en w3 ⟨rfl, hA⟩
  obtain ⟨hD3, hP3, bU⟩ := Acted.ok hA
  have hB2 := Nat.le_trans hBw B2.size
  have B3 : Below B w w3 := B2.trans (frame_below bU hD hgp hB2)
  have hD3 : DiskAt w3 B gd (ptr gp) mb [([97], zV)] := hD3
  have hB3 := Nat.le_trans hBw B3.size
  have hv : dE (creE [] [97] true) true (-1) = 0 := by decide
  rw [hv]
  clear hv hA bU hD hP B2 hB2
  go_wp2_with fail
  have hl := Bs.lit' w3 5 (3, 4) [97, 98, 99] #[.int .u8 97, .int .u8 98, .int .u8 99] 3 _ rfl rfl rfl
  have bl : Below w3.heap.size w3 (w3.alloc (.cells #[.int .u8 97, .int .u8 98, .int .u8 99] 5 (3, 4))) := (Below.refl _ _).alloc (Nat.le_refl _) _
  refine (append_any _ B gd mb (ptr gp) true (-1) [([97], zV)] [97] _ 3 3 [97, 98, 99] (Nat.le_trans hB3 bl.size) hl (by decide) (hD3.later bl) (hP3.later bl) isI_m1).mono ?_
  rintro en w4 ⟨rfl, hA⟩
  obtain ⟨fs4, ⟨f, rfl, q1, q2, q3⟩, hD4, hP4, bU⟩ := ActedP.ok hA
  have B3a : Below B w _ := B3.trans (bl.mono hB3)
  have B4 : Below B w w4 := B3a.trans (frame_below bU (hD3.later bl) hgp (Nat.le_trans hB3 bl.size))
  have hD4 : DiskAt w4 B gd (ptr gp) mb [([97], f)] := hD4
  have hB4 := Nat.le_trans hBw B4.size
  have hv : dE (appE (findR [([97], zV)] [97] [] true).2 (findR [([97], zV)] [97] [] true).1.n 3) true (-1) = 0 := by decide
  have e1 : f.n = 3 := q1
  have e2 : f.xs = [97, 98, 99] := q2
  rw [hv]
  clear hv hA bU hD3 hP3 B3 hB3 hl bl B3a q1 q2 q3
  go_wp2_with fail
  refine (sync_any w4 B gd mb (ptr gp) true (-1) [([97], f)] [97] hD4 hP4 isI_m1).mono ?_
  rintro en w5 ⟨rfl, hA⟩
  obtain ⟨hD5, hP5, bU⟩ := Acted.ok hA
  have B5 : Below B w w5 := B4.trans (frame_below bU hD4 hgp hB4)
  have hD5 : DiskAt w5 B gd (ptr gp) mb [([97], { f with kept := (f.n : Int) })] := hD5
  have hB5 := Nat.le_trans hBw B5.size
  have hv : dE (findR [([97], f)] [97] [] true).2 true (-1) = 0 := rfl
  rw [hv]
  obtain ⟨f5, hf5⟩ : ∃ f5 : FV, f5 = { f with kept := (f.n : Int) } := ⟨_, rfl⟩
  have d1 : f5.n = 3 := by rw [hf5]; exact e1
  have d2 : f5.xs = [97, 98, 99] := by rw [hf5]; exact e2
  have d3 : f5.kept = 3 := by rw [hf5]; show (f.n : Int) = 3; rw [e1]; rfl
  rw [← hf5] at hD5
  clear hv hA bU hD4 hP4 B4 hB4 hf5 e1 e2
  go_wp2_with fail
  have hl := Bs.lit' w5 5 (2, 3) [100, 101] #[.int .u8 100, .int .u8 101] 2 _ rfl rfl rfl
  have bl : Below w5.heap.size w5 (w5.alloc (.cells #[.int .u8 100, .int .u8 101] 5 (2, 3))) := (Below.refl _ _).alloc (Nat.le_refl _) _
  refine (append_any _ B gd mb (ptr gp) true (-1) [([97], f5)] [97] _ 2 2 [100, 101] (Nat.le_trans hB5 bl.size) hl (by decide) (hD5.later bl) (hP5.later bl) isI_m1).mono ?_
  rintro en w6 ⟨rfl, hA⟩
  have hv0 : appE (findR [([97], f5)] [97] [] true).2 (findR [([97], f5)] [97] [] true).1.n 2 = 0 := by
    show appE 0 f5.n 2 = 0
    rw [d1]; rfl
  rw [hv0] at hA ⊢
  obtain ⟨fs6, ⟨f, rfl, q1, q2, q3⟩, hD6, hP6, bU⟩ := ActedP.ok hA
  have B5a : Below B w _ := B5.trans (bl.mono hB5)
  have B6 : Below B w w6 := B5a.trans (frame_below bU (hD5.later bl) hgp (Nat.le_trans hB5 bl.size))
  have hD6 : DiskAt w6 B gd (ptr gp) mb [([97], f)] := hD6
  have hB6 := Nat.le_trans hBw B6.size
  have e1 : f.n = 5 := q1.trans (by show f5.n + 2 = 5; rw [d1])
  have e2 : f.xs = [97, 98, 99, 100, 101] := q2.trans (by show f5.xs ++ [100, 101] = _; rw [d2]; rfl)
  have e3 : f.kept = 3 := q3.trans d3
  have hv : dE 0 true (-1) = 0 := rfl
  rw [hv]
  clear hv hv0 hA bU hD5 hP5 B5 hB5 hl bl B5a d1 d2 d3 q1 q2 q3
  go_wp2_with fail
  have rI : Row (w6.alloc (.cells #[.int .i64 4] 3)) 3 w6.heap.size [.int .i64 4] := by unfold Row; exact heap_alloc_new _ _
  have bl : Below w6.heap.size w6 (w6.alloc (.cells #[.int .i64 4] 3)) := (Below.refl _ _).alloc (Nat.le_refl _) _
  have hI : IsAt (w6.alloc (.cells #[.int .i64 4] 3)) (w6.alloc (.cells #[.int .i64 4] 3)).heap.size (some ⟨w6.heap.size, 0, none⟩) 1 [4] := ⟨rfl, fun _ => ⟨_, 0, rfl, rI.lt, fun j hj => by
    obtain rfl : j = 0 := by omega
    exact rI.cell (j := 0) rfl⟩⟩
  refine (crash_any _ B gd mb gp true (-1) [([97], f)] _ 1 1 [4] hI (fun b o e hk => by
    cases e
    have := (hD6.blo _ hk).2
    omega) (hD6.later bl) (hP6.later bl).plg).mono ?_
  rintro en w8 ⟨rfl, hD8, hP8, bU⟩
  have B8 : Below B w w8 := (B6.trans (bl.mono hB6)).trans (bU.below (fun k hk => by
    rcases List.mem_cons.1 hk with e | hk
    · omega
    · exact ((hD6.later bl).blo k hk).1) (Nat.le_trans hB6 bl.size))
  have hB8 := Nat.le_trans hBw B8.size
  obtain ⟨f8, hf8⟩ : ∃ f8 : FV, f8 = tornV f 4 := ⟨_, rfl⟩
  have hcr : crashF [([97], f)] [4] = [([97], f8)] := by rw [hf8]; rfl
  rw [hcr] at hD8
  have hN : tornN f 4 = 4 := by unfold tornN; rw [e1, e3]; decide
  have d1 : f8.n = 4 := by rw [hf8]; exact hN
  have d2 : f8.xs = [97, 98, 99, 100] := by rw [hf8]; show f.xs.take (tornN f 4) = _; rw [hN, e2]; rfl
  have HR := read_any w8 B gd mb (ptr gp) true (-1) [([97], f8)] [97] hD8 (.inl ⟨gp, rfl, hP8⟩)
  rw [show findR [([97], f8)] [97] [] true = (f8, 0) from rfl] at HR
  simp only [d1, d2] at HR
  clear hcr hN hf8 e1 e2 e3 hI rI bl hD6 hP6 B6 hB6 bU
  have HR := hide HR
  go_wp2_with fail
  refine HR.out.mono ?_
  rintro en w9 ⟨A9, c9, rfl, own9, b9⟩
  have hs9 : Bs w9 w9.heap.size A9 4 [97, 98, 99, 100] := by
    obtain ⟨A', c', hv, hb, _⟩ := ownsRow_bs own9
    injection hv with h1 _ _
    rw [h1]
    exact hb
  have e1 := hs9.convert (P := Try.prog) c9 35 5 9 Try.underlying35 Try.underlying5 Try.underlying9
  have hD9 := hD8.later b9
  have hP9 : PlAt w9 (ptr gp) true (-1) := .inl ⟨gp, rfl, Row.later hP8 b9⟩
  have B9 : Below B w w9 := B8.trans (b9.mono hB8)
  rw [show strOfNums [97, 98, 99, 100] = ⟨#[97, 98, 99, 100]⟩ from rfl] at e1
  clear HR own9 b9 hs9 hD8 hP8 B8 kc
  have hB9 := Nat.le_trans hBw B9.size
  go_wp2_with fail
  refine (append_any w9 B gd mb (ptr gp) true (-1) [([97], f8)] [98] none 0 0 [] hB9 Bs.nil_ (by decide) hD9 hP9 isI_m1).mono ?_
  rintro en w10 ⟨rfl, hA⟩
  have hv : dE (appE (findR [([97], f8)] [98] [] true).2 (findR [([97], f8)] [98] [] true).1.n 0) true (-1) = 9 := rfl
  rw [hv]
  obtain ⟨fs', _, _, _, bU, _⟩ := hA
  have B10 : Below B w w10 := B9.trans (frame_below bU hD9 hgp hB9)
  clear bU hD9 hP9 hv
  go_wp2_with fail
  go_ret
  exact ⟨rfl, hBe ▸ B10⟩
end Go.Proofs.Ytaflmiopaiigbaa
