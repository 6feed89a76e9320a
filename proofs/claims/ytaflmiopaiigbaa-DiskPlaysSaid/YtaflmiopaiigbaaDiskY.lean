/-
  The law DiskKept: contract. Own work.
-/
import Derived.Test.YtaflmiopaiigbaaDiskX
namespace Go.Proofs.Ytaflmiopaiigbaa
open Go.RowKit Go.Maps Go.ChangeMaps
set_option linter.unusedVariables false
set_option linter.unusedSimpArgs false
theorem row_free {w : World} {B gd mb t g : Nat} {pl : Value} {fs : Fs} {vs : List Value} (hd : DiskAt w B gd pl mb fs) (h : Row w t g vs) (h1 : t ≠ 72) (h2 : t ≠ 5) : g ∉ dblocks gd mb fs := by
  intro hk
  rcases mem_dblocks.1 hk with e | e | ⟨p, hp, hk⟩
  · exact rne h hd.row h1 e
  · exact hd.map.ne_row h e.symm
  · exact owf_not_row (hd.files.own p hp) h h2 hk
/-- A power's row stays behind an act of a disk. -/
theorem pwr_keeps {w w' : World} {B gd mb gp gP : Nat} {pl' : Value} {on : Bool} {fuse : Int} {fs : Fs} (h : Pwr w gP gp) (hP : PlAt w (ptr gp) on fuse) (hd : DiskAt w B gd pl' mb fs) (hb : Buts (plB (ptr gp) ++ dblocks gd mb fs) w w') : Pwr w' gP gp := by
  refine Row.buts h hb (fun hk => ?_)
  rcases List.mem_append.1 hk with hk | hk
  · simp [plB] at hk
    exact rne h hP.plg (by decide) hk
  · exact row_free hd h (by decide) (by decide) hk
theorem ActedP.off {w w' : World} {B gd mb gp : Nat} {fs : Fs} {P : Fs → Prop} (h : ActedP w w' B gd (ptr gp) mb 0 true 0 fs P) : DiskAt w' B gd (ptr gp) mb fs ∧ PlAt w' (ptr gp) false 0 ∧ Buts (plB (ptr gp) ++ dblocks gd mb fs) w w' := by
  obtain ⟨fs', h1, h2, h3, h4, _⟩ := h
  rw [if_neg (by decide)] at h1
  subst h1
  exact ⟨h2, h3, h4⟩
theorem wl_build0 {P : Program} {ops : Array Oper} {rest : List Oper} {o : Oper} {a : Act} {w : World} {Q : Exit → Act → World → Prop} (hgd : o.guard = none) (t : TypeId) (ho : o.op = .buildSlice t 0 #[]) (e : TypeId) (i : TypeInfo) (ht : P.underlying t = some (.slice e)) (hi : P.info? e = some i) (hsz : i.size = 1)
    (hk : ∀ v w', w'.ownsRow w.heap.size e 1 v 0 (bv []) → Below w.heap.size w w' → wpList P ops Q rest (a.put o.dst v) w') : wpList P ops Q (o :: rest) a w :=
  wpList_plain hgd fun K hK => st_build0 t ho e i ht hi hsz fun v w' h1 h2 => hK _ _ (hk v w' h1 h2)
theorem equal_bothD (A B : Option Addr) (n m c d : Nat) (xs : List Int) (w : World) (h1 : Bs w w.heap.size A n xs) (h2 : Bs w w.heap.size B m xs) : Calls Try.prog 32 #[.slice A n c, .slice B m d] w fun e w' => e = .returned (.bool true) ∧ w = w' :=
  (equal_any A B n m c d xs xs w h1 h2).mono fun e w' h => ⟨by rw [h.1, equal_self], h.2⟩
theorem own_bsD {w : World} {base e n c : Nat} {A : Option Addr} {xs : List Int} (h : w.ownsRow base e 1 (.slice A n c) n (bv xs)) : Bs w w.heap.size A n xs := by
  obtain ⟨A', c', hv, hb, _⟩ := ownsRow_bs h
  injection hv with h1 _ _
  rw [h1]
  exact hb
theorem tornR_zero : tornR 0 0 = 0 := by decide
theorem IsAt.nil {w : World} {B : Nat} : IsAt w B none 0 [] := ⟨rfl, fun h => absurd h (by decide)⟩
theorem crash1 (n : Nm) (f : FV) (cs : List Int) : crashF [(n, f)] cs = [(n, tornV f (cs.getD 0 0))] := rfl
theorem ownr_later {w w' : World} {T e m : Nat} {v : Value} {xs : List Value} (h : w.ownsRow T e 1 v m xs) (hb : Below w.heap.size w w') : w'.ownsRow T e 1 v m xs :=
  ownr_buts h (Buts.of hb []) (fun k hk => by cases hk)
theorem own_cap {w : World} {T e m n c : Nat} {A : Option Addr} {xs : List Value} (h : w.ownsRow T e 1 (.slice A n c) m xs) : m ≤ c := by
  rcases h.2 with ⟨e1, h0⟩ | ⟨g, cap, cur, e1, _, _, hc, _⟩
  · omega
  · injection e1 with _ _ e3
    omega
set_option maxRecDepth 100000 in
set_option maxHeartbeats 4000000 in
theorem diskKept_any (A : Option Addr) (m c : Nat) (xs : List Int) (A' : Option Addr) (m' c' : Nat) (ys : List Int) (cut : Int) (w : World) (hx : Bs w w.heap.size A m xs) (hy : Bs w w.heap.size A' m' ys) :
    Calls Try.prog 6 #[.slice A m c, .slice A' m' c', .int .i64 cut] w fun e w' => e = .returned (.bool true) ∧ Below w.heap.size w w' := by
  by_cases h1 : (2000 : Int) < (m : Int)
  · have hd : decide ((2000 : Int) < (m : Int)) = true := by simp; omega
    go_enter Try.func6, Try.ntmps6
    go_wp2_with fail
    refine (awakeD_any w).mono ?_
    rintro e w2 ⟨rfl, b2⟩
    go_wp2_with fail
    go_ret
    exact ⟨rfl, b2⟩
  have d1 : decide ((2000 : Int) < (m : Int)) = false := by simp; omega
  by_cases h2 : (2000 : Int) < (m' : Int)
  · have hd : decide ((2000 : Int) < (m' : Int)) = true := by simp; omega
    go_enter Try.func6, Try.ntmps6
    go_wp2_with fail
    refine (awakeD_any w).mono ?_
    rintro e w2 ⟨rfl, b2⟩
    go_wp2_with fail
    go_ret
    exact ⟨rfl, b2⟩
  have d2 : decide ((2000 : Int) < (m' : Int)) = false := by simp; omega
  have hm : m ≤ 2000 := by omega
  have hm' : m' ≤ 2000 := by omega
  have kc := fun (w : World) (C : Array Value) (n c : Nat) => Lib.run_convert_bytes_const (P := Try.prog) w 35 5 C n c Try.underlying35 Try.underlying5
  obtain ⟨B, hBe⟩ : ∃ B, B = w.heap.size := ⟨_, rfl⟩
  have hBw : B ≤ w.heap.size := Nat.le_of_eq hBe
  have hxl := hide hx.1
  have hyl := hide hy.1
  have HX := hide (show Bs w B A m xs from hBe ▸ hx)
  have HY := hide (show Bs w B A' m' ys from hBe ▸ hy)
  clear h1 h2 hx hy
  go_enter Try.func6, Try.ntmps6
  go_wp2_with fail
  refine (plug_any w).mono ?_
  rintro en w1 ⟨gP, gp, rfl, hPw, hPl, hgP, hgp, hne, b1⟩
  go_wp2_with fail
  refine (new_any w1 gP (some ⟨gp, 0, none⟩) hPw).mono ?_
  rintro en w2 ⟨gd, mb, rfl, hD, b2⟩
  rw [← hBe] at hgP hgp b1
  have hD : DiskAt w2 B gd (ptr gp) mb [] := hD.mono (Nat.le_trans hBw b1.size)
  have hP : PlAt w2 (ptr gp) true (-1) := .inl ⟨gp, rfl, Row.later hPl b2⟩
  have hPw := Row.later hPw b2
  have B2 : Below B w w2 := b1.trans (b2.mono (Nat.le_trans hBw b1.size))
  clear hPl hne b1 b2
  go_wp2_with fail
  refine (create_any w2 B gd mb (ptr gp) true (-1) [] [102] hD hP isI_m1).mono ?_
  rintro en w3 ⟨rfl, hA⟩
  obtain ⟨hD3, hP3, bU⟩ := Acted.ok hA
  have hPw := pwr_keeps hPw hP hD bU
  have B3 : Below B w w3 := B2.trans (frame_below bU hD hgp (Nat.le_trans hBw B2.size))
  have hD3 : DiskAt w3 B gd (ptr gp) mb [([102], zV)] := hD3
  have hB3 := Nat.le_trans hBw B3.size
  clear hA bU hD hP B2
  go_wp2_with fail
  refine (append_any w3 B gd mb (ptr gp) true (-1) [([102], zV)] [102] A m c xs hB3 ((HX.out.below B3).up hB3) (by omega) hD3 hP3 isI_m1).mono ?_
  rintro en w4 ⟨rfl, hA⟩
  have hv0 : appE (findR [([102], zV)] [102] [] true).2 (findR [([102], zV)] [102] [] true).1.n m = 0 := by
    show appE 0 0 m = 0
    unfold appE
    rw [if_pos rfl, if_neg (by omega)]
  rw [hv0] at hA ⊢
  obtain ⟨fs4, ⟨f4, rfl, q1, q2, q3⟩, hD4, hP4, bU⟩ := ActedP.ok hA
  have hPw := pwr_keeps hPw hP3 hD3 bU
  have B4 : Below B w w4 := B3.trans (frame_below bU hD3 hgp hB3)
  have hD4 : DiskAt w4 B gd (ptr gp) mb [([102], f4)] := hD4
  have hB4 := Nat.le_trans hBw B4.size
  have e1 : f4.n = m := by rw [q1]; show 0 + m = m; omega
  have e2 : f4.xs = xs := q2
  clear hv0 hA bU hD3 hP3 B3 hB3 q1 q2 q3
  go_wp2_with fail
  refine (sync_any w4 B gd mb (ptr gp) true (-1) [([102], f4)] [102] hD4 hP4 isI_m1).mono ?_
  rintro en w5 ⟨rfl, hA⟩
  obtain ⟨hD5, hP5, bU⟩ := Acted.ok hA
  have hPw := pwr_keeps hPw hP4 hD4 bU
  have B5 : Below B w w5 := B4.trans (frame_below bU hD4 hgp hB4)
  have hD5 : DiskAt w5 B gd (ptr gp) mb [([102], { f4 with kept := (f4.n : Int) })] := hD5
  have hB5 := Nat.le_trans hBw B5.size
  obtain ⟨f5, hf5⟩ : ∃ f5 : FV, f5 = { f4 with kept := (f4.n : Int) } := ⟨_, rfl⟩
  have t1 : f5.n = m := by rw [hf5]; exact e1
  have t2 : f5.xs = xs := by rw [hf5]; exact e2
  have t3 : f5.kept = (m : Int) := by rw [hf5]; show (f4.n : Int) = m; rw [e1]
  rw [← hf5] at hD5
  clear hA bU hD4 hP4 B4 hB4 hf5 e1 e2
  go_wp2_with fail
  refine (append_any w5 B gd mb (ptr gp) true (-1) [([102], f5)] [102] A' m' c' ys hB5 ((HY.out.below B5).up hB5) (by omega) hD5 hP5 isI_m1).mono ?_
  rintro en w6 ⟨rfl, hA⟩
  have hv0 : appE (findR [([102], f5)] [102] [] true).2 (findR [([102], f5)] [102] [] true).1.n m' = 0 := by
    show appE 0 f5.n m' = 0
    unfold appE
    rw [if_pos rfl, if_neg (by omega)]
  rw [hv0] at hA ⊢
  obtain ⟨fs6, ⟨f6, rfl, q1, q2, q3⟩, hD6, hP6, bU⟩ := ActedP.ok hA
  have hPw := pwr_keeps hPw hP5 hD5 bU
  have B6 : Below B w w6 := B5.trans (frame_below bU hD5 hgp hB5)
  have hD6 : DiskAt w6 B gd (ptr gp) mb [([102], f6)] := hD6
  have hB6 := Nat.le_trans hBw B6.size
  have e1 : f6.n = m + m' := by rw [q1]; show f5.n + m' = _; rw [t1]
  have e2 : f6.xs = xs ++ ys := by rw [q2]; show f5.xs ++ ys = _; rw [t2]
  have e3 : f6.kept = (m : Int) := q3.trans t3
  clear hv0 hA bU hD5 hP5 B5 hB5 q1 q2 q3 t1 t2 t3
  go_wp2_with fail
  refine (pFuse_any w6 gP gp true (-1) 0 hPw hP6.plg).mono ?_
  rintro en w7 ⟨rfl, hPl7, o7⟩
  have hD7 := hD6.buts (Buts.only (S := [gp]) o7 (List.mem_singleton.2 rfl)) (fun k hk hk2 => pl_not hP6 hD6 k hk (by simpa [plB] using hk2))
  have B7 : Below B w w7 := B6.trans (o7.below hgp)
  have hB7 := Nat.le_trans hBw B7.size
  have hP7 : PlAt w7 (ptr gp) true 0 := .inl ⟨gp, rfl, hPl7⟩
  clear hD6 hP6 B6 hB6 hPw hPl7 o7
  go_wp2_with fail
  have hl := Bs.lit' w7 5 (4, 5) [108, 111, 115, 116] #[.int .u8 108, .int .u8 111, .int .u8 115, .int .u8 116] 4 _ rfl rfl rfl
  have bl : Below w7.heap.size w7 (w7.alloc (.cells #[.int .u8 108, .int .u8 111, .int .u8 115, .int .u8 116] 5 (4, 5))) := (Below.refl _ _).alloc (Nat.le_refl _) _
  refine (append_any _ B gd mb (ptr gp) true 0 [([102], f6)] [102] _ 4 4 [108, 111, 115, 116] (Nat.le_trans hB7 bl.size) hl (by decide) (hD7.later bl) (hP7.later bl) ⟨by decide, by decide⟩).mono ?_
  rintro en w8 ⟨rfl, hA⟩
  have hv0 : appE (findR [([102], f6)] [102] [] true).2 (findR [([102], f6)] [102] [] true).1.n 4 = 0 := by
    show appE 0 f6.n 4 = 0
    unfold appE
    rw [if_pos rfl, if_neg (by omega)]
  rw [hv0] at hA ⊢
  obtain ⟨hD8, hP8, bU⟩ := ActedP.off hA
  have B7a : Below B w _ := B7.trans (bl.mono hB7)
  have B8 : Below B w w8 := B7a.trans (frame_below bU (hD7.later bl) hgp (Nat.le_trans hB7 bl.size))
  have hB8 := Nat.le_trans hBw B8.size
  have hv : dE 0 true 0 = 8 := rfl
  rw [hv]
  clear hv hv0 hA bU hD7 hP7 B7 hB7 hl bl B7a
  go_wp2_with fail
  have rI : Row (w8.alloc (.cells #[.int .i64 cut] 3)) 3 w8.heap.size [.int .i64 cut] := by unfold Row; exact heap_alloc_new _ _
  have bl : Below w8.heap.size w8 (w8.alloc (.cells #[.int .i64 cut] 3)) := (Below.refl _ _).alloc (Nat.le_refl _) _
  have hI : IsAt (w8.alloc (.cells #[.int .i64 cut] 3)) (w8.alloc (.cells #[.int .i64 cut] 3)).heap.size (some ⟨w8.heap.size, 0, none⟩) 1 [cut] := ⟨rfl, fun _ => ⟨_, 0, rfl, rI.lt, fun j hj => by
    obtain rfl : j = 0 := by omega
    exact rI.cell (j := 0) rfl⟩⟩
  refine (crash_any _ B gd mb gp false 0 [([102], f6)] _ 1 1 [cut] hI (fun b o e hk => by
    cases e
    have := (hD8.blo _ hk).2
    omega) (hD8.later bl) (hP8.later bl).plg).mono ?_
  rintro en w9 ⟨rfl, hD9, hP9, bU⟩
  have B9 : Below B w w9 := (B8.trans (bl.mono hB8)).trans (bU.below (fun k hk => by
    rcases List.mem_cons.1 hk with e | hk
    · omega
    · exact ((hD8.later bl).blo k hk).1) (Nat.le_trans hB8 bl.size))
  have hB9 := Nat.le_trans hBw B9.size
  rw [crash1, show ([cut] : List Int).getD 0 0 = cut from rfl] at hD9
  obtain ⟨R, hR⟩ : ∃ R, R = tornR cut m' := ⟨_, rfl⟩
  obtain ⟨hrr, hRle⟩ := tornR_eq cut m'
  rw [← hR] at hrr hRle
  have hN : tornN f6 cut = m + R := by
    unfold tornN
    rw [e1, e3, show ((m : Int)).toNat = m by omega, show m + m' - m = m' by omega, hR]
  obtain ⟨f9, hf9⟩ : ∃ f9 : FV, f9 = tornV f6 cut := ⟨_, rfl⟩
  have t1 : f9.n = m + R := by rw [hf9]; exact hN
  have t2 : f9.xs = (xs ++ ys).take (m + R) := by rw [hf9]; show f6.xs.take (tornN f6 cut) = _; rw [hN, e2]
  have t3 : f9.kept = ((m + R : Nat) : Int) := by rw [hf9]; show ((tornN f6 cut : Nat) : Int) = _; rw [hN]
  rw [← hf9] at hD9
  have hP9' : PlAt w9 (ptr gp) true (-1) := .inl ⟨gp, rfl, hP9⟩
  have HRd := read_any w9 B gd mb (ptr gp) true (-1) [([102], f9)] [102] hD9 hP9'
  rw [show findR [([102], f9)] [102] [] true = (f9, 0) from rfl] at HRd
  simp only [t1, t2] at HRd
  have HRd := hide HRd
  clear hI rI bl hD8 hP8 B8 hB8 bU hf9 hN e1 e2 e3 hR kc
  go_wp2_with fail
  refine HRd.out.mono ?_
  rintro en w10 ⟨A10, c10, rfl, own10, b10⟩
  have HLo := hide (show ∀ k ∈ gp :: dblocks gd mb [([102], f9)], k < w9.heap.size from fun k hk => by
    rcases List.mem_cons.1 hk with e | hk
    · rw [e]; exact hP9.lt
    · exact (hD9.blo k hk).2)
  have hs10 := own10
  have hs9 := b10.size
  have hD10 := hD9.later b10
  have hP10 : Plg w10 gp true (-1) := Row.later hP9 b10
  have B10 : Below B w w10 := B9.trans (b10.mono hB9)
  have hB10 := Nat.le_trans hBw B10.size
  clear HRd own10 b10 hD9 hP9 hP9' B9 hB9
  obtain ⟨i0, hi, hz, hsz, hby⟩ := byte_info
  have HD10 := hide (And.intro hD10 hP10)
  have HS10 := hide hs10
  have hl1 := hide (show 0 + m ≤ 140737488355328 by omega)
  have hl2 := hide (show 0 + m + m' ≤ 140737488355328 by omega)
  clear hD10 hP10 hs10
  have hA7 : IntKind.i64.wrap ((m' : Int) + 1) = (m' : Int) + 1 := w64i _ ⟨by omega, by omega⟩
  have hA8 : IntKind.u64.wrap ((m' : Int) + 1) = (m' : Int) + 1 := w64u _ ⟨by omega, by omega⟩
  have hA9 : ¬ (m' : Int) + 1 = 0 := by omega
  have hA10 : IntKind.i64.wrap (R : Int) = (R : Int) := w64i _ ⟨by omega, by omega⟩
  have hA11 : IntKind.i64.wrap ((m : Int) + (R : Int)) = (m : Int) + (R : Int) := w64i _ ⟨by omega, by omega⟩
  go_wp2_with (first
    | ((with_reducible refine wl_build0 rfl 35 rfl 5 i0 Try.underlying35 hi hsz ?_); intro v0 w11 own0 b11; have hx11 := (HX.out.below (B10.trans (b11.mono hB10))).up (Nat.le_trans hB10 b11.size))
    | (at_builtin; refine wpList_append_bs rfl (.tmp 53) (.tmp 54) 35 rfl w10.heap.size 5 i0 Try.underlying35 hi hz hsz hby v0 0 [] rfl own0 w11.heap.size A m c xs rfl hx11 hl1.out b11.size ?_; intro v1 w12 own1 hg1; have b12 := grown_below b11 own0 (Nat.le_refl _) hg1; have hy12 := (HY.out.below (B10.trans (b12.mono hB10))).up (Nat.le_trans hB10 b12.size))
    | (at_builtin; refine wpList_append_bs rfl (.tmp 55) (.tmp 56) 35 rfl w10.heap.size 5 i0 Try.underlying35 hi hz hsz hby v1 (0 + m) _ rfl own1 w12.heap.size A' m' c' ys rfl hy12 hl2.out b12.size ?_; intro v2 w13 own2 hg2; have b13 := grown_below b12 own1 (Nat.le_refl _) hg2))
  obtain ⟨A12, c12, rfl⟩ := own_sl own2
  have B13 := hBe ▸ B10.trans (b13.mono hB10)
  have hB13 := Nat.le_trans hB10 b13.size
  have hD13 := HD10.out.1.later b13
  have hP13 : Plg w13 gp true (-1) := Row.later HD10.out.2 b13
  refine (crash_any w13 B gd mb gp true (-1) [([102], f9)] none 0 0 [] IsAt.nil (fun b o e => by cases e) hD13 hP13).mono ?_
  rintro en w14 ⟨rfl, hD14, hP14, bU⟩
  have own10 := ownr_buts (ownr_later HS10.out b13) bU (fun k hk => HLo.out k hk)
  have own12 := ownr_buts own2 bU (fun k hk => Nat.lt_of_lt_of_le (HLo.out k hk) hs9)
  have B14 : Below B w w14 := (B10.trans (b13.mono hB10)).trans (bU.below (fun k hk => by
    rcases List.mem_cons.1 hk with e | hk
    · omega
    · exact (hD13.blo k hk).1) hB13)
  have hB14 := Nat.le_trans hBw B14.size
  rw [crash1, show (([] : List Int).getD 0 0) = 0 from rfl] at hD14
  have hN : tornN f9 0 = m + R := by
    unfold tornN
    rw [t1, t3, show (((m + R : Nat) : Int)).toNat = m + R by omega, Nat.sub_self, tornR_zero]
    rfl
  obtain ⟨f14, hf14⟩ : ∃ f14 : FV, f14 = tornV f9 0 := ⟨_, rfl⟩
  have u1 : f14.n = m + R := by rw [hf14]; exact hN
  have u2 : f14.xs = (xs ++ ys).take (m + R) := by
    rw [hf14]
    show f9.xs.take (tornN f9 0) = _
    rw [hN, t2, List.take_take, Nat.min_self]
  rw [← hf14] at hD14
  have hP14' : PlAt w14 (ptr gp) true (-1) := .inl ⟨gp, rfl, hP14⟩
  have HRd := read_any w14 B gd mb (ptr gp) true (-1) [([102], f14)] [102] hD14 hP14'
  rw [show findR [([102], f14)] [102] [] true = (f14, 0) from rfl] at HRd
  simp only [u1, u2] at HRd
  have HRd := hide HRd
  have HO := hide (And.intro own10 own12)
  clear own2 own10 own12 bU hD14 hP14 hP14' hf14 hN t1 t2 t3 u1 u2 hD13 hP13 b13
  go_wp2_with fail
  refine HRd.out.mono ?_
  rintro en w15 ⟨A15, c15, rfl, own15, b15⟩
  have hs15 := own_bsD own15
  have hs10 := own_bsD (ownr_later HO.out.1 b15)
  have hs12 := own_bsD (ownr_later HO.out.2 b15)
  have B15 : Below B w w15 := B14.trans (b15.mono hB14)
  have hB15 := Nat.le_trans hBw B15.size
  have hc12 : m + R ≤ c12 := by
    have := own_cap HO.out.2
    omega
  have hnil : ([] ++ xs ++ ys) = xs ++ ys := by simp
  rw [hnil] at hs12
  have hs12 := hs12.take (k := m + R) (by omega)
  have HS := hide (And.intro hs15 (And.intro hs10 hs12))
  clear HRd own15 b15 hs15 hs10 hs12 HO B14 hB14
  have hS := fun w => run_sliceTo (P := Try.prog) w 35 5 1 Try.underlying35 Try.sizeOf5 A12 (0 + m + m') c12 .i64 ((m : Int) + (R : Int)) (m + R) (by omega) hc12
  go_wp2_with fail
  refine (equal_bothD A10 A12 (m + R) (m + R) c10 c12 _ w15 HS.out.2.1 HS.out.2.2).mono ?_
  rintro en w16 ⟨rfl, rfl⟩
  go_wp2_with fail
  refine (equal_bothD A15 A10 (m + R) (m + R) c15 c10 _ w15 HS.out.1 HS.out.2.1).mono ?_
  rintro en w16 ⟨rfl, rfl⟩
  go_wp2_with fail
  refine (awakeD_any w15).mono ?_
  rintro en w16 ⟨rfl, b16⟩
  go_wp2_with fail
  go_ret
  exact ⟨rfl, hBe ▸ (B15.trans (b16.mono hB15))⟩
end Go.Proofs.Ytaflmiopaiigbaa
