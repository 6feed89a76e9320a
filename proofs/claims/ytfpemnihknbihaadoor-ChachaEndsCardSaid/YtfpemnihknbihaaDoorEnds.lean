/-
  ChachaEnds: the Go text of the law answers true for every input, and writes nothing that was there. Own work.
-/
import Derived.Test.YtfpemnihknbihaaDoorTwice
import Derived.IntWalk
namespace Go.Proofs.YtfpemnihknbihaaDoor
open Go.RowKit
set_option linter.unusedVariables false
set_option linter.unusedSimpArgs false
theorem at_set {ks ns : List Int} {c c' : Int} (hk : (bv ks).length = 32) : (atL ks c ns).set 32 (.int .u32 c') = atL ks c' ns := by
  unfold atL
  rw [List.set_append_right _ _ (by omega), hk]
  rfl
theorem at_len {ks ns : List Int} {c : Int} (hk : ks.length = 32) (hn : ns.length = 12) : (atL ks c ns).length = 45 := by simp [atL, bv_len, hk, hn]
theorem zeros_by (n : Nat) : IsBy (List.replicate n 0) := fun x hx => by rw [List.eq_of_mem_replicate hx]; omega
theorem zeros_bs {w : World} {t g n : Nat} (h : Row w t g (List.replicate n (.int .u8 0))) : Bs w w.heap.size (some ⟨g, 0, none⟩) n (List.replicate n 0) := by
  refine ⟨by simp, fun _ => ⟨g, 0, rfl, h.lt, fun j hj => ?_⟩⟩
  rw [Nat.zero_add]
  refine h.cell ?_
  simp [List.getElem?_replicate, hj, List.getD]
/-- Two results: a slice of n bytes, and whether there are any. -/
def IsPair (n : Nat) (b : Bool) (v : Value) : Prop := ∃ A c, v = .tuple #[.slice A n c, .bool b]
def IsSl (n : Nat) (v : Value) : Prop := ∃ A c, v = .slice A n c
def IsMk (n : Nat) (v : Value) : Prop := ∃ g : Nat, v = .slice (some ⟨g, 0, none⟩) n n
def JE (w0 : World) (m : Nat) (bs : List Bool) (vs : List Value) (w : World) : Prop :=
  Below w0.heap.size w0 w ∧ (bs.getD 0 false = true → ∃ g7 : Nat, vs.getD 0 undef = .slice (some ⟨g7, 0, none⟩) m m ∧ Row w 5 g7 (List.replicate m (.int .u8 0)))
def SE3 (g : Nat) (ks ns : List Int) (C N : Nat) (k : Nat) (v : Value) : Prop :=
  match k with
  | 0 => v = .pointer (some ⟨g, 0, none⟩)
  | 1 => v = .agg (bv ks).toArray
  | 2 => v = .pointer (some ⟨g, 32, none⟩)
  | 3 => v = .int .u32 (C : Int)
  | 4 => v = .pointer (some ⟨g, 33, none⟩)
  | 5 => v = .agg (bv ns).toArray
  | 6 => v = .int .i64 (N : Int)
  | 7 => v = .int .i64 ((64 * N : Nat) : Int)
  | 8 => IsMk (64 * N) v
  | 9 | 10 => IsPair (64 * N) true v
  | 11 | 13 => IsSl (64 * N) v
  | 12 | 14 => v = .bool true
  | _ => True
def SE4 (g : Nat) (ks ns : List Int) (C N : Nat) (k : Nat) (v : Value) : Prop :=
  match k with
  | 0 => v = .pointer (some ⟨g, 0, none⟩)
  | 1 => v = .agg (bv ks).toArray
  | 2 => v = .pointer (some ⟨g, 32, none⟩)
  | 3 => v = .int .u32 (C : Int)
  | 4 => v = .pointer (some ⟨g, 33, none⟩)
  | 5 => v = .agg (bv ns).toArray
  | 6 => v = .int .i64 (N : Int)
  | 7 => v = .int .i64 ((64 * N : Nat) : Int)
  | 8 => v = .int .i64 ((64 * N + 1 : Nat) : Int)
  | 9 => IsMk (64 * N + 1) v
  | 10 | 11 => IsPair 0 false v
  | 12 | 14 => IsSl 0 v
  | 13 | 15 => v = .bool false
  | _ => True
set_option maxRecDepth 100000 in
set_option maxHeartbeats 2000000 in
theorem ends_any (ks ns : List Int) (c : Nat) (b : Int) (w : World) (hT : Tabs w) (hk : ks.length = 32) (hn : ns.length = 12) (hk' : IsBy ks) (hn' : IsBy ns) (hc : c < 4294967296) (b0 : 0 ≤ b) (b1 : b < 256) :
    Calls Tryd.prog 8 #[.agg (atL ks c ns).toArray, .int .u8 b] w fun e w' => e = .returned (.bool true) ∧ Below w.heap.size w w' := by
  obtain ⟨i0, hi, hz, hsz, hbys⟩ := u8_info
  have zk := hide (size_b (P := Tryd.prog) (T := 22) (by kernel_rfl) hk)
  have zn := hide (size_b (P := Tryd.prog) (T := 24) (by kernel_rfl) hn)
  have h32 := hide (show (bv ks).length = 32 by rw [bv_len, hk])
  have hal := hide (at_len (c := (c : Int)) hk hn)
  have Hk := hide hk
  have Hn := hide hn
  have Hi := hide hi
  have Hz := hide hz
  have Hs := hide hsz
  have Hb := hide hbys
  clear hk hn hi hz hsz hbys
  have hN : ∃ N : Nat, 1 ≤ N ∧ N ≤ 8 ∧ Hid (b % 8 + 1 = (N : Int)) := ⟨(b % 8 + 1).toNat, by omega, by omega, show _ = _ by omega⟩
  obtain ⟨N, n0, n1, hNe⟩ := hN
  go_enter Tryd.func8, Tryd.ntmps8
  go_wp2_with (first
    | (with_reducible refine wl_box rfl 26 (.tmp 0) _ (atL ks c ns) rfl rfl rfl ?_; intro g w1 r1 a1 l1 b1)
    | (with_reducible refine wl_store rfl 23 (.tmp 21) (.tmp 20) g 32 26 _ (.int .u32 (4294967296 - (b % 8 + 1))) rfl (by kernel_rfl) rfl rfl r1 (by rw [hal.out]; omega) rfl ?_; intro w2 r2 o2))
  have q2 : w2.heap.size = w1.heap.size := o2.size
  obtain ⟨C, hC, HCN⟩ : ∃ C : Nat, C < 4294967296 ∧ Hid (C + N = 4294967296) := ⟨4294967296 - N, by omega, show _ = _ by omega⟩
  have hCe := hide (show 4294967296 - (N : Int) = (C : Int) by have := HCN.out; omega)
  rw [hNe.out, hCe.out, at_set h32.out] at r2
  rw [hNe.out, hCe.out]
  have B2 := b1.trans (o2.below a1)
  have T2 := hT.later B2
  clear r1 b1 o2 hT hal
  rename_i Q1 K1 hK1
  refine wp_region_vals [8, 9] (SE3 g ks ns C N) (JE w2 (64 * N)) (by kernel_rfl) (by kernel_rfl) (by kernel_rfl) (by kernel_rfl) (by kernel_rfl) ⟨(Below.refl _ _).drew, fun h => by cases h⟩ ?obs3 ?he3
  case obs3 =>
    have hk := Hk.out
    have hn := Hn.out
    have hi := Hi.out
    have hz := Hz.out
    have hsz := Hs.out
    have hbys := Hb.out
    have hCN := HCN.out
    have hr := r2
    have hT := T2
    have h32 := h32.out
    have h33 : (bv ks ++ [Value.int .u32 C]).length = 33 := by rw [List.length_append, bv_len, hk]; rfl
    have zk := zk.out
    have zn := zn.out
    refine ⟨?_, ?_, ?_, ?_, ?_, ?_, ?_, ?_, ?_, ?_, ?_, ?_, ?_, ?_, ?_, trivial⟩
    · refine .inl ⟨by kernel_rfl, fun L a1 w1 n h => ⟨.pointer (some ⟨g, 0, none⟩), rfl, ?_⟩⟩
      have e0 : a1.eval (.tmp 2) = _ := h.var n 2 (by kernel_rfl)
      unfold execOp
      simp only [e0]
      go_simp
    · exact .inl ⟨by kernel_rfl, fun L a1 w1 n h => ⟨_, rfl, run_loadP 22 (.tmp 23) g 0 26 [] (bv ks) _ _ rfl (h.dep n 0 23 (by kernel_rfl) rfl) (atRowA (hr.later h.inv.1)) rfl Tryd.underlying22 rfl zk⟩⟩
    · refine .inl ⟨by kernel_rfl, fun L a1 w1 n h => ⟨.pointer (some ⟨g, 32, none⟩), rfl, ?_⟩⟩
      have e0 : a1.eval (.tmp 2) = _ := h.var n 2 (by kernel_rfl)
      unfold execOp
      simp only [e0]
      go_simp
    · exact .inl ⟨by kernel_rfl, fun L a1 w1 n h => ⟨_, rfl, run_loadA 23 (.tmp 25) ⟨g, 32, none⟩ rfl Tryd.isAgg23 (h.dep n 2 25 (by kernel_rfl) rfl) ((hr.later h.inv.1).cell (atCtr h32))⟩⟩
    · refine .inl ⟨by kernel_rfl, fun L a1 w1 n h => ⟨.pointer (some ⟨g, 33, none⟩), rfl, ?_⟩⟩
      have e0 : a1.eval (.tmp 2) = _ := h.var n 2 (by kernel_rfl)
      unfold execOp
      simp only [e0]
      go_simp
    · exact .inl ⟨by kernel_rfl, fun L a1 w1 n h => ⟨_, rfl, run_loadP 24 (.tmp 27) g 33 26 _ (bv ns) _ _ rfl (h.dep n 4 27 (by kernel_rfl) rfl) (atRowC (hr.later h.inv.1)) h33 Tryd.underlying24 rfl zn⟩⟩
    · exact .inl ⟨by kernel_rfl, fun L a1 w1 n h => ⟨_, rfl, run_move (.tmp 5) rfl (h.var n 5 (by kernel_rfl))⟩⟩
    · refine .inl ⟨by kernel_rfl, fun L a1 w1 n h => ⟨.int .i64 ((64 * N : Nat) : Int), rfl, ?_⟩⟩
      have e0 : a1.eval (.tmp 29) = _ := h.dep n 6 29 (by kernel_rfl) rfl
      unfold execOp
      simp only [e0]
      go_simp
      rw [IntWalk.i64_in _ (by omega)]
    · refine .inr fun L a1 w1 n h K hK => ?_
      have no : L.getD 9 false = false := n.later (by kernel_rfl)
      refine st_make 30 (.tmp 30) (.tmp 30) rfl 5 i0 (Value.int .u8 0) Tryd.underlying30 hi hz hsz zc0 .i64 .i64 (64 * N) (64 * N) _ _ (h.dep n 7 30 (by kernel_rfl) rfl) (h.dep n 7 30 (by kernel_rfl) rfl) rfl rfl (Nat.le_refl _) (by rw [hbys]; omega) (by omega) ?_
      intro g7 w3 r7 a7 l7 b7
      refine hK _ _ ⟨g7, rfl⟩ ⟨h.inv.1.trans (b7.mono h.inv.1.size), fun _ => ⟨g7, rfl, r7⟩⟩
    · refine .inr fun L a1 w1 n h K hK => ?_
      have yes : L.getD 8 false = true := n.dep (by kernel_rfl)
      obtain ⟨g7, p7, r7⟩ := h.inv.2 yes
      have e0 : a1.eval (.tmp 24) = _ := h.dep n 1 24 (by kernel_rfl) rfl
      have e1 : a1.eval (.tmp 26) = _ := h.dep n 3 26 (by kernel_rfl) rfl
      have e2 : a1.eval (.tmp 28) = _ := h.dep n 5 28 (by kernel_rfl) rfl
      have e3 : a1.eval (.tmp 31) = .slice (some ⟨g7, 0, none⟩) (64 * N) (64 * N) := p7
      refine st_call 20 _ _ #[.agg (bv ks).toArray, .int .u32 (C : Int), .agg (bv ns).toArray, .slice (some ⟨g7, 0, none⟩) (64 * N) (64 * N)] rfl Tryd.call20 ?_ (xor_any ks ns (List.replicate (64 * N) 0) C (64 * N) (64 * N) (some ⟨g7, 0, none⟩) w1 (hT.later h.inv.1) hk hn hk' hn' hC (zeros_bs r7) (zeros_by _) (by omega)) ?_
      · simp only [List.map_toArray, List.map_cons, List.map_nil, e0, e1, e2, e3]
      · rintro e w3 ⟨A, c, rfl, _, hb, _, _⟩
        rw [List.length_replicate]
        exact ⟨_, rfl, hK _ _ ⟨A, c, rfl⟩ ⟨h.inv.1.trans (hb.mono h.inv.1.size), fun h10 => ⟨g7, p7, r7.later hb⟩⟩⟩
    · exact .inl ⟨by kernel_rfl, fun L a1 w1 n h => ⟨_, h.dep n 9 32 (by kernel_rfl) rfl, run_move (.tmp 32) rfl rfl⟩⟩
    · refine .inl ⟨by kernel_rfl, fun L a1 w1 n h => ?_⟩
      obtain ⟨A, c, hv⟩ := h.dep n 10 22 (by kernel_rfl) rfl
      exact ⟨.slice A _ c, ⟨A, c, rfl⟩, run_extractA (.tmp 22) 0 _ rfl hv rfl⟩
    · refine .inl ⟨by kernel_rfl, fun L a1 w1 n h => ?_⟩
      obtain ⟨A, c, hv⟩ := h.dep n 10 22 (by kernel_rfl) rfl
      exact ⟨_, rfl, run_extractA (.tmp 22) 1 _ rfl hv rfl⟩
    · exact .inl ⟨by kernel_rfl, fun L a1 w1 n h => ⟨_, h.dep n 11 33 (by kernel_rfl) rfl, run_assign (.tmp 33) rfl rfl⟩⟩
    · exact .inl ⟨by kernel_rfl, fun L a1 w1 n h => ⟨_, rfl, run_assign (.tmp 34) rfl (h.dep n 12 34 (by kernel_rfl) rfl)⟩⟩
  case he3 =>
    intro V w3 hV hJ
    have hb3 : Below w2.heap.size w2 w3 := hJ.1
    obtain ⟨A6, c6, h6⟩ : IsSl (64 * N) (V 13) := hV 13 6 rfl
    have h7 : V 14 = .bool true := hV 14 7 rfl
    have r3 := r2.later hb3
    have T3 := T2.later hb3
    have B3 := B2.trans (hb3.mono B2.size)
    clear hV hJ hb3 r2 T2 B2
    simp only [putOps, List.setIfInBounds_toArray, List.set_cons_succ, List.set_cons_zero]
    rw [h6, h7]
    refine hK1 _ _ ?_
    clear hK1 h6 h7
    go_wp2_with fail
    rename_i K2 hK2
    refine wp_region_vals [9, 10] (SE4 g ks ns C N) (JE w3 (64 * N + 1)) (by kernel_rfl) (by kernel_rfl) (by kernel_rfl) (by kernel_rfl) (by kernel_rfl) ⟨(Below.refl _ _).drew, fun h => by cases h⟩ ?obs4 ?he4
    case obs4 =>
      have w2 := w3
      have hk := Hk.out
      have hn := Hn.out
      have hi := Hi.out
      have hz := Hz.out
      have hsz := Hs.out
      have hbys := Hb.out
      have hCN := HCN.out
      have hr := r3
      have hT := T3
      have h32 := h32.out
      have h33 : (bv ks ++ [Value.int .u32 C]).length = 33 := by rw [List.length_append, bv_len, hk]; rfl
      have zk := zk.out
      have zn := zn.out
      refine ⟨?_, ?_, ?_, ?_, ?_, ?_, ?_, ?_, ?_, ?_, ?_, ?_, ?_, ?_, ?_, ?_, trivial⟩
      · refine .inl ⟨by kernel_rfl, fun L a1 w1 n h => ⟨.pointer (some ⟨g, 0, none⟩), rfl, ?_⟩⟩
        have e0 : a1.eval (.tmp 2) = _ := h.var n 2 (by kernel_rfl)
        unfold execOp
        simp only [e0]
        go_simp
      · exact .inl ⟨by kernel_rfl, fun L a1 w1 n h => ⟨_, rfl, run_loadP 22 (.tmp 36) g 0 26 [] (bv ks) _ _ rfl (h.dep n 0 36 (by kernel_rfl) rfl) (atRowA (hr.later h.inv.1)) rfl Tryd.underlying22 rfl zk⟩⟩
      · refine .inl ⟨by kernel_rfl, fun L a1 w1 n h => ⟨.pointer (some ⟨g, 32, none⟩), rfl, ?_⟩⟩
        have e0 : a1.eval (.tmp 2) = _ := h.var n 2 (by kernel_rfl)
        unfold execOp
        simp only [e0]
        go_simp
      · exact .inl ⟨by kernel_rfl, fun L a1 w1 n h => ⟨_, rfl, run_loadA 23 (.tmp 38) ⟨g, 32, none⟩ rfl Tryd.isAgg23 (h.dep n 2 38 (by kernel_rfl) rfl) ((hr.later h.inv.1).cell (atCtr h32))⟩⟩
      · refine .inl ⟨by kernel_rfl, fun L a1 w1 n h => ⟨.pointer (some ⟨g, 33, none⟩), rfl, ?_⟩⟩
        have e0 : a1.eval (.tmp 2) = _ := h.var n 2 (by kernel_rfl)
        unfold execOp
        simp only [e0]
        go_simp
      · exact .inl ⟨by kernel_rfl, fun L a1 w1 n h => ⟨_, rfl, run_loadP 24 (.tmp 40) g 33 26 _ (bv ns) _ _ rfl (h.dep n 4 40 (by kernel_rfl) rfl) (atRowC (hr.later h.inv.1)) h33 Tryd.underlying24 rfl zn⟩⟩
      · exact .inl ⟨by kernel_rfl, fun L a1 w1 n h => ⟨_, rfl, run_move (.tmp 5) rfl (h.var n 5 (by kernel_rfl))⟩⟩
      · refine .inl ⟨by kernel_rfl, fun L a1 w1 n h => ⟨.int .i64 ((64 * N : Nat) : Int), rfl, ?_⟩⟩
        have e0 : a1.eval (.tmp 42) = _ := h.dep n 6 42 (by kernel_rfl) rfl
        unfold execOp
        simp only [e0]
        go_simp
        rw [IntWalk.i64_in _ (by omega)]
      · refine .inl ⟨by kernel_rfl, fun L a1 w1 n h => ⟨.int .i64 ((64 * N + 1 : Nat) : Int), rfl, ?_⟩⟩
        have e0 : a1.eval (.tmp 43) = _ := h.dep n 7 43 (by kernel_rfl) rfl
        unfold execOp
        simp only [e0]
        go_simp
        rw [IntWalk.i64_in _ (by omega)]
      · refine .inr fun L a1 w1 n h K hK => ?_
        have no : L.getD 10 false = false := n.later (by kernel_rfl)
        refine st_make 30 (.tmp 44) (.tmp 44) rfl 5 i0 (Value.int .u8 0) Tryd.underlying30 hi hz hsz zc0 .i64 .i64 (64 * N + 1) (64 * N + 1) _ _ (h.dep n 8 44 (by kernel_rfl) rfl) (h.dep n 8 44 (by kernel_rfl) rfl) rfl rfl (Nat.le_refl _) (by rw [hbys]; omega) (by omega) ?_
        intro g7 w3 r7 a7 l7 b7
        refine hK _ _ ⟨g7, rfl⟩ ⟨h.inv.1.trans (b7.mono h.inv.1.size), fun _ => ⟨g7, rfl, r7⟩⟩
      · refine .inr fun L a1 w1 n h K hK => ?_
        have yes : L.getD 9 false = true := n.dep (by kernel_rfl)
        obtain ⟨g7, p7, r7⟩ := h.inv.2 yes
        have e0 : a1.eval (.tmp 37) = _ := h.dep n 1 37 (by kernel_rfl) rfl
        have e1 : a1.eval (.tmp 39) = _ := h.dep n 3 39 (by kernel_rfl) rfl
        have e2 : a1.eval (.tmp 41) = _ := h.dep n 5 41 (by kernel_rfl) rfl
        have e3 : a1.eval (.tmp 45) = .slice (some ⟨g7, 0, none⟩) (64 * N + 1) (64 * N + 1) := p7
        refine st_call 20 _ _ #[.agg (bv ks).toArray, .int .u32 (C : Int), .agg (bv ns).toArray, .slice (some ⟨g7, 0, none⟩) (64 * N + 1) (64 * N + 1)] rfl Tryd.call20 ?_ (xor_long ks ns C (64 * N + 1) (64 * N + 1) (some ⟨g7, 0, none⟩) w1 hk hn hC (by simp only [maxLen]; omega) (by omega)) ?_
        · simp only [List.map_toArray, List.map_cons, List.map_nil, e0, e1, e2, e3]
        · rintro e w3 ⟨rfl, hb⟩
          exact ⟨_, rfl, hK _ _ ⟨_, _, rfl⟩ ⟨h.inv.1.trans (hb.mono h.inv.1.size), fun h10 => ⟨g7, p7, r7.later hb⟩⟩⟩
      · exact .inl ⟨by kernel_rfl, fun L a1 w1 n h => ⟨_, h.dep n 10 46 (by kernel_rfl) rfl, run_move (.tmp 46) rfl rfl⟩⟩
      · refine .inl ⟨by kernel_rfl, fun L a1 w1 n h => ?_⟩
        obtain ⟨A, c, hv⟩ := h.dep n 11 35 (by kernel_rfl) rfl
        exact ⟨.slice A _ c, ⟨A, c, rfl⟩, run_extractA (.tmp 35) 0 _ rfl hv rfl⟩
      · refine .inl ⟨by kernel_rfl, fun L a1 w1 n h => ?_⟩
        obtain ⟨A, c, hv⟩ := h.dep n 11 35 (by kernel_rfl) rfl
        exact ⟨_, rfl, run_extractA (.tmp 35) 1 _ rfl hv rfl⟩
      · exact .inl ⟨by kernel_rfl, fun L a1 w1 n h => ⟨_, h.dep n 12 47 (by kernel_rfl) rfl, run_assign (.tmp 47) rfl rfl⟩⟩
      · exact .inl ⟨by kernel_rfl, fun L a1 w1 n h => ⟨_, rfl, run_assign (.tmp 48) rfl (h.dep n 13 48 (by kernel_rfl) rfl)⟩⟩
    case he4 =>
      intro V' w4 hV hJ
      have hb4 : Below w3.heap.size w3 w4 := hJ.1
      obtain ⟨A8, c8, h8⟩ : IsSl 0 (V' 14) := hV 14 8 rfl
      have h9 : V' 15 = .bool false := hV 15 9 rfl
      have r4 := r3.later hb4
      have T4 := T3.later hb4
      have B4 := B3.trans (hb4.mono B3.size)
      clear hV hJ hb4 r3 T3 B3
      simp only [putOps, List.setIfInBounds_toArray, List.set_cons_succ, List.set_cons_zero]
      rw [h8, h9]
      refine hK2 _ _ ?_
      clear hK2 h8 h9
      have hi := Hi.out
      have hz := Hz.out
      have hsz := Hs.out
      have zc1 : (Value.int IntKind.u8 1).cells = #[Value.int IntKind.u8 1] := rfl
      go_wp2_with (first
        | ((with_reducible refine wl_build1 rfl 30 (.const (.int .u8 1)) rfl 5 i0 (Value.int IntKind.u8 0) (Value.int IntKind.u8 1) Tryd.underlying30 hi hz hsz zc0 rfl zc1 ?_); intro gn w5 r5 a5 l5 b5)
        | (go_at_call 23; refine (sxor_nil 1 1 _ _ (by omega) (by simp [maxLen])).mono ?_; rintro e w' ⟨rfl, rfl⟩))
      have r5' := r4.later b5
      have B5 := B4.trans (b5.mono B4.size)
      have hLe := hide (show (4294967296 - (C : Int)) * 64 = 64 * (N : Int) by have := HCN.out; omega)
      have h33 := hide (show (bv ks ++ [Value.int .u32 C]).length = 33 by rw [List.length_append, bv_len, Hk.out]; rfl)
      clear hi hz hsz r5 r4 b5
      refine (left_nil _).mono ?_
      rintro e w' ⟨rfl, rfl⟩
      go_wp2_with (first
        | (with_reducible refine wg_load_part 31 true 86 rfl rfl rfl 22 (.tmp 87) g 0 26 _ (bv ks) _ _ rfl rfl (atRowA r5') rfl Tryd.underlying22 rfl zk.out ?_)
        | (with_reducible refine wg_load 31 true 86 rfl rfl rfl 23 (.tmp 89) g 32 26 _ (.int .u32 (C : Int)) rfl Tryd.isAgg23 rfl r5' (atCtr h32.out) ?_)
        | (with_reducible refine wg_load_part 31 true 86 rfl rfl rfl 24 (.tmp 91) g 33 26 _ (bv ns) _ _ rfl rfl (atRowC r5') h33.out Tryd.underlying24 rfl zn.out ?_))
      refine (new_any ks ns C _ Hk.out Hn.out ⟨by omega, by omega⟩).mono ?_
      rintro e w6 ⟨g6, rfl, hg6, r6, b6⟩
      rw [hLe.out] at r6
      go_wp2_with fail
      refine (left_any ks ns _ g6 _ Hk.out Hn.out r6).mono ?_
      rintro e w' ⟨rfl, rfl⟩
      go_wp2_with (go_at_call 18; refine (awake_any _).mono ?_; rintro e w' ⟨rfl, rfl⟩)
      go_ret
      exact ⟨rfl, B5.trans (b6.mono B5.size)⟩
end Go.Proofs.YtfpemnihknbihaaDoor
