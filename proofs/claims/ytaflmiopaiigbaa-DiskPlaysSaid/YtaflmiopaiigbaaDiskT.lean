/-
  The disk: one that no call made. Own work.
-/
import Derived.Test.YtaflmiopaiigbaaDiskS
namespace Go.Proofs.Ytaflmiopaiigbaa
open Go.RowKit Go.Maps Go.ChangeMaps
set_option linter.unusedVariables false
set_option linter.unusedSimpArgs false
set_option maxRecDepth 100000 in
theorem change_errV (w : World) (v : Value) (e : Int) (fv : Value) (he : e ≠ 0) : Calls Try.prog 56 #[v, .int .i64 e, fv] w fun en w' => en = .returned (.int .i64 e) ∧ w = w' := by
  have hd : decide (e = 0) = false := by simp [he]
  go_enter Try.func56, Try.ntmps56
  go_wp2_with fail
  go_ret
  exact ⟨rfl, rfl⟩
set_option maxRecDepth 100000 in
theorem find_no (w : World) (pa : Option Addr) (n : Nm) (h : Unmade w (.pointer pa)) :
    Calls Try.prog 58 #[.pointer pa, encStr n, .slice none 0 0] w fun e w' => e = .returned (.tuple #[zV.val, .int .i64 2]) ∧ Below w.heap.size w w' := by
  obtain ⟨i0, hi, hz, hs, hb⟩ := str_info
  go_enter Try.func58, Try.ntmps58
  go_wp2_with (first
    | ((with_reducible refine wl_alloc rfl 86 _ [.slice none 0 0, .int .i64 0] rfl zFile rfl ?_); intro g1 w1 r1 p1 l1 b1)
    | ((with_reducible refine wl_build1 rfl 43 (.tmp 12) rfl 9 i0 (.string ByteArray.empty) (encStr n) Try.underlying43 hi hz hs rfl rfl rfl ?_); intro g3 w3 r3 p3 l3 b3; have own3 : w3.ownsRow w.heap.size 9 1 (.slice (some ⟨g3, 0, none⟩) 1 1) 1 [encStr n] := row_own r3 (Nat.le_trans b1.size p3) len1)
    | (with_reducible refine wl_append_none rfl (.tmp 13) (.tmp 14) 43 rfl w.heap.size 9 i0 1 Try.underlying43 hi (.slice (some ⟨g3, 0, none⟩) 1 1) 1 [encStr n] rfl rfl own3 ?_))
  have bW : Below w.heap.size w w3 := b1.trans (b3.mono b1.size)
  have rW := Row.later r1 b3
  refine (refuse_no w3 _ _ _ _ (h.later bW)).mono ?_
  rintro e w5 ⟨rfl, rfl⟩
  go_wp2_with (first
    | ((with_reducible refine wl_build rfl 86 _ rfl _ ?hv _ builtFile0 ?hk); case hv => rfl)
    | ((with_reducible refine wl_store_row rfl 86 (.tmp 6) (.tmp 19) g1 86 _ [.slice zV.A zV.n zV.c, .int .i64 zV.kept] rfl rfl rfl rW (szFile zV) rfl (one_file zV) ?_); intro w7 r7 o7))
  refine bodyPost_ret (v := .tuple #[zV.val, .int .i64 2]) ?_ rfl ⟨rfl, bW.trans (o7.below p1)⟩
  exact results_file2 Try.results58 rfl rfl r7
set_option maxRecDepth 100000 in
theorem find_no2 (w : World) (pa : Option Addr) (n : Nm) (n2 : Nm) (A : Option Addr) (c : Nat) (h2 : NmsAt w A 1 [n2]) (hlt : ∀ b o, A = some ⟨b, o, none⟩ → b < w.heap.size) (h : Unmade w (.pointer pa)) :
    Calls Try.prog 58 #[.pointer pa, encStr n, .slice A 1 c] w fun e w' => e = .returned (.tuple #[zV.val, .int .i64 2]) ∧ Below w.heap.size w w' := by
  obtain ⟨i0, hi, hz, hs, hb⟩ := str_info
  obtain ⟨b2, o2, rfl, hc2⟩ := h2.2 (by decide)
  have hb2 := hlt b2 o2 rfl
  go_enter Try.func58, Try.ntmps58
  go_wp2_with (first
    | ((with_reducible refine wl_alloc rfl 86 _ [.slice none 0 0, .int .i64 0] rfl zFile rfl ?_); intro g1 w1 r1 p1 l1 b1)
    | ((with_reducible refine wl_build1 rfl 43 (.tmp 12) rfl 9 i0 (.string ByteArray.empty) (encStr n) Try.underlying43 hi hz hs rfl rfl rfl ?_); intro g3 w3 r3 p3 l3 b3; have hC3 := nms_src (nms_below (b1.trans (b3.mono b1.size)) hb2 hc2); have own3 : w3.ownsRow w.heap.size 9 1 (.slice (some ⟨g3, 0, none⟩) 1 1) 1 [encStr n] := row_own r3 (Nat.le_trans b1.size p3) len1)
    | ((with_reducible refine wl_append_at rfl (.tmp 13) (.tmp 14) 43 rfl w.heap.size 9 i0 (.string ByteArray.empty) 1 16 Try.underlying43 hi hz hs hb rfl (by decide) (.slice (some ⟨g3, 0, none⟩) 1 1) 1 [encStr n] rfl own3 ⟨b2, o2, none⟩ 1 c [encStr n2] rfl rfl hC3 (one_str n2) le2a le2b (Nat.le_trans b1.size b3.size) ?_); intro v4 w4 own4 hg4 hl4; obtain ⟨A4, c4, rfl, hN⟩ := own_nms (ns := [n, n2]) own4 (by decide); have b4 := grown_lo hg4 (sl_own (Nat.le_trans b1.size p3)) (Nat.le_trans b1.size b3.size)))
  have bW : Below w.heap.size w w4 := (b1.trans (b3.mono b1.size)).trans b4
  have rW : Row w4 86 g1 [.slice none 0 0, .int .i64 0] := by
    have ne13 : g1 ≠ g3 := Nat.ne_of_lt (Nat.lt_of_lt_of_le r1.lt p3)
    exact (hg4.block g1 (Row.later r1 b3).lt (fun e => ne13 (by cases e; rfl))).trans (Row.later r1 b3)
  refine (refuse_no w4 _ _ _ _ (h.later bW)).mono ?_
  rintro e w5 ⟨rfl, rfl⟩
  go_wp2_with (first
    | ((with_reducible refine wl_build rfl 86 _ rfl _ ?hv _ builtFile0 ?hk); case hv => rfl)
    | ((with_reducible refine wl_store_row rfl 86 (.tmp 6) (.tmp 19) g1 86 _ [.slice zV.A zV.n zV.c, .int .i64 zV.kept] rfl rfl rfl rW (szFile zV) rfl (one_file zV) ?_); intro w7 r7 o7))
  refine bodyPost_ret (v := .tuple #[zV.val, .int .i64 2]) ?_ rfl ⟨rfl, bW.trans (o7.below p1)⟩
  exact results_file2 Try.results58 rfl rfl r7

set_option maxRecDepth 100000 in
theorem sync_no (w : World) (pa : Option Addr) (n : Nm) (h : Unmade w (.pointer pa)) :
    Calls Try.prog 29 #[.pointer pa, encStr n] w fun e w' => e = .returned (.int .i64 2) ∧ Below w.heap.size w w' := by
  obtain ⟨i0, hi, hz, hs, hb⟩ := str_info
  have HFD := fun (w1 : World) (b : Below w.heap.size w w1) => find_no w1 pa n (h.later b)
  have HFD := hide HFD
  clear h
  go_enter Try.func29, Try.ntmps29
  go_wp2_with (first
    | ((with_reducible refine wl_box rfl 27 _ (.pointer pa) [.pointer pa] rfl rfl rfl ?_); intro gA wgA rgA pgA lgA bgA; have bX := bgA)
    | ((with_reducible refine wl_box rfl 9 _ (encStr n) [encStr n] rfl rfl rfl ?_); intro gB wgB rgB pgB lgB bgB; have bX0 := bX; have pgB := Nat.le_trans bX0.size pgB; have bX := bX.trans (bgB.mono bX.size); have rgA := Row.later rgA bgB)
    | (with_reducible refine wl_load rfl 27 _ gA 0 27 _ (.pointer pa) rfl Try.isAgg27 rfl rgA rfl ?_)
    | (with_reducible refine wl_load rfl 9 _ gB 0 9 _ (encStr n) rfl Try.isAgg9 rfl rgB rfl ?_))
  refine (HFD.out wgB bX).mono ?_
  rintro en w4 ⟨rfl, b4⟩
  have rgA := Row.later rgA b4
  have rgB := Row.later rgB b4
  have cgA := rgA.cell (j := 0) rfl
  have cgB := rgB.cell (j := 0) rfl
  have bX := bX.trans (b4.mono bX.size)
  clear HFD b4 bgA lgA bgB lgB
  go_wp2_with (first
    | ((with_reducible refine wl_alloc rfl 86 _ [.slice none 0 0, .int .i64 0] rfl zFile rfl ?_); intro gF w5 rF pF lF bF; clear cgA; have rgA := Row.later rgA bF; clear cgB; have rgB := Row.later rgB bF; have pF := Nat.le_trans bX.size pF; have bX := bX.trans (bF.mono bX.size))
    | ((with_reducible refine wl_store_row rfl 86 (.tmp 5) (.tmp 11) gF 86 _ [.slice zV.A zV.n zV.c, .int .i64 zV.kept] rfl rfl rfl rF (szFile zV) rfl (one_file zV) ?_); intro w6 r6 o6; have rgA := rgA.only o6 (rne rgA rF (by decide)); have rgB := rgB.only o6 (rne rgB rF (by decide)); have bX := bX.trans (o6.below pF); have cgA := rgA.cell (j := 0) rfl; have cgB := rgB.cell (j := 0) rfl; have cF0 := r6.cell (j := 0) rfl))
  refine (change_errV w6 _ 2 _ (by decide)).mono ?_
  rintro en w7 ⟨rfl, rfl⟩
  go_wp2_with fail
  go_ret
  exact ⟨rfl, bX⟩
set_option maxRecDepth 100000 in
theorem remove_no (w : World) (pa : Option Addr) (n : Nm) (h : Unmade w (.pointer pa)) :
    Calls Try.prog 35 #[.pointer pa, encStr n] w fun e w' => e = .returned (.int .i64 2) ∧ Below w.heap.size w w' := by
  obtain ⟨i0, hi, hz, hs, hb⟩ := str_info
  have HFD := fun (w1 : World) (b : Below w.heap.size w w1) => find_no w1 pa n (h.later b)
  have HFD := hide HFD
  clear h
  go_enter Try.func35, Try.ntmps35
  go_wp2_with (first
    | ((with_reducible refine wl_box rfl 27 _ (.pointer pa) [.pointer pa] rfl rfl rfl ?_); intro gA wgA rgA pgA lgA bgA; have bX := bgA)
    | ((with_reducible refine wl_box rfl 9 _ (encStr n) [encStr n] rfl rfl rfl ?_); intro gB wgB rgB pgB lgB bgB; have bX0 := bX; have pgB := Nat.le_trans bX0.size pgB; have bX := bX.trans (bgB.mono bX.size); have rgA := Row.later rgA bgB)
    | (with_reducible refine wl_load rfl 27 _ gA 0 27 _ (.pointer pa) rfl Try.isAgg27 rfl rgA rfl ?_)
    | (with_reducible refine wl_load rfl 9 _ gB 0 9 _ (encStr n) rfl Try.isAgg9 rfl rgB rfl ?_))
  refine (HFD.out wgB bX).mono ?_
  rintro en w4 ⟨rfl, b4⟩
  have rgA := Row.later rgA b4
  have rgB := Row.later rgB b4
  have cgA := rgA.cell (j := 0) rfl
  have cgB := rgB.cell (j := 0) rfl
  have bX := bX.trans (b4.mono bX.size)
  clear HFD b4 bgA lgA bgB lgB
  go_wp2_with (first
    | ((with_reducible refine wl_alloc rfl 86 _ [.slice none 0 0, .int .i64 0] rfl zFile rfl ?_); intro gF w5 rF pF lF bF; clear cgA; have rgA := Row.later rgA bF; clear cgB; have rgB := Row.later rgB bF; have pF := Nat.le_trans bX.size pF; have bX := bX.trans (bF.mono bX.size))
    | ((with_reducible refine wl_store_row rfl 86 (.tmp 5) (.tmp 11) gF 86 _ [.slice zV.A zV.n zV.c, .int .i64 zV.kept] rfl rfl rfl rF (szFile zV) rfl (one_file zV) ?_); intro w6 r6 o6; have rgA := rgA.only o6 (rne rgA rF (by decide)); have rgB := rgB.only o6 (rne rgB rF (by decide)); have bX := bX.trans (o6.below pF); have cgA := rgA.cell (j := 0) rfl; have cgB := rgB.cell (j := 0) rfl; have cF0 := r6.cell (j := 0) rfl))
  refine (change_errV w6 _ 2 _ (by decide)).mono ?_
  rintro en w7 ⟨rfl, rfl⟩
  go_wp2_with fail
  go_ret
  exact ⟨rfl, bX⟩
set_option maxRecDepth 100000 in
theorem rename_no (w : World) (pa : Option Addr) (n n2 : Nm) (h : Unmade w (.pointer pa)) :
    Calls Try.prog 34 #[.pointer pa, encStr n, encStr n2] w fun e w' => e = .returned (.int .i64 2) ∧ Below w.heap.size w w' := by
  obtain ⟨i0, hi, hz, hs, hb⟩ := str_info
  have HFD := fun (w1 : World) (b : Below w.heap.size w w1) (A : Option Addr) (c : Nat) (hN : NmsAt w1 A 1 [n2]) (hA : ∀ b o, A = some ⟨b, o, none⟩ → b < w1.heap.size) => find_no2 w1 pa n n2 A c hN hA (h.later b)
  have HFD := hide HFD
  clear h
  go_enter Try.func34, Try.ntmps34
  go_wp2_with (first
    | ((with_reducible refine wl_box rfl 27 _ (.pointer pa) [.pointer pa] rfl rfl rfl ?_); intro gA wgA rgA pgA lgA bgA; have bX := bgA)
    | ((with_reducible refine wl_box rfl 9 _ (encStr n) [encStr n] rfl rfl rfl ?_); intro gB wgB rgB pgB lgB bgB; have bX0 := bX; have pgB := Nat.le_trans bX0.size pgB; have bX := bX.trans (bgB.mono bX.size); have rgA := Row.later rgA bgB)
    | ((with_reducible refine wl_box rfl 9 _ (encStr n2) [encStr n2] rfl rfl rfl ?_); intro gT wgT rgT pgT lgT bgT; have bX0 := bX; have pgT := Nat.le_trans bX0.size pgT; have bX := bX.trans (bgT.mono bX.size); have rgA := Row.later rgA bgT; have rgB := Row.later rgB bgT)
    | (with_reducible refine wl_load rfl 27 _ gA 0 27 _ (.pointer pa) rfl Try.isAgg27 rfl rgA rfl ?_)
    | (with_reducible refine wl_load rfl 9 _ gB 0 9 _ (encStr n) rfl Try.isAgg9 rfl rgB rfl ?_)
    | (with_reducible refine wl_load rfl 9 _ gT 0 9 _ (encStr n2) rfl Try.isAgg9 rfl rgT rfl ?_)
    | ((with_reducible refine wl_build1 rfl 43 (.tmp 12) rfl 9 i0 (.string ByteArray.empty) (encStr n2) Try.underlying43 hi hz hs rfl rfl rfl ?_); intro g3 w3 r3 p3 l3 b3; have bX := bX.trans (b3.mono bX.size); have rgA := Row.later rgA b3; have rgB := Row.later rgB b3; have rgT := Row.later rgT b3))
  refine (HFD.out w3 bX (some ⟨g3, 0, none⟩) 1 (row_nms r3) (fun b o e => by cases e; exact l3)).mono ?_
  rintro en w4 ⟨rfl, b4⟩
  have rgA := Row.later rgA b4
  have rgB := Row.later rgB b4
  have rgT := Row.later rgT b4
  have cgA := rgA.cell (j := 0) rfl
  have cgB := rgB.cell (j := 0) rfl
  have cgT := rgT.cell (j := 0) rfl
  have bX := bX.trans (b4.mono bX.size)
  clear HFD b4 r3 l3 p3 b3 bgA lgA bgB lgB bgT lgT
  go_wp2_with (first
    | ((with_reducible refine wl_alloc rfl 86 _ [.slice none 0 0, .int .i64 0] rfl zFile rfl ?_); intro gF w5 rF pF lF bF; clear cgA; have rgA := Row.later rgA bF; clear cgB; have rgB := Row.later rgB bF; clear cgT; have rgT := Row.later rgT bF; have pF := Nat.le_trans bX.size pF; have bX := bX.trans (bF.mono bX.size))
    | ((with_reducible refine wl_store_row rfl 86 (.tmp 7) (.tmp 15) gF 86 _ [.slice zV.A zV.n zV.c, .int .i64 zV.kept] rfl rfl rfl rF (szFile zV) rfl (one_file zV) ?_); intro w6 r6 o6; have rgA := rgA.only o6 (rne rgA rF (by decide)); have rgB := rgB.only o6 (rne rgB rF (by decide)); have rgT := rgT.only o6 (rne rgT rF (by decide)); have bX := bX.trans (o6.below pF); have cgA := rgA.cell (j := 0) rfl; have cgB := rgB.cell (j := 0) rfl; have cgT := rgT.cell (j := 0) rfl; have cF0 := r6.cell (j := 0) rfl))
  refine (change_errV w6 _ 2 _ (by decide)).mono ?_
  rintro en w7 ⟨rfl, rfl⟩
  go_wp2_with fail
  go_ret
  exact ⟨rfl, bX⟩
set_option maxRecDepth 100000 in
theorem append_no (w : World) (pa : Option Addr) (n : Nm) (A : Option Addr) (m c : Nat) (h : Unmade w (.pointer pa)) :
    Calls Try.prog 28 #[.pointer pa, encStr n, .slice A m c] w fun e w' => e = .returned (.int .i64 2) ∧ Below w.heap.size w w' := by
  obtain ⟨i0, hi, hz, hs, hb⟩ := str_info
  have HFD := fun (w1 : World) (b : Below w.heap.size w w1) => find_no w1 pa n (h.later b)
  have HFD := hide HFD
  clear h
  go_enter Try.func28, Try.ntmps28
  go_wp2_with (first
    | ((with_reducible refine wl_box rfl 27 _ (.pointer pa) [.pointer pa] rfl rfl rfl ?_); intro gA wgA rgA pgA lgA bgA; have bX := bgA)
    | ((with_reducible refine wl_box rfl 9 _ (encStr n) [encStr n] rfl rfl rfl ?_); intro gB wgB rgB pgB lgB bgB; have bX0 := bX; have pgB := Nat.le_trans bX0.size pgB; have bX := bX.trans (bgB.mono bX.size); have rgA := Row.later rgA bgB)
    | ((with_reducible refine wl_box rfl 35 _ (.slice A m c) [.slice A m c] rfl rfl rfl ?_); intro gC wgC rgC pgC lgC bgC; have bX0 := bX; have pgC := Nat.le_trans bX0.size pgC; have bX := bX.trans (bgC.mono bX.size); have rgA := Row.later rgA bgC; have rgB := Row.later rgB bgC)
    | (with_reducible refine wl_load rfl 27 _ gA 0 27 _ (.pointer pa) rfl Try.isAgg27 rfl rgA rfl ?_)
    | (with_reducible refine wl_load rfl 9 _ gB 0 9 _ (encStr n) rfl Try.isAgg9 rfl rgB rfl ?_)
    | (with_reducible refine wl_load rfl 35 _ gC 0 35 _ (.slice A m c) rfl Try.isAgg35 rfl rgC rfl ?_))
  refine (HFD.out wgC bX).mono ?_
  rintro en w4 ⟨rfl, b4⟩
  have rgA := Row.later rgA b4
  have rgB := Row.later rgB b4
  have rgC := Row.later rgC b4
  have cgA := rgA.cell (j := 0) rfl
  have cgB := rgB.cell (j := 0) rfl
  have cgC := rgC.cell (j := 0) rfl
  have bX := bX.trans (b4.mono bX.size)
  clear HFD b4 bgA lgA bgB lgB bgC lgC
  go_wp2_with (first
    | ((with_reducible refine wl_alloc rfl 86 _ [.slice none 0 0, .int .i64 0] rfl zFile rfl ?_); intro gF w5 rF pF lF bF; clear cgA; have rgA := Row.later rgA bF; clear cgB; have rgB := Row.later rgB bF; clear cgC; have rgC := Row.later rgC bF; have pF := Nat.le_trans bX.size pF; have bX := bX.trans (bF.mono bX.size))
    | ((with_reducible refine wl_store_row rfl 86 (.tmp 7) (.tmp 13) gF 86 _ [.slice zV.A zV.n zV.c, .int .i64 zV.kept] rfl rfl rfl rF (szFile zV) rfl (one_file zV) ?_); intro w6 r6 o6; have rgA := rgA.only o6 (rne rgA rF (by decide)); have rgB := rgB.only o6 (rne rgB rF (by decide)); have rgC := rgC.only o6 (rne rgC rF (by decide)); have bX := bX.trans (o6.below pF); have cgA := rgA.cell (j := 0) rfl; have cgB := rgB.cell (j := 0) rfl; have cgC := rgC.cell (j := 0) rfl; have cF0 := r6.cell (j := 0) rfl))
  refine (change_errV w6 _ 2 _ (by decide)).mono ?_
  rintro en w7 ⟨rfl, rfl⟩
  go_wp2_with fail
  go_ret
  exact ⟨rfl, bX⟩

set_option maxRecDepth 100000 in
theorem create_no (w : World) (pa : Option Addr) (n : Nm) (h : Unmade w (.pointer pa)) : Calls Try.prog 27 #[.pointer pa, encStr n] w fun e w' => e = .returned (.int .i64 2) ∧ Below w.heap.size w w' := by
  obtain ⟨i0, hi, hz, hs, hb⟩ := str_info
  go_enter Try.func27, Try.ntmps27
  go_wp2_with (first
    | ((with_reducible refine wl_box rfl 27 _ (.pointer pa) [.pointer pa] rfl rfl rfl ?_); intro gA w1 rA pA lA bA)
    | ((with_reducible refine wl_box rfl 9 _ (encStr n) [encStr n] rfl rfl rfl ?_); intro gB w2 rB pB lB bB; have rA := Row.later rA bB; have bAB := bA.trans (bB.mono bA.size))
    | (with_reducible refine wl_load rfl 27 _ gA 0 27 _ (.pointer pa) rfl Try.isAgg27 rfl rA rfl ?_)
    | (with_reducible refine wl_load rfl 9 _ gB 0 9 _ (encStr n) rfl Try.isAgg9 rfl rB rfl ?_)
    | ((with_reducible refine wl_build1 rfl 43 (.tmp 7) rfl 9 i0 (.string ByteArray.empty) (encStr n) Try.underlying43 hi hz hs rfl rfl rfl ?_); intro g3 w3 r3 p3 l3 b3; have rA := Row.later rA b3; have rB := Row.later rB b3; have b03 := bAB.trans (b3.mono bAB.size)))
  refine (refuse_no w3 _ _ _ _ (h.later b03)).mono ?_
  rintro en w4 ⟨rfl, rfl⟩
  have cA := rA.cell (j := 0) rfl
  have cB := rB.cell (j := 0) rfl
  go_wp2_with fail
  refine (change_errV w3 _ 2 _ (by decide)).mono ?_
  rintro en w7 ⟨rfl, rfl⟩
  go_wp2_with fail
  go_ret
  exact ⟨rfl, b03⟩
theorem clone_nilF (w : World) : Calls Try.prog 14 #[.slice none 0 0] w fun e w' => e = .returned (.slice none 0 0) ∧ w = w' := by
  have q : ∀ (w : World) (a : Option Addr) (n c n' c' : Nat), (binOp .eql 35 (.slice a n c) (.slice none n' c')).run Try.prog w = .ok (.bool a.isNone) w := fun w a n c n' c' => Lib.run_eql_slice_nil w _ _ a n c n' c' Try.underlying35
  go_enter Try.func14, Try.ntmps14
  go_wp2
  go_ret
  exact ⟨rfl, rfl⟩
set_option maxRecDepth 100000 in
theorem read_no (w : World) (pa : Option Addr) (n : Nm) (h : Unmade w (.pointer pa)) : Calls Try.prog 31 #[.pointer pa, encStr n] w fun e w' => e = .returned (.tuple #[.slice none 0 0, .int .i64 2]) ∧ Below w.heap.size w w' := by
  go_enter Try.func31, Try.ntmps31
  go_wp2_with fail
  refine (find_no w pa n h).mono ?_
  rintro en w4 ⟨rfl, b4⟩
  go_wp2_with (first
    | ((with_reducible refine wl_alloc rfl 86 _ [.slice none 0 0, .int .i64 0] rfl zFile rfl ?_); intro gF w5 rF pF lF bF)
    | ((with_reducible refine wl_store_row rfl 86 (.tmp 6) (.tmp 12) gF 86 _ [.slice zV.A zV.n zV.c, .int .i64 zV.kept] rfl rfl rfl rF (szFile zV) rfl (one_file zV) ?_); intro w6 r6 o6; have cF0 := r6.cell (j := 0) rfl))
  have b6 : Below w.heap.size w w6 := (b4.trans (bF.mono b4.size)).trans (o6.below (Nat.le_trans b4.size pF))
  refine (clone_nilF w6).mono ?_
  rintro en w7 ⟨rfl, rfl⟩
  go_wp2_with fail
  go_ret2
  exact ⟨rfl, b6⟩
set_option maxRecDepth 100000 in
theorem edit_no (w : World) (v nv bv : Value) (h : Unmade w v) : Calls Try.prog 33 #[v, nv, bv] w fun e w' => e = .returned (.int .i64 2) ∧ w = w' := by
  go_enter Try.func33, Try.ntmps33
  go_wp2_with fail
  refine (made_no w v h).mono ?_
  rintro e w1 ⟨rfl, rfl⟩
  go_wp2_with fail
  go_ret
  exact ⟨rfl, rfl⟩
set_option maxRecDepth 100000 in
theorem load_no (w : World) (v lv : Value) (h : Unmade w v) : Calls Try.prog 25 #[v, lv] w fun e w' => e = .returned (.int .i64 2) ∧ w = w' := by
  go_enter Try.func25, Try.ntmps25
  go_wp2_with fail
  refine (made_no w v h).mono ?_
  rintro e w1 ⟨rfl, rfl⟩
  go_wp2_with fail
  go_ret
  exact ⟨rfl, rfl⟩
set_option maxRecDepth 100000 in
theorem image_no (w : World) (v : Value) (h : Unmade w v) : Calls Try.prog 19 #[v] w fun e w' => e = .returned (.slice none 0 0) ∧ w = w' := by
  go_enter Try.func19, Try.ntmps19
  go_wp2_with fail
  refine (names_no w v h).mono ?_
  rintro e w1 ⟨rfl, rfl⟩
  go_wp2_with fail
  go_loopw [3, 10] (fun sv iv wr => sv = .slice none 0 0 ∧ iv = .int .i64 0 ∧ wr = w) (fun _ _ _ => 0)
  case atStart => exact ⟨rfl, rfl, rfl⟩
  case round =>
    obtain ⟨rfl, rfl, rfl⟩ := hrel
    go_wp2_with fail
    go_ret
    exact ⟨rfl, rfl⟩
end Go.Proofs.Ytaflmiopaiigbaa
