/-
  The law DiskNobody: contract. Own work.
-/
import Derived.Test.YtlihoijbfffjcaaDiskU
namespace Go.Proofs.Ytlihoijbfffjcaa
open Go.RowKit Go.Maps Go.ChangeMaps
set_option linter.unusedVariables false
set_option linter.unusedSimpArgs false
theorem run_build1P {P : Program} (w : World) (t e : TypeId) (sz : Nat) (z : Value) (vs : Array Value) (ht : P.underlying t = some (.slice e)) (hs : ∀ w, (sizeOf e).run P w = .ok sz w) (hz : ∀ w, (zeroValue e).run P w = .ok z w) (hzc : z.cells.size = sz) (hv : vs.size = sz) (h0 : 0 < sz) (h1 : sz ≤ 100)
    (hf : Instr.fill (fun i => some (i * sz, sz)) ((Array.range (1 * sz)).map (z.cells[· % z.cells.size]!)) [(0, .agg vs)] = some vs) :
    (Instr.buildSlice t 1 #[(0, .agg vs)]).run P w = .ok (.slice (some ⟨w.heap.size, 0, none⟩) 1 1) (w.alloc (.cells vs e)) := by
  have h2 : ¬ (1 * sz > 2 ^ 24) := by omega
  have h3 : ¬ (1 * sz = 0) := by omega
  simp only [Instr.buildSlice, Sem.run_bind, run_underlying ht, hs, Result.andThen_ok, h2, h3, if_false, hz, Sem.run_pure]
  simp only [hf]
  simp [newRow]
theorem wl_buildAct {ops : Array Oper} {rest : List Oper} {o : Oper} {a : Act} {w : World} {Q : Exit → Act → World → Prop} (hgd : o.guard = none) (x : Operand) (c0 c1 c2 c3 c4 c5 : Value) (ho : o.op = .buildSlice 22 1 #[(0, x)]) (hx : a.eval x = .agg #[c0, c1, c2, c3, c4, c5])
    (hk : ∀ g w', Row w' 38 g [c0, c1, c2, c3, c4, c5] → w.heap.size ≤ g → g < w'.heap.size → Below w.heap.size w w' → wpList Try.prog ops Q rest (a.put o.dst (.slice (some ⟨g, 0, none⟩) 1 1)) w') : wpList Try.prog ops Q (o :: rest) a w :=
  wpList_plain hgd fun K hK => by
    have hrun := run_build1P (P := Try.prog) w 22 38 6 (.agg #[.int .u8 0, .string ByteArray.empty, .string ByteArray.empty, .slice none 0 0, .int .i64 0, .slice none 0 0]) #[c0, c1, c2, c3, c4, c5] Try.underlying22 Try.sizeOf38 Try.zeroValue38 rfl rfl (by decide) (by decide) (by kernel_rfl)
    unfold Oper.wp execOp
    simp only [ho, List.map_toArray, List.map_cons, List.map_nil, hx, hrun, Sem.run_bind, Result.andThen_ok, Sem.run_pure]
    exact hK _ _ (hk _ _ (by unfold Row; exact heap_alloc_new _ _) (Nat.le_refl _) (by simp) ((Below.refl _ _).alloc (Nat.le_refl _) _))
theorem builtDisk0 : Try.prog.built 72 [] = some [Value.pointer none, Value.map none].toArray := by kernel_rfl
theorem szAct9 (a : DAct) : (Try.prog.info? 38).map (·.size) = some a.cells.length := by kernel_rfl
theorem pd_info : ∃ i, Try.prog.info? 27 = some i ∧ i.zero = some (.pointer none) ∧ i.size = 1 ∧ i.bytes = 8 := info_parts (show (Try.prog.info? 27).map (fun i => (i.zero, i.size, i.bytes)) = some (some (.pointer none), 1, 8) by kernel_rfl)
set_option maxRecDepth 100000 in
set_option maxHeartbeats 4000000 in
theorem diskNobody_any (a : DAct) (w : World) (hb : Bs w w.heap.size a.A a.m a.xs) (hc : IsAt w w.heap.size a.CA a.cm a.cs) :
    Calls Try.prog 8 #[.agg #[.int .u8 a.k, encStr a.n, encStr a.t, .slice a.A a.m a.c, .int .i64 a.q, .slice a.CA a.cm a.cc]] w fun e w' => e = .returned (.bool true) ∧ Below w.heap.size w w' := by
  obtain ⟨ip, hip, hpz, hps, _⟩ := pd_info
  have bd0 := builtDisk0
  obtain ⟨B, hBe⟩ : ∃ B, B = w.heap.size := ⟨_, rfl⟩
  have hBw : B ≤ w.heap.size := Nat.le_of_eq hBe
  go_enter Try.func8, Try.ntmps8
  go_wp2_with (first
    | (with_reducible refine wl_box rfl 38 (.tmp 0) _ [.int .u8 a.k, encStr a.n, encStr a.t, .slice a.A a.m a.c, .int .i64 a.q, .slice a.CA a.cm a.cc] rfl rfl rfl ?_; intro g1 w1 r1 p1 l1 b1)
    | (with_reducible refine wl_load_row rfl 38 (.tmp 1) g1 38 [.int .u8 a.k, encStr a.n, encStr a.t, .slice a.A a.m a.c, .int .i64 a.q, .slice a.CA a.cm a.cc] _ rfl rfl r1 Try.underlying38 rfl (szAct9 a) ?_)
    | (with_reducible refine wl_buildAct rfl (.tmp 8) _ _ _ _ _ _ rfl rfl ?_; intro g2 w2 r2 p2 l2 b2))
  have b12 := b1.trans (b2.mono b1.size)
  have hAct : DActs w2 w2.heap.size (some ⟨g2, 0, none⟩) 1 (fun _ => a) := fun _ => ⟨g2, 0, rfl, l2, fun j hj => by
    obtain rfl : j = 0 := by omega
    exact ⟨fun i v hv => by have := r2.cell hv; simpa using this, hb.later b12, ⟨hc.1, fun h0 => by
      obtain ⟨b, o, e, hlt, hcc⟩ := hc.2 h0
      exact ⟨b, o, e, Nat.lt_of_lt_of_le hlt b12.size, fun j hj => (b12.cell (p := ⟨b, o + j, none⟩) hlt).trans (hcc j hj)⟩⟩⟩⟩
  refine (few9_any w2 _ 1 1 (fun _ => a) _ 1 hAct (by decide)).mono ?_
  rintro e w3 ⟨⟨b, rfl, _⟩, rfl⟩
  have r1 := Row.later r1 b2
  clear hAct r2 l2 p2 b1 b2 l1
  cases b with
  | false =>
    clear r1
    go_wp2_with fail
    refine (awakeD_any w2).mono ?_
    rintro e w3 ⟨rfl, b3⟩
    go_wp2_with fail
    go_ret
    exact ⟨rfl, b12.trans (b3.mono b12.size)⟩
  | true =>
    go_wp2_with (first
      | ((with_reducible refine wl_build rfl 72 _ rfl _ ?hv _ bd0 ?hk); case hv => rfl)
      | (with_reducible refine wl_box rfl 72 (.tmp 13) _ [.pointer none, .map none] rfl rfl rfl ?_; intro gd w3 rd pd ld b3; have r1 := Row.later r1 b3)
      | (with_reducible refine wl_build2P rfl 73 (.const (.pointer none)) (.tmp 14) rfl 27 ip (.pointer none) (.pointer none) (ptr gd) Try.underlying73 hip hpz hps rfl rfl rfl rfl rfl ?_; intro gs w4 rs ps ls b4; have r1 := Row.later r1 b4; have rd := Row.later rd b4))
    have B4 : Below B w w4 := hBe ▸ (b12.trans (b3.mono b12.size)).trans (b4.mono (Nat.le_trans b12.size b3.size))
    clear b12 b3 b4 pd ld ps ls p1 hb hc
    go_loopw [4] (fun iv wr => ∃ j : Nat, j ≤ 2 ∧ iv = .int .i64 j ∧ Row wr 38 g1 [.int .u8 a.k, encStr a.n, encStr a.t, .slice a.A a.m a.c, .int .i64 a.q, .slice a.CA a.cm a.cc] ∧ DRow wr gd (.pointer none) (.map none) ∧ Row wr 27 gs [.pointer none, ptr gd] ∧ Below B w wr) (fun iv _ => 2 - (intOf iv).toNat)
    case atStart => exact ⟨0, by omega, rfl, r1, rd, rs, B4⟩
    case round =>
      clear r1 rd rs B4
      obtain ⟨j, hj2, rfl, r1, rd, rs, hB⟩ := hrel
      by_cases hj : j < 2
      · obtain ⟨pa, hu0, hv⟩ : ∃ pa, [Value.pointer none, ptr gd][j]? = some (.pointer pa) ∧ Unmade wr (.pointer pa) := by
          match j, hj with
          | 0, _ => exact ⟨none, rfl, .inl rfl⟩
          | 1, _ => exact ⟨some ⟨gd, 0, none⟩, rfl, .inr ⟨gd, rfl, rd⟩⟩
        have hvi := rs.cell hu0
        have k1 := r1.cell (j := 1) rfl
        have k5 := r1.cell (j := 5) rfl
        clear hu0
        go_wp2_with fail
        refine (crash_no wr _ _ hv).mono ?_
        rintro e wx ⟨rfl, rfl⟩
        go_wp2_with fail
        refine (read_no wr pa a.n hv).mono ?_
        rintro e wx ⟨rfl, bx⟩
        have hv := hv.later bx
        have r1 := Row.later r1 bx
        have rd := Row.later rd bx
        have rs := Row.later rs bx
        have hB := hB.trans (bx.mono (Nat.le_trans hBw hB.size))
        have k1 := r1.cell (j := 1) rfl
        have k2 := r1.cell (j := 2) rfl
        have k3 := r1.cell (j := 3) rfl
        clear bx
        go_wp2_with fail
        refine (names_no _ _ hv).mono ?_
        rintro e wx ⟨rfl, rfl⟩
        go_wp2_with fail
        refine (image_no _ _ hv).mono ?_
        rintro e wx ⟨rfl, rfl⟩
        go_wp2_with fail
        refine (create_no _ pa a.n hv).mono ?_
        rintro e wx ⟨rfl, bx⟩
        have hv := hv.later bx
        have r1 := Row.later r1 bx
        have rd := Row.later rd bx
        have rs := Row.later rs bx
        have hB := hB.trans (bx.mono (Nat.le_trans hBw hB.size))
        have k1 := r1.cell (j := 1) rfl
        have k2 := r1.cell (j := 2) rfl
        have k3 := r1.cell (j := 3) rfl
        clear bx
        go_wp2_with fail
        refine (append_no _ pa a.n a.A a.m a.c hv).mono ?_
        rintro e wx ⟨rfl, bx⟩
        have hv := hv.later bx
        have r1 := Row.later r1 bx
        have rd := Row.later rd bx
        have rs := Row.later rs bx
        have hB := hB.trans (bx.mono (Nat.le_trans hBw hB.size))
        have k1 := r1.cell (j := 1) rfl
        have k2 := r1.cell (j := 2) rfl
        have k3 := r1.cell (j := 3) rfl
        clear bx
        go_wp2_with fail
        refine (sync_no _ pa a.n hv).mono ?_
        rintro e wx ⟨rfl, bx⟩
        have hv := hv.later bx
        have r1 := Row.later r1 bx
        have rd := Row.later rd bx
        have rs := Row.later rs bx
        have hB := hB.trans (bx.mono (Nat.le_trans hBw hB.size))
        have k1 := r1.cell (j := 1) rfl
        have k2 := r1.cell (j := 2) rfl
        have k3 := r1.cell (j := 3) rfl
        clear bx
        go_wp2_with fail
        refine (rename_no _ pa a.n a.t hv).mono ?_
        rintro e wx ⟨rfl, bx⟩
        have hv := hv.later bx
        have r1 := Row.later r1 bx
        have rd := Row.later rd bx
        have rs := Row.later rs bx
        have hB := hB.trans (bx.mono (Nat.le_trans hBw hB.size))
        have k1 := r1.cell (j := 1) rfl
        have k2 := r1.cell (j := 2) rfl
        have k3 := r1.cell (j := 3) rfl
        clear bx
        go_wp2_with fail
        refine (remove_no _ pa a.n hv).mono ?_
        rintro e wx ⟨rfl, bx⟩
        have hv := hv.later bx
        have r1 := Row.later r1 bx
        have rd := Row.later rd bx
        have rs := Row.later rs bx
        have hB := hB.trans (bx.mono (Nat.le_trans hBw hB.size))
        have k1 := r1.cell (j := 1) rfl
        have k2 := r1.cell (j := 2) rfl
        have k3 := r1.cell (j := 3) rfl
        clear bx
        go_wp2_with fail
        refine (edit_no _ _ _ _ hv).mono ?_
        rintro e wx ⟨rfl, rfl⟩
        go_wp2_with fail
        refine (load_no _ _ _ hv).mono ?_
        rintro e wx ⟨rfl, rfl⟩
        go_wp2_with fail
        go_roundw
        case rel => exact ⟨j + 1, by omega, by go_num, r1, rd, rs, hB⟩
        case measure => simp [intOf]; omega
      · clear r1 rd rs
        go_wp2_with fail
        refine (awakeD_any wr).mono ?_
        rintro e wz ⟨rfl, bz⟩
        go_wp2_with fail
        go_ret
        exact ⟨rfl, hBe ▸ hB.trans (bz.mono (Nat.le_trans hBw hB.size))⟩
end Go.Proofs.Ytlihoijbfffjcaa
