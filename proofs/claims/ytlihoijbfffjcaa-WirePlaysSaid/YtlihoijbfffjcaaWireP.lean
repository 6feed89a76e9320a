/-
  The document's net: Counts: contract. Own work.
-/
import Derived.Test.YtlihoijbfffjcaaWireO
namespace Go.Proofs.Ytlihoijbfffjcaa
open Go.RowKit Go.Conc
set_option linter.unusedVariables false
set_option linter.unusedSimpArgs false
theorem zeroTwo : (Try.prog.info? 119).map (fun i => i.zero) = some (some (.agg #[.int .i64 0, .int .i64 0])) := by kernel_rfl
theorem szTwo (a b : Int) : (Try.prog.info? 119).map (·.size) = some [Value.int .i64 a, Value.int .i64 b].length := by kernel_rfl
theorem builtTwo (a b : Int) : Try.prog.built 119 [(0, .int .i64 a), (1, .int .i64 b)] = some [Value.int .i64 a, Value.int .i64 b].toArray := by kernel_rfl
theorem builtTwo0 : Try.prog.built 119 [] = some [Value.int .i64 0, Value.int .i64 0].toArray := by kernel_rfl
theorem one_two (a b : Int) : ∀ u ∈ [Value.int .i64 a, .int .i64 b], u.oneCell' = true := by intro u hu; simp at hu; rcases hu with rfl | rfl <;> rfl
set_option maxRecDepth 100000 in
set_option maxHeartbeats 1000000 in
theorem rcounts_no (w : World) (v : Value) (i : Int) (hJ : ∀ w1, Below w.heap.size w w1 → Calls Try.prog 107 #[v, .int .i64 i] w1 fun e w' => e = .returned (.bool false) ∧ w1 = w') : Calls Try.prog 68 #[v, .int .i64 i] w fun e w' => e = .returned (.agg #[.int .i64 0, .int .i64 0]) ∧ Below w.heap.size w w' := by
  have HJ := hide hJ
  have bt := builtTwo0
  clear hJ
  go_enter Try.func68, Try.ntmps68
  go_wp2_with (first
    | ((with_reducible refine wl_alloc rfl 119 _ [.int .i64 0, .int .i64 0] rfl zeroTwo rfl ?_); intro g9 w2 r9 p9 l9 b9))
  refine (HJ.out w2 b9).mono ?_
  rintro en w1 ⟨rfl, rfl⟩
  go_wp2_with (first
    | ((with_reducible refine wl_build rfl 119 _ rfl _ ?hv _ bt ?hk); case hv => rfl)
    | ((with_reducible refine wl_store_row rfl 119 (.tmp 4) (.tmp 9) g9 119 _ [.int .i64 0, .int .i64 0] rfl rfl rfl r9 (szTwo _ _) rfl (one_two _ _) ?_); intro w3 r10 o10; have bS : Below w.heap.size w w3 := b9.trans (o10.below p9)))
  simp only [Act.put, List.setIfInBounds_toArray, List.set_cons_succ, List.set_cons_zero]
  refine bodyPost_ret (v := .agg [Value.int .i64 0, .int .i64 0].toArray) ?_ rfl ⟨rfl, bS⟩
  exact results_cell_row Try.results68 _ _ g9 119 _ (0, 0) _ rfl r10 Try.underlying119 rfl (szTwo _ _)
theorem run_indexS2 {P : Program} {w : World} {a : Act} {o : Oper} (t : TypeId) (x y : Operand) (e : TypeId) (b len cap i : Nat)
    (ho : o.op = .indexAddr t x y) (hu : P.underlying t = some (.slice e)) (hs : ∀ w, (sizeOf e).run P w = .ok 2 w) (hx : a.eval x = .slice (some ⟨b, 0, none⟩) len cap) (hy : a.eval y = .int .i64 i) (hi : i < len) :
    (execOp a.eval o).run P w = .ok (.value (.pointer (some ⟨b, i * 2, none⟩))) w := by
  unfold execOp
  simp only [ho, hx, hy]
  go_simp
theorem run_lenS {P : Program} {o : Oper} {a : Act} {w : World} (t : TypeId) (x : Operand) (e : TypeId) (A : Option Addr) (n c : Nat) (ho : o.op = .call { callee := .builtin .len, args := #[x], argTypes := #[t] }) (ht : P.underlying t = some (.slice e)) (hx : a.eval x = .slice A n c) :
    (execOp a.eval o).run P w = .ok (.value (.int .i64 (n : Int))) w := by
  unfold execOp
  simp only [ho, resolve, invoke, builtin, Sem.run_bind, Sem.run_pure, Result.andThen_ok, List.map_toArray, List.map_cons, List.map_nil, hx]
  simp [Builtin.len_, underlying, ht]
  rfl
def SCo (gr gb g9 i m q k : Nat) (Aq : Option Addr) (cq : Nat) (opn : Nat) (v : Value) : Prop :=
  match opn with
  | 0 | 1 | 9 | 10 | 18 | 19 => v = ptr gr
  | 2 | 11 | 20 => v = .pointer (some ⟨gr, 0, none⟩)
  | 3 | 12 | 21 => v = .slice (some ⟨gb, 0, none⟩) m m
  | 4 | 13 | 22 => v = .int .i64 i
  | 5 | 6 | 14 | 15 | 23 => v = .pointer (some ⟨gb, i * 2, none⟩)
  | 7 | 16 => v = .slice Aq q cq
  | 8 | 17 => v = .int .i64 q
  | 24 => v = .pointer (some ⟨gb, i * 2 + 1, none⟩)
  | 25 => v = .int .i64 k
  | 26 => v = .int .i64 ((q : Int) - k)
  | 27 => v = .agg [Value.int .i64 q, .int .i64 ((q : Int) - k)].toArray
  | _ => True

set_option maxRecDepth 100000 in
set_option maxHeartbeats 2000000 in
theorem rcounts_in (w : World) (B gr gb : Nat) (rs : List RWay) (h : RNetAt w B gr gb rs) (i : Nat) (r : RWay) (hr : rs[i]? = some r) :
    Calls Try.prog 68 #[ptr gr, .int .i64 i] w fun e w' => e = .returned (.agg #[.int .i64 (r.fs.length : Int), .int .i64 ((r.fs.length : Int) - (r.gone : Int))]) ∧ Below w.heap.size w w' := by
  have hlt := (List.getElem?_eq_some_iff.1 hr).1
  have hI := fun w1 (b : Below w.heap.size w w1) => is_in w1 B gr gb rs (h.later b) i hlt
  obtain ⟨Aq, cq, e⟩ := own_len (h.own r (List.mem_of_getElem? hr))
  have h3 := rcell0 hr
  have h4 := rcell1 hr
  rw [e] at h3
  have hrow0 := h.row
  have hrows0 := h.rows
  have hle := Nat.le_trans (h.gone r (List.mem_of_getElem? hr)) (h.few r (List.mem_of_getElem? hr))
  have hle2 := h.few r (List.mem_of_getElem? hr)
  have HSZ : ∀ w, (sizeOf 161).run Try.prog w = .ok 2 w := fun w => by kernel_rfl
  have HI := hide hI
  clear hI h hr e
  generalize rs.length = m at *
  generalize r.fs.length = q at *
  generalize r.gone = k at *
  have HWr : Hid (IntKind.i64.wrap ((q : Int) - (k : Int)) = (q : Int) - k) := hide (by unfold IntKind.wrap; simp [IntKind.bits, IntKind.signed]; omega)
  go_enter Try.func68, Try.ntmps68
  go_wp2_with (first
    | ((with_reducible refine wl_alloc rfl 119 _ [.int .i64 0, .int .i64 0] rfl zeroTwo rfl ?_); intro g9 w2 r9 p9 l9 b9; have hrow := hrow0.later b9; have hrows := hrows0.later b9))
  refine (HI.out w2 b9).mono ?_
  rintro en w1 ⟨rfl, rfl⟩
  have h1 : gr ≠ g9 := by have := hrow0.lt; omega
  have h2 : gb ≠ g9 := by have := hrows0.lt; omega
  clear hrow0 hrows0
  go_wp2_with fail
  rename_i K1 hK1
  refine wp_region_vals [28] (SCo gr gb g9 i m q k Aq cq) (JB g9 119 w2 0 [.int .i64 0, .int .i64 0] [Value.int .i64 q, .int .i64 ((q : Int) - k)]) (by kernel_rfl) (by kernel_rfl) (by kernel_rfl) (by kernel_rfl) (by kernel_rfl) (JB.start r9 rfl) ?obs ?he
  case obs =>
    refine ⟨?_, ?_, ?_, ?_, ?_, ?_, ?_, ?_, ?_, ?_, ?_, ?_, ?_, ?_, ?_, ?_, ?_, ?_, ?_, ?_, ?_, ?_, ?_, ?_, ?_, ?_, ?_, ?_, ?_, trivial⟩
    · exact .inl ⟨by kernel_rfl, fun L a1 w1 n' h => ⟨_, rfl, run_move (.tmp 0) rfl (h.var n' 0 (by kernel_rfl))⟩⟩
    · refine .inl ⟨by kernel_rfl, fun L a1 w1 n' h => ⟨ptr gr, rfl, ?_⟩⟩
      have e0 : a1.eval (.tmp 10) = _ := h.dep n' 0 10 (by kernel_rfl) rfl
      unfold execOp
      simp only [e0]
      go_simp
    · refine .inl ⟨by kernel_rfl, fun L a1 w1 n' h => ⟨.pointer (some ⟨gr, 0, none⟩), rfl, ?_⟩⟩
      have e0 : a1.eval (.tmp 11) = _ := h.dep n' 1 11 (by kernel_rfl) rfl
      unfold execOp
      simp only [e0]
      go_simp
    · exact .inl ⟨by kernel_rfl, fun L a1 w1 n' h => ⟨_, rfl, run_loadA 154 (.tmp 12) ⟨gr, 0, none⟩ rfl Try.isAgg154 (h.dep n' 2 12 (by kernel_rfl) rfl) ((hrow.but h.inv.2.2 h1).cell (j := 0) rfl)⟩⟩
    · exact .inl ⟨by kernel_rfl, fun L a1 w1 n' h => ⟨_, rfl, run_move (.tmp 1) rfl (h.var n' 1 (by kernel_rfl))⟩⟩
    · exact .inl ⟨by kernel_rfl, fun L a1 w1 n' h => ⟨_, rfl, run_indexS2 154 (.tmp 13) (.tmp 14) 161 gb m m i rfl Try.underlying154 HSZ (h.dep n' 3 13 (by kernel_rfl) rfl) (h.dep n' 4 14 (by kernel_rfl) rfl) hlt⟩⟩
    · refine .inl ⟨by kernel_rfl, fun L a1 w1 n' h => ⟨.pointer (some ⟨gb, i * 2, none⟩), rfl, ?_⟩⟩
      have e0 : a1.eval (.tmp 15) = _ := h.dep n' 5 15 (by kernel_rfl) rfl
      unfold execOp
      simp only [e0]
      go_simp
    · exact .inl ⟨by kernel_rfl, fun L a1 w1 n' h => ⟨_, rfl, run_loadA 122 (.tmp 16) ⟨gb, i * 2, none⟩ rfl Try.isAgg122 (h.dep n' 6 16 (by kernel_rfl) rfl) ((hrows.but h.inv.2.2 h2).cell (j := i * 2) h3)⟩⟩
    · exact .inl ⟨by kernel_rfl, fun L a1 w1 n' h => ⟨_, rfl, run_lenS 122 (.tmp 17) 35 Aq q cq rfl Try.underlying122 (h.dep n' 7 17 (by kernel_rfl) rfl)⟩⟩
    · exact .inl ⟨by kernel_rfl, fun L a1 w1 n' h => ⟨_, rfl, run_move (.tmp 0) rfl (h.var n' 0 (by kernel_rfl))⟩⟩
    · refine .inl ⟨by kernel_rfl, fun L a1 w1 n' h => ⟨ptr gr, rfl, ?_⟩⟩
      have e0 : a1.eval (.tmp 19) = _ := h.dep n' 9 19 (by kernel_rfl) rfl
      unfold execOp
      simp only [e0]
      go_simp
    · refine .inl ⟨by kernel_rfl, fun L a1 w1 n' h => ⟨.pointer (some ⟨gr, 0, none⟩), rfl, ?_⟩⟩
      have e0 : a1.eval (.tmp 20) = _ := h.dep n' 10 20 (by kernel_rfl) rfl
      unfold execOp
      simp only [e0]
      go_simp
    · exact .inl ⟨by kernel_rfl, fun L a1 w1 n' h => ⟨_, rfl, run_loadA 154 (.tmp 21) ⟨gr, 0, none⟩ rfl Try.isAgg154 (h.dep n' 11 21 (by kernel_rfl) rfl) ((hrow.but h.inv.2.2 h1).cell (j := 0) rfl)⟩⟩
    · exact .inl ⟨by kernel_rfl, fun L a1 w1 n' h => ⟨_, rfl, run_move (.tmp 1) rfl (h.var n' 1 (by kernel_rfl))⟩⟩
    · exact .inl ⟨by kernel_rfl, fun L a1 w1 n' h => ⟨_, rfl, run_indexS2 154 (.tmp 22) (.tmp 23) 161 gb m m i rfl Try.underlying154 HSZ (h.dep n' 12 22 (by kernel_rfl) rfl) (h.dep n' 13 23 (by kernel_rfl) rfl) hlt⟩⟩
    · refine .inl ⟨by kernel_rfl, fun L a1 w1 n' h => ⟨.pointer (some ⟨gb, i * 2, none⟩), rfl, ?_⟩⟩
      have e0 : a1.eval (.tmp 24) = _ := h.dep n' 14 24 (by kernel_rfl) rfl
      unfold execOp
      simp only [e0]
      go_simp
    · exact .inl ⟨by kernel_rfl, fun L a1 w1 n' h => ⟨_, rfl, run_loadA 122 (.tmp 25) ⟨gb, i * 2, none⟩ rfl Try.isAgg122 (h.dep n' 15 25 (by kernel_rfl) rfl) ((hrows.but h.inv.2.2 h2).cell (j := i * 2) h3)⟩⟩
    · exact .inl ⟨by kernel_rfl, fun L a1 w1 n' h => ⟨_, rfl, run_lenS 122 (.tmp 26) 35 Aq q cq rfl Try.underlying122 (h.dep n' 16 26 (by kernel_rfl) rfl)⟩⟩
    · exact .inl ⟨by kernel_rfl, fun L a1 w1 n' h => ⟨_, rfl, run_move (.tmp 0) rfl (h.var n' 0 (by kernel_rfl))⟩⟩
    · refine .inl ⟨by kernel_rfl, fun L a1 w1 n' h => ⟨ptr gr, rfl, ?_⟩⟩
      have e0 : a1.eval (.tmp 28) = _ := h.dep n' 18 28 (by kernel_rfl) rfl
      unfold execOp
      simp only [e0]
      go_simp
    · refine .inl ⟨by kernel_rfl, fun L a1 w1 n' h => ⟨.pointer (some ⟨gr, 0, none⟩), rfl, ?_⟩⟩
      have e0 : a1.eval (.tmp 29) = _ := h.dep n' 19 29 (by kernel_rfl) rfl
      unfold execOp
      simp only [e0]
      go_simp
    · exact .inl ⟨by kernel_rfl, fun L a1 w1 n' h => ⟨_, rfl, run_loadA 154 (.tmp 30) ⟨gr, 0, none⟩ rfl Try.isAgg154 (h.dep n' 20 30 (by kernel_rfl) rfl) ((hrow.but h.inv.2.2 h1).cell (j := 0) rfl)⟩⟩
    · exact .inl ⟨by kernel_rfl, fun L a1 w1 n' h => ⟨_, rfl, run_move (.tmp 1) rfl (h.var n' 1 (by kernel_rfl))⟩⟩
    · exact .inl ⟨by kernel_rfl, fun L a1 w1 n' h => ⟨_, rfl, run_indexS2 154 (.tmp 31) (.tmp 32) 161 gb m m i rfl Try.underlying154 HSZ (h.dep n' 21 31 (by kernel_rfl) rfl) (h.dep n' 22 32 (by kernel_rfl) rfl) hlt⟩⟩
    · refine .inl ⟨by kernel_rfl, fun L a1 w1 n' h => ⟨.pointer (some ⟨gb, i * 2 + 1, none⟩), rfl, ?_⟩⟩
      have e0 : a1.eval (.tmp 33) = _ := h.dep n' 23 33 (by kernel_rfl) rfl
      unfold execOp
      simp only [e0]
      go_simp
    · exact .inl ⟨by kernel_rfl, fun L a1 w1 n' h => ⟨_, rfl, run_loadA 3 (.tmp 34) ⟨gb, i * 2 + 1, none⟩ rfl Try.isAgg3 (h.dep n' 24 34 (by kernel_rfl) rfl) ((hrows.but h.inv.2.2 h2).cell (j := i * 2 + 1) h4)⟩⟩
    · refine .inl ⟨by kernel_rfl, fun L a1 w1 n' h => ⟨.int .i64 ((q : Int) - k), rfl, ?_⟩⟩
      have e0 : a1.eval (.tmp 27) = _ := h.dep n' 17 27 (by kernel_rfl) rfl
      have e1 : a1.eval (.tmp 35) = _ := h.dep n' 25 35 (by kernel_rfl) rfl
      unfold execOp
      simp only [e0, e1]
      go_simp
      exact HWr.out
    · exact .inl ⟨by kernel_rfl, fun L a1 w1 n' h => ⟨_, rfl, run_buildX 119 [(0, .tmp 18), (1, .tmp 36)] rfl _ (by simp only [List.map_cons, List.map_nil]; rw [show a1.eval (.tmp 18) = .int .i64 q from (h.dep n' 8 18 (by kernel_rfl) rfl), show a1.eval (.tmp 36) = .int .i64 ((q : Int) - k) from (h.dep n' 26 36 (by kernel_rfl) rfl)]) _ (builtTwo _ _)⟩⟩
    · refine .inr fun L a1 w1 n' h K hK => ?_
      have no : L.getD 28 false = false := n'.not_yet
      refine st_store_row 119 (.tmp 4) (.tmp 37) g9 119 ([Value.int .i64 0, .int .i64 0]) ([Value.int .i64 q, .int .i64 ((q : Int) - k)]) rfl (h.var n' 4 (by kernel_rfl)) (h.dep n' 27 37 (by kernel_rfl) rfl) (h.inv.1 no) (szTwo _ _) rfl (one_two _ _) ?_
      intro w3 r3 o3
      exact hK undef w3 trivial (h.inv.store (us := []) o3 r3 rfl)
  case he =>
    intro V w5 hV hJ
    have r5 := hJ.2.1 rfl
    have bx := hJ.2.2
    clear hV hJ
    simp only [putOps, List.setIfInBounds_toArray, List.set_cons_succ, List.set_cons_zero]
    refine hK1 _ _ ?_
    go_wp2
    refine bodyPost_ret (v := .agg [Value.int .i64 q, .int .i64 ((q : Int) - k)].toArray) ?_ rfl ⟨rfl, ?_⟩
    · exact results_cell_row Try.results68 _ _ g9 119 _ (0, 0) _ rfl r5 Try.underlying119 rfl (szTwo _ _)
    · exact b9.trans (bx.below p9 b9.size)
end Go.Proofs.Ytlihoijbfffjcaa
