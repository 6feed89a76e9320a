/-
  The document's net: New: contract. Own work.
-/
import Derived.Test.YtlihoijbfffjcaaWireQ
namespace Go.Proofs.Ytlihoijbfffjcaa
open Go.RowKit Go.Conc
set_option linter.unusedVariables false
set_option linter.unusedSimpArgs false
theorem wl_makeN {P : Program} {ops : Array Oper} {rest : List Oper} {o : Oper} {a : Act} {w : World} {Q : Exit → Act → World → Prop} (hgd : o.guard = none) (t : TypeId) (x y : Operand) (ho : o.op = .makeSlice t x y) (e : TypeId) (i : TypeInfo) (z : Value) (size : Nat) (ht : P.underlying t = some (.slice e)) (hi : P.info? e = some i) (hz : i.zero = some z) (hsz : i.size = size)
    (l : Nat) (hx : a.eval x = .int .i64 l) (hy : a.eval y = .int .i64 l) (hlen : i.bytes * l ≤ 281474976710656) (hc : l ≤ 9223372036854775807)
    (hk : ∀ g w', Row w' e g (madeCells z.cells (l * size)).toList → w.heap.size ≤ g → g < w'.heap.size → Below w.heap.size w w' → wpList P ops Q rest (a.put o.dst (.slice (some ⟨g, 0, none⟩) l l)) w') : wpList P ops Q (o :: rest) a w := by
  refine wpList_plain hgd fun K hK => ?_
  have hb' : (i.bytes : Int) * (l : Int) ≤ 281474976710656 := by
    have h : ((i.bytes * l : Nat) : Int) ≤ 281474976710656 := by omega
    rwa [Int.natCast_mul] at h
  have hrun := run_make (P := P) w t e i z ht hi hz .i64 .i64 l l (by omega) (by omega) hb' (by omega)
  unfold Oper.wp execOp
  simp only [ho, hx, hy, hrun, Sem.run_bind, Result.andThen_ok, Sem.run_pure, Int.toNat_natCast]
  refine hK _ _ (hk _ _ ?_ (Nat.le_refl _) (lt_alloc _ _) ((Below.refl _ _).alloc (Nat.le_refl _) _))
  unfold Row
  rw [heap_alloc_new, hsz]
theorem wayI_ : (Try.prog.info? 161).map (fun i => (i.zero, i.size, i.bytes)) = some (some (.agg #[.slice none 0 0, .int .i64 0]), 2, 32) := by kernel_rfl
theorem wayI : ∃ i, Try.prog.info? 161 = some i ∧ i.zero = some (.agg #[.slice none 0 0, .int .i64 0]) ∧ i.size = 2 ∧ i.bytes = 32 := by
  obtain ⟨i, h0, h1, h2, h3⟩ := info_parts wayI_
  exact ⟨i, h0, h1, h2, h3⟩
theorem builtNet (g m : Nat) : Try.prog.built 156 [(0, .slice (some ⟨g, 0, none⟩) m m)] = some [Value.slice (some ⟨g, 0, none⟩) m m].toArray := by kernel_rfl
set_option maxRecDepth 100000 in
theorem rnew_none (w : World) (n : Int) (hn : n < 1 ∨ 64 < n) : Calls Try.prog 56 #[.int .i64 n] w fun e w' => e = .returned (.pointer none) ∧ w = w' := by
  by_cases h1 : n < 1
  · have d1 : decide (n < 1) = true := by simp; omega
    clear hn
    go_enter Try.func56, Try.ntmps56
    go_wp2_with fail
    go_ret
    exact ⟨rfl, rfl⟩
  · have d1 : decide (n < 1) = false := by simp; omega
    have d2 : decide (64 < n) = true := by simp; omega
    clear hn
    go_enter Try.func56, Try.ntmps56
    go_wp2_with fail
    go_ret
    exact ⟨rfl, rfl⟩
set_option maxRecDepth 100000 in
theorem rnew_some (w : World) (m : Nat) (h1 : 1 ≤ m) (h64 : m ≤ 64) : Calls Try.prog 56 #[.int .i64 m] w fun e w' => ∃ gr gb, e = .returned (ptr gr) ∧ RNetAt w' w.heap.size gr gb (List.replicate m RWay.d) ∧ Below w.heap.size w w' := by
  obtain ⟨i0, hi, hz, hs, hb⟩ := wayI
  have bn := builtNet
  have d1 : decide ((m : Int) < 1) = false := by simp; omega
  have d2 : decide (64 < (m : Int)) = false := by simp; omega
  go_enter Try.func56, Try.ntmps56
  go_wp2_with (first
    | ((with_reducible refine wl_makeN rfl 154 (.tmp 9) (.tmp 9) rfl 161 i0 (.agg #[.slice none 0 0, .int .i64 0]) 2 Try.underlying154 hi hz hs m rfl rfl (by rw [hb]; omega) (by omega) ?_); intro gb w1 r1 p1 l1 b1)
    | ((with_reducible refine wl_build rfl 156 _ rfl _ ?hv _ (bn gb m) ?hk); case hv => rfl)
    | ((with_reducible refine wl_box rfl 156 (.tmp 11) _ [.slice (some ⟨gb, 0, none⟩) m m] rfl rfl rfl ?_); intro gr w2 r2 p2 l2 b2))
  go_ret
  rw [rcells_made] at r1
  have hall : ∀ r ∈ List.replicate m RWay.d, r = RWay.d := fun r hr => List.eq_of_mem_replicate hr
  refine ⟨gr, gb, rfl, ⟨by rw [List.length_replicate]; exact r2, r1.later b2, ⟨Nat.le_trans b1.size p2, p1⟩, ?_, ?_, ?_, ?_, ?_⟩, b1.trans (b2.mono b1.size)⟩
  · intro r hr
    rw [hall r hr]
    exact World.ownsRow_nil _ _ _ _
  · intro r hr p hp
    rw [hall r hr] at hp
    cases hp
  · intro r hr
    rw [hall r hr]
    exact Nat.le_refl _
  · intro r hr
    rw [hall r hr]
    exact Nat.zero_le _
  · intro a b x y hx hy hab k hk
    rw [hall x (List.mem_of_getElem? hx)] at hk
    simp [RWay.d, Value.ownBlock] at hk
end Go.Proofs.Ytlihoijbfffjcaa
