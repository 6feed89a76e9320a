/-
  A set's behind: contract. Own work.
-/
import Derived.Test.YtfklfgaomcbchaaZsetJ
import Derived.Test.YtfklfgaomcbchaaApp
namespace Go.Proofs.Ytfklfgaomcbchaa
open Go.RowKit Go.Shelf
set_option linter.unusedVariables false
set_option linter.unusedSimpArgs false
theorem own_at {w w' : World} {base e size n : Nat} {v : Value} {xs : List Value} (h : w.ownsRow base e size v n xs) (hb : ∀ k, v.ownBlock = some k → w'.heap[k]? = w.heap[k]?) : w'.ownsRow base e size v n xs := by
  refine ⟨h.1, h.2.imp id ?_⟩
  rintro ⟨g, cap, cur, rfl, h1, h2, h3⟩
  exact ⟨g, cap, cur, rfl, h1, (hb g rfl).trans h2, h3⟩
theorem own_later {w w' : World} {base e size n : Nat} {v : Value} {xs : List Value} (h : w.ownsRow base e size v n xs) (hb : Below w.heap.size w w') : w'.ownsRow base e size v n xs :=
  own_at h fun k hk => hb.block k (h.lt k hk).2
theorem own_butz {w w' : World} {base e size n : Nat} {v : Value} {xs : List Value} {S : List Nat} (h : w.ownsRow base e size v n xs) (hb : ButZ S w w') (hS : ∀ k ∈ S, k < base) : w'.ownsRow base e size v n xs :=
  own_at h fun k hk => hb.block k (h.lt k hk).2 fun hm => absurd (hS k hm) (by have := (h.lt k hk).1; omega)
theorem wl_build1B {P : Program} {ops : Array Oper} {rest : List Oper} {o : Oper} {a : Act} {w : World} {Q : Exit → Act → World → Prop} (hgd : o.guard = none) (t : TypeId) (x : Operand) (ho : o.op = .buildSlice t 1 #[(0, x)]) (e : TypeId) (i : TypeInfo) (z : Value) (M : List Value) (n : Nat) (ht : P.underlying t = some (.slice e)) (hi : P.info? e = some i) (hz : i.zero = some z) (hzs : z.cells.size = n) (hsz : i.size = n) (hl : M.length = n) (h0 : 0 < n) (hn : n ≤ 1000) (hx : a.eval x = .agg M.toArray)
    (hk : ∀ g w', Row w' e g M → w.heap.size ≤ g → g < w'.heap.size → Below w.heap.size w w' → wpList P ops Q rest (a.put o.dst (.slice (some ⟨g, 0, none⟩) 1 1)) w') : wpList P ops Q (o :: rest) a w :=
  wpList_plain hgd fun K hK => st_build1B t x ho e i z M n ht hi hz hzs hsz hl h0 hn hx fun g w' h1 h2 h3 h4 => hK _ _ (hk g w' h1 h2 h3 h4)
theorem own_lo {w : World} {base base2 e size n : Nat} {v : Value} {xs : List Value} (h : w.ownsRow base e size v n xs) (hb : base2 ≤ base) : w.ownsRow base2 e size v n xs := by
  refine ⟨h.1, h.2.imp id ?_⟩
  rintro ⟨g, cap, cur, rfl, h1, h2⟩
  exact ⟨g, cap, cur, rfl, Nat.le_trans hb h1, h2⟩
abbrev scsC (l : List Sc) : List Value := l.flatMap Sc.cells
theorem scsC_app (a b : List Sc) : scsC (a ++ b) = scsC a ++ scsC b := by simp [scsC]
theorem scsC_len (l : List Sc) : (scsC l).length = l.length * 2 := by
  induction l with
  | nil => rfl
  | cons p r ih =>
    show (p.cells ++ scsC r).length = (r.length + 1) * 2
    rw [List.length_append, ih]
    show 2 + _ = _
    omega
/-- A list of members of one's own. -/
abbrev OwnS (w : World) (T : Nat) (v : Value) (l : List Sc) : Prop := w.ownsRow T 35 2 v l.length (scsC l)
theorem score_info : ∃ i, Try.prog.info? 35 = some i ∧ i.zero = some (.agg #[.string ByteArray.empty, .int .i64 0]) ∧ i.size = 2 ∧ i.bytes = 24 := by
  have h : (Try.prog.info? 35).map (fun i => (i.zero, i.size, i.bytes)) = some (some (.agg #[.string ByteArray.empty, .int .i64 0]), 2, 24) := by kernel_rfl
  exact info_parts h
theorem one_sc (a : Sc) : ∀ u ∈ a.cells, u.oneCell' = true := by
  intro u hu
  simp [Sc.cells] at hu
  rcases hu with rfl | rfl <;> rfl
theorem neq_nil_map (m : Nat) (w : World) : (binOp .neq 49 (.map (some m)) (.map none)).run Try.prog w = .ok (.bool true) w := by kernel_rfl
set_option maxRecDepth 100000 in
theorem made_any (w : World) (gz mb : Nat) (x : Value) (h : Row w 52 gz [.map (some mb), x]) : Calls Try.prog 38 #[ptr gz] w fun e w' => e = .returned (.bool true) ∧ w = w' := by
  have c0 := h.cell (j := 0) rfl
  have hn := neq_nil_map mb
  go_enter Try.func38, Try.ntmps38
  go_wp2_with fail
  go_ret
  exact ⟨rfl, rfl⟩
end Go.Proofs.Ytfklfgaomcbchaa
