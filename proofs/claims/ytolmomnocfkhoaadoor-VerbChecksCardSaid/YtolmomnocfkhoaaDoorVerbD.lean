/-
  Patterns: all parts. Contract. Own work.
-/
import Derived.Test.YtolmomnocfkhoaaDoorVerbC
namespace Go.Proofs.YtolmomnocfkhoaaDoor
open Go.RowKit
set_option linter.unusedVariables false
set_option linter.unusedSimpArgs false
theorem own_atW {w w' : World} {base e size n : Nat} {v : Value} {xs : List Value} (h : w.ownsRow base e size v n xs) (hb : ∀ k, v.ownBlock = some k → w'.heap[k]? = w.heap[k]?) : w'.ownsRow base e size v n xs := by
  refine ⟨h.1, ?_⟩
  rcases h.2 with ⟨rfl, rfl⟩ | ⟨g, cap, cur, rfl, h1, hg, hrest⟩
  · exact .inl ⟨rfl, rfl⟩
  · exact .inr ⟨g, cap, cur, rfl, h1, (hb g rfl).trans hg, hrest⟩
theorem own_later {w w' : World} {base e size n : Nat} {v : Value} {xs : List Value} (h : w.ownsRow base e size v n xs) (hb : Below w.heap.size w w') : w'.ownsRow base e size v n xs :=
  own_atW h fun k hk => hb.block k (h.lt k hk).2
theorem wl_build1B {P : Program} {ops : Array Oper} {rest : List Oper} {o : Oper} {a : Act} {w : World} {Q : Exit → Act → World → Prop} (hgd : o.guard = none) (t : TypeId) (x : Operand) (ho : o.op = .buildSlice t 1 #[(0, x)]) (e : TypeId) (i : TypeInfo) (z : Value) (M : List Value) (n : Nat) (ht : P.underlying t = some (.slice e)) (hi : P.info? e = some i) (hz : i.zero = some z) (hzs : z.cells.size = n) (hsz : i.size = n) (hl : M.length = n) (h0 : 0 < n) (hn : n ≤ 1000) (hx : a.eval x = .agg M.toArray)
    (hk : ∀ g w', Row w' e g M → w.heap.size ≤ g → g < w'.heap.size → Below w.heap.size w w' → wpList P ops Q rest (a.put o.dst (.slice (some ⟨g, 0, none⟩) 1 1)) w') : wpList P ops Q (o :: rest) a w :=
  wpList_plain hgd fun K hK => st_build1B t x ho e i z M n ht hi hz hzs hsz hl h0 hn hx fun g w' h1 h2 h3 h4 => hK _ _ (hk g w' h1 h2 h3 h4)
theorem info_partsV {P : Program} {t : Nat} {z : Value} {n b : Nat} (h : (P.info? t).map (fun i => (i.zero, i.size, i.bytes)) = some (some z, n, b)) : ∃ i, P.info? t = some i ∧ i.zero = some z ∧ i.size = n ∧ i.bytes = b := by
  cases hq : P.info? t with
  | none => rw [hq] at h; cases h
  | some i =>
    rw [hq] at h
    simp only [Option.map_some, Option.some.injEq, Prod.mk.injEq] at h
    exact ⟨i, rfl, h.1, h.2.1, h.2.2⟩
theorem pt_info : ∃ i, Tryd.prog.info? 64 = some i ∧ i.zero = some (.agg #[.int .i64 0, .string ByteArray.empty]) ∧ i.size = 2 ∧ i.bytes = 24 :=
  info_partsV (show (Tryd.prog.info? 64).map (fun i => (i.zero, i.size, i.bytes)) = some (some (.agg #[.int .i64 0, .string ByteArray.empty]), 2, 24) by kernel_rfl)
def ptsC (ps : List Pt) : List Value := ps.flatMap Pt.cells
theorem ptsC_length : ∀ ps : List Pt, (ptsC ps).length = ps.length * 2
  | [] => rfl
  | p :: ps => by
    have := ptsC_length ps
    show (p.cells ++ ptsC ps).length = _
    rw [List.length_append, this, List.length_cons]
    simp; omega
theorem ptsC_app (ps : List Pt) (p : Pt) : ptsC (ps ++ [p]) = ptsC ps ++ p.cells := by simp [ptsC]
theorem ptsC_at : ∀ (ps : List Pt) (i : Nat) (p : Pt), ps[i]? = some p → (ptsC ps)[i * 2]? = some (.int .i64 (p.k : Int)) ∧ (ptsC ps)[i * 2 + 1]? = some (encStr p.t)
  | [], i, p, h => by simp at h
  | q :: r, 0, p, h => by
    obtain rfl : q = p := by simpa using h
    exact ⟨rfl, rfl⟩
  | q :: r, i + 1, p, h => by
    have h2 : r[i]? = some p := by simpa using h
    obtain ⟨a, b⟩ := ptsC_at r i p h2
    have e : ptsC (q :: r) = Value.int .i64 (q.k : Int) :: encStr q.t :: ptsC r := rfl
    rw [e, show (i + 1) * 2 = (i * 2) + 1 + 1 by omega, show (i * 2) + 1 + 1 + 1 = (i * 2 + 1) + 1 + 1 by omega]
    exact ⟨a, b⟩
def RetPts (ps : List Pt) (w : World) (e : Ending) (w' : World) : Prop := ∃ v, e = .returned v ∧ w'.ownsRow w.heap.size 64 2 v ps.length (ptsC ps) ∧ Below w.heap.size w w'
set_option maxRecDepth 100000 in
set_option maxHeartbeats 2000000 in
theorem parts_any (w : World) (l : List UInt8) (hl : l.length ≤ 1000000) :
    Calls Tryd.prog 36 #[encStr l] w (RetPts (partsL l) w) := by
  obtain ⟨ip, hip, hiz, his, hib⟩ := pt_info
  have h02 : 0 < 2 := by decide
  go_enter Tryd.func36, Tryd.ntmps36
  go_wp2_with fail
  go_loopw [0, 3] (fun sv ov wr => ∃ (r : List UInt8) (dn : List Pt), sv = encStr r ∧ r.length ≤ 1000000 ∧ dn.length + r.length ≤ l.length ∧ wr.ownsRow w.heap.size 64 2 ov dn.length (ptsC dn) ∧ partsL l = dn ++ partsL r ∧ Below w.heap.size w wr) (fun sv _ _ => match sv with | .string s => s.size | _ => 0)
  case atStart => exact ⟨l, [], rfl, hl, by simp, World.ownsRow_nil _ _ _ _, rfl, Below.refl _ _⟩
  case round =>
    obtain ⟨r, dn, rfl, hr, hdl, own, hp, bw⟩ := hrel
    cases r with
    | nil =>
      rw [show partsL [] = [] by rw [partsL], List.append_nil] at hp
      replace hp := hide hp
      go_wp2_with (first
        | (with_reducible refine wl_run (o := ⟨some 7, _, _, _, _, _⟩) rfl (.bool false) (run_neStr (.tmp 6) (.const (.string ⟨#[]⟩)) rfl rfl rfl (by simp)) ?_))
      go_ret
      exact ⟨_, rfl, by rw [hp.out]; exact own, bw⟩
    | cons a r =>
      rw [partsL_cons] at hp
      have hlen := cutPartL_len a r
      simp only [List.length_cons] at hr hdl
      have hP := fun w => cutPart_any w a r (by omega)
      generalize cutPartL a r = q at *
      obtain ⟨⟨qk, qt⟩, qr⟩ := q
      have hP : ∀ w, Calls Tryd.prog 49 #[encStr (a :: r)] w fun e w' => e = .returned (.tuple #[.agg #[.int .i64 (qk : Int), encStr qt], encStr qr]) ∧ Below w.heap.size w w' := hP
      replace hp := hide hp
      have hm2 : dn.length + 1 ≤ maxLen := by simp only [maxLen]; omega
      have hm8 : (dn.length + 1) * 24 ≤ 140737488355328 := by omega
      replace hlen := hide hlen
      replace hdl := hide hdl
      have hwb := bw.size
      go_wp2_with (first
        | (with_reducible refine wl_run (o := ⟨some 7, _, _, _, _, _⟩) rfl (.bool true) (run_neStr (.tmp 6) (.const (.string ⟨#[]⟩)) rfl rfl rfl (by simp)) ?_))
      refine (hP wr).mono ?_
      rintro e w3 ⟨rfl, b3⟩
      clear hP
      have own := own_later own b3
      have hwb3 := Nat.le_trans hwb b3.size
      have own3 := hide own
      clear own
      go_wp2_with (first
        | ((with_reducible refine wl_alloc (o := ⟨some 4, _, _, _, _, _⟩) rfl 64 _ [.int .i64 0, encStr []] rfl rfl rfl ?_); intro g4 w4 r4 p4 l4 b4)
        | ((with_reducible refine wl_store_row rfl 64 (.tmp 4) (.tmp 11) g4 64 _ [.int .i64 (qk : Int), encStr qt] rfl rfl rfl r4 (szPt _ _) rfl (by simp [Value.oneCell']) ?_); intro w5 r5 o5; have b5 := b4.trans (o5.below p4); have hwb5 := Nat.le_trans hwb3 b5.size)
        | (with_reducible refine wl_load_row (o := ⟨some 14, _, _, _, _, _⟩) rfl 64 (.tmp 4) g4 64 [.int .i64 (qk : Int), encStr qt] _ rfl rfl r5 Tryd.underlying64 rfl (szPt _ _) ?_)
        | ((with_reducible refine wl_build1B (o := ⟨some 15, _, _, _, _, _⟩) rfl 61 (.tmp 14) rfl 64 ip _ [.int .i64 (qk : Int), encStr qt] 2 Tryd.underlying61 hip hiz rfl his rfl h02 (by decide) rfl ?_); intro g6 w6 r6 p6 l6 b6; have own6 := own_later (own_later own3.out b5) b6; have hwb6 := Nat.le_trans hwb5 b6.size)
        | ((at_builtin; with_reducible refine wl_append_at (o := ⟨some 16, _, _, _, _, _⟩) rfl (.tmp 13) (.tmp 15) 61 rfl w.heap.size 64 ip _ 2 24 Tryd.underlying61 hip hiz his hib rfl h02 u3 dn.length (ptsC dn) rfl own6 ⟨g6, 0, none⟩ 1 1 [.int .i64 (qk : Int), encStr qt] rfl rfl (row_src r6) (by simp [Value.oneCell']) hm2 hm8 hwb6 ?_); intro v7 w7 own7 gr7 at7))
      have B6 : Below w.heap.size w w6 := bw.trans ((b3.trans ((b5.trans (b6.mono b5.size)).mono b3.size)).mono hwb)
      have B7 : Below w.heap.size w w7 := B6.grown gr7 hwb6 (fun k hk => (own6.lt k hk).1)
      go_roundw
      case rel => exact ⟨qr, dn ++ [⟨qk, qt⟩], rfl, by have h9 : qr.length ≤ r.length := hlen.out; omega, by have h9 : qr.length ≤ r.length := hlen.out; have := hdl.out; rw [List.length_append, List.length_singleton]; omega, by rw [ptsC_app, List.length_append]; exact own7, by rw [hp.out, List.append_assoc]; rfl, B7⟩
      case measure => have h9 : qr.length ≤ r.length := hlen.out; simp [ByteArray.size]; omega
end Go.Proofs.YtolmomnocfkhoaaDoor
