/-
  A command as bytes, by the program. Contracts. Own work.
-/
import Derived.Test.YthjcmgjmdjihnaaDoorRespJ
import Derived.Lib.AppendStr
namespace Go.Proofs.YthjcmgjmdjihnaaDoor
open Go.RowKit Go.Shelf
set_option linter.unusedVariables false
set_option linter.unusedSimpArgs false
/-- Bytes in a row of one's own. -/
abbrev OwnB (w : World) (T : Nat) (v : Value) (l : Wd) : Prop := w.ownsRow T 5 1 v l.length (bv (nb l))
theorem strCells_nb (t : Wd) : Lib.strCells ⟨t.toArray⟩ = bv (nb t) := by
  simp [Lib.strCells, bv, nb]
/-- 'append(l, text...)'. -/
theorem wl_append_txt {P : Program} {w : World} {ops : Array Oper} {rest : List Oper} {o : Oper} {a : Act} {Q : Exit → Act → World → Prop} (hgd : o.guard = none) (s x : Operand) (t u : TypeId) (ho : o.op = .call { callee := .builtin .append, args := #[s, x], argTypes := #[t, u] })
    (base : Nat) (e : TypeId) (i : TypeInfo) (ht : P.underlying t = some (.slice e)) (hu : P.underlying u = some .string) (hi : P.info? e = some i) (hz : i.zero = some (.int .u8 0)) (hsz : i.size = 1) (hby : i.bytes = 1)
    (v : Value) (l : Wd) (hs : a.eval s = v) (hown : w.ownsRow base e 1 v l.length (bv (nb l))) (txt : Wd) (hx : a.eval x = encStr txt) (h63 : l.length + txt.length ≤ 140737488355328) (hbase : base ≤ w.heap.size)
    (hk : ∀ v' w', w'.ownsRow base e 1 v' (l ++ txt).length (bv (nb (l ++ txt))) → w.grownBy w' v.ownBlock → wpList P ops Q rest (a.put o.dst v') w') : wpList P ops Q (o :: rest) a w := by
  refine Lib.wpList_append_own_string w hgd s x t u ho base e i ht hu hi hz hsz hby v l.length (bv (nb l)) hs hown ⟨txt.toArray⟩ hx (by rw [str_len]; simp only [maxLen]; omega) (by rw [str_len]; omega) hbase ?_
  intro v' w' h1 h2 _
  refine hk v' w' ?_ h2
  rw [str_len, strCells_nb] at h1
  rw [List.length_append, nb_app, bv, List.map_append]
  exact h1
def lineS (sg : UInt8) (t : Wd) : Wd := sg :: (t ++ [13, 10])
def PutRes (w : World) (T : Nat) (l : Wd) (e : Ending) (w' : World) : Prop := ∃ v', e = .returned v' ∧ OwnB w' T v' l ∧ Below T w w'
theorem below_own {w w' : World} {T e s n : Nat} {v : Value} {xs : List Value} (h : w.ownsRow T e s v n xs) (gr : w.grownBy w' v.ownBlock) (hT : T ≤ w.heap.size) : Below T w w' :=
  (Below.refl T w).grown gr hT fun k hk => (h.lt k hk).1
set_option maxRecDepth 100000 in
set_option maxHeartbeats 1000000 in
theorem putLine_any (w : World) (T : Nat) (v : Value) (l : Wd) (sg : UInt8) (t : Wd) (own : OwnB w T v l) (hT : T ≤ w.heap.size) (hl : l.length + t.length + 3 ≤ 140737488355328) :
    Calls Tryd.prog 28 #[v, .int .u8 (sg.toNat : Int), encStr t] w (PutRes w T (l ++ lineS sg t)) := by
  obtain ⟨i8, hi, hz, hsz, hby⟩ := u8_infoR
  have hm1 := hide (show l.length + 1 ≤ 140737488355328 ∨ (v = .slice none 0 0 ∧ l.length + 1 ≤ 150000000000000) from .inl (by omega))
  have hlen1 := hide (show l.length + 1 = (l ++ [sg]).length by simp)
  have hnb1 := hide (show nb l ++ [(sg.toNat : Int)] = nb (l ++ [sg]) by rw [nb_app]; rfl)
  have hl9 := hide hl
  have hfin := hide (show (l ++ [sg] ++ t) ++ [13, 10] = l ++ lineS sg t by simp [lineS])
  have hlen2 := hide (show (l ++ [sg]).length + t.length ≤ 140737488355328 by rw [List.length_append]; simp; omega)
  have hlen3 := hide (show (l ++ [sg] ++ t).length + [(13 : UInt8), 10].length ≤ 140737488355328 by rw [List.length_append, List.length_append]; simp; omega)
  clear hl
  go_enter Tryd.func28, Tryd.ntmps28
  go_wp2_with (first
    | ((with_reducible refine wl_build1 (o := ⟨some 9, _, _, _, _, _⟩) rfl 26 (.tmp 8) rfl 5 i8 (.int .u8 0) (.int .u8 (sg.toNat : Int)) Tryd.underlying26 hi hz hsz rfl rfl rfl ?_); intro g1 w1 r1 p1 l1 b1; have own1 := own_later own b1; have hT1 := Nat.le_trans hT b1.size; have bs1 : Bs w1 w1.heap.size (some ⟨g1, 0, none⟩) 1 [(sg.toNat : Int)] := Bs.row (t := 5) r1 rfl)
    | ((at_builtin; with_reducible refine wl_append_bsA (o := ⟨some 10, _, _, _, _, _⟩) rfl (.tmp 7) (.tmp 9) 26 rfl T 5 i8 Tryd.underlying26 hi hz hsz hby v _ (nb l) rfl own1 w1.heap.size (some ⟨g1, 0, none⟩) 1 1 [(sg.toNat : Int)] rfl bs1 hm1.out hT1 (l ++ [sg]).length (nb (l ++ [sg])) hlen1.out hnb1.out ?_); intro v2 w2 own2 gr2 at2; have B2 := (b1.mono hT).trans (below_own own1 gr2 hT1); have hT2 := Nat.le_trans hT1 gr2.size)
    | ((at_builtin; with_reducible refine wl_append_txt (o := ⟨some 13, _, _, _, _, _⟩) rfl (.tmp 11) (.tmp 12) 26 9 rfl T 5 i8 Tryd.underlying26 Tryd.underlying9 hi hz hsz hby v2 (l ++ [sg]) rfl own2 t rfl hlen2.out hT2 ?_); intro v3 w3 own3 gr3; have B3 := B2.trans (below_own own2 gr3 hT2); have hT3 := Nat.le_trans hT2 gr3.size)
    | ((at_builtin; with_reducible refine wl_append_txt (o := ⟨some 15, _, _, _, _, _⟩) rfl (.tmp 14) (.const (.string ⟨#[13, 10]⟩)) 26 9 rfl T 5 i8 Tryd.underlying26 Tryd.underlying9 hi hz hsz hby v3 (l ++ [sg] ++ t) rfl own3 [13, 10] rfl hlen3.out hT3 ?_); intro v4 w4 own4 gr4; have B4 := B3.trans (below_own own3 gr4 hT3)))
  go_ret
  refine ⟨v4, rfl, ?_, B4⟩
  rw [hfin.out] at own4
  exact own4
set_option maxRecDepth 100000 in
theorem putNum_any (w : World) (T : Nat) (v : Value) (l : Wd) (sg : UInt8) (n : Nat) (own : OwnB w T v l) (hT : T ≤ w.heap.size) (hl : l.length + 30 ≤ 140737488355328) (hn : n ≤ 140737488355328) (hTb : TabB w T) :
    Calls Tryd.prog 19 #[v, .int .u8 (sg.toNat : Int), .int .i64 (n : Int)] w (PutRes w T (l ++ lineB sg n)) := by
  have HX := text_any (n : Int) (by omega) (by omega) w hTb.here
  have HP := hide (fun (w1 : World) (b1 : Below w.heap.size w w1) => putLine_any w1 T v l sg (Lib.itoa (n : Int)) (own_later own b1) (Nat.le_trans hT b1.size) (by have := itoa_len (n := (n : Int)) (by omega) (by omega); omega))
  have e : lineB sg n = lineS sg (Lib.itoa (n : Int)) := rfl
  rw [e]
  clear hTb hl hn own e
  generalize Lib.itoa (n : Int) = t at *
  go_enter Tryd.func19, Tryd.ntmps19
  go_wp2_with fail
  refine HX.mono ?_
  rintro e w1 ⟨rfl, b1⟩
  clear HX
  go_wp2_with fail
  refine (HP.out w1 b1).mono ?_
  rintro e w2 ⟨v2, rfl, own2, b2⟩
  clear HP
  go_wp2_with fail
  go_ret
  exact ⟨v2, rfl, own2, (b1.mono hT).trans b2⟩
set_option maxRecDepth 100000 in
set_option maxHeartbeats 1000000 in
theorem putText_any (w : World) (T : Nat) (v : Value) (l : Wd) (t : Wd) (own : OwnB w T v l) (hT : T ≤ w.heap.size) (hl : l.length + t.length + 40 ≤ 140737488355328) (hTb : TabB w T) :
    Calls Tryd.prog 20 #[v, encStr t] w (PutRes w T (l ++ textB t)) := by
  obtain ⟨i8, hi, hz, hsz, hby⟩ := u8_infoR
  have HN := putNum_any w T v l 36 t.length own hT (by omega) (by omega) hTb
  have hln : (lineB 36 t.length).length ≤ 30 := by
    unfold lineB
    have := itoa_len (n := (t.length : Int)) (by omega) (by omega)
    simp; omega
  obtain ⟨m, hm⟩ : ∃ m, m = l ++ lineB 36 t.length := ⟨_, rfl⟩
  have hlen2 := hide (show m.length + t.length ≤ 140737488355328 by rw [hm, List.length_append]; omega)
  have hlen3 := hide (show (m ++ t).length + [(13 : UInt8), 10].length ≤ 140737488355328 by rw [List.length_append, hm, List.length_append]; simp; omega)
  have hfin := hide (show (m ++ t) ++ [13, 10] = l ++ textB t by rw [hm]; simp [textB])
  rw [← hm] at HN
  have hlt := str_len t
  clear hl hTb own hm hln
  go_enter Tryd.func20, Tryd.ntmps20
  go_wp2_with (first
    | (with_reducible refine wl_run (o := ⟨some 7, _, _, _, _, _⟩) rfl (.int .i64 (t.length : Int)) (run_lenStr 9 (.tmp 6) t rfl Tryd.underlying9 rfl) ?_))
  refine HN.mono ?_
  rintro e w2 ⟨v2, rfl, own2, B2⟩
  have hT2 := Nat.le_trans hT B2.size
  clear HN
  go_wp2_with (first
    | ((at_builtin; with_reducible refine wl_append_txt (o := ⟨some 11, _, _, _, _, _⟩) rfl (.tmp 9) (.tmp 10) 26 9 rfl T 5 i8 Tryd.underlying26 Tryd.underlying9 hi hz hsz hby v2 m rfl own2 t rfl hlen2.out hT2 ?_); intro v3 w3 own3 gr3; have B3 := B2.trans (below_own own2 gr3 hT2); have hT3 := Nat.le_trans hT2 gr3.size)
    | ((at_builtin; with_reducible refine wl_append_txt (o := ⟨some 13, _, _, _, _, _⟩) rfl (.tmp 12) (.const (.string ⟨#[13, 10]⟩)) 26 9 rfl T 5 i8 Tryd.underlying26 Tryd.underlying9 hi hz hsz hby v3 (m ++ t) rfl own3 [13, 10] rfl hlen3.out hT3 ?_); intro v4 w4 own4 gr4; have B4 := B3.trans (below_own own3 gr4 hT3)))
  go_ret
  refine ⟨v4, rfl, ?_, B4⟩
  rw [hfin.out] at own4
  exact own4
end Go.Proofs.YthjcmgjmdjihnaaDoor
