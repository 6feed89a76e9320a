/-
  Words as texts; what is given up is caught. Contracts. Own work.
-/
import Derived.Test.YthjcmgjmdjihnaaDoorRespE
import Derived.Recover
import Derived.Defers
namespace Go.Proofs.YthjcmgjmdjihnaaDoor
open Go.RowKit Go.Shelf
set_option linter.unusedVariables false
set_option linter.unusedSimpArgs false
/-- Words in a row of one's own. -/
abbrev OwnW (w : World) (T : Nat) (v : Value) (l : List Wd) : Prop := w.ownsRow T 9 1 v l.length (l.map encStr)
theorem own_cellB {w : World} {B e size n k : Nat} {v x : Value} {xs : List Value} (h : w.ownsRow B e size v n xs) (hx : xs[k]? = some x) : ∃ g cap, v = .slice (some ⟨g, 0, none⟩) n cap ∧ w.cell? ⟨g, k, none⟩ = some x := by
  obtain ⟨hl, ho⟩ := h
  have hlt := (List.getElem?_eq_some_iff.1 hx).1
  rcases ho with ⟨rfl, h0⟩ | ⟨g, cap, cur, rfl, _, hg, h1, h2, h3, h4⟩
  · subst h0; omega
  · refine ⟨g, cap, rfl, ?_⟩
    have e : (cur.toList.take (n * size))[k]? = xs[k]? := by rw [h4]
    rw [List.getElem?_take, if_pos (by omega), hx] at e
    rw [cell_of_row w g k cur _ (0, 0) hg, ← Array.getElem?_toList]
    exact e
theorem own_slB {w : World} {B e size n : Nat} {v : Value} {xs : List Value} (h : w.ownsRow B e size v n xs) : ∃ A c, v = .slice A n c := by
  rcases h.2 with ⟨rfl, rfl⟩ | ⟨g, cap, cur, rfl, _⟩
  · exact ⟨none, 0, rfl⟩
  · exact ⟨_, cap, rfl⟩
theorem wordI : ∃ i, Tryd.prog.info? 9 = some i ∧ i.zero = some (.string ByteArray.empty) ∧ i.size = 1 ∧ i.bytes = 16 := by
  have h : (Tryd.prog.info? 9).map (fun i => (i.zero, i.size, i.bytes)) = some (some (.string ByteArray.empty), 1, 16) := by kernel_rfl
  cases hq : Tryd.prog.info? 9 with
  | none => rw [hq] at h; cases h
  | some i =>
    rw [hq] at h
    simp only [Option.map_some, Option.some.injEq, Prod.mk.injEq] at h
    exact ⟨i, rfl, h.1, h.2.1, h.2.2⟩
set_option maxRecDepth 100000 in
set_option maxHeartbeats 1000000 in
theorem texts_any (w : World) (T B : Nat) (v : Value) (ws : List Wd) (h : OwBs w T B v ws) (hB : B ≤ w.heap.size) (hl : ws.length ≤ 40) : Calls Tryd.prog 26 #[v] w fun e w' => ∃ v', e = .returned v' ∧ OwnW w' w.heap.size v' ws ∧ Below w.heap.size w w' := by
  obtain ⟨vs, ow, hvs⟩ := id h
  obtain ⟨A, c, rfl⟩ := own_slB ow
  obtain ⟨ip, hip, hiz, his, hib⟩ := wordI
  have h01 : 0 < 1 := by decide
  have hvl : vs.length = ws.length := by have := ow.1; omega
  have hlI : (ws.length : Int) ≤ 40 := by omega
  have hl9 := hide hl
  have hvs9 := hide hvs
  have ow9 := hide ow
  have hvl9 := hide hvl
  clear h hl hvs ow hvl
  go_enter Tryd.func26, Tryd.ntmps26
  go_wp2_with fail
  go_loopw [3, 5, 8] (fun ov xv iv wr => ∃ i : Nat, i ≤ ws.length ∧ iv = .int .i64 (i : Int) ∧ OwnW wr w.heap.size ov (ws.take i) ∧ Below w.heap.size w wr) (fun _ _ iv _ => 200 - (intOf iv).toNat)
  case atStart => exact ⟨0, by omega, rfl, World.ownsRow_nil _ _ _ _, Below.refl _ _⟩
  case round =>
    obtain ⟨i, hi, rfl, own, BW⟩ := hrel
    have hwb := BW.size
    by_cases hin : i < ws.length
    · have hlt := hin
      have hinI : (i : Int) < (ws.length : Int) := by omega
      obtain ⟨a, ha⟩ : ∃ a, ws[i]? = some a := ⟨_, List.getElem?_eq_getElem hin⟩
      obtain ⟨u, hu⟩ : ∃ u, vs[i]? = some u := ⟨_, List.getElem?_eq_getElem (by have := hvl9.out; omega)⟩
      obtain ⟨g, cap, hA, c0⟩ := own_cellB (own_later ow9.out BW) hu
      obtain ⟨A1, c1, rfl, hb1, hc1⟩ := (hvs9.out i u a hu ha).below (BW.mono hB)
      injection hA with hA1 _ hA3
      subst hA1
      have hltk : (ws.take i).length = i := by rw [List.length_take]; omega
      have hm1 := hide (show (ws.take i).length + 1 ≤ maxLen by simp only [maxLen]; have := hl9.out; omega)
      have hm2 := hide (show ((ws.take i).length + 1) * 16 ≤ 140737488355328 by have := hl9.out; omega)
      have ho1 : ∀ u ∈ [encStr a], u.oneCell' = true := by simp [Value.oneCell', encStr]
      have hst := hide (show ws.take (i + 1) = ws.take i ++ [a] by
        rw [List.take_succ_eq_append_getElem hin]
        rw [List.getElem?_eq_getElem hin] at ha
        injection ha with ha
        rw [ha])
      have ha9 := hide ha
      generalize u3 = ov at *
      replace hltk := hide hltk
      have hi9 := hide hi
      clear ha hu hi
      go_wp2_with (first
        | (with_reducible refine wl_run (o := ⟨some 10, _, _, _, _, _⟩) rfl (.pointer (some ⟨g, 0 + i * 1, none⟩)) (run_idxO 22 (.tmp 6) (.tmp 8) 26 1 g 0 ws.length c i rfl Tryd.underlying22 Tryd.sizeOf26 rfl rfl hlt) ?_)
        | (with_reducible refine wl_run (o := ⟨some 14, _, _, _, _, _⟩) rfl (.string (strOfNums (nb a))) (run_toStr 26 9 5 (.tmp 13) rfl rfl hb1 Tryd.underlying26 Tryd.underlying5 Tryd.underlying9) ?_; rw [nb_str])
        | ((with_reducible refine wl_build1 (o := ⟨some 15, _, _, _, _, _⟩) rfl 40 (.tmp 14) rfl 9 ip (.string ByteArray.empty) (encStr a) Tryd.underlying40 hip hiz his rfl rfl rfl ?_); intro g6 w6 r6 p6 l6 b6; have own6 := own_later own b6; have hwb6 := Nat.le_trans hwb b6.size)
        | ((at_builtin; with_reducible refine wl_append_at (o := ⟨some 16, _, _, _, _, _⟩) rfl (.tmp 12) (.tmp 15) 40 rfl w.heap.size 9 ip _ 1 16 Tryd.underlying40 hip hiz his hib rfl h01 ov _ _ rfl own6 ⟨g6, 0, none⟩ 1 1 [encStr a] rfl rfl (row_src r6) ho1 hm1.out hm2.out hwb6 ?_); intro v7 w7 own7 gr7 at7; have B7 : Below w.heap.size w w7 := (BW.trans (b6.mono hwb)).grown gr7 hwb6 (fun k hk => (own6.lt k hk).1)))
      go_roundw
      case rel =>
        refine ⟨v7, _, _, ⟨i + 1, by omega, ?_, ?_⟩, rfl, rfl, rfl⟩
        · go_num
        rw [hst.out, OwnW, List.map_append, List.length_append]
        exact own7
      case measure => have := hl9.out; simp [intOf]; omega
    · obtain rfl : i = ws.length := by omega
      rw [List.take_length] at own
      go_wp2_with fail
      go_ret
      exact ⟨_, rfl, own, BW⟩
/-! ### What is given up is caught -/
theorem catch_code (p : Addr) (x : Int) (e : Int) (older : List PanicEntry) (w : World) (hc : w.cell? p = some (.int .i64 x)) (hz : w.frozen? p = false) :
    CallsD Tryd.prog 30 #[.pointer (some p)] (.panicking ({ v := .iface 65 (.int .i64 e), recovered := false } :: older)) w fun en u' w' =>
      en = .returned (.tuple #[]) ∧ u' = .panicking ({ v := .iface 65 (.int .i64 e), recovered := true } :: older) ∧ w' = w.setCell p (.int .i64 e) := by
  refine callsD_of_wpS Tryd.func30 rfl fun c₀ cs hu => ?_
  apply wpS_seq
  apply wpS_region
  simp [wpOpsS, go_sem, recoverD, hu, Tryd.ntmps30, Exit.thenS]
  refine wpS_of_wp ?_
  rw [show (#[Value.pointer (some p)] ++ (Array.replicate 10 undef).setIfInBounds 3 (Value.iface 65 (.int .i64 e))) = #[Value.pointer (some p), undef, undef, undef, Value.iface 65 (.int .i64 e), undef, undef, undef, undef, undef, undef] from rfl]
  have hta : ∀ w : World, (Instr.typeAssert (.iface 65 (.int .i64 e)) 20 65 true).run Tryd.prog w = .ok (.tuple #[.int .i64 e, .bool true]) w := fun _ => by kernel_rfl
  generalize hQ : (fun (en : Exit) (a' : Act) (w' : World) => bodyPostS Tryd.prog _ _ _ _ en a' _ w') = Q
  go_wp2
  subst hQ
  simp [bodyPostS, results, Tryd.results30]
/-- Nothing old has turned but these blocks. -/
structure ButZ (S : List Nat) (w w' : World) : Prop where
  os : w'.os = w.os
  tape : w'.tape = w.tape
  output : w'.output = w.output
  size : w.heap.size ≤ w'.heap.size
  block : ∀ k, k < w.heap.size → k ∉ S → w'.heap[k]? = w.heap[k]?
theorem ButZ.refl (S : List Nat) (w : World) : ButZ S w w := ⟨rfl, rfl, rfl, Nat.le_refl _, fun _ _ _ => rfl⟩
theorem ButZ.trans {S : List Nat} {a b c : World} (h : ButZ S a b) (k : ButZ S b c) : ButZ S a c :=
  ⟨k.os.trans h.os, k.tape.trans h.tape, k.output.trans h.output, Nat.le_trans h.size k.size, fun i hi hn => (k.block i (Nat.lt_of_lt_of_le hi h.size) hn).trans (h.block i hi hn)⟩
theorem ButZ.of {S : List Nat} {a b : World} (h : Below a.heap.size a b) : ButZ S a b := ⟨h.os, h.tape, h.output, h.size, fun k hk _ => h.block k hk⟩
theorem ButZ.ofBut {S : List Nat} {g : Nat} {a b : World} (h : But g a b) (hg : g ∈ S) : ButZ S a b := ⟨h.os, h.tape, h.output, h.size, fun k hk hn => h.block k hk (fun e => hn (e ▸ hg))⟩
theorem ButZ.only {S : List Nat} {a b c : World} {g : Nat} (h : ButZ S a b) (o : Only g b c) (hg : a.heap.size ≤ g ∨ g ∈ S) : ButZ S a c :=
  ⟨o.os.trans h.os, o.tape.trans h.tape, o.output.trans h.output, by rw [o.size]; exact h.size, fun k hk hn => by
    have hne : k ≠ g := fun e => by subst e; rcases hg with e | e; exact absurd hk (by omega); exact hn e
    exact (o.block k hne).trans (h.block k hk hn)⟩
theorem ButZ.grown {S : List Nat} {a b c : World} {blk : Option Nat} (h : ButZ S a b) (gr : b.grownBy c blk) (hb : ∀ k, blk = some k → a.heap.size ≤ k) : ButZ S a c :=
  ⟨gr.os.trans h.os, gr.tape.trans h.tape, gr.output.trans h.output, Nat.le_trans h.size gr.size, fun k hk hn => (gr.block k (Nat.lt_of_lt_of_le hk h.size) (fun e => by have := hb k e.symm; omega)).trans (h.block k hk hn)⟩
theorem ButZ.below {S : List Nat} {a b : World} {B : Nat} (h : ButZ S a b) (hS : ∀ g ∈ S, B ≤ g) (hB : B ≤ a.heap.size) : Below B a b :=
  ⟨h.os, h.tape, h.output, h.size, fun k hk => h.block k (by omega) (fun hm => by have := hS k hm; omega)⟩
theorem ButZ.drew {S : List Nat} {a b : World} (h : ButZ S a b) : ButZ S a b.drew := ⟨h.os, h.tape, h.output, h.size, h.block⟩
theorem Row.butz {w w' : World} {t g : Nat} {vs : List Value} {S : List Nat} (h : Row w t g vs) (hb : ButZ S w w') (hg : g ∉ S) : Row w' t g vs := (hb.block g h.lt hg).trans h
theorem own_butz {w w' : World} {base e size n : Nat} {v : Value} {xs : List Value} {S : List Nat} (h : w.ownsRow base e size v n xs) (hb : ButZ S w w') (hS : ∀ k ∈ S, k < base) : w'.ownsRow base e size v n xs :=
  own_at h fun k hk => hb.block k (h.lt k hk).2 (fun hm => by have := hS k hm; have := (h.lt k hk).1; omega)
theorem errInfo : (Tryd.prog.info? 28).map (fun i => i.zero) = some (some (.int .i64 0)) := by kernel_rfl
def AttRes (S : List Nat) (R : World → Int → World → Prop) (w : World) (en : Ending) (w' : World) : Prop :=
  ∃ (e : Int) (g : Nat) (w1 w2 : World), en = .returned (.int .i64 e) ∧ Below w.heap.size w w1 ∧ R w1 e w2 ∧ Only g w2 w' ∧ w.heap.size ≤ g ∧ g < w1.heap.size
set_option maxRecDepth 100000 in
theorem attempt_any (S : List Nat) (R : World → Int → World → Prop) (f : FuncId) (caps : Array Value) (w : World) (hS : ∀ k ∈ S, k < w.heap.size)
    (hf : ∀ (xs : Array Value) (w : World), (callFunc f xs).run Tryd.prog w = .ok (.enter f xs) w)
    (hc : ∀ w1, Below w.heap.size w w1 → Calls Tryd.prog f caps w1 fun en w2 => ∃ e, en = .panicked (Pn e) ∧ R w1 e w2 ∧ ButZ S w1 w2) :
    Calls Tryd.prog 23 #[.func (.func f) #[] caps] w (AttRes S R w) := by
  have hmf : ∀ (fn : Fn) (first cap : Array Value) (w : World), (Instr.makeFunc fn first cap).run Tryd.prog w = .ok (.func fn first cap) w := fun _ _ _ _ => rfl
  have hz := errInfo
  go_enter_defers Tryd.func23, Tryd.ntmps23
  go_wp2_with (first
    | (with_reducible refine wl_alloc (o := ⟨some 2, _, _, _, _, _⟩) rfl 28 _ [.int .i64 0] rfl hz rfl ?_; intro g2 w2 r2 p2 l2 b2))
  refine (hc w2 b2).mono ?_
  rintro en w3 ⟨e, rfl, hR, hb3⟩
  have r3 := r2.butz hb3 (fun hm => by have := hS g2 hm; omega)
  show bodyPostD _ _ _ (Exit.panic (Pn e)) _ _
  refine leaves_cons (f := 30) (args := #[.pointer (some ⟨g2, 0, none⟩)]) (by simp) (by simp [go_sem]) ?_
  refine (catch_code ⟨g2, 0, none⟩ 0 e [] w3 (r3.cell rfl) (r3.frozen 0)).mono ?_
  rintro en u' w4 ⟨rfl, rfl, rfl⟩
  have r4 : Row (w3.setCell ⟨g2, 0, none⟩ (.int .i64 e)) 28 g2 [.int .i64 e] := by
    have := heap_setCell_same w3 g2 0 _ 28 (.int .i64 e) r3
    exact this
  have c4 := r4.cell (j := 0) rfl
  have hag : ∀ w, (isAgg 28).run Tryd.prog w = .ok false w := Tryd.isAgg28
  refine ⟨.int .i64 e, ?_, e, g2, w2, w3, rfl, b2, hR, only_setCell _ _ _ _, p2, l2⟩
  simp [results, Tryd.results23, go_sem, c4, asAddr, hag]
end Go.Proofs.YthjcmgjmdjihnaaDoor
