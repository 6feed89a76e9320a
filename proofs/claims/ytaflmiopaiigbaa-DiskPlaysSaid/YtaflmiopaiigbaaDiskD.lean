/-
  The disk: find. Own work.
-/
import Derived.Test.YtaflmiopaiigbaaDiskC
import Derived.Test.YtaflmiopaiigbaaApp
import Derived.Laws.ResultCell
namespace Go.Proofs.Ytaflmiopaiigbaa
open Go.RowKit Go.Maps Go.ChangeMaps
set_option linter.unusedVariables false
set_option linter.unusedSimpArgs false
theorem wl_append_none {P : Program} {ops : Array Oper} {rest : List Oper} {o : Oper} {a : Act} {w : World} {Q : Exit → Act → World → Prop} (hgd : o.guard = none) (s x : Operand) (t : TypeId) (ho : o.op = .call { callee := .builtin .append, args := #[s, x], argTypes := #[t, t] })
    (base e : Nat) (i : TypeInfo) (size : Nat) (ht : P.underlying t = some (.slice e)) (hi : P.info? e = some i) (v : Value) (n : Nat) (xs : List Value) (hs : a.eval s = v) (hx : a.eval x = .slice none 0 0) (hown : w.ownsRow base e size v n xs)
    (hk : wpList P ops Q rest (a.put o.dst v) w) : wpList P ops Q (o :: rest) a w :=
  wpList_plain hgd fun K hK => by
    have hrun := run_append_owned_none (P := P) (w := w) base t o.type e i size ht hi v n xs hown
    unfold Oper.wp execOp
    simp only [ho, resolve, invoke, builtin, Sem.run_bind, Sem.run_pure, Result.andThen_ok, List.map_toArray, List.map_cons, List.map_nil, hs, hx, hrun]
    exact hK _ _ hk
theorem row_own {w : World} {t g B : Nat} {vs : List Value} (h : Row w t g vs) (hB : B ≤ g) (hm : vs.length ≤ maxLen) : w.ownsRow B t 1 (.slice (some ⟨g, 0, none⟩) vs.length vs.length) vs.length vs :=
  ⟨by simp, .inr ⟨g, vs.length, vs.toArray, rfl, hB, by unfold Row at h; exact h, Nat.le_refl _, hm, by simp, by simp⟩⟩
theorem own_nms {w : World} {T m : Nat} {v : Value} {ns : List Nm} (h : w.ownsRow T 9 1 v m (ns.map encStr)) (hm : 0 < m) : ∃ A c, v = .slice A m c ∧ NmsAt w A m ns := by
  obtain ⟨hl, ho⟩ := h
  rcases ho with ⟨rfl, h0⟩ | ⟨g, cap, cur, rfl, _, hg, h1, h2, h3, h4⟩
  · omega
  · refine ⟨_, cap, rfl, by simpa using hl, fun _ => ⟨g, 0, rfl, fun i hi => ?_⟩⟩
    have hn : i < ns.length := by simp at hl; omega
    have e : (cur.toList.take (m * 1))[i]? = (ns.map encStr)[i]? := by rw [h4]
    rw [Nat.mul_one, List.getElem?_take, if_pos hi, List.getElem?_map, List.getElem?_eq_getElem hn, Option.map_some] at e
    rw [Nat.zero_add, cell_of_row w g i cur _ (0, 0) hg, ← Array.getElem?_toList, e, List.getD, List.getElem?_eq_getElem hn]
    rfl
theorem str_info : ∃ i, Try.prog.info? 9 = some i ∧ i.zero = some (.string ByteArray.empty) ∧ i.size = 1 ∧ i.bytes = 16 := by
  have h : (Try.prog.info? 9).map (fun i => (i.zero, i.size, i.bytes)) = some (some (.string ByteArray.empty), 1, 16) := by kernel_rfl
  exact info_parts h
theorem results_file2 {fn : Func} {w : World} {tmps : Array Value} {g : Nat} {f : FV} {v : Value} (hr : fn.results = #[.cell 6 86, .tmp 7]) (hp : tmps.getD 6 undef = ptr g) (hv : tmps.getD 7 undef = v) (h : Row w 86 g [.slice f.A f.n f.c, .int .i64 f.kept]) :
    (results fn tmps).run Try.prog w = .ok (.tuple #[f.val, v]) w := by
  rw [results_cell_tmp hr, hp, hv]
  have := run_loadVar_row (P := Try.prog) w g 86 86 #[.slice f.A f.n f.c, .int .i64 f.kept] (0, 0) _ (by unfold Row at h; exact h) Try.underlying86 rfl (szFile f)
  simp [asAddr, this, Result.andThen]
theorem row_nms {w : World} {t g : Nat} {n : Nm} (h : Row w t g [encStr n]) : NmsAt w (some ⟨g, 0, none⟩) 1 [n] := ⟨rfl, fun _ => ⟨g, 0, rfl, fun i hi => by
  obtain rfl : i = 0 := by omega
  exact h.cell (j := 0) rfl⟩⟩
theorem le2a : 1 + 1 ≤ maxLen := by decide
theorem le2b : (1 + 1) * 16 ≤ 140737488355328 := by decide
theorem sl_own {B g n c : Nat} (h : B ≤ g) : ∀ k, (Value.slice (some ⟨g, 0, none⟩) n c).ownBlock = some k → B ≤ k := fun k hk => by cases hk; exact h
theorem len1 : 1 ≤ maxLen := by decide
theorem one_str (n : Nm) : ∀ u ∈ [encStr n], u.oneCell' = true := by intro u hu; simp at hu; subst hu; rfl
theorem nms_src {w : World} {b o : Nat} {n : Nm} (h : ∀ i, i < 1 → w.cell? ⟨b, o + i, none⟩ = some (encStr ([n].getD i []))) : ∀ (j : Nat) (u : Value), [encStr n][j]? = some u → w.cell? ((⟨b, o, none⟩ : Addr).add j) = some u := by
  intro j u hj
  match j, hj with
  | 0, hj => simp at hj; subst hj; rw [addr_plain]; exact h 0 (by decide)
theorem nms_below {w w' : World} {b o B : Nat} {n : Nm} (hb : Below B w w') (hB : b < B) (h : ∀ i, i < 1 → w.cell? ⟨b, o + i, none⟩ = some (encStr ([n].getD i []))) : ∀ i, i < 1 → w'.cell? ⟨b, o + i, none⟩ = some (encStr ([n].getD i [])) := fun i hi => (hb.cell (p := ⟨b, o + i, none⟩) hB).trans (h i hi)
theorem grown_lo {w w' : World} {v : Value} {B : Nat} (h : w.grownBy w' v.ownBlock) (hv : ∀ k, v.ownBlock = some k → B ≤ k) (hB : B ≤ w.heap.size) : Below B w w' := ⟨h.os, h.tape, h.output, h.size, fun k hk => h.block k (by omega) (fun e => by have := hv k e.symm; omega)⟩
def findR (fs : Fs) (n : Nm) (ns : List Nm) (on : Bool) : FV × Int :=
  if refE (n :: ns) on = 0 then (match atF fs n with | some f => (f, 0) | none => (zV, 9)) else (zV, refE (n :: ns) on)
theorem refE_cases (ns : List Nm) (on : Bool) : (refE ns on = 0 ∧ ns.all okN = true) ∨ refE ns on = 1 ∨ refE ns on = 8 := by
  unfold refE
  cases ns.all okN <;> cases on <;> simp
theorem findR_cases (fs : Fs) (n : Nm) (ns : List Nm) (on : Bool) : (refE (n :: ns) on = 0 ∧ n.length ≤ maxLen ∧ ((∃ f, atF fs n = some f ∧ findR fs n ns on = (f, 0)) ∨ (atF fs n = none ∧ findR fs n ns on = (zV, 9)))) ∨ (refE (n :: ns) on = 1 ∧ findR fs n ns on = (zV, 1)) ∨ (refE (n :: ns) on = 8 ∧ findR fs n ns on = (zV, 8)) := by
  rcases refE_cases (n :: ns) on with ⟨h, ho⟩ | h | h
  · refine .inl ⟨h, okN_le (by simp at ho; exact ho.1), ?_⟩
    unfold findR
    rw [h]
    cases atF fs n with
    | none => exact .inr ⟨rfl, rfl⟩
    | some f => exact .inl ⟨f, rfl, rfl⟩
  · exact .inr (.inl ⟨h, by unfold findR; rw [h]; rfl⟩)
  · exact .inr (.inr ⟨h, by unfold findR; rw [h]; rfl⟩)
theorem builtFile0 : Try.prog.built 86 [] = some [Value.slice none 0 0, Value.int .i64 0].toArray := by kernel_rfl
theorem PlAt.later {w w' : World} {pl : Value} {on : Bool} {fuse : Int} (h : PlAt w pl on fuse) (hb : Below w.heap.size w w') : PlAt w' pl on fuse := h.imp (fun ⟨g, e, r⟩ => ⟨g, e, Row.later r hb⟩) id
set_option maxRecDepth 100000 in
theorem find_one (w : World) (gd mb : Nat) (pl : Value) (on : Bool) (fuse : Int) (fs : Fs) (n : Nm)  (h : DRow w gd pl (.map (some mb))) (hp : PlAt w pl on fuse) (hm : FMap w mb fs) :
    Calls Try.prog 58 #[ptr gd, encStr n, .slice none 0 0] w fun e w' => e = .returned (.tuple #[(findR fs n [] on).1.val, .int .i64 (findR fs n [] on).2]) ∧ Below w.heap.size w w' := by
  obtain ⟨i0, hi, hz, hs, hb⟩ := str_info

  have HR := fun (w1 : World) (A : Option Addr) (m c : Nat) (b : Below w.heap.size w w1) (hm2 : m ≤ 2) (hN : NmsAt w1 A m (n :: [])) => refuse_any w1 gd mb pl on fuse A m c (n :: []) hm2 (h.later b) (hp.later b) hN
  have HM := hide hm
  have HH := hide h
  have HR := hide HR
  clear hp
  have c1 := h.cell (j := 1) rfl
  rcases findR_cases fs n [] on with ⟨he, hn, ⟨f, hf, hr⟩ | ⟨hf, hr⟩⟩ | ⟨he, hr⟩ | ⟨he, hr⟩
  · rw [hr]
    rw [he] at HR
    have HR := hide HR
    go_enter Try.func58, Try.ntmps58
    go_wp2_with (first
      | ((with_reducible refine wl_alloc rfl 86 _ [.slice none 0 0, .int .i64 0] rfl zFile rfl ?_); intro g1 w1 r1 p1 l1 b1)
      | ((with_reducible refine wl_build1 rfl 43 (.tmp 12) rfl 9 i0 (.string ByteArray.empty) (encStr n) Try.underlying43 hi hz hs rfl rfl rfl ?_); intro g3 w3 r3 p3 l3 b3; have own3 : w3.ownsRow w.heap.size 9 1 (.slice (some ⟨g3, 0, none⟩) 1 1) 1 [encStr n] := row_own r3 (Nat.le_trans b1.size p3) len1)
      | (with_reducible refine wl_append_none rfl (.tmp 13) (.tmp 14) 43 rfl w.heap.size 9 i0 1 Try.underlying43 hi (.slice (some ⟨g3, 0, none⟩) 1 1) 1 [encStr n] rfl rfl own3 ?_))
    have bW : Below w.heap.size w w3 := b1.trans (b3.mono b1.size)
    have hN := row_nms r3
    have rW := Row.later r1 b3
    clear own3 r3 l3 p3 b3 r1 l1 b1
    have c1 := (HH.out.later bW).cell (j := 1) rfl
    have mW := HM.out.later bW
    refine (HR.out w3 _ 1 _ bW (by decide) hN).mono ?_
    rintro e w5 ⟨rfl, rfl⟩
    clear HR
    have hg : (atF fs n).getD zV = f := by rw [hf]; rfl
    have ht : (atF fs n).isSome = true := by rw [hf]; rfl
    have HG := hide hg
    have HT := hide ht
    clear hg ht hf
    go_wp2_with (first
      | (with_reducible refine wl_look2 rfl (.tmp 25) (.tmp 26) n mb fs f true HG.out HT.out rfl rfl rfl mW hn ?_)
      | ((with_reducible refine wl_alloc rfl 86 _ [.slice none 0 0, .int .i64 0] rfl zFile rfl ?_); intro g9 w8 r9 p9 l9 b9; have ne9 : g1 ≠ g9 := Nat.ne_of_lt (Nat.lt_of_lt_of_le rW.lt p9); have rW := Row.later rW b9)
      | ((with_reducible refine wl_store_row rfl 86 (.tmp 9) (.tmp 28) g9 86 _ [.slice f.A f.n f.c, .int .i64 f.kept] rfl rfl rfl r9 (szFile f) rfl (one_file f) ?_); intro w9 r10 o10; have rW := rW.only o10 ne9)
      | (with_reducible refine wl_load_row rfl 86 (.tmp 9) g9 86 [.slice f.A f.n f.c, .int .i64 f.kept] _ rfl rfl r10 Try.underlying86 rfl (szFile f) ?_)
      | ((with_reducible refine wl_store_row rfl 86 (.tmp 6) (.tmp 33) g1 86 _ [.slice f.A f.n f.c, .int .i64 f.kept] rfl rfl rfl rW (szFile f) rfl (one_file f) ?_); intro w7 r7 o7))
    refine bodyPost_ret (v := .tuple #[f.val, .int .i64 0]) ?_ rfl ⟨rfl, ((bW.trans (b9.mono bW.size)).trans (o10.below (Nat.le_trans bW.size p9))).trans (o7.below p1)⟩
    exact results_file2 Try.results58 rfl rfl r7
  · rw [hr]
    rw [he] at HR
    have HR := hide HR
    go_enter Try.func58, Try.ntmps58
    go_wp2_with (first
      | ((with_reducible refine wl_alloc rfl 86 _ [.slice none 0 0, .int .i64 0] rfl zFile rfl ?_); intro g1 w1 r1 p1 l1 b1)
      | ((with_reducible refine wl_build1 rfl 43 (.tmp 12) rfl 9 i0 (.string ByteArray.empty) (encStr n) Try.underlying43 hi hz hs rfl rfl rfl ?_); intro g3 w3 r3 p3 l3 b3; have own3 : w3.ownsRow w.heap.size 9 1 (.slice (some ⟨g3, 0, none⟩) 1 1) 1 [encStr n] := row_own r3 (Nat.le_trans b1.size p3) len1)
      | (with_reducible refine wl_append_none rfl (.tmp 13) (.tmp 14) 43 rfl w.heap.size 9 i0 1 Try.underlying43 hi (.slice (some ⟨g3, 0, none⟩) 1 1) 1 [encStr n] rfl rfl own3 ?_))
    have bW : Below w.heap.size w w3 := b1.trans (b3.mono b1.size)
    have hN := row_nms r3
    have rW := Row.later r1 b3
    clear own3 r3 l3 p3 b3 r1 l1 b1
    have c1 := (HH.out.later bW).cell (j := 1) rfl
    have mW := HM.out.later bW
    refine (HR.out w3 _ 1 _ bW (by decide) hN).mono ?_
    rintro e w5 ⟨rfl, rfl⟩
    clear HR
    have hg : (atF fs n).getD zV = zV := by rw [hf]; rfl
    have ht : (atF fs n).isSome = false := by rw [hf]; rfl
    have HG := hide hg
    have HT := hide ht
    clear hg ht hf
    go_wp2_with (first
      | (with_reducible refine wl_look2 rfl (.tmp 25) (.tmp 26) n mb fs zV false HG.out HT.out rfl rfl rfl mW hn ?_)
      | ((with_reducible refine wl_alloc rfl 86 _ [.slice none 0 0, .int .i64 0] rfl zFile rfl ?_); intro g9 w8 r9 p9 l9 b9; have ne9 : g1 ≠ g9 := Nat.ne_of_lt (Nat.lt_of_lt_of_le rW.lt p9); have rW := Row.later rW b9)
      | ((with_reducible refine wl_store_row rfl 86 (.tmp 9) (.tmp 28) g9 86 _ [.slice zV.A zV.n zV.c, .int .i64 zV.kept] rfl rfl rfl r9 (szFile zV) rfl (one_file zV) ?_); intro w9 r10 o10; have rW := rW.only o10 ne9)
      | ((with_reducible refine wl_build rfl 86 _ rfl _ ?hv _ builtFile0 ?hk); case hv => rfl)
      | ((with_reducible refine wl_store_row rfl 86 (.tmp 6) (.tmp 32) g1 86 _ [.slice zV.A zV.n zV.c, .int .i64 zV.kept] rfl rfl rfl rW (szFile zV) rfl (one_file zV) ?_); intro w7 r7 o7))
    refine bodyPost_ret (v := .tuple #[zV.val, .int .i64 9]) ?_ rfl ⟨rfl, ((bW.trans (b9.mono bW.size)).trans (o10.below (Nat.le_trans bW.size p9))).trans (o7.below p1)⟩
    exact results_file2 Try.results58 rfl rfl r7
  · rw [hr]
    rw [he] at HR
    have HR := hide HR
    go_enter Try.func58, Try.ntmps58
    go_wp2_with (first
      | ((with_reducible refine wl_alloc rfl 86 _ [.slice none 0 0, .int .i64 0] rfl zFile rfl ?_); intro g1 w1 r1 p1 l1 b1)
      | ((with_reducible refine wl_build1 rfl 43 (.tmp 12) rfl 9 i0 (.string ByteArray.empty) (encStr n) Try.underlying43 hi hz hs rfl rfl rfl ?_); intro g3 w3 r3 p3 l3 b3; have own3 : w3.ownsRow w.heap.size 9 1 (.slice (some ⟨g3, 0, none⟩) 1 1) 1 [encStr n] := row_own r3 (Nat.le_trans b1.size p3) len1)
      | (with_reducible refine wl_append_none rfl (.tmp 13) (.tmp 14) 43 rfl w.heap.size 9 i0 1 Try.underlying43 hi (.slice (some ⟨g3, 0, none⟩) 1 1) 1 [encStr n] rfl rfl own3 ?_))
    have bW : Below w.heap.size w w3 := b1.trans (b3.mono b1.size)
    have hN := row_nms r3
    have rW := Row.later r1 b3
    clear own3 r3 l3 p3 b3 r1 l1 b1
    have c1 := (HH.out.later bW).cell (j := 1) rfl
    have mW := HM.out.later bW
    refine (HR.out w3 _ 1 _ bW (by decide) hN).mono ?_
    rintro e w5 ⟨rfl, rfl⟩
    clear HR
    go_wp2_with (first
      | ((with_reducible refine wl_build rfl 86 _ rfl _ ?hv _ builtFile0 ?hk); case hv => rfl)
      | ((with_reducible refine wl_store_row rfl 86 (.tmp 6) (.tmp 19) g1 86 _ [.slice zV.A zV.n zV.c, .int .i64 zV.kept] rfl rfl rfl rW (szFile zV) rfl (one_file zV) ?_); intro w7 r7 o7))
    refine bodyPost_ret (v := .tuple #[zV.val, .int .i64 1]) ?_ rfl ⟨rfl, bW.trans (o7.below p1)⟩
    exact results_file2 Try.results58 rfl rfl r7
  · rw [hr]
    rw [he] at HR
    have HR := hide HR
    go_enter Try.func58, Try.ntmps58
    go_wp2_with (first
      | ((with_reducible refine wl_alloc rfl 86 _ [.slice none 0 0, .int .i64 0] rfl zFile rfl ?_); intro g1 w1 r1 p1 l1 b1)
      | ((with_reducible refine wl_build1 rfl 43 (.tmp 12) rfl 9 i0 (.string ByteArray.empty) (encStr n) Try.underlying43 hi hz hs rfl rfl rfl ?_); intro g3 w3 r3 p3 l3 b3; have own3 : w3.ownsRow w.heap.size 9 1 (.slice (some ⟨g3, 0, none⟩) 1 1) 1 [encStr n] := row_own r3 (Nat.le_trans b1.size p3) len1)
      | (with_reducible refine wl_append_none rfl (.tmp 13) (.tmp 14) 43 rfl w.heap.size 9 i0 1 Try.underlying43 hi (.slice (some ⟨g3, 0, none⟩) 1 1) 1 [encStr n] rfl rfl own3 ?_))
    have bW : Below w.heap.size w w3 := b1.trans (b3.mono b1.size)
    have hN := row_nms r3
    have rW := Row.later r1 b3
    clear own3 r3 l3 p3 b3 r1 l1 b1
    have c1 := (HH.out.later bW).cell (j := 1) rfl
    have mW := HM.out.later bW
    refine (HR.out w3 _ 1 _ bW (by decide) hN).mono ?_
    rintro e w5 ⟨rfl, rfl⟩
    clear HR
    go_wp2_with (first
      | ((with_reducible refine wl_build rfl 86 _ rfl _ ?hv _ builtFile0 ?hk); case hv => rfl)
      | ((with_reducible refine wl_store_row rfl 86 (.tmp 6) (.tmp 19) g1 86 _ [.slice zV.A zV.n zV.c, .int .i64 zV.kept] rfl rfl rfl rW (szFile zV) rfl (one_file zV) ?_); intro w7 r7 o7))
    refine bodyPost_ret (v := .tuple #[zV.val, .int .i64 8]) ?_ rfl ⟨rfl, bW.trans (o7.below p1)⟩
    exact results_file2 Try.results58 rfl rfl r7

set_option maxRecDepth 100000 in
theorem find_two (w : World) (gd mb : Nat) (pl : Value) (on : Bool) (fuse : Int) (fs : Fs) (n : Nm) (n2 : Nm) (A : Option Addr) (c : Nat) (h2 : NmsAt w A 1 [n2]) (hlt : ∀ b o, A = some ⟨b, o, none⟩ → b < w.heap.size) (h : DRow w gd pl (.map (some mb))) (hp : PlAt w pl on fuse) (hm : FMap w mb fs) :
    Calls Try.prog 58 #[ptr gd, encStr n, .slice A 1 c] w fun e w' => e = .returned (.tuple #[(findR fs n [n2] on).1.val, .int .i64 (findR fs n [n2] on).2]) ∧ Below w.heap.size w w' := by
  obtain ⟨i0, hi, hz, hs, hb⟩ := str_info
  obtain ⟨b2, o2, rfl, hc2⟩ := h2.2 (by decide)
  have hb2 := hlt b2 o2 rfl
  have HR := fun (w1 : World) (A : Option Addr) (m c : Nat) (b : Below w.heap.size w w1) (hm2 : m ≤ 2) (hN : NmsAt w1 A m (n :: [n2])) => refuse_any w1 gd mb pl on fuse A m c (n :: [n2]) hm2 (h.later b) (hp.later b) hN
  have HM := hide hm
  have HH := hide h
  have HR := hide HR
  clear hp
  have c1 := h.cell (j := 1) rfl
  rcases findR_cases fs n [n2] on with ⟨he, hn, ⟨f, hf, hr⟩ | ⟨hf, hr⟩⟩ | ⟨he, hr⟩ | ⟨he, hr⟩
  · rw [hr]
    rw [he] at HR
    have HR := hide HR
    go_enter Try.func58, Try.ntmps58
    go_wp2_with (first
      | ((with_reducible refine wl_alloc rfl 86 _ [.slice none 0 0, .int .i64 0] rfl zFile rfl ?_); intro g1 w1 r1 p1 l1 b1)
      | ((with_reducible refine wl_build1 rfl 43 (.tmp 12) rfl 9 i0 (.string ByteArray.empty) (encStr n) Try.underlying43 hi hz hs rfl rfl rfl ?_); intro g3 w3 r3 p3 l3 b3; have hC3 := nms_src (nms_below (b1.trans (b3.mono b1.size)) hb2 hc2); have own3 : w3.ownsRow w.heap.size 9 1 (.slice (some ⟨g3, 0, none⟩) 1 1) 1 [encStr n] := row_own r3 (Nat.le_trans b1.size p3) len1)
      | ((with_reducible refine wl_append_at rfl (.tmp 13) (.tmp 14) 43 rfl w.heap.size 9 i0 (.string ByteArray.empty) 1 16 Try.underlying43 hi hz hs hb rfl (by decide) (.slice (some ⟨g3, 0, none⟩) 1 1) 1 [encStr n] rfl own3 ⟨b2, o2, none⟩ 1 c [encStr n2] rfl rfl hC3 (one_str n2) le2a le2b (Nat.le_trans b1.size b3.size) ?_); intro v4 w4 own4 hg4 hl4; obtain ⟨A4, c4, rfl, hN⟩ := own_nms (ns := [n, n2]) own4 (by decide); have b4 := grown_lo hg4 (sl_own (Nat.le_trans b1.size p3)) (Nat.le_trans b1.size b3.size)))
    have bW : Below w.heap.size w w4 := (b1.trans (b3.mono b1.size)).trans b4
    have rW : Row w4 86 g1 [.slice none 0 0, .int .i64 0] := by
      have ne13 : g1 ≠ g3 := Nat.ne_of_lt (Nat.lt_of_lt_of_le r1.lt p3)
      exact (hg4.block g1 (Row.later r1 b3).lt (fun e => ne13 (by cases e; rfl))).trans (Row.later r1 b3)
    have c1 := (HH.out.later bW).cell (j := 1) rfl
    have mW := HM.out.later bW
    refine (HR.out w4 _ 2 _ bW (by decide) hN).mono ?_
    rintro e w5 ⟨rfl, rfl⟩
    clear HR
    have hg : (atF fs n).getD zV = f := by rw [hf]; rfl
    have ht : (atF fs n).isSome = true := by rw [hf]; rfl
    have HG := hide hg
    have HT := hide ht
    clear hg ht hf
    go_wp2_with (first
      | (with_reducible refine wl_look2 rfl (.tmp 25) (.tmp 26) n mb fs f true HG.out HT.out rfl rfl rfl mW hn ?_)
      | ((with_reducible refine wl_alloc rfl 86 _ [.slice none 0 0, .int .i64 0] rfl zFile rfl ?_); intro g9 w8 r9 p9 l9 b9; have ne9 : g1 ≠ g9 := Nat.ne_of_lt (Nat.lt_of_lt_of_le rW.lt p9); have rW := Row.later rW b9)
      | ((with_reducible refine wl_store_row rfl 86 (.tmp 9) (.tmp 28) g9 86 _ [.slice f.A f.n f.c, .int .i64 f.kept] rfl rfl rfl r9 (szFile f) rfl (one_file f) ?_); intro w9 r10 o10; have rW := rW.only o10 ne9)
      | (with_reducible refine wl_load_row rfl 86 (.tmp 9) g9 86 [.slice f.A f.n f.c, .int .i64 f.kept] _ rfl rfl r10 Try.underlying86 rfl (szFile f) ?_)
      | ((with_reducible refine wl_store_row rfl 86 (.tmp 6) (.tmp 33) g1 86 _ [.slice f.A f.n f.c, .int .i64 f.kept] rfl rfl rfl rW (szFile f) rfl (one_file f) ?_); intro w7 r7 o7))
    refine bodyPost_ret (v := .tuple #[f.val, .int .i64 0]) ?_ rfl ⟨rfl, ((bW.trans (b9.mono bW.size)).trans (o10.below (Nat.le_trans bW.size p9))).trans (o7.below p1)⟩
    exact results_file2 Try.results58 rfl rfl r7
  · rw [hr]
    rw [he] at HR
    have HR := hide HR
    go_enter Try.func58, Try.ntmps58
    go_wp2_with (first
      | ((with_reducible refine wl_alloc rfl 86 _ [.slice none 0 0, .int .i64 0] rfl zFile rfl ?_); intro g1 w1 r1 p1 l1 b1)
      | ((with_reducible refine wl_build1 rfl 43 (.tmp 12) rfl 9 i0 (.string ByteArray.empty) (encStr n) Try.underlying43 hi hz hs rfl rfl rfl ?_); intro g3 w3 r3 p3 l3 b3; have hC3 := nms_src (nms_below (b1.trans (b3.mono b1.size)) hb2 hc2); have own3 : w3.ownsRow w.heap.size 9 1 (.slice (some ⟨g3, 0, none⟩) 1 1) 1 [encStr n] := row_own r3 (Nat.le_trans b1.size p3) len1)
      | ((with_reducible refine wl_append_at rfl (.tmp 13) (.tmp 14) 43 rfl w.heap.size 9 i0 (.string ByteArray.empty) 1 16 Try.underlying43 hi hz hs hb rfl (by decide) (.slice (some ⟨g3, 0, none⟩) 1 1) 1 [encStr n] rfl own3 ⟨b2, o2, none⟩ 1 c [encStr n2] rfl rfl hC3 (one_str n2) le2a le2b (Nat.le_trans b1.size b3.size) ?_); intro v4 w4 own4 hg4 hl4; obtain ⟨A4, c4, rfl, hN⟩ := own_nms (ns := [n, n2]) own4 (by decide); have b4 := grown_lo hg4 (sl_own (Nat.le_trans b1.size p3)) (Nat.le_trans b1.size b3.size)))
    have bW : Below w.heap.size w w4 := (b1.trans (b3.mono b1.size)).trans b4
    have rW : Row w4 86 g1 [.slice none 0 0, .int .i64 0] := by
      have ne13 : g1 ≠ g3 := Nat.ne_of_lt (Nat.lt_of_lt_of_le r1.lt p3)
      exact (hg4.block g1 (Row.later r1 b3).lt (fun e => ne13 (by cases e; rfl))).trans (Row.later r1 b3)
    have c1 := (HH.out.later bW).cell (j := 1) rfl
    have mW := HM.out.later bW
    refine (HR.out w4 _ 2 _ bW (by decide) hN).mono ?_
    rintro e w5 ⟨rfl, rfl⟩
    clear HR
    have hg : (atF fs n).getD zV = zV := by rw [hf]; rfl
    have ht : (atF fs n).isSome = false := by rw [hf]; rfl
    have HG := hide hg
    have HT := hide ht
    clear hg ht hf
    go_wp2_with (first
      | (with_reducible refine wl_look2 rfl (.tmp 25) (.tmp 26) n mb fs zV false HG.out HT.out rfl rfl rfl mW hn ?_)
      | ((with_reducible refine wl_alloc rfl 86 _ [.slice none 0 0, .int .i64 0] rfl zFile rfl ?_); intro g9 w8 r9 p9 l9 b9; have ne9 : g1 ≠ g9 := Nat.ne_of_lt (Nat.lt_of_lt_of_le rW.lt p9); have rW := Row.later rW b9)
      | ((with_reducible refine wl_store_row rfl 86 (.tmp 9) (.tmp 28) g9 86 _ [.slice zV.A zV.n zV.c, .int .i64 zV.kept] rfl rfl rfl r9 (szFile zV) rfl (one_file zV) ?_); intro w9 r10 o10; have rW := rW.only o10 ne9)
      | ((with_reducible refine wl_build rfl 86 _ rfl _ ?hv _ builtFile0 ?hk); case hv => rfl)
      | ((with_reducible refine wl_store_row rfl 86 (.tmp 6) (.tmp 32) g1 86 _ [.slice zV.A zV.n zV.c, .int .i64 zV.kept] rfl rfl rfl rW (szFile zV) rfl (one_file zV) ?_); intro w7 r7 o7))
    refine bodyPost_ret (v := .tuple #[zV.val, .int .i64 9]) ?_ rfl ⟨rfl, ((bW.trans (b9.mono bW.size)).trans (o10.below (Nat.le_trans bW.size p9))).trans (o7.below p1)⟩
    exact results_file2 Try.results58 rfl rfl r7
  · rw [hr]
    rw [he] at HR
    have HR := hide HR
    go_enter Try.func58, Try.ntmps58
    go_wp2_with (first
      | ((with_reducible refine wl_alloc rfl 86 _ [.slice none 0 0, .int .i64 0] rfl zFile rfl ?_); intro g1 w1 r1 p1 l1 b1)
      | ((with_reducible refine wl_build1 rfl 43 (.tmp 12) rfl 9 i0 (.string ByteArray.empty) (encStr n) Try.underlying43 hi hz hs rfl rfl rfl ?_); intro g3 w3 r3 p3 l3 b3; have hC3 := nms_src (nms_below (b1.trans (b3.mono b1.size)) hb2 hc2); have own3 : w3.ownsRow w.heap.size 9 1 (.slice (some ⟨g3, 0, none⟩) 1 1) 1 [encStr n] := row_own r3 (Nat.le_trans b1.size p3) len1)
      | ((with_reducible refine wl_append_at rfl (.tmp 13) (.tmp 14) 43 rfl w.heap.size 9 i0 (.string ByteArray.empty) 1 16 Try.underlying43 hi hz hs hb rfl (by decide) (.slice (some ⟨g3, 0, none⟩) 1 1) 1 [encStr n] rfl own3 ⟨b2, o2, none⟩ 1 c [encStr n2] rfl rfl hC3 (one_str n2) le2a le2b (Nat.le_trans b1.size b3.size) ?_); intro v4 w4 own4 hg4 hl4; obtain ⟨A4, c4, rfl, hN⟩ := own_nms (ns := [n, n2]) own4 (by decide); have b4 := grown_lo hg4 (sl_own (Nat.le_trans b1.size p3)) (Nat.le_trans b1.size b3.size)))
    have bW : Below w.heap.size w w4 := (b1.trans (b3.mono b1.size)).trans b4
    have rW : Row w4 86 g1 [.slice none 0 0, .int .i64 0] := by
      have ne13 : g1 ≠ g3 := Nat.ne_of_lt (Nat.lt_of_lt_of_le r1.lt p3)
      exact (hg4.block g1 (Row.later r1 b3).lt (fun e => ne13 (by cases e; rfl))).trans (Row.later r1 b3)
    have c1 := (HH.out.later bW).cell (j := 1) rfl
    have mW := HM.out.later bW
    refine (HR.out w4 _ 2 _ bW (by decide) hN).mono ?_
    rintro e w5 ⟨rfl, rfl⟩
    clear HR
    go_wp2_with (first
      | ((with_reducible refine wl_build rfl 86 _ rfl _ ?hv _ builtFile0 ?hk); case hv => rfl)
      | ((with_reducible refine wl_store_row rfl 86 (.tmp 6) (.tmp 19) g1 86 _ [.slice zV.A zV.n zV.c, .int .i64 zV.kept] rfl rfl rfl rW (szFile zV) rfl (one_file zV) ?_); intro w7 r7 o7))
    refine bodyPost_ret (v := .tuple #[zV.val, .int .i64 1]) ?_ rfl ⟨rfl, bW.trans (o7.below p1)⟩
    exact results_file2 Try.results58 rfl rfl r7
  · rw [hr]
    rw [he] at HR
    have HR := hide HR
    go_enter Try.func58, Try.ntmps58
    go_wp2_with (first
      | ((with_reducible refine wl_alloc rfl 86 _ [.slice none 0 0, .int .i64 0] rfl zFile rfl ?_); intro g1 w1 r1 p1 l1 b1)
      | ((with_reducible refine wl_build1 rfl 43 (.tmp 12) rfl 9 i0 (.string ByteArray.empty) (encStr n) Try.underlying43 hi hz hs rfl rfl rfl ?_); intro g3 w3 r3 p3 l3 b3; have hC3 := nms_src (nms_below (b1.trans (b3.mono b1.size)) hb2 hc2); have own3 : w3.ownsRow w.heap.size 9 1 (.slice (some ⟨g3, 0, none⟩) 1 1) 1 [encStr n] := row_own r3 (Nat.le_trans b1.size p3) len1)
      | ((with_reducible refine wl_append_at rfl (.tmp 13) (.tmp 14) 43 rfl w.heap.size 9 i0 (.string ByteArray.empty) 1 16 Try.underlying43 hi hz hs hb rfl (by decide) (.slice (some ⟨g3, 0, none⟩) 1 1) 1 [encStr n] rfl own3 ⟨b2, o2, none⟩ 1 c [encStr n2] rfl rfl hC3 (one_str n2) le2a le2b (Nat.le_trans b1.size b3.size) ?_); intro v4 w4 own4 hg4 hl4; obtain ⟨A4, c4, rfl, hN⟩ := own_nms (ns := [n, n2]) own4 (by decide); have b4 := grown_lo hg4 (sl_own (Nat.le_trans b1.size p3)) (Nat.le_trans b1.size b3.size)))
    have bW : Below w.heap.size w w4 := (b1.trans (b3.mono b1.size)).trans b4
    have rW : Row w4 86 g1 [.slice none 0 0, .int .i64 0] := by
      have ne13 : g1 ≠ g3 := Nat.ne_of_lt (Nat.lt_of_lt_of_le r1.lt p3)
      exact (hg4.block g1 (Row.later r1 b3).lt (fun e => ne13 (by cases e; rfl))).trans (Row.later r1 b3)
    have c1 := (HH.out.later bW).cell (j := 1) rfl
    have mW := HM.out.later bW
    refine (HR.out w4 _ 2 _ bW (by decide) hN).mono ?_
    rintro e w5 ⟨rfl, rfl⟩
    clear HR
    go_wp2_with (first
      | ((with_reducible refine wl_build rfl 86 _ rfl _ ?hv _ builtFile0 ?hk); case hv => rfl)
      | ((with_reducible refine wl_store_row rfl 86 (.tmp 6) (.tmp 19) g1 86 _ [.slice zV.A zV.n zV.c, .int .i64 zV.kept] rfl rfl rfl rW (szFile zV) rfl (one_file zV) ?_); intro w7 r7 o7))
    refine bodyPost_ret (v := .tuple #[zV.val, .int .i64 8]) ?_ rfl ⟨rfl, bW.trans (o7.below p1)⟩
    exact results_file2 Try.results58 rfl rfl r7

end Go.Proofs.Ytaflmiopaiigbaa
