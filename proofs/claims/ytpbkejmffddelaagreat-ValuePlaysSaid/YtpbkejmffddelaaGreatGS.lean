/-
  Several own texts in one: ValPv, ValPw, ValPz, ValQa. Own work.
-/
import Derived.Test.YtpbkejmffddelaaGreatGR
set_option linter.unusedVariables false
set_option linter.unusedSimpArgs false
/-
  The law's 'do': sets. Own work.
-/
namespace Go.Proofs.YtpbkejmffddelaaGreat
open Go.RowKit Go.Shelf Go.Maps
theorem zB_ne {w : World} {B gz mb g t : Nat} {hd : Nd} {Ls : List Nd} {us : List Value} (h : ZSet w B gz mb hd Ls) (r : Row w t g us) (ht : t ≠ 176) : g ∉ zB mb hd Ls := fun hm => by
  rcases List.mem_cons.1 hm with rfl | hm
  · obtain ⟨es, h1, _⟩ := h.map
    exact h1.ne_row r rfl
  · obtain ⟨n, hn, rfl⟩ := List.mem_map.1 hm
    obtain ⟨c, hc⟩ := List.mem_iff_getElem?.1 hn
    have := (show w.heap[_]? = _ from h.z.link c n hc).symm.trans r
    simp at this
    exact ht this.2.symm
theorem zset_trnB {w w' : World} {B gz mb : Nat} {hd : Nd} {Ls : List Nd} (h : ZSet w B gz mb hd Ls) (hz : ButZ (zB mb hd Ls) w w') (hB : B ≤ w.heap.size) : TrnB B w w' :=
  ⟨Trn.butz hz (fun g hg => by
    rcases List.mem_cons.1 hg with rfl | hg
    · obtain ⟨es, h1, _⟩ := h.map
      exact map_notplain h1
    · obtain ⟨n, hn, rfl⟩ := List.mem_map.1 hg
      obtain ⟨c, hc⟩ := List.mem_iff_getElem?.1 hn
      exact row_notplain (h.z.link c n hc) (by decide)), hz.below h.lo_zB hB⟩
theorem V5.turn {w w' : World} {B gv gz mb : Nat} {hd : Nd} {Ls Ls' : List Nd} (h : V5 w B gv gz mb hd Ls) (z : ZSet w' B gz mb hd Ls') (hz : ButZ (zB mb hd Ls) w w') : V5 w' B gv gz mb hd Ls' :=
  ⟨⟨(hz.block gv h.v.row.lt (zB_ne h.z h.v.row (by decide))).trans h.v.row, h.v.one⟩, z, h.lo⟩
theorem vx5 {w : World} {B gv gz mb : Nat} {hd : Nd} {Ls : List Nd} {l : List Sc} (h : V5 w B gv gz mb hd Ls) (e : scs Ls = l) : VX w B gv ⟨5, [], [], [], l⟩ := e ▸ .k5 gz mb hd Ls h
theorem put_5 (w : World) (B gv gz mb : Nat) (hd : Nd) (Ls : List Nd) (m : Nm) (s : Int) (h : V5 w B gv gz mb hd Ls) (hm : m.length ≤ 1000000) (hl : Ls.length ≤ 999998) (hB : B ≤ w.heap.size) :
    Calls Tryz.prog 75 #[ptr gz, encStr m, .int .i64 s] w fun e w' => ∃ v, e = .returned v ∧ (∃ Ls', V5 w' B gv gz mb hd Ls' ∧ scs Ls' = putS (scs Ls) ⟨m, s⟩) ∧ TrnB B w w' :=
  (put_any w B gz mb hd Ls m s h.z hm hl hB).mono fun e w' ⟨Ls', he, hz, hs, hb, _⟩ => ⟨_, he, ⟨Ls', h.turn hz hb, hs⟩, zset_trnB h.z hb hB⟩
theorem drop_5 (w : World) (B gv gz mb : Nat) (hd : Nd) (Ls : List Nd) (m : Nm) (h : V5 w B gv gz mb hd Ls) (hm : m.length ≤ maxLen) (hl : Ls.length ≤ 999998) (hB : B ≤ w.heap.size) :
    Calls Tryz.prog 77 #[ptr gz, encStr m] w fun e w' => ∃ v, e = .returned v ∧ (∃ Ls', V5 w' B gv gz mb hd Ls' ∧ scs Ls' = dropS (scs Ls) m) ∧ TrnB B w w' :=
  (drop_any w B gz mb hd Ls m h.z hm hl).mono fun e w' ⟨Ls', he, hz, hs, hb, _⟩ => ⟨_, he, ⟨Ls', h.turn hz hb, hs⟩, zset_trnB h.z hb hB⟩
set_option maxRecDepth 100000 in
theorem score_nil (w : World) (m : Nm) : Calls Tryz.prog 119 #[.pointer none, encStr m] w fun e w' => e = .returned (.tuple #[.int .i64 0, .bool false]) ∧ w = w' := by
  go_enter Tryz.func119, Tryz.ntmps119
  go_wp2_with fail
  go_ret2
  exact ⟨rfl, rfl⟩
set_option maxRecDepth 100000 in
theorem put_nil (w : World) (m : Nm) (s : Int) : Calls Tryz.prog 75 #[.pointer none, encStr m, .int .i64 s] w fun e w' => e = .returned (.bool false) ∧ w = w' := by
  go_enter Tryz.func75, Tryz.ntmps75
  go_wp2_with fail
  refine (made_no w (.pointer none) (.inl rfl)).mono ?_
  rintro e w2 ⟨rfl, rfl⟩
  go_wp2_with fail
  go_ret
  exact ⟨rfl, rfl⟩
set_option maxRecDepth 100000 in
theorem drop_nil (w : World) (m : Nm) : Calls Tryz.prog 77 #[.pointer none, encStr m] w fun e w' => e = .returned (.bool false) ∧ w = w' := by
  go_enter Tryz.func77, Tryz.ntmps77
  go_wp2_with fail
  refine (score_nil w m).mono ?_
  rintro e w2 ⟨rfl, rfl⟩
  go_wp2_with fail
  go_ret
  exact ⟨rfl, rfl⟩

end Go.Proofs.YtpbkejmffddelaaGreat

/-
  The law's 'do': Put, Drop. Own work.
-/
namespace Go.Proofs.YtpbkejmffddelaaGreat
open Go.RowKit Go.Shelf Go.Maps
def SPt5 (gv g4 g5 gz : Nat) (a : VA) (opn : Nat) (v : Value) : Prop :=
  match opn with
  | 0 => v = ptr gv
  | 1 => v = ptr gz
  | 2 => v = .pointer (some ⟨g5, 1, none⟩)
  | 3 => v = encStr a.a
  | 4 => v = .pointer (some ⟨g5, 3, none⟩)
  | 5 => v = .int .i64 a.n
  | _ => True
def SDr5 (gv g4 g5 gz : Nat) (a : VA) (opn : Nat) (v : Value) : Prop :=
  match opn with
  | 0 => v = ptr gv
  | 1 => v = ptr gz
  | 2 => v = .pointer (some ⟨g5, 1, none⟩)
  | 3 => v = encStr a.a
  | _ => True
def SPt0 (gv g4 g5 : Nat) (a : VA) (opn : Nat) (v : Value) : Prop :=
  match opn with
  | 0 => v = ptr gv
  | 1 => v = nilP
  | 2 => v = .pointer (some ⟨g5, 1, none⟩)
  | 3 => v = encStr a.a
  | 4 => v = .pointer (some ⟨g5, 3, none⟩)
  | 5 => v = .int .i64 a.n
  | _ => True
def SDr0 (gv g4 g5 : Nat) (a : VA) (opn : Nat) (v : Value) : Prop :=
  match opn with
  | 0 => v = ptr gv
  | 1 => v = nilP
  | 2 => v = .pointer (some ⟨g5, 1, none⟩)
  | 3 => v = encStr a.a
  | _ => True

set_option maxRecDepth 100000 in
set_option maxHeartbeats 1000000 in
theorem do_put5 (w : World) (B gv : Nat) (gz mb : Nat) (hd : Nd) (Ls : List Nd) (vp vl vs lv : Value) (a : VA) (hV : V5 w B gv gz mb hd Ls) (hX : XM w B (⟨5, [], [], [], scs Ls⟩ : Vl) vp vl vs) (hk : a.k.tmod 8 = 6) (hB : B ≤ w.heap.size) (hf : a.a.length ≤ 1000000) (hl : Ls.length ≤ 999998) :
    Calls Tryz.prog 19 #[ptr gv, vlV (⟨5, [], [], [], scs Ls⟩ : Vl) vp vl vs, .agg (a.cells lv).toArray] w (DoPost w B gv (⟨5, [], [], [], putS (scs Ls) ⟨a.a, a.n⟩⟩ : Vl)) := by
  go_enter Tryz.func19, Tryz.ntmps19
  go_wp2_with (first
    | ((with_reducible refine wl_box (o := ⟨some 4, _, _, _, _, _⟩) rfl 26 (.tmp 1) _ (vlC (⟨5, [], [], [], scs Ls⟩ : Vl) vp vl vs) rfl rfl rfl ?_); intro g4 w1 r4 p4 l4 b1)
    | ((with_reducible refine wl_box (o := ⟨some 5, _, _, _, _, _⟩) rfl 54 (.tmp 2) _ (a.cells lv) rfl rfl rfl ?_); intro g5 w2 r5 p5 l5 b2; have r42 := r4.later b2)
    | ((with_reducible refine wl_alloc (o := ⟨some 6, _, _, _, _, _⟩) rfl 26 _ [.int .i64 0, encStr [], nilS, nilS, nilS] rfl zeroVl rfl ?_); intro g6 w3 r6 p6 l6 b3; have r53 := r5.later b3; have r43 := r42.later b3; have d0 := r53.cell (j := 0) rfl; have d1 := r53.cell (j := 1) rfl; have d2 := r53.cell (j := 2) rfl; have d4 := r53.cell (j := 4) rfl; have c0 := r43.cell (j := 0) rfl; have c3 := r43.cell (j := 3) rfl; have c4 := r43.cell (j := 4) rfl; have d3 := r53.cell (j := 3) rfl))
  have B3 := (b1.trans (b2.mono b1.size)).trans (b3.mono (b1.trans (b2.mono b1.size)).size)
  have hB3 : B ≤ w3.heap.size := Nat.le_trans hB B3.size
  have g4B : B ≤ g4 := Nat.le_trans hB p4
  have g6w : w.heap.size ≤ g6 := Nat.le_trans (b1.trans (b2.mono b1.size)).size p6
  have n46 : g4 ≠ g6 := Nat.ne_of_lt (Nat.lt_of_lt_of_le r42.lt p6)
  have n45 : g4 ≠ g5 := Nat.ne_of_lt (Nat.lt_of_lt_of_le r4.lt p5)
  have n56 : g5 ≠ g6 := Nat.ne_of_lt (Nat.lt_of_lt_of_le r5.lt p6)
  have hX3 := hX.later B3
  have hV3 := hV.later B3
  clear r4 r5 r42 b1 b2 b3 l4 l5 l6 hV hX
  have hsl : (scs Ls).length = Ls.length := by unfold scs; rw [List.length_map]
  have hrise := hV3.z.rise
  have HS : ∀ wz : World, V5 wz B gv gz mb hd Ls → Calls Tryz.prog 38 #[ptr gv] wz fun e w' => e = .returned (ptr gz) ∧ Below wz.heap.size wz w' := fun wz h => sorted_ev wz (ptr gv) 5 [] none nilS none (ptr gz) (.of h.v)
  have HC : ∀ wz : World, V5 wz B gv gz mb hd Ls → B ≤ wz.heap.size → Calls Tryz.prog 75 #[ptr gz, encStr a.a, .int .i64 a.n] wz fun e w' => ∃ v, e = .returned v ∧ (∃ Ls', V5 w' B gv gz mb hd Ls' ∧ scs Ls' = putS (scs Ls) ⟨a.a, a.n⟩) ∧ TrnB B wz w' := fun wz h hz => put_5 wz B gv gz mb hd Ls a.a a.n h hf hl hz
  replace HC := hide HC
  replace HS := hide HS
  replace hsl := hide hsl
  clear d0 d1 d2 d3 d4 c0 c3 c4
  rename_i K6 hK6
  refine wp_region_valsS [6, 1] (SPt5 gv g4 g5 gz a) (JT B w3 (fun w => V5 w B gv gz mb hd Ls) (fun w => ∃ Ls', V5 w B gv gz mb hd Ls' ∧ scs Ls' = putS (scs Ls) ⟨a.a, a.n⟩)) (by kernel_rfl) (by kernel_rfl) (by kernel_rfl) (by kernel_rfl) (JT.start (hV3.later (Below.refl _ _).drew) rfl) ?obs ?he
  case obs =>
    refine ⟨?_, ?_, ?_, ?_, ?_, ?_, ?_, trivial⟩
    · refine .inl ⟨.inl rfl, ?_⟩
      exact .inl ⟨by kernel_rfl, fun L a1 w1 n h => ⟨_, rfl, run_move (.tmp 0) rfl (h.var n 0 (by kernel_rfl))⟩⟩
    · refine .inl ⟨.inl rfl, ?_⟩
      refine .inr fun L a1 w1 n h K hK => ?_
      have e0 : a1.eval (.tmp 164) = ptr gv := h.dep n 0 164 (by kernel_rfl) rfl
      refine st_call 38 _ _ #[ptr gv] rfl Tryz.call38 ?_ (HS.out w1 (h.inv.2.1 ((bits_at rfl).trans (n.later (by kernel_rfl))))) ?_
      · simp only [List.map_toArray, List.map_cons, List.map_nil, e0]
      · rintro e w3 ⟨rfl, b9⟩
        exact ⟨_, rfl, hK _ w3 rfl (JT.kept h.inv b9 hB3 (fun d => d.later b9) (fun d => let ⟨q9, h9, e9⟩ := d; ⟨q9, h9.later b9, e9⟩) (bits_at rfl).symm)⟩
    · refine .inl ⟨.inl rfl, ?_⟩
      refine .inl ⟨by kernel_rfl, fun L a1 w1 n h => ⟨.pointer (some ⟨g5, 1, none⟩), rfl, ?_⟩⟩
      have e0 : a1.eval (.tmp 5) = _ := h.var n 5 (by kernel_rfl)
      unfold execOp
      simp only [e0]
      go_simp
    · refine .inl ⟨.inl rfl, ?_⟩
      exact .inl ⟨by kernel_rfl, fun L a1 w1 n h => ⟨_, rfl, run_loadA 9 (.tmp 166) ⟨g5, 1, none⟩ rfl Tryz.isAgg9 (h.dep n 2 166 (by kernel_rfl) rfl) (((h.inv.1.1.row r53 (.inr (.inr (.inr (.inr rfl)))))).cell (j := 1) (v := encStr a.a) rfl)⟩⟩
    · refine .inl ⟨.inl rfl, ?_⟩
      refine .inl ⟨by kernel_rfl, fun L a1 w1 n h => ⟨.pointer (some ⟨g5, 3, none⟩), rfl, ?_⟩⟩
      have e0 : a1.eval (.tmp 5) = _ := h.var n 5 (by kernel_rfl)
      unfold execOp
      simp only [e0]
      go_simp
    · refine .inl ⟨.inl rfl, ?_⟩
      exact .inl ⟨by kernel_rfl, fun L a1 w1 n h => ⟨_, rfl, run_loadA 3 (.tmp 168) ⟨g5, 3, none⟩ rfl Tryz.isAgg3 (h.dep n 4 168 (by kernel_rfl) rfl) (((h.inv.1.1.row r53 (.inr (.inr (.inr (.inr rfl)))))).cell (j := 3) (v := .int .i64 a.n) rfl)⟩⟩
    · refine .inl ⟨.inl rfl, ?_⟩
      refine .inr fun L a1 w1 n h K hK => ?_
      have e0 : a1.eval (.tmp 165) = ptr gz := h.dep n 1 165 (by kernel_rfl) rfl
      have e1 : a1.eval (.tmp 167) = encStr a.a := h.dep n 3 167 (by kernel_rfl) rfl
      have e2 : a1.eval (.tmp 169) = .int .i64 a.n := h.dep n 5 169 (by kernel_rfl) rfl
      refine st_call 75 _ _ #[ptr gz, encStr a.a, .int .i64 a.n] rfl Tryz.call75 ?_ (HC.out w1 (h.inv.2.1 ((bits_at rfl).trans n.not_yet)) (Nat.le_trans hB3 h.inv.1.1.size)) ?_
      · simp only [List.map_toArray, List.map_cons, List.map_nil, e0, e1, e2]
      · rintro e w3 ⟨v9, rfl, hV9, T9⟩
        exact ⟨_, rfl, hK _ w3 trivial (JT.turned h.inv T9 hV9 rfl)⟩

  case he =>
    intro V w5 hV2 hJ
    have BT5 := hJ.1
    have hV5 := hJ.2.2 rfl
    clear hV2 hJ
    simp only [putOps, List.setIfInBounds_toArray, List.set_cons_succ, List.set_cons_zero, Nat.reduceAdd]
    refine hK6 _ _ ?_
    obtain ⟨Ls', hV5, hs5⟩ := hV5
    have r45 := BT5.1.row r43 (.inr (.inr (.inr (.inl rfl))))
    have r55 := BT5.1.row r53 (.inr (.inr (.inr (.inr rfl))))
    have r65 := BT5.1.row r6 (.inr (.inr (.inr (.inl rfl))))
    have hX5 := hX3.trn BT5.1
    have d0 := r55.cell (j := 0) rfl
    have d1 := r55.cell (j := 1) rfl
    have d2 := r55.cell (j := 2) rfl
    have d3 := r55.cell (j := 3) rfl
    have d4 := r55.cell (j := 4) rfl
    have c0 := r45.cell (j := 0) rfl
    replace BT5 := (TrnB.of B3 hB).trans BT5
    have hB5 := Nat.le_trans hB BT5.2.size
    have hw5 := BT5.1.size
    have c4 := r45.cell (j := 4) rfl
    generalize V 0 = q0
    generalize V 1 = q1
    generalize V 2 = q2
    generalize V 3 = q3
    generalize V 4 = q4
    generalize V 5 = q5
    generalize V 6 = q6
    clear HC HS
    replace hs5 := hide hs5
    go_wp2_with fail
    refine (rput_any w5 vs (scs Ls) a.a a.n (own_scv hX5.s) (by rw [hsl.out]; omega) hrise).mono ?_
    rintro e w6 ⟨v6, rfl, own6, b6⟩
    have BT6 := TrnB.of b6 hB5
    clear d0 d1 d2 d3 d4 c0
    have r46 := BT6.1.row r45 (.inr (.inr (.inr (.inl rfl))))
    have r56 := BT6.1.row r55 (.inr (.inr (.inr (.inr rfl))))
    have r66 := BT6.1.row r65 (.inr (.inr (.inr (.inl rfl))))
    have hX6 := hX5.trn BT6.1
    have d0 := r56.cell (j := 0) rfl
    have d1 := r56.cell (j := 1) rfl
    have d2 := r56.cell (j := 2) rfl
    have d3 := r56.cell (j := 3) rfl
    have d4 := r56.cell (j := 4) rfl
    have c0 := r46.cell (j := 0) rfl
    replace BT6 := BT5.trans BT6
    have hB6 := Nat.le_trans hB BT6.2.size
    have hw6 := BT6.1.size
    have hV6 := hV5.later b6
    go_wp2_with (first
      | ((with_reducible refine wl_store rfl 24 (.tmp 181) (.tmp 180) g4 4 26 (vlC (⟨5, [], [], [], scs Ls⟩ : Vl) vp vl vs) v6 rfl (by kernel_rfl) rfl rfl r46 (by simp) (own_one own6) ?_); intro w7 r47 o7; replace r47 : Row w7 26 g4 (vlC (⟨5, [], [], [], putS (scs Ls) ⟨a.a, a.n⟩⟩ : Vl) vp vl v6) := r47; have r67 := r66.only o7 n46.symm; have hVe : VX w7 B gv (⟨5, [], [], [], putS (scs Ls) ⟨a.a, a.n⟩⟩ : Vl) := vx_only (vx5 hV6 hs5.out) o7 r46; have hXe : XM w7 B (⟨5, [], [], [], putS (scs Ls) ⟨a.a, a.n⟩⟩ : Vl) vp vl v6 := XM.only (x := (⟨5, [], [], [], putS (scs Ls) ⟨a.a, a.n⟩⟩ : Vl)) (w := w6) ⟨hX6.p, hX6.l, own_low own6 hB5⟩ o7 r46; have BTe : TrnB B w w7 := trn_new BT6 o7 p4 hB; have r4e := r47; have r6e := r67; have onee := hXe.one; replace hVe := hide hVe; replace hXe := hide hXe; replace BTe := hide BTe)
      | (with_reducible refine wl_load_row (o := ⟨some 182, _, _, _, _, _⟩) rfl 26 (.tmp 4) g4 26 (vlC (⟨5, [], [], [], putS (scs Ls) ⟨a.a, a.n⟩⟩ : Vl) vp vl v6) _ rfl rfl r4e Tryz.underlying26 rfl (by kernel_rfl) ?_)
      | ((with_reducible refine wl_store_row rfl 26 (.tmp 6) (.tmp 182) g6 26 _ (vlC (⟨5, [], [], [], putS (scs Ls) ⟨a.a, a.n⟩⟩ : Vl) vp vl v6) rfl rfl rfl r6e (by kernel_rfl) rfl onee ?_); intro we re oe))
    refine bodyPost_ret (v := .tuple #[vlV (⟨5, [], [], [], putS (scs Ls) ⟨a.a, a.n⟩⟩ : Vl) vp vl v6, .bool true]) ?_ rfl ⟨_, _, _, rfl, vx_only hVe.out oe r6e, hXe.out.only oe r6e, trn_new BTe.out oe g6w hB⟩
    exact results_rt2 Tryz.results19 _ _ g6 26 _ _ _ rfl re Tryz.underlying26 rfl (by kernel_rfl) rfl
set_option maxRecDepth 100000 in
set_option maxHeartbeats 1000000 in
theorem do_drop5 (w : World) (B gv : Nat) (gz mb : Nat) (hd : Nd) (Ls : List Nd) (vp vl vs lv : Value) (a : VA) (hV : V5 w B gv gz mb hd Ls) (hX : XM w B (⟨5, [], [], [], scs Ls⟩ : Vl) vp vl vs) (hk : a.k.tmod 8 = 7) (hB : B ≤ w.heap.size) (hf : a.a.length ≤ 1000000) (hl : Ls.length ≤ 999998) :
    Calls Tryz.prog 19 #[ptr gv, vlV (⟨5, [], [], [], scs Ls⟩ : Vl) vp vl vs, .agg (a.cells lv).toArray] w (DoPost w B gv (⟨5, [], [], [], dropS (scs Ls) a.a⟩ : Vl)) := by
  go_enter Tryz.func19, Tryz.ntmps19
  go_wp2_with (first
    | ((with_reducible refine wl_box (o := ⟨some 4, _, _, _, _, _⟩) rfl 26 (.tmp 1) _ (vlC (⟨5, [], [], [], scs Ls⟩ : Vl) vp vl vs) rfl rfl rfl ?_); intro g4 w1 r4 p4 l4 b1)
    | ((with_reducible refine wl_box (o := ⟨some 5, _, _, _, _, _⟩) rfl 54 (.tmp 2) _ (a.cells lv) rfl rfl rfl ?_); intro g5 w2 r5 p5 l5 b2; have r42 := r4.later b2)
    | ((with_reducible refine wl_alloc (o := ⟨some 6, _, _, _, _, _⟩) rfl 26 _ [.int .i64 0, encStr [], nilS, nilS, nilS] rfl zeroVl rfl ?_); intro g6 w3 r6 p6 l6 b3; have r53 := r5.later b3; have r43 := r42.later b3; have d0 := r53.cell (j := 0) rfl; have d1 := r53.cell (j := 1) rfl; have d2 := r53.cell (j := 2) rfl; have d4 := r53.cell (j := 4) rfl; have c0 := r43.cell (j := 0) rfl; have c3 := r43.cell (j := 3) rfl; have c4 := r43.cell (j := 4) rfl; have d3 := r53.cell (j := 3) rfl))
  have B3 := (b1.trans (b2.mono b1.size)).trans (b3.mono (b1.trans (b2.mono b1.size)).size)
  have hB3 : B ≤ w3.heap.size := Nat.le_trans hB B3.size
  have g4B : B ≤ g4 := Nat.le_trans hB p4
  have g6w : w.heap.size ≤ g6 := Nat.le_trans (b1.trans (b2.mono b1.size)).size p6
  have n46 : g4 ≠ g6 := Nat.ne_of_lt (Nat.lt_of_lt_of_le r42.lt p6)
  have n45 : g4 ≠ g5 := Nat.ne_of_lt (Nat.lt_of_lt_of_le r4.lt p5)
  have n56 : g5 ≠ g6 := Nat.ne_of_lt (Nat.lt_of_lt_of_le r5.lt p6)
  have hX3 := hX.later B3
  have hV3 := hV.later B3
  clear r4 r5 r42 b1 b2 b3 l4 l5 l6 hV hX
  have hsl : (scs Ls).length = Ls.length := by unfold scs; rw [List.length_map]
  have hrise := hV3.z.rise
  have HS : ∀ wz : World, V5 wz B gv gz mb hd Ls → Calls Tryz.prog 38 #[ptr gv] wz fun e w' => e = .returned (ptr gz) ∧ Below wz.heap.size wz w' := fun wz h => sorted_ev wz (ptr gv) 5 [] none nilS none (ptr gz) (.of h.v)
  have HC : ∀ wz : World, V5 wz B gv gz mb hd Ls → B ≤ wz.heap.size → Calls Tryz.prog 77 #[ptr gz, encStr a.a] wz fun e w' => ∃ v, e = .returned v ∧ (∃ Ls', V5 w' B gv gz mb hd Ls' ∧ scs Ls' = dropS (scs Ls) a.a) ∧ TrnB B wz w' := fun wz h hz => drop_5 wz B gv gz mb hd Ls a.a h (by simp only [maxLen]; omega) hl hz
  replace HC := hide HC
  replace HS := hide HS
  replace hsl := hide hsl
  clear d0 d1 d2 d3 d4 c0 c3 c4
  rename_i K6 hK6
  refine wp_region_valsS [4, 1] (SDr5 gv g4 g5 gz a) (JT B w3 (fun w => V5 w B gv gz mb hd Ls) (fun w => ∃ Ls', V5 w B gv gz mb hd Ls' ∧ scs Ls' = dropS (scs Ls) a.a)) (by kernel_rfl) (by kernel_rfl) (by kernel_rfl) (by kernel_rfl) (JT.start (hV3.later (Below.refl _ _).drew) rfl) ?obs ?he
  case obs =>
    refine ⟨?_, ?_, ?_, ?_, ?_, trivial⟩
    · refine .inl ⟨.inl rfl, ?_⟩
      exact .inl ⟨by kernel_rfl, fun L a1 w1 n h => ⟨_, rfl, run_move (.tmp 0) rfl (h.var n 0 (by kernel_rfl))⟩⟩
    · refine .inl ⟨.inl rfl, ?_⟩
      refine .inr fun L a1 w1 n h K hK => ?_
      have e0 : a1.eval (.tmp 14) = ptr gv := h.dep n 0 14 (by kernel_rfl) rfl
      refine st_call 38 _ _ #[ptr gv] rfl Tryz.call38 ?_ (HS.out w1 (h.inv.2.1 ((bits_at rfl).trans (n.later (by kernel_rfl))))) ?_
      · simp only [List.map_toArray, List.map_cons, List.map_nil, e0]
      · rintro e w3 ⟨rfl, b9⟩
        exact ⟨_, rfl, hK _ w3 rfl (JT.kept h.inv b9 hB3 (fun d => d.later b9) (fun d => let ⟨q9, h9, e9⟩ := d; ⟨q9, h9.later b9, e9⟩) (bits_at rfl).symm)⟩
    · refine .inl ⟨.inl rfl, ?_⟩
      refine .inl ⟨by kernel_rfl, fun L a1 w1 n h => ⟨.pointer (some ⟨g5, 1, none⟩), rfl, ?_⟩⟩
      have e0 : a1.eval (.tmp 5) = _ := h.var n 5 (by kernel_rfl)
      unfold execOp
      simp only [e0]
      go_simp
    · refine .inl ⟨.inl rfl, ?_⟩
      exact .inl ⟨by kernel_rfl, fun L a1 w1 n h => ⟨_, rfl, run_loadA 9 (.tmp 16) ⟨g5, 1, none⟩ rfl Tryz.isAgg9 (h.dep n 2 16 (by kernel_rfl) rfl) (((h.inv.1.1.row r53 (.inr (.inr (.inr (.inr rfl)))))).cell (j := 1) (v := encStr a.a) rfl)⟩⟩
    · refine .inl ⟨.inl rfl, ?_⟩
      refine .inr fun L a1 w1 n h K hK => ?_
      have e0 : a1.eval (.tmp 15) = ptr gz := h.dep n 1 15 (by kernel_rfl) rfl
      have e1 : a1.eval (.tmp 17) = encStr a.a := h.dep n 3 17 (by kernel_rfl) rfl
      refine st_call 77 _ _ #[ptr gz, encStr a.a] rfl Tryz.call77 ?_ (HC.out w1 (h.inv.2.1 ((bits_at rfl).trans n.not_yet)) (Nat.le_trans hB3 h.inv.1.1.size)) ?_
      · simp only [List.map_toArray, List.map_cons, List.map_nil, e0, e1]
      · rintro e w3 ⟨v9, rfl, hV9, T9⟩
        exact ⟨_, rfl, hK _ w3 trivial (JT.turned h.inv T9 hV9 rfl)⟩

  case he =>
    intro V w5 hV2 hJ
    have BT5 := hJ.1
    have hV5 := hJ.2.2 rfl
    clear hV2 hJ
    simp only [putOps, List.setIfInBounds_toArray, List.set_cons_succ, List.set_cons_zero, Nat.reduceAdd]
    refine hK6 _ _ ?_
    obtain ⟨Ls', hV5, hs5⟩ := hV5
    have r45 := BT5.1.row r43 (.inr (.inr (.inr (.inl rfl))))
    have r55 := BT5.1.row r53 (.inr (.inr (.inr (.inr rfl))))
    have r65 := BT5.1.row r6 (.inr (.inr (.inr (.inl rfl))))
    have hX5 := hX3.trn BT5.1
    have d0 := r55.cell (j := 0) rfl
    have d1 := r55.cell (j := 1) rfl
    have d2 := r55.cell (j := 2) rfl
    have d3 := r55.cell (j := 3) rfl
    have d4 := r55.cell (j := 4) rfl
    have c0 := r45.cell (j := 0) rfl
    replace BT5 := (TrnB.of B3 hB).trans BT5
    have hB5 := Nat.le_trans hB BT5.2.size
    have hw5 := BT5.1.size
    have c4 := r45.cell (j := 4) rfl
    generalize V 0 = q0
    generalize V 1 = q1
    generalize V 2 = q2
    generalize V 3 = q3
    generalize V 4 = q4
    clear HC HS
    replace hs5 := hide hs5
    go_wp2_with fail
    refine (rdrop_any w5 vs (scs Ls) a.a (own_scv hX5.s) (by rw [hsl.out]; omega)).mono ?_
    rintro e w6 ⟨v6, rfl, own6, b6⟩
    have BT6 := TrnB.of b6 hB5
    clear d0 d1 d2 d3 d4 c0
    have r46 := BT6.1.row r45 (.inr (.inr (.inr (.inl rfl))))
    have r56 := BT6.1.row r55 (.inr (.inr (.inr (.inr rfl))))
    have r66 := BT6.1.row r65 (.inr (.inr (.inr (.inl rfl))))
    have hX6 := hX5.trn BT6.1
    have d0 := r56.cell (j := 0) rfl
    have d1 := r56.cell (j := 1) rfl
    have d2 := r56.cell (j := 2) rfl
    have d3 := r56.cell (j := 3) rfl
    have d4 := r56.cell (j := 4) rfl
    have c0 := r46.cell (j := 0) rfl
    replace BT6 := BT5.trans BT6
    have hB6 := Nat.le_trans hB BT6.2.size
    have hw6 := BT6.1.size
    have hV6 := hV5.later b6
    go_wp2_with (first
      | ((with_reducible refine wl_store rfl 24 (.tmp 24) (.tmp 23) g4 4 26 (vlC (⟨5, [], [], [], scs Ls⟩ : Vl) vp vl vs) v6 rfl (by kernel_rfl) rfl rfl r46 (by simp) (own_one own6) ?_); intro w7 r47 o7; replace r47 : Row w7 26 g4 (vlC (⟨5, [], [], [], dropS (scs Ls) a.a⟩ : Vl) vp vl v6) := r47; have r67 := r66.only o7 n46.symm; have hVe : VX w7 B gv (⟨5, [], [], [], dropS (scs Ls) a.a⟩ : Vl) := vx_only (vx5 hV6 hs5.out) o7 r46; have hXe : XM w7 B (⟨5, [], [], [], dropS (scs Ls) a.a⟩ : Vl) vp vl v6 := XM.only (x := (⟨5, [], [], [], dropS (scs Ls) a.a⟩ : Vl)) (w := w6) ⟨hX6.p, hX6.l, own_low own6 hB5⟩ o7 r46; have BTe : TrnB B w w7 := trn_new BT6 o7 p4 hB; have r4e := r47; have r6e := r67; have onee := hXe.one; replace hVe := hide hVe; replace hXe := hide hXe; replace BTe := hide BTe)
      | (with_reducible refine wl_load_row (o := ⟨some 182, _, _, _, _, _⟩) rfl 26 (.tmp 4) g4 26 (vlC (⟨5, [], [], [], dropS (scs Ls) a.a⟩ : Vl) vp vl v6) _ rfl rfl r4e Tryz.underlying26 rfl (by kernel_rfl) ?_)
      | ((with_reducible refine wl_store_row rfl 26 (.tmp 6) (.tmp 182) g6 26 _ (vlC (⟨5, [], [], [], dropS (scs Ls) a.a⟩ : Vl) vp vl v6) rfl rfl rfl r6e (by kernel_rfl) rfl onee ?_); intro we re oe))
    refine bodyPost_ret (v := .tuple #[vlV (⟨5, [], [], [], dropS (scs Ls) a.a⟩ : Vl) vp vl v6, .bool true]) ?_ rfl ⟨_, _, _, rfl, vx_only hVe.out oe r6e, hXe.out.only oe r6e, trn_new BTe.out oe g6w hB⟩
    exact results_rt2 Tryz.results19 _ _ g6 26 _ _ _ rfl re Tryz.underlying26 rfl (by kernel_rfl) rfl
set_option maxRecDepth 100000 in
set_option maxHeartbeats 1000000 in
theorem do_put0 (w : World) (B gv : Nat) (x : Vl) (vp vl vs lv : Value) (a : VA) (hV : VX w B gv x) (hX : XM w B x vp vl vs) (hk : a.k.tmod 8 = 6) (hB : B ≤ w.heap.size) (hx5 : x.k ≠ 5) :
    Calls Tryz.prog 19 #[ptr gv, vlV x vp vl vs, .agg (a.cells lv).toArray] w (DoPost w B gv x) := by
  go_enter Tryz.func19, Tryz.ntmps19
  go_wp2_with (first
    | ((with_reducible refine wl_box (o := ⟨some 4, _, _, _, _, _⟩) rfl 26 (.tmp 1) _ (vlC x vp vl vs) rfl rfl rfl ?_); intro g4 w1 r4 p4 l4 b1)
    | ((with_reducible refine wl_box (o := ⟨some 5, _, _, _, _, _⟩) rfl 54 (.tmp 2) _ (a.cells lv) rfl rfl rfl ?_); intro g5 w2 r5 p5 l5 b2; have r42 := r4.later b2)
    | ((with_reducible refine wl_alloc (o := ⟨some 6, _, _, _, _, _⟩) rfl 26 _ [.int .i64 0, encStr [], nilS, nilS, nilS] rfl zeroVl rfl ?_); intro g6 w3 r6 p6 l6 b3; have r53 := r5.later b3; have r43 := r42.later b3; have d0 := r53.cell (j := 0) rfl; have d1 := r53.cell (j := 1) rfl; have d2 := r53.cell (j := 2) rfl; have d4 := r53.cell (j := 4) rfl; have c0 := r43.cell (j := 0) rfl; have c3 := r43.cell (j := 3) rfl; have c4 := r43.cell (j := 4) rfl; have d3 := r53.cell (j := 3) rfl))
  have B3 := (b1.trans (b2.mono b1.size)).trans (b3.mono (b1.trans (b2.mono b1.size)).size)
  have hB3 : B ≤ w3.heap.size := Nat.le_trans hB B3.size
  have g4B : B ≤ g4 := Nat.le_trans hB p4
  have g6w : w.heap.size ≤ g6 := Nat.le_trans (b1.trans (b2.mono b1.size)).size p6
  have n46 : g4 ≠ g6 := Nat.ne_of_lt (Nat.lt_of_lt_of_le r42.lt p6)
  have n45 : g4 ≠ g5 := Nat.ne_of_lt (Nat.lt_of_lt_of_le r4.lt p5)
  have n56 : g5 ≠ g6 := Nat.ne_of_lt (Nat.lt_of_lt_of_le r5.lt p6)
  have hX3 := hX.later B3
  have hV3 := hV.later B3
  clear r4 r5 r42 b1 b2 b3 l4 l5 l6 hV hX
  have e5 : decide (x.k = 5) = false := decide_eq_false hx5
  have f5 : (x.k == 5) = false := beq_eq_false_iff_ne.2 hx5
  have HS : ∀ wz : World, VX wz B gv x → Calls Tryz.prog 38 #[ptr gv] wz fun e w' => e = .returned nilP ∧ Below wz.heap.size wz w' := fun wz h => by
    obtain ⟨hm, lw, sm, zp, row, hm2, sm4, zp5⟩ := h.row
    obtain rfl := zp5 hx5
    exact sorted_ev wz (ptr gv) x.k x.t hm lw sm nilP (.of row)
  have HC : ∀ wz : World, VX wz B gv x → B ≤ wz.heap.size → Calls Tryz.prog 75 #[nilP, encStr a.a, .int .i64 a.n] wz fun e w' => ∃ v, e = .returned v ∧ VX w' B gv x ∧ TrnB B wz w' := fun wz h hz => (put_nil wz a.a a.n).mono fun e w' ⟨he, hw⟩ => ⟨_, he, by rw [← hw]; exact h, by rw [← hw]; exact TrnB.of (Below.refl _ _) hz⟩
  replace HC := hide HC
  replace HS := hide HS
  clear d0 d1 d2 d3 d4 c0 c3 c4
  rename_i K6 hK6
  refine wp_region_valsS [6, 1] (SPt0 gv g4 g5 a) (JT B w3 (fun w => VX w B gv x) (fun w => VX w B gv x)) (by kernel_rfl) (by kernel_rfl) (by kernel_rfl) (by kernel_rfl) (JT.start (hV3.later (Below.refl _ _).drew) rfl) ?obs ?he
  case obs =>
    refine ⟨?_, ?_, ?_, ?_, ?_, ?_, ?_, trivial⟩
    · refine .inl ⟨.inl rfl, ?_⟩
      exact .inl ⟨by kernel_rfl, fun L a1 w1 n h => ⟨_, rfl, run_move (.tmp 0) rfl (h.var n 0 (by kernel_rfl))⟩⟩
    · refine .inl ⟨.inl rfl, ?_⟩
      refine .inr fun L a1 w1 n h K hK => ?_
      have e0 : a1.eval (.tmp 164) = ptr gv := h.dep n 0 164 (by kernel_rfl) rfl
      refine st_call 38 _ _ #[ptr gv] rfl Tryz.call38 ?_ (HS.out w1 (h.inv.2.1 ((bits_at rfl).trans (n.later (by kernel_rfl))))) ?_
      · simp only [List.map_toArray, List.map_cons, List.map_nil, e0]
      · rintro e w3 ⟨rfl, b9⟩
        exact ⟨_, rfl, hK _ w3 rfl (JT.kept h.inv b9 hB3 (fun d => d.later b9) (fun d => d.later b9) (bits_at rfl).symm)⟩
    · refine .inl ⟨.inl rfl, ?_⟩
      refine .inl ⟨by kernel_rfl, fun L a1 w1 n h => ⟨.pointer (some ⟨g5, 1, none⟩), rfl, ?_⟩⟩
      have e0 : a1.eval (.tmp 5) = _ := h.var n 5 (by kernel_rfl)
      unfold execOp
      simp only [e0]
      go_simp
    · refine .inl ⟨.inl rfl, ?_⟩
      exact .inl ⟨by kernel_rfl, fun L a1 w1 n h => ⟨_, rfl, run_loadA 9 (.tmp 166) ⟨g5, 1, none⟩ rfl Tryz.isAgg9 (h.dep n 2 166 (by kernel_rfl) rfl) (((h.inv.1.1.row r53 (.inr (.inr (.inr (.inr rfl)))))).cell (j := 1) (v := encStr a.a) rfl)⟩⟩
    · refine .inl ⟨.inl rfl, ?_⟩
      refine .inl ⟨by kernel_rfl, fun L a1 w1 n h => ⟨.pointer (some ⟨g5, 3, none⟩), rfl, ?_⟩⟩
      have e0 : a1.eval (.tmp 5) = _ := h.var n 5 (by kernel_rfl)
      unfold execOp
      simp only [e0]
      go_simp
    · refine .inl ⟨.inl rfl, ?_⟩
      exact .inl ⟨by kernel_rfl, fun L a1 w1 n h => ⟨_, rfl, run_loadA 3 (.tmp 168) ⟨g5, 3, none⟩ rfl Tryz.isAgg3 (h.dep n 4 168 (by kernel_rfl) rfl) (((h.inv.1.1.row r53 (.inr (.inr (.inr (.inr rfl)))))).cell (j := 3) (v := .int .i64 a.n) rfl)⟩⟩
    · refine .inl ⟨.inl rfl, ?_⟩
      refine .inr fun L a1 w1 n h K hK => ?_
      have e0 : a1.eval (.tmp 165) = nilP := h.dep n 1 165 (by kernel_rfl) rfl
      have e1 : a1.eval (.tmp 167) = encStr a.a := h.dep n 3 167 (by kernel_rfl) rfl
      have e2 : a1.eval (.tmp 169) = .int .i64 a.n := h.dep n 5 169 (by kernel_rfl) rfl
      refine st_call 75 _ _ #[nilP, encStr a.a, .int .i64 a.n] rfl Tryz.call75 ?_ (HC.out w1 (h.inv.2.1 ((bits_at rfl).trans n.not_yet)) (Nat.le_trans hB3 h.inv.1.1.size)) ?_
      · simp only [List.map_toArray, List.map_cons, List.map_nil, e0, e1, e2]
      · rintro e w3 ⟨v9, rfl, hV9, T9⟩
        exact ⟨_, rfl, hK _ w3 trivial (JT.turned h.inv T9 hV9 rfl)⟩

  case he =>
    intro V w5 hV2 hJ
    have BT5 := hJ.1
    have hV5 := hJ.2.2 rfl
    clear hV2 hJ
    simp only [putOps, List.setIfInBounds_toArray, List.set_cons_succ, List.set_cons_zero, Nat.reduceAdd]
    refine hK6 _ _ ?_
    have r45 := BT5.1.row r43 (.inr (.inr (.inr (.inl rfl))))
    have r55 := BT5.1.row r53 (.inr (.inr (.inr (.inr rfl))))
    have r65 := BT5.1.row r6 (.inr (.inr (.inr (.inl rfl))))
    have hX5 := hX3.trn BT5.1
    have d0 := r55.cell (j := 0) rfl
    have d1 := r55.cell (j := 1) rfl
    have d2 := r55.cell (j := 2) rfl
    have d3 := r55.cell (j := 3) rfl
    have d4 := r55.cell (j := 4) rfl
    have c0 := r45.cell (j := 0) rfl
    replace BT5 := (TrnB.of B3 hB).trans BT5
    have hB5 := Nat.le_trans hB BT5.2.size
    have hw5 := BT5.1.size
    generalize V 0 = q0
    generalize V 1 = q1
    generalize V 2 = q2
    generalize V 3 = q3
    generalize V 4 = q4
    generalize V 5 = q5
    generalize V 6 = q6
    clear HC HS
    have hVe : VX w5 B gv x := hV5
    have hXe : XM w5 B x vp vl vs := hX5
    have BTe : TrnB B w w5 := BT5
    have r4e := r45
    have r6e := r65
    have onee := hXe.one
    replace hVe := hide hVe
    replace hXe := hide hXe
    replace BTe := hide BTe
    go_wp2_with (first
      | (with_reducible refine wl_load_row (o := ⟨some 182, _, _, _, _, _⟩) rfl 26 (.tmp 4) g4 26 (vlC x vp vl vs) _ rfl rfl r4e Tryz.underlying26 rfl (by kernel_rfl) ?_)
      | ((with_reducible refine wl_store_row rfl 26 (.tmp 6) (.tmp 182) g6 26 _ (vlC x vp vl vs) rfl rfl rfl r6e (by kernel_rfl) rfl onee ?_); intro we re oe))
    refine bodyPost_ret (v := .tuple #[vlV x vp vl vs, .bool true]) ?_ rfl ⟨_, _, _, rfl, vx_only hVe.out oe r6e, hXe.out.only oe r6e, trn_new BTe.out oe g6w hB⟩
    exact results_rt2 Tryz.results19 _ _ g6 26 _ _ _ rfl re Tryz.underlying26 rfl (by kernel_rfl) rfl
set_option maxRecDepth 100000 in
set_option maxHeartbeats 1000000 in
theorem do_drop0 (w : World) (B gv : Nat) (x : Vl) (vp vl vs lv : Value) (a : VA) (hV : VX w B gv x) (hX : XM w B x vp vl vs) (hk : a.k.tmod 8 = 7) (hB : B ≤ w.heap.size) (hx5 : x.k ≠ 5) :
    Calls Tryz.prog 19 #[ptr gv, vlV x vp vl vs, .agg (a.cells lv).toArray] w (DoPost w B gv (⟨x.k, x.t, x.ps, x.ls, dropS x.ss a.a⟩ : Vl)) := by
  go_enter Tryz.func19, Tryz.ntmps19
  go_wp2_with (first
    | ((with_reducible refine wl_box (o := ⟨some 4, _, _, _, _, _⟩) rfl 26 (.tmp 1) _ (vlC x vp vl vs) rfl rfl rfl ?_); intro g4 w1 r4 p4 l4 b1)
    | ((with_reducible refine wl_box (o := ⟨some 5, _, _, _, _, _⟩) rfl 54 (.tmp 2) _ (a.cells lv) rfl rfl rfl ?_); intro g5 w2 r5 p5 l5 b2; have r42 := r4.later b2)
    | ((with_reducible refine wl_alloc (o := ⟨some 6, _, _, _, _, _⟩) rfl 26 _ [.int .i64 0, encStr [], nilS, nilS, nilS] rfl zeroVl rfl ?_); intro g6 w3 r6 p6 l6 b3; have r53 := r5.later b3; have r43 := r42.later b3; have d0 := r53.cell (j := 0) rfl; have d1 := r53.cell (j := 1) rfl; have d2 := r53.cell (j := 2) rfl; have d4 := r53.cell (j := 4) rfl; have c0 := r43.cell (j := 0) rfl; have c3 := r43.cell (j := 3) rfl; have c4 := r43.cell (j := 4) rfl; have d3 := r53.cell (j := 3) rfl))
  have B3 := (b1.trans (b2.mono b1.size)).trans (b3.mono (b1.trans (b2.mono b1.size)).size)
  have hB3 : B ≤ w3.heap.size := Nat.le_trans hB B3.size
  have g4B : B ≤ g4 := Nat.le_trans hB p4
  have g6w : w.heap.size ≤ g6 := Nat.le_trans (b1.trans (b2.mono b1.size)).size p6
  have n46 : g4 ≠ g6 := Nat.ne_of_lt (Nat.lt_of_lt_of_le r42.lt p6)
  have n45 : g4 ≠ g5 := Nat.ne_of_lt (Nat.lt_of_lt_of_le r4.lt p5)
  have n56 : g5 ≠ g6 := Nat.ne_of_lt (Nat.lt_of_lt_of_le r5.lt p6)
  have hX3 := hX.later B3
  have hV3 := hV.later B3
  clear r4 r5 r42 b1 b2 b3 l4 l5 l6 hV hX
  have h0 : x.ss = [] := hV3.ss0 hx5
  have hy : (⟨x.k, x.t, x.ps, x.ls, dropS x.ss a.a⟩ : Vl) = x := by
    cases x
    simp only at h0
    subst h0
    rfl
  have HS : ∀ wz : World, VX wz B gv x → Calls Tryz.prog 38 #[ptr gv] wz fun e w' => e = .returned nilP ∧ Below wz.heap.size wz w' := fun wz h => by
    obtain ⟨hm, lw, sm, zp, row, hm2, sm4, zp5⟩ := h.row
    obtain rfl := zp5 hx5
    exact sorted_ev wz (ptr gv) x.k x.t hm lw sm nilP (.of row)
  have HC : ∀ wz : World, VX wz B gv x → B ≤ wz.heap.size → Calls Tryz.prog 77 #[nilP, encStr a.a] wz fun e w' => ∃ v, e = .returned v ∧ VX w' B gv x ∧ TrnB B wz w' := fun wz h hz => (drop_nil wz a.a).mono fun e w' ⟨he, hw⟩ => ⟨_, he, by rw [← hw]; exact h, by rw [← hw]; exact TrnB.of (Below.refl _ _) hz⟩
  replace HC := hide HC
  replace HS := hide HS
  replace h0 := hide h0
  replace hy := hide hy
  clear d0 d1 d2 d3 d4 c0 c3 c4
  rename_i K6 hK6
  refine wp_region_valsS [4, 1] (SDr0 gv g4 g5 a) (JT B w3 (fun w => VX w B gv x) (fun w => VX w B gv x)) (by kernel_rfl) (by kernel_rfl) (by kernel_rfl) (by kernel_rfl) (JT.start (hV3.later (Below.refl _ _).drew) rfl) ?obs ?he
  case obs =>
    refine ⟨?_, ?_, ?_, ?_, ?_, trivial⟩
    · refine .inl ⟨.inl rfl, ?_⟩
      exact .inl ⟨by kernel_rfl, fun L a1 w1 n h => ⟨_, rfl, run_move (.tmp 0) rfl (h.var n 0 (by kernel_rfl))⟩⟩
    · refine .inl ⟨.inl rfl, ?_⟩
      refine .inr fun L a1 w1 n h K hK => ?_
      have e0 : a1.eval (.tmp 14) = ptr gv := h.dep n 0 14 (by kernel_rfl) rfl
      refine st_call 38 _ _ #[ptr gv] rfl Tryz.call38 ?_ (HS.out w1 (h.inv.2.1 ((bits_at rfl).trans (n.later (by kernel_rfl))))) ?_
      · simp only [List.map_toArray, List.map_cons, List.map_nil, e0]
      · rintro e w3 ⟨rfl, b9⟩
        exact ⟨_, rfl, hK _ w3 rfl (JT.kept h.inv b9 hB3 (fun d => d.later b9) (fun d => d.later b9) (bits_at rfl).symm)⟩
    · refine .inl ⟨.inl rfl, ?_⟩
      refine .inl ⟨by kernel_rfl, fun L a1 w1 n h => ⟨.pointer (some ⟨g5, 1, none⟩), rfl, ?_⟩⟩
      have e0 : a1.eval (.tmp 5) = _ := h.var n 5 (by kernel_rfl)
      unfold execOp
      simp only [e0]
      go_simp
    · refine .inl ⟨.inl rfl, ?_⟩
      exact .inl ⟨by kernel_rfl, fun L a1 w1 n h => ⟨_, rfl, run_loadA 9 (.tmp 16) ⟨g5, 1, none⟩ rfl Tryz.isAgg9 (h.dep n 2 16 (by kernel_rfl) rfl) (((h.inv.1.1.row r53 (.inr (.inr (.inr (.inr rfl)))))).cell (j := 1) (v := encStr a.a) rfl)⟩⟩
    · refine .inl ⟨.inl rfl, ?_⟩
      refine .inr fun L a1 w1 n h K hK => ?_
      have e0 : a1.eval (.tmp 15) = nilP := h.dep n 1 15 (by kernel_rfl) rfl
      have e1 : a1.eval (.tmp 17) = encStr a.a := h.dep n 3 17 (by kernel_rfl) rfl
      refine st_call 77 _ _ #[nilP, encStr a.a] rfl Tryz.call77 ?_ (HC.out w1 (h.inv.2.1 ((bits_at rfl).trans n.not_yet)) (Nat.le_trans hB3 h.inv.1.1.size)) ?_
      · simp only [List.map_toArray, List.map_cons, List.map_nil, e0, e1]
      · rintro e w3 ⟨v9, rfl, hV9, T9⟩
        exact ⟨_, rfl, hK _ w3 trivial (JT.turned h.inv T9 hV9 rfl)⟩

  case he =>
    intro V w5 hV2 hJ
    have BT5 := hJ.1
    have hV5 := hJ.2.2 rfl
    clear hV2 hJ
    simp only [putOps, List.setIfInBounds_toArray, List.set_cons_succ, List.set_cons_zero, Nat.reduceAdd]
    refine hK6 _ _ ?_
    have r45 := BT5.1.row r43 (.inr (.inr (.inr (.inl rfl))))
    have r55 := BT5.1.row r53 (.inr (.inr (.inr (.inr rfl))))
    have r65 := BT5.1.row r6 (.inr (.inr (.inr (.inl rfl))))
    have hX5 := hX3.trn BT5.1
    have d0 := r55.cell (j := 0) rfl
    have d1 := r55.cell (j := 1) rfl
    have d2 := r55.cell (j := 2) rfl
    have d3 := r55.cell (j := 3) rfl
    have d4 := r55.cell (j := 4) rfl
    have c0 := r45.cell (j := 0) rfl
    replace BT5 := (TrnB.of B3 hB).trans BT5
    have hB5 := Nat.le_trans hB BT5.2.size
    have hw5 := BT5.1.size
    have c4 := r45.cell (j := 4) rfl
    generalize V 0 = q0
    generalize V 1 = q1
    generalize V 2 = q2
    generalize V 3 = q3
    generalize V 4 = q4
    clear HC HS
    go_wp2_with fail
    refine (rdrop_any w5 vs x.ss a.a (own_scv hX5.s) (by rw [h0.out]; exact Nat.zero_le _)).mono ?_
    rintro e w6 ⟨v6, rfl, own6, b6⟩
    have BT6 := TrnB.of b6 hB5
    clear d0 d1 d2 d3 d4 c0
    have r46 := BT6.1.row r45 (.inr (.inr (.inr (.inl rfl))))
    have r56 := BT6.1.row r55 (.inr (.inr (.inr (.inr rfl))))
    have r66 := BT6.1.row r65 (.inr (.inr (.inr (.inl rfl))))
    have hX6 := hX5.trn BT6.1
    have d0 := r56.cell (j := 0) rfl
    have d1 := r56.cell (j := 1) rfl
    have d2 := r56.cell (j := 2) rfl
    have d3 := r56.cell (j := 3) rfl
    have d4 := r56.cell (j := 4) rfl
    have c0 := r46.cell (j := 0) rfl
    replace BT6 := BT5.trans BT6
    have hB6 := Nat.le_trans hB BT6.2.size
    have hw6 := BT6.1.size
    have hV6 := hV5.later b6
    go_wp2_with (first
      | ((with_reducible refine wl_store rfl 24 (.tmp 24) (.tmp 23) g4 4 26 (vlC x vp vl vs) v6 rfl (by kernel_rfl) rfl rfl r46 (by simp) (own_one own6) ?_); intro w7 r47 o7; replace r47 : Row w7 26 g4 (vlC (⟨x.k, x.t, x.ps, x.ls, dropS x.ss a.a⟩ : Vl) vp vl v6) := r47; have r67 := r66.only o7 n46.symm; have hVe : VX w7 B gv (⟨x.k, x.t, x.ps, x.ls, dropS x.ss a.a⟩ : Vl) := Eq.mpr (congrArg (VX w7 B gv) hy.out) (vx_only hV6 o7 r46); have hXe : XM w7 B (⟨x.k, x.t, x.ps, x.ls, dropS x.ss a.a⟩ : Vl) vp vl v6 := XM.only (x := (⟨x.k, x.t, x.ps, x.ls, dropS x.ss a.a⟩ : Vl)) (w := w6) ⟨hX6.p, hX6.l, own_low own6 hB5⟩ o7 r46; have BTe : TrnB B w w7 := trn_new BT6 o7 p4 hB; have r4e := r47; have r6e := r67; have onee := hXe.one; replace hVe := hide hVe; replace hXe := hide hXe; replace BTe := hide BTe)
      | (with_reducible refine wl_load_row (o := ⟨some 182, _, _, _, _, _⟩) rfl 26 (.tmp 4) g4 26 (vlC (⟨x.k, x.t, x.ps, x.ls, dropS x.ss a.a⟩ : Vl) vp vl v6) _ rfl rfl r4e Tryz.underlying26 rfl (by kernel_rfl) ?_)
      | ((with_reducible refine wl_store_row rfl 26 (.tmp 6) (.tmp 182) g6 26 _ (vlC (⟨x.k, x.t, x.ps, x.ls, dropS x.ss a.a⟩ : Vl) vp vl v6) rfl rfl rfl r6e (by kernel_rfl) rfl onee ?_); intro we re oe))
    refine bodyPost_ret (v := .tuple #[vlV (⟨x.k, x.t, x.ps, x.ls, dropS x.ss a.a⟩ : Vl) vp vl v6, .bool true]) ?_ rfl ⟨_, _, _, rfl, vx_only hVe.out oe r6e, hXe.out.only oe r6e, trn_new BTe.out oe g6w hB⟩
    exact results_rt2 Tryz.results19 _ _ g6 26 _ _ _ rfl re Tryz.underlying26 rfl (by kernel_rfl) rfl
end Go.Proofs.YtpbkejmffddelaaGreat

/-
  The law's 'do', of any value and any act. Own work.
-/
namespace Go.Proofs.YtpbkejmffddelaaGreat
open Go.RowKit Go.Shelf Go.Maps
theorem do_any (w : World) (B gv : Nat) (x : Vl) (vp vl vs lv : Value) (a : VA) (hV : VX w B gv x) (hX : XM w B x vp vl vs) (hB : B ≤ w.heap.size) (h0 : 0 ≤ a.k) (hf1 : a.a.length ≤ 1000000)
    (hps : x.ps.length ≤ 999998) (hls : x.ls.length ≤ 999998) (hss : x.ss.length ≤ 999998) (hL : SlV cS 1 w B lv a.l) (hform : lv = nilS ∨ ∃ ad n c, lv = .slice (some ad) n c) (hl : a.l.length ≤ 1000) (hn : ∀ t ∈ a.l, t.length ≤ maxLen) :
    Calls Tryz.prog 19 #[ptr gv, vlV x vp vl vs, .agg (a.cells lv).toArray] w (DoPost w B gv (actX x a)) := by
  have hm8 : a.k % 8 = 0 ∨ a.k % 8 = 1 ∨ a.k % 8 = 2 ∨ a.k % 8 = 3 ∨ a.k % 8 = 4 ∨ a.k % 8 = 5 ∨ a.k % 8 = 6 ∨ a.k % 8 = 7 := by omega
  have hf : a.a.length ≤ maxLen := by simp only [maxLen]; omega
  cases hV with
  | k1 t h =>
    rcases hm8 with hm | hm | hm | hm | hm | hm | hm | hm
    · rw [show actX (⟨1, t, [], [], []⟩ : Vl) a = (⟨1, a.a, [], [], []⟩ : Vl) by simp [actX, hm]]
      exact do_text1 w B gv t vp vl vs lv a h hX (tm8 h0 hm) hB 
    · rw [show actX (⟨1, t, [], [], []⟩ : Vl) a = (⟨1, t, [], [], []⟩ : Vl) by simp [actX, hm]]
      exact do_field0 w B gv (⟨1, t, [], [], []⟩ : Vl) vp vl vs lv a (.k1 _ h) hX (tm8 h0 hm) hB (by simp)
    · rw [show actX (⟨1, t, [], [], []⟩ : Vl) a = (⟨1, t, cutF [] a.a, [], []⟩ : Vl) by simp [actX, hm]]
      exact do_cutF0 w B gv (⟨1, t, [], [], []⟩ : Vl) vp vl vs lv a (.k1 _ h) hX (tm8 h0 hm) hB hf (by simp)
    · rw [show actX (⟨1, t, [], [], []⟩ : Vl) a = (⟨1, t, [], [], []⟩ : Vl) by simp [actX, hm]]
      exact do_add0 w B gv (⟨1, t, [], [], []⟩ : Vl) vp vl vs lv a (.k1 _ h) hX (tm8 h0 hm) hB (by simp)
    · rw [show actX (⟨1, t, [], [], []⟩ : Vl) a = (⟨1, t, [], [], []⟩ : Vl) by simp [actX, hm]]
      exact do_cutN0 w B gv (⟨1, t, [], [], []⟩ : Vl) vp vl vs lv a (.k1 _ h) hX (tm8 h0 hm) hB hf (by simp)
    · rw [show actX (⟨1, t, [], [], []⟩ : Vl) a = (⟨1, t, [], [], []⟩ : Vl) by simp [actX, hm]]
      exact do_items0 w B gv (⟨1, t, [], [], []⟩ : Vl) vp vl vs lv a (.k1 _ h) hX (tm8 h0 hm) hB (by simp) (by simp)
    · rw [show actX (⟨1, t, [], [], []⟩ : Vl) a = (⟨1, t, [], [], []⟩ : Vl) by simp [actX, hm]]
      exact do_put0 w B gv (⟨1, t, [], [], []⟩ : Vl) vp vl vs lv a (.k1 _ h) hX (tm8 h0 hm) hB (by simp)
    · rw [show actX (⟨1, t, [], [], []⟩ : Vl) a = (⟨1, t, [], [], dropS [] a.a⟩ : Vl) by simp [actX, hm]]
      exact do_drop0 w B gv (⟨1, t, [], [], []⟩ : Vl) vp vl vs lv a (.k1 _ h) hX (tm8 h0 hm) hB (by simp)
  | k2 mb ps h =>
    have hps : ps.length ≤ 999999 := Nat.le_trans hps (by decide)
    rcases hm8 with hm | hm | hm | hm | hm | hm | hm | hm
    · rw [show actX (⟨2, [], ps, [], []⟩ : Vl) a = (⟨2, [], ps, [], []⟩ : Vl) by simp [actX, hm]]
      exact do_text0 w B gv (⟨2, [], ps, [], []⟩ : Vl) vp vl vs lv a (.k2 _ _ h) hX (tm8 h0 hm) hB (by simp)
    · rw [show actX (⟨2, [], ps, [], []⟩ : Vl) a = (⟨2, [], putF ps a.a a.b, [], []⟩ : Vl) by simp [actX, hm]]
      exact do_field2 w B gv mb ps vp vl vs lv a h hX (tm8 h0 hm) hB hf hps
    · rw [show actX (⟨2, [], ps, [], []⟩ : Vl) a = (⟨2, [], cutF ps a.a, [], []⟩ : Vl) by simp [actX, hm]]
      exact do_cut2 w B gv mb ps vp vl vs lv a h hX (tm8 h0 hm) hB hf hps
    · rw [show actX (⟨2, [], ps, [], []⟩ : Vl) a = (⟨2, [], ps, [], []⟩ : Vl) by simp [actX, hm]]
      exact do_add0 w B gv (⟨2, [], ps, [], []⟩ : Vl) vp vl vs lv a (.k2 _ _ h) hX (tm8 h0 hm) hB (by simp)
    · rw [show actX (⟨2, [], ps, [], []⟩ : Vl) a = (⟨2, [], ps, [], []⟩ : Vl) by simp [actX, hm]]
      exact do_cutN0 w B gv (⟨2, [], ps, [], []⟩ : Vl) vp vl vs lv a (.k2 _ _ h) hX (tm8 h0 hm) hB hf (by simp)
    · rw [show actX (⟨2, [], ps, [], []⟩ : Vl) a = (⟨2, [], ps, [], []⟩ : Vl) by simp [actX, hm]]
      exact do_items0 w B gv (⟨2, [], ps, [], []⟩ : Vl) vp vl vs lv a (.k2 _ _ h) hX (tm8 h0 hm) hB (by simp) (by simp)
    · rw [show actX (⟨2, [], ps, [], []⟩ : Vl) a = (⟨2, [], ps, [], []⟩ : Vl) by simp [actX, hm]]
      exact do_put0 w B gv (⟨2, [], ps, [], []⟩ : Vl) vp vl vs lv a (.k2 _ _ h) hX (tm8 h0 hm) hB (by simp)
    · rw [show actX (⟨2, [], ps, [], []⟩ : Vl) a = (⟨2, [], ps, [], dropS [] a.a⟩ : Vl) by simp [actX, hm]]
      exact do_drop0 w B gv (⟨2, [], ps, [], []⟩ : Vl) vp vl vs lv a (.k2 _ _ h) hX (tm8 h0 hm) hB (by simp)
  | k3 lw ls h =>
    rcases hm8 with hm | hm | hm | hm | hm | hm | hm | hm
    · rw [show actX (⟨3, [], [], ls, []⟩ : Vl) a = (⟨3, [], [], ls, []⟩ : Vl) by simp [actX, hm]]
      exact do_text0 w B gv (⟨3, [], [], ls, []⟩ : Vl) vp vl vs lv a (.k3 _ _ h) hX (tm8 h0 hm) hB (by simp)
    · rw [show actX (⟨3, [], [], ls, []⟩ : Vl) a = (⟨3, [], [], ls, []⟩ : Vl) by simp [actX, hm]]
      exact do_field0 w B gv (⟨3, [], [], ls, []⟩ : Vl) vp vl vs lv a (.k3 _ _ h) hX (tm8 h0 hm) hB (by simp)
    · rw [show actX (⟨3, [], [], ls, []⟩ : Vl) a = (⟨3, [], cutF [] a.a, ls, []⟩ : Vl) by simp [actX, hm]]
      exact do_cutF0 w B gv (⟨3, [], [], ls, []⟩ : Vl) vp vl vs lv a (.k3 _ _ h) hX (tm8 h0 hm) hB hf (by simp)
    · rw [show actX (⟨3, [], [], ls, []⟩ : Vl) a = (⟨3, [], [], ls, []⟩ : Vl) by simp [actX, hm]]
      exact do_add0 w B gv (⟨3, [], [], ls, []⟩ : Vl) vp vl vs lv a (.k3 _ _ h) hX (tm8 h0 hm) hB (by simp)
    · rw [show actX (⟨3, [], [], ls, []⟩ : Vl) a = (⟨3, [], [], ls, []⟩ : Vl) by simp [actX, hm]]
      exact do_cutN0 w B gv (⟨3, [], [], ls, []⟩ : Vl) vp vl vs lv a (.k3 _ _ h) hX (tm8 h0 hm) hB hf (by simp)
    · rw [show actX (⟨3, [], [], ls, []⟩ : Vl) a = (⟨3, [], [], a.l, []⟩ : Vl) by simp [actX, hm]]
      exact do_items3 w B gv lw ls vp vl vs lv a h hX (tm8 h0 hm) hB hL hform hl
    · rw [show actX (⟨3, [], [], ls, []⟩ : Vl) a = (⟨3, [], [], ls, []⟩ : Vl) by simp [actX, hm]]
      exact do_put0 w B gv (⟨3, [], [], ls, []⟩ : Vl) vp vl vs lv a (.k3 _ _ h) hX (tm8 h0 hm) hB (by simp)
    · rw [show actX (⟨3, [], [], ls, []⟩ : Vl) a = (⟨3, [], [], ls, dropS [] a.a⟩ : Vl) by simp [actX, hm]]
      exact do_drop0 w B gv (⟨3, [], [], ls, []⟩ : Vl) vp vl vs lv a (.k3 _ _ h) hX (tm8 h0 hm) hB (by simp)
  | k4 sb us h =>
    have hls : us.length ≤ 999999 := Nat.le_trans hls (by decide)
    rcases hm8 with hm | hm | hm | hm | hm | hm | hm | hm
    · rw [show actX (⟨4, [], [], us, []⟩ : Vl) a = (⟨4, [], [], us, []⟩ : Vl) by simp [actX, hm]]
      exact do_text0 w B gv (⟨4, [], [], us, []⟩ : Vl) vp vl vs lv a (.k4 _ _ h) hX (tm8 h0 hm) hB (by simp)
    · rw [show actX (⟨4, [], [], us, []⟩ : Vl) a = (⟨4, [], [], us, []⟩ : Vl) by simp [actX, hm]]
      exact do_field0 w B gv (⟨4, [], [], us, []⟩ : Vl) vp vl vs lv a (.k4 _ _ h) hX (tm8 h0 hm) hB (by simp)
    · rw [show actX (⟨4, [], [], us, []⟩ : Vl) a = (⟨4, [], cutF [] a.a, us, []⟩ : Vl) by simp [actX, hm]]
      exact do_cutF0 w B gv (⟨4, [], [], us, []⟩ : Vl) vp vl vs lv a (.k4 _ _ h) hX (tm8 h0 hm) hB hf (by simp)
    · rw [show actX (⟨4, [], [], us, []⟩ : Vl) a = (⟨4, [], [], putN us a.a, []⟩ : Vl) by simp [actX, hm]]
      exact do_add4 w B gv sb us vp vl vs lv a h hX (tm8 h0 hm) hB hf hls
    · rw [show actX (⟨4, [], [], us, []⟩ : Vl) a = (⟨4, [], [], cutN us a.a, []⟩ : Vl) by simp [actX, hm]]
      exact do_cut4 w B gv sb us vp vl vs lv a h hX (tm8 h0 hm) hB hf hls
    · rw [show actX (⟨4, [], [], us, []⟩ : Vl) a = (⟨4, [], [], a.l.foldl putN [], []⟩ : Vl) by simp [actX, hm]]
      exact do_items4 w B gv sb us vp vl vs lv a h hX (tm8 h0 hm) hB hL hl hn
    · rw [show actX (⟨4, [], [], us, []⟩ : Vl) a = (⟨4, [], [], us, []⟩ : Vl) by simp [actX, hm]]
      exact do_put0 w B gv (⟨4, [], [], us, []⟩ : Vl) vp vl vs lv a (.k4 _ _ h) hX (tm8 h0 hm) hB (by simp)
    · rw [show actX (⟨4, [], [], us, []⟩ : Vl) a = (⟨4, [], [], us, dropS [] a.a⟩ : Vl) by simp [actX, hm]]
      exact do_drop0 w B gv (⟨4, [], [], us, []⟩ : Vl) vp vl vs lv a (.k4 _ _ h) hX (tm8 h0 hm) hB (by simp)
  | k5 gz mb hd Ls h =>
    have hss : Ls.length ≤ 999998 := by
      have e : (scs Ls).length = Ls.length := by unfold scs; rw [List.length_map]
      have hss : (scs Ls).length ≤ 999998 := hss
      omega
    rcases hm8 with hm | hm | hm | hm | hm | hm | hm | hm
    · rw [show actX (⟨5, [], [], [], scs Ls⟩ : Vl) a = (⟨5, [], [], [], scs Ls⟩ : Vl) by simp [actX, hm]]
      exact do_text0 w B gv (⟨5, [], [], [], scs Ls⟩ : Vl) vp vl vs lv a (.k5 _ _ _ _ h) hX (tm8 h0 hm) hB (by simp)
    · rw [show actX (⟨5, [], [], [], scs Ls⟩ : Vl) a = (⟨5, [], [], [], scs Ls⟩ : Vl) by simp [actX, hm]]
      exact do_field0 w B gv (⟨5, [], [], [], scs Ls⟩ : Vl) vp vl vs lv a (.k5 _ _ _ _ h) hX (tm8 h0 hm) hB (by simp)
    · rw [show actX (⟨5, [], [], [], scs Ls⟩ : Vl) a = (⟨5, [], cutF [] a.a, [], scs Ls⟩ : Vl) by simp [actX, hm]]
      exact do_cutF0 w B gv (⟨5, [], [], [], scs Ls⟩ : Vl) vp vl vs lv a (.k5 _ _ _ _ h) hX (tm8 h0 hm) hB hf (by simp)
    · rw [show actX (⟨5, [], [], [], scs Ls⟩ : Vl) a = (⟨5, [], [], [], scs Ls⟩ : Vl) by simp [actX, hm]]
      exact do_add0 w B gv (⟨5, [], [], [], scs Ls⟩ : Vl) vp vl vs lv a (.k5 _ _ _ _ h) hX (tm8 h0 hm) hB (by simp)
    · rw [show actX (⟨5, [], [], [], scs Ls⟩ : Vl) a = (⟨5, [], [], [], scs Ls⟩ : Vl) by simp [actX, hm]]
      exact do_cutN0 w B gv (⟨5, [], [], [], scs Ls⟩ : Vl) vp vl vs lv a (.k5 _ _ _ _ h) hX (tm8 h0 hm) hB hf (by simp)
    · rw [show actX (⟨5, [], [], [], scs Ls⟩ : Vl) a = (⟨5, [], [], [], scs Ls⟩ : Vl) by simp [actX, hm]]
      exact do_items0 w B gv (⟨5, [], [], [], scs Ls⟩ : Vl) vp vl vs lv a (.k5 _ _ _ _ h) hX (tm8 h0 hm) hB (by simp) (by simp)
    · rw [show actX (⟨5, [], [], [], scs Ls⟩ : Vl) a = (⟨5, [], [], [], putS (scs Ls) ⟨a.a, a.n⟩⟩ : Vl) by simp [actX, hm]]
      exact do_put5 w B gv gz mb hd Ls vp vl vs lv a h hX (tm8 h0 hm) hB hf1 hss
    · rw [show actX (⟨5, [], [], [], scs Ls⟩ : Vl) a = (⟨5, [], [], [], dropS (scs Ls) a.a⟩ : Vl) by simp [actX, hm]]
      exact do_drop5 w B gv gz mb hd Ls vp vl vs lv a h hX (tm8 h0 hm) hB hf1 hss
end Go.Proofs.YtpbkejmffddelaaGreat

/-
  What a value of any kind tells. Own work.
-/
namespace Go.Proofs.YtpbkejmffddelaaGreat
open Go.RowKit Go.Shelf Go.Maps
section
variable {w : World} {B gv : Nat} {x : Vl}
theorem VX.parts (h : VX w B gv x) : ∃ hm lv sm zp ll us, VRow w gv x.k x.t hm lv sm zp ∧ PH w B hm x.ps ∧ OwnW w B lv ll ∧ PU w B sm us ∧ PZ w B zp x.ss ∧ ((x.k = 4 ∧ ll = [] ∧ us = x.ls) ∨ (x.k ≠ 4 ∧ ll = x.ls ∧ us = [])) := by
  cases h with
  | k1 t h => exact ⟨_, _, _, _, [], [], h.v, .inl ⟨rfl, rfl⟩, World.ownsRow_nil _ _ _ _, .inl ⟨rfl, rfl⟩, .inl ⟨rfl, rfl⟩, .inr ⟨by simp, rfl, rfl⟩⟩
  | k2 mb ps h => exact ⟨_, _, _, _, [], [], h.v, .inr ⟨mb, rfl, h.lo.2, h.m⟩, World.ownsRow_nil _ _ _ _, .inl ⟨rfl, rfl⟩, .inl ⟨rfl, rfl⟩, .inr ⟨by simp, rfl, rfl⟩⟩
  | k3 lv ls h => exact ⟨_, _, _, _, ls, [], h.v, .inl ⟨rfl, rfl⟩, h.l, .inl ⟨rfl, rfl⟩, .inl ⟨rfl, rfl⟩, .inr ⟨by simp, rfl, rfl⟩⟩
  | k4 sb us h => exact ⟨_, _, _, _, [], us, h.v, .inl ⟨rfl, rfl⟩, World.ownsRow_nil _ _ _ _, .inr ⟨sb, rfl, h.lo.2, h.m⟩, .inl ⟨rfl, rfl⟩, .inl ⟨rfl, rfl, rfl⟩⟩
  | k5 gz mb hd Ls h => exact ⟨_, _, _, _, [], [], h.v, .inl ⟨rfl, rfl⟩, World.ownsRow_nil _ _ _ _, .inl ⟨rfl, rfl⟩, .inr ⟨gz, mb, hd, Ls, rfl, h.z, rfl⟩, .inr ⟨by simp, rfl, rfl⟩⟩
/-- Bounds of plain data. -/
structure VBd (n : Nat) (x : Vl) : Prop where
  t : x.t.length ≤ n
  p : x.ps.length ≤ n
  l : x.ls.length ≤ n
  s : x.ss.length ≤ n
  f : ∀ q ∈ x.ps, q.f.length ≤ maxLen
theorem field_x (h : VX w B gv x) (f : Nm) (hf : f.length ≤ maxLen) :
    Calls Tryz.prog 28 #[ptr gv, encStr f] w fun e w' => e = .returned (.tuple #[encStr ((prAt x.ps f).getD pr0).t, .bool (prAt x.ps f).isSome]) ∧ Below w.heap.size w w' := by
  obtain ⟨hm, lv, sm, zp, ll, us, hV, hP, hL, hU, hZ, hc⟩ := h.parts
  exact field_p w B gv x.k x.t hm sm lv zp x.ps f hV hP hf
theorem has_x (h : VX w B gv x) (f : Nm) (hf : f.length ≤ maxLen) :
    Calls Tryz.prog 33 #[ptr gv, encStr f] w fun e w' => e = .returned (.bool (decide (x.k = 4) && decide (f ∈ x.ls))) ∧ Below w.heap.size w w' := by
  obtain ⟨hm, lv, sm, zp, ll, us, hV, hP, hL, hU, hZ, hc⟩ := h.parts
  have := has_p w B gv x.k x.t hm sm lv zp us f hV hU hf
  rcases hc with ⟨h1, _, rfl⟩ | ⟨h1, _, rfl⟩
  · rw [show (decide (x.k = 4) && decide (f ∈ x.ls)) = decide (f ∈ x.ls) by simp [h1]]
    exact this
  · rw [show (decide (x.k = 4) && decide (f ∈ x.ls)) = decide (f ∈ ([] : List Nm)) by simp [h1]]
    exact this
theorem len_x (h : VX w B gv x) (hb : VBd 1000 x) :
    Calls Tryz.prog 35 #[ptr gv] w fun e w' => e = .returned (.int .i64 ((x.ps.length : Int) + x.ls.length + x.ss.length + x.t.length)) ∧ Below w.heap.size w w' := by
  obtain ⟨hm, lv, sm, zp, ll, us, hV, hP, hL, hU, hZ, hc⟩ := h.parts
  have ht := hb.t; have hp := hb.p; have hl := hb.l; have hs := hb.s
  have e : ll.length + us.length = x.ls.length := by rcases hc with ⟨_, rfl, rfl⟩ | ⟨_, rfl, rfl⟩ <;> simp
  have := len_p w B gv x.k x.t hm sm lv zp x.ps ll us x.ss hV hP hL hU hZ (by omega) (by omega) (by omega) (by omega) (by omega)
  rw [show ((x.ps.length : Int) + x.ls.length + x.ss.length + x.t.length) = ((x.t.length : Int) + x.ps.length + ll.length + us.length + x.ss.length) by omega]
  exact this
theorem text_x (h : VX w B gv x) : Calls Tryz.prog 34 #[ptr gv] w fun e w' => e = .returned (encStr x.t) ∧ Below w.heap.size w w' := by
  obtain ⟨hm, lv, sm, zp, ll, us, hV, hP, hL, hU, hZ, hc⟩ := h.parts
  exact text_ev (w := w) (v := ptr gv) (k := x.k) (t := x.t) (hm := hm) (lv := lv) (sm := sm) (zp := zp) (.of hV)
theorem kind_x (h : VX w B gv x) : Calls Tryz.prog 36 #[ptr gv] w fun e w' => e = .returned (.int .i64 x.k) ∧ Below w.heap.size w w' := by
  obtain ⟨hm, lv, sm, zp, ll, us, hV, hP, hL, hU, hZ, hc⟩ := h.parts
  exact kind_ev w (ptr gv) x.k x.t hm lv sm zp (.of hV)
theorem items_x (h : VX w B gv x) (hl : x.ls.length ≤ 1000) :
    Calls Tryz.prog 37 #[ptr gv] w fun e w' => ∃ v, e = .returned v ∧ OwnW w' w.heap.size v x.ls ∧ Below w.heap.size w w' := by
  cases h with
  | k4 sb us h => exact items_u w gv sb B [] none nilS nilP us h.v h.m hl
  | k1 t h => exact items_l w B gv 1 t none none nilS nilP [] h.v (World.ownsRow_nil _ _ _ _) (by decide) (Nat.le_trans hl (by decide))
  | k2 mb ps h => exact items_l w B gv 2 [] (some mb) none nilS nilP [] h.v (World.ownsRow_nil _ _ _ _) (by decide) (Nat.le_trans hl (by decide))
  | k3 lv ls h => exact items_l w B gv 3 [] none none lv nilP ls h.v h.l (by decide) (Nat.le_trans hl (by decide))
  | k5 gz mb hd Ls h => exact items_l w B gv 5 [] none none nilS (ptr gz) [] h.v (World.ownsRow_nil _ _ _ _) (by decide) (Nat.le_trans hl (by decide))
theorem plain_x (h : VX w B gv x) (hb : VBd 1000 x) :
    Calls Tryz.prog 25 #[ptr gv] w fun e w' => ∃ vp vl vs, e = .returned (vlV x vp vl vs) ∧ VlM w' w'.heap.size x vp vl vs ∧ Below w.heap.size w w' := by
  have h0 := h
  obtain ⟨hm, lv, sm, zp, ll, us, hV, hP, hL, hU, hZ, hc⟩ := h.parts
  refine (plain_p w B gv x.k x.t hm sm lv zp x.ps x.ls x.ss hV hP hZ (fun wz hz => items_x (h0.later hz) hb.l) hb.p (Nat.le_trans hb.s (by decide)) hb.f).mono ?_
  rintro e w' ⟨vp, vl, vs, he, h1, h2, h3, hbw⟩
  exact ⟨vp, vl, vs, he, ⟨OwnP.slv h1, OwnW.slv h2, own_scv_sl h3⟩, hbw⟩
end
end Go.Proofs.YtpbkejmffddelaaGreat
