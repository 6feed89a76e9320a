/-
  The document's net: Send: contract. Own work.
-/
import Derived.Test.YtlihoijbfffjcaaWireP
namespace Go.Proofs.Ytlihoijbfffjcaa
open Go.RowKit Go.Conc
set_option linter.unusedVariables false
set_option linter.unusedSimpArgs false
set_option maxRecDepth 100000 in
theorem both_own (A B : Option Addr) (n m c d : Nat) (xs ys : List Int) (w : World) (h1 : Bs w w.heap.size A n xs) (h2 : Bs w w.heap.size B m ys) (hn : n + m ≤ 140737488355328) :
    Calls Try.prog 110 #[.slice A n c, .slice B m d] w fun e w' => ∃ v, e = .returned v ∧ w'.ownsRow w.heap.size 5 1 v (n + m) (bv (xs ++ ys)) ∧ Below w.heap.size w w' := by
  obtain ⟨i0, hi, hz, hsz, hby⟩ := u8_info
  have hown0 := World.ownsRow_nil w w.heap.size 5 1
  go_enter Try.func110, Try.ntmps110
  go_wp2_with (first
    | (at_builtin
       refine wpList_append_bs rfl (.tmp 6) (.tmp 7) _ rfl w.heap.size 5 i0 Try.underlying35 hi hz hsz hby (.slice none 0 0) 0 [] rfl hown0 w.heap.size A n c xs rfl h1 (by omega) (by simp) ?_
       intro v1 w1 hown1 hg1
       have hb1 := grown_below (Below.refl _ _) hown0 (Nat.le_refl _) hg1
       have hz1 := hb1.size)
    | (at_builtin
       refine wpList_append_bs rfl (.tmp 9) (.tmp 10) _ rfl w.heap.size 5 i0 Try.underlying35 hi hz hsz hby v1 (0 + n) ([] ++ xs) rfl hown1 w.heap.size B m d ys rfl (h2.below hb1) (by omega) hz1 ?_
       intro v2 w2 hown2 hg2))
  go_ret
  exact ⟨v2, rfl, by simpa using hown2, grown_below hb1 hown1 (Nat.le_refl _) hg2⟩
set_option maxRecDepth 100000 in
theorem rsend_no (w : World) (v : Value) (i : Int) (A : Option Addr) (n c : Nat) (hI : Calls Try.prog 107 #[v, .int .i64 i] w fun e w' => e = .returned (.bool false) ∧ w = w') : Calls Try.prog 65 #[v, .int .i64 i, .slice A n c] w fun e w' => e = .returned (.int .i64 1) ∧ w = w' := by
  go_enter Try.func65, Try.ntmps65
  go_wp2_with fail
  refine hI.mono ?_
  rintro en w1 ⟨rfl, rfl⟩
  go_wp2_with fail
  go_ret
  exact ⟨rfl, rfl⟩
set_option maxRecDepth 100000 in
theorem rsend_long (w : World) (v : Value) (i : Int) (A : Option Addr) (n c : Nat) (hn : 131072 < n) (hI : Calls Try.prog 107 #[v, .int .i64 i] w fun e w' => e = .returned (.bool true) ∧ w = w') : Calls Try.prog 65 #[v, .int .i64 i, .slice A n c] w fun e w' => e = .returned (.int .i64 5) ∧ w = w' := by
  have hd : decide (131072 < (n : Int)) = true := by simp; omega
  go_enter Try.func65, Try.ntmps65
  go_wp2_with fail
  refine hI.mono ?_
  rintro en w1 ⟨rfl, rfl⟩
  go_wp2_with fail
  go_ret
  exact ⟨rfl, rfl⟩
set_option maxRecDepth 100000 in
theorem rsend_full (w : World) (B gr gb : Nat) (rs : List RWay) (h : RNetAt w B gr gb rs) (i : Nat) (r : RWay) (hr : rs[i]? = some r) (he : r.fs.length = 200) (A : Option Addr) (n c : Nat) (hn : n ≤ 131072) : Calls Try.prog 65 #[ptr gr, .int .i64 i, .slice A n c] w fun e w' => e = .returned (.int .i64 10) ∧ w = w' := by
  have hd : decide (131072 < (n : Int)) = false := by simp; omega
  have hlt := (List.getElem?_eq_some_iff.1 hr).1
  have hI := is_in w B gr gb rs h i hlt
  have c0 := h.row.cell (j := 0) (v := .slice (some ⟨gb, 0, none⟩) rs.length rs.length) rfl
  obtain ⟨Aq, cap, e⟩ := own_len (h.own r (List.mem_of_getElem? hr))
  have cl := h.rows.cell (rcell0 hr)
  rw [e, he] at cl
  have HI := hide hI
  clear h hI hr e he
  generalize rs.length = m at *
  go_enter Try.func65, Try.ntmps65
  go_wp2_with fail
  refine HI.out.mono ?_
  rintro en w1 ⟨rfl, rfl⟩
  go_wp2_with fail
  go_ret
  exact ⟨rfl, rfl⟩
/-- The region that copies a frame and lays it behind the others: by which of its four steps have been carried out. -/
def SJ (w0 : World) (B gr gb i m : Nat) (rs : List RWay) (r : RWay) (xs : List Int) (bs : List Bool) (vs : List Value) (w : World) : Prop :=
  (Buts (gb :: r.L.ownBlock.toList) w0 w ∧ (bs.getD 0 false = false → Below w0.heap.size w0 w)) ∧
  Row w 156 gr [.slice (some ⟨gb, 0, none⟩) m m] ∧
  (bs.getD 3 false = false → Row w 161 gb (rcells rs)) ∧
  (bs.getD 2 false = false → w.ownsRow B 35 1 r.L r.fs.length (r.fs.map (·.1))) ∧
  (bs.getD 0 false = true → ∃ A7 n7 c7, vs.getD 0 undef = .slice A7 n7 c7 ∧ ByV w (.slice A7 n7 c7) xs ∧
    (bs.getD 1 false = true → ∃ g2, vs.getD 1 undef = .slice (some ⟨g2, 0, none⟩) 1 1 ∧ (bs.getD 2 false = false → Row w 35 g2 [.slice A7 n7 c7])) ∧
    (bs.getD 2 false = true → w.ownsRow B 35 1 (vs.getD 2 undef) (r.fs.length + 1) (r.fs.map (·.1) ++ [.slice A7 n7 c7]) ∧ ((vs.getD 2 undef).ownBlock = r.L.ownBlock ∨ ∀ k ∈ (vs.getD 2 undef).ownBlock.toList, w0.heap.size ≤ k)) ∧
    (bs.getD 3 false = true → Row w 161 gb ((rcells rs).set (i * 2) (vs.getD 2 undef))))
def SSe (gr gb i m mf cf : Nat) (Af : Option Addr) (r : RWay) (opn : Nat) (v : Value) : Prop :=
  match opn with
  | 0 | 1 | 5 | 6 => v = ptr gr
  | 2 | 7 => v = .pointer (some ⟨gr, 0, none⟩)
  | 3 | 8 => v = .slice (some ⟨gb, 0, none⟩) m m
  | 4 | 9 => v = .int .i64 i
  | 10 | 11 | 17 | 18 => v = .pointer (some ⟨gb, i * 2, none⟩)
  | 12 => v = r.L
  | 13 => v = .slice Af mf cf
  | _ => True

theorem own_slice' {w : World} {B n : Nat} {v : Value} {xs : List Value} (h : w.ownsRow B 5 1 v n xs) : ∃ A m c, v = .slice A m c := own_slice h
set_option maxRecDepth 100000 in
set_option maxHeartbeats 2000000 in
theorem rsend_room (w : World) (B gr gb : Nat) (rs : List RWay) (hN : RNetAt w B gr gb rs) (hB : B ≤ w.heap.size) (i : Nat) (r : RWay) (hr : rs[i]? = some r) (hq : r.fs.length < 200) (Af : Option Addr) (mf cf : Nat) (xs : List Int) (hx : Bs w w.heap.size Af mf xs) (hmf : mf ≤ 131072) :
    Calls Try.prog 65 #[ptr gr, .int .i64 i, .slice Af mf cf] w fun e w' => e = .returned (.int .i64 0) ∧ ∃ v Lv, RNetAt w' B gr gb (rs.set i ⟨Lv, r.fs ++ [(v, xs)], r.gone⟩) ∧ Buts (gb :: r.L.ownBlock.toList) w w' ∧ (Lv.ownBlock = r.L.ownBlock ∨ ∀ k ∈ Lv.ownBlock.toList, w.heap.size ≤ k) := by
  obtain ⟨ip, hip, hpz, hps, hpb⟩ := sl35
  have hd : decide (131072 < (mf : Int)) = false := by simp; omega
  have hlt := (List.getElem?_eq_some_iff.1 hr).1
  have hI := is_in w B gr gb rs hN i hlt
  have c0 := hN.row.cell (j := 0) (v := .slice (some ⟨gb, 0, none⟩) rs.length rs.length) rfl
  have hrow := hN.row
  have hrm := List.mem_of_getElem? hr
  have ho0 := hN.own r hrm
  obtain ⟨Aq, cap, e⟩ := own_len ho0
  have h3 := rcell0 hr
  have cl := hN.rows.cell h3
  rw [e] at cl
  have hdq : decide (200 ≤ (r.fs.length : Int)) = false := by simp; omega
  have hil : i * 2 < (rcells rs).length := by rw [rcells_len]; omega
  have HSZ : ∀ w, (sizeOf 161).run Try.prog w = .ok 2 w := fun w => by kernel_rfl
  have HI := hide hI
  have HN := hide hN
  have HR := hide hr
  have HO := hide ho0
  have HRW := hide hrow
  clear hN hI hr e ho0 hrow
  generalize hme : rs.length = m at *
  have HM := hide hme
  clear hme
  go_enter Try.func65, Try.ntmps65
  go_wp2_with fail
  refine HI.out.mono ?_
  rintro en w1 ⟨rfl, rfl⟩
  go_wp2_with fail
  rename_i K1 hK1
  clear c0 cl
  refine wp_region_valsS [14, 15, 16, 19] (SSe gr gb i m mf cf Af r) (SJ w B gr gb i m rs r xs) (by kernel_rfl) (by kernel_rfl) (by kernel_rfl) (by kernel_rfl) ?ini6 ?obs6 ?he6
  case ini6 => exact ⟨⟨⟨rfl, rfl, rfl, Nat.le_refl _, fun _ _ _ => rfl⟩, fun _ => ⟨rfl, rfl, rfl, Nat.le_refl _, fun _ _ => rfl⟩⟩, HRW.out, fun _ => HN.out.rows, fun _ => HO.out, fun h => (by cases h)⟩
  case obs6 =>
    refine ⟨?_, ?_, ?_, ?_, ?_, ?_, ?_, ?_, ?_, ?_, ?_, ?_, ?_, ?_, ?_, ?_, ?_, ?_, ?_, ?_, trivial⟩
    · refine .inl ⟨.inl rfl, ?_⟩
      exact .inl ⟨by kernel_rfl, fun L a1 w1 n h => ⟨_, rfl, run_move (.tmp 0) rfl (h.var n 0 (by kernel_rfl))⟩⟩
    · refine .inl ⟨.inl rfl, ?_⟩
      refine .inl ⟨by kernel_rfl, fun L a1 w1 n h => ⟨ptr gr, rfl, ?_⟩⟩
      have e0 : a1.eval (.tmp 24) = _ := h.dep n 0 24 (by kernel_rfl) rfl
      unfold execOp
      simp only [e0]
      go_simp
    · refine .inl ⟨.inl rfl, ?_⟩
      refine .inl ⟨by kernel_rfl, fun L a1 w1 n h => ⟨.pointer (some ⟨gr, 0, none⟩), rfl, ?_⟩⟩
      have e0 : a1.eval (.tmp 25) = _ := h.dep n 1 25 (by kernel_rfl) rfl
      unfold execOp
      simp only [e0]
      go_simp
    · refine .inl ⟨.inl rfl, ?_⟩
      exact .inl ⟨by kernel_rfl, fun L a1 w1 n h => ⟨_, rfl, run_loadA 154 (.tmp 26) ⟨gr, 0, none⟩ rfl Try.isAgg154 (h.dep n 2 26 (by kernel_rfl) rfl) (h.inv.2.1.cell (j := 0) rfl)⟩⟩
    · refine .inl ⟨.inl rfl, ?_⟩
      exact .inl ⟨by kernel_rfl, fun L a1 w1 n h => ⟨_, rfl, run_move (.tmp 1) rfl (h.var n 1 (by kernel_rfl))⟩⟩
    · refine .inl ⟨.inl rfl, ?_⟩
      exact .inl ⟨by kernel_rfl, fun L a1 w1 n h => ⟨_, rfl, run_move (.tmp 0) rfl (h.var n 0 (by kernel_rfl))⟩⟩
    · refine .inl ⟨.inl rfl, ?_⟩
      refine .inl ⟨by kernel_rfl, fun L a1 w1 n h => ⟨ptr gr, rfl, ?_⟩⟩
      have e0 : a1.eval (.tmp 29) = _ := h.dep n 5 29 (by kernel_rfl) rfl
      unfold execOp
      simp only [e0]
      go_simp
    · refine .inl ⟨.inl rfl, ?_⟩
      refine .inl ⟨by kernel_rfl, fun L a1 w1 n h => ⟨.pointer (some ⟨gr, 0, none⟩), rfl, ?_⟩⟩
      have e0 : a1.eval (.tmp 30) = _ := h.dep n 6 30 (by kernel_rfl) rfl
      unfold execOp
      simp only [e0]
      go_simp
    · refine .inl ⟨.inl rfl, ?_⟩
      exact .inl ⟨by kernel_rfl, fun L a1 w1 n h => ⟨_, rfl, run_loadA 154 (.tmp 31) ⟨gr, 0, none⟩ rfl Try.isAgg154 (h.dep n 7 31 (by kernel_rfl) rfl) (h.inv.2.1.cell (j := 0) rfl)⟩⟩
    · refine .inl ⟨.inl rfl, ?_⟩
      exact .inl ⟨by kernel_rfl, fun L a1 w1 n h => ⟨_, rfl, run_move (.tmp 1) rfl (h.var n 1 (by kernel_rfl))⟩⟩
    · refine .inl ⟨.inl rfl, ?_⟩
      exact .inl ⟨by kernel_rfl, fun L a1 w1 n h => ⟨_, rfl, run_indexS2 154 (.tmp 32) (.tmp 33) 161 gb m m i rfl Try.underlying154 HSZ (h.dep n 8 32 (by kernel_rfl) rfl) (h.dep n 9 33 (by kernel_rfl) rfl) hlt⟩⟩
    · refine .inl ⟨.inl rfl, ?_⟩
      refine .inl ⟨by kernel_rfl, fun L a1 w1 n h => ⟨.pointer (some ⟨gb, i * 2, none⟩), rfl, ?_⟩⟩
      have e0 : a1.eval (.tmp 34) = _ := h.dep n 10 34 (by kernel_rfl) rfl
      unfold execOp
      simp only [e0]
      go_simp
    · refine .inl ⟨.inl rfl, ?_⟩
      exact .inl ⟨by kernel_rfl, fun L a1 w1 n h => ⟨_, rfl, run_loadA 122 (.tmp 35) ⟨gb, i * 2, none⟩ rfl Try.isAgg122 (h.dep n 11 35 (by kernel_rfl) rfl) ((h.inv.2.2.1 (n.later (by kernel_rfl))).cell (j := i * 2) h3)⟩⟩
    · refine .inl ⟨.inl rfl, ?_⟩
      exact .inl ⟨by kernel_rfl, fun L a1 w1 n h => ⟨_, rfl, run_move (.tmp 2) rfl (h.var n 2 (by kernel_rfl))⟩⟩
    · refine .inl ⟨.inl rfl, ?_⟩
      refine .inr fun L a1 w1 n h K hK => ?_
      have n0 : L.getD 14 false = false := n.not_yet
      have n1 : L.getD 15 false = false := n.later (by kernel_rfl)
      have n2 : L.getD 16 false = false := n.later (by kernel_rfl)
      have n3 : L.getD 19 false = false := n.later (by kernel_rfl)
      obtain ⟨⟨q0, qb⟩, q1, q2, q4, q3⟩ := h.inv
      have e1 : a1.eval (.tmp 37) = .slice Af mf cf := h.dep n 13 37 (by kernel_rfl) rfl
      refine st_call 110 _ _ #[.slice none 0 0, .slice Af mf cf] rfl Try.call110 ?_ (both_own none Af 0 mf 0 cf [] xs w1 Bs.nil_ (hx.later (qb n0)) (by omega)) ?_
      · simp only [List.map_toArray, List.map_cons, List.map_nil, e1]; rfl
      · rintro e w3 ⟨v, rfl, ho, b9⟩
        have hv := ByV.of_row ho
        obtain ⟨A7, n7, c7, rfl⟩ := own_slice' ho
        exact ⟨_, rfl, hK _ w3 trivial ⟨⟨q0.trans (Buts.of b9 _), fun h1 => absurd h1 (no_bit' rfl)⟩, q1.later b9, fun _ => (q2 n3).later b9, fun _ => own_buts (q4 n2) (Buts.of b9 []) (fun k hk => by simp), fun _ => ⟨A7, n7, c7, rfl, hv, fun h1 => absurd h1 (no_bit n1), fun h1 => absurd h1 (no_bit n2), fun h1 => absurd h1 (no_bit n3)⟩⟩⟩
    · refine .inl ⟨.inl rfl, ?_⟩
      refine .inr fun L a1 w1 n h K hK => ?_
      have y0 : L.getD 14 false = true := n.dep (by kernel_rfl)
      have n2 : L.getD 16 false = false := n.later (by kernel_rfl)
      have n3 : L.getD 19 false = false := n.later (by kernel_rfl)
      obtain ⟨⟨q0, qb⟩, q1, q2, q4, q3⟩ := h.inv
      obtain ⟨A7, n7, c7, e20, hv, _, _, _⟩ := q3 y0
      refine st_build1 122 (.tmp 38) rfl 35 ip (.slice none 0 0) (.slice A7 n7 c7) Try.underlying122 hip hpz hps rfl e20 rfl ?_
      intro g2 w3 r3 p3 l3 b9
      exact hK _ w3 trivial ⟨⟨q0.trans (Buts.of b9 _), fun h1 => absurd h1 (no_bit' y0)⟩, q1.later b9, fun _ => (q2 n3).later b9, fun _ => own_buts (q4 n2) (Buts.of b9 []) (fun k hk => by simp), fun _ => ⟨A7, n7, c7, e20, hv.later b9, fun _ => ⟨g2, rfl, fun _ => r3⟩, fun h1 => absurd h1 (no_bit n2), fun h1 => absurd h1 (no_bit n3)⟩⟩
    · refine .inl ⟨.inl rfl, ?_⟩
      refine .inr fun L a1 w1 n h K hK => ?_
      have y0 : L.getD 14 false = true := n.dep (by kernel_rfl)
      have y1 : L.getD 15 false = true := n.dep (by kernel_rfl)
      have n2 : L.getD 16 false = false := n.not_yet
      have n3 : L.getD 19 false = false := n.later (by kernel_rfl)
      obtain ⟨⟨q0, qb⟩, q1, q2, q4, q3⟩ := h.inv
      obtain ⟨A7, n7, c7, e20, hv, hs1, _, _⟩ := q3 y0
      obtain ⟨g2, e21, r2⟩ := hs1 y1
      have ho := q4 n2
      refine st_append_at (.tmp 36) (.tmp 39) 122 rfl B 35 ip (.slice none 0 0) 1 24 Try.underlying122 hip hpz hps hpb rfl (by decide) r.L r.fs.length _ (h.dep n 12 36 (by kernel_rfl) rfl) ho ⟨g2, 0, none⟩ 1 1 [.slice A7 n7 c7] e21 rfl (row_src (r2 n2)) (one_sl _ _ _) (by simp only [maxLen]; omega) (by omega) (Nat.le_trans hB q0.size) ?_
      intro v' w3 hown3 hg3 hloc
      have b8 : Buts r.L.ownBlock.toList w1 w3 := buts_own hg3 (fun k hk => hk)
      exact hK _ w3 trivial ⟨⟨q0.trans (b8.sub (fun k hk => List.mem_cons_of_mem _ hk)), fun h1 => absurd h1 (no_bit' y0)⟩, q1.buts b8 (own_ne_row ho q1 (by decide)), fun _ => (q2 n3).buts b8 (own_ne_row ho (q2 n3) (by decide)), fun h1 => absurd h1 (no_bit' rfl), fun _ => ⟨A7, n7, c7, e20, hv.buts b8 (own_notBy' ho), fun _ => ⟨g2, e21, fun h1 => absurd h1 (no_bit' rfl)⟩, fun _ => ⟨hown3, hloc.imp id fun e k hk => own_at e hk q0.size⟩, fun h1 => absurd h1 (no_bit n3)⟩⟩
    · refine .inl ⟨.inl rfl, ?_⟩
      exact .inl ⟨by kernel_rfl, fun L a1 w1 n h => ⟨_, rfl, run_indexS2 154 (.tmp 27) (.tmp 28) 161 gb m m i rfl Try.underlying154 HSZ (h.dep n 3 27 (by kernel_rfl) rfl) (h.dep n 4 28 (by kernel_rfl) rfl) hlt⟩⟩
    · refine .inl ⟨.inl rfl, ?_⟩
      refine .inl ⟨by kernel_rfl, fun L a1 w1 n h => ⟨.pointer (some ⟨gb, i * 2, none⟩), rfl, ?_⟩⟩
      have e0 : a1.eval (.tmp 41) = _ := h.dep n 17 41 (by kernel_rfl) rfl
      unfold execOp
      simp only [e0]
      go_simp
    · refine .inl ⟨.inl rfl, ?_⟩
      refine .inr fun L a1 w1 n h K hK => ?_
      have y0 : L.getD 14 false = true := n.dep (by kernel_rfl)
      have y1 : L.getD 15 false = true := n.dep (by kernel_rfl)
      have y2 : L.getD 16 false = true := n.dep (by kernel_rfl)
      have n3 : L.getD 19 false = false := n.not_yet
      obtain ⟨⟨q0, qb⟩, q1, q2, q4, q3⟩ := h.inv
      obtain ⟨A7, n7, c7, e20, hv, hs1, hs2, _⟩ := q3 y0
      obtain ⟨g2, e21, r2⟩ := hs1 y1
      obtain ⟨ho, hloc⟩ := hs2 y2
      have hrw := q2 n3
      obtain ⟨A3, m3, c3, e3⟩ := own_slice ho
      refine st_store 122 (.tmp 42) (.tmp 40) gb (i * 2) 161 (rcells rs) (a1.eval (.tmp 40)) rfl sz122 (h.dep n 18 42 (by kernel_rfl) rfl) rfl hrw hil (by rw [show a1.eval (.tmp 40) = .slice A3 m3 c3 from e3]; rfl) ?_
      intro w3 r3 o3
      have b8 : Buts [gb] w1 w3 := Buts.only o3 (by simp)
      have hno := own_ne_row ho hrw (by decide)
      exact hK undef w3 trivial ⟨⟨q0.trans (b8.sub (fun k hk => by simp at hk; subst hk; exact List.mem_cons_self ..)), fun h1 => absurd h1 (no_bit' y0)⟩, q1.buts b8 (by simp; exact row_ne q1 hrw (by decide)), fun h1 => absurd h1 (no_bit' rfl), fun h1 => absurd h1 (no_bit' y2), fun _ => ⟨A7, n7, c7, e20, hv.buts b8 (fun k hk => by simp at hk; subst hk; exact hrw.notBy (by decide)), fun _ => ⟨g2, e21, fun h1 => absurd h1 (no_bit' y2)⟩, fun _ => ⟨own_buts ho b8 (fun k hk hk2 => by simp at hk2; subst hk2; exact hno hk), hloc⟩, fun _ => r3⟩⟩
  case he6 =>
    intro V w5 hV2 hJ
    obtain ⟨⟨q0, _⟩, _, _, _, q3⟩ := hJ
    obtain ⟨A7, n7, c7, _, hv, _, hs2, hs3⟩ := q3 rfl
    obtain ⟨ho, hloc⟩ := hs2 rfl
    have hrw := hs3 rfl
    have hNBS : ∀ k ∈ gb :: r.L.ownBlock.toList, NotBy w k := by
      intro k hk
      rcases List.mem_cons.1 hk with rfl | hk
      · exact HN.out.rows.notBy (by decide)
      · exact own_notBy' HO.out k hk
    have hfin : ∀ Lv, w5.ownsRow B 35 1 Lv (r.fs.length + 1) (r.fs.map (·.1) ++ [.slice A7 n7 c7]) → (Lv.ownBlock = r.L.ownBlock ∨ ∀ k ∈ Lv.ownBlock.toList, w.heap.size ≤ k) → Row w5 161 gb ((rcells rs).set (i * 2) Lv) → RNetAt w5 B gr gb (rs.set i ⟨Lv, r.fs ++ [(.slice A7 n7 c7, xs)], r.gone⟩) := by
      intro Lv ho hloc hrw
      refine HN.out.turn (r' := ⟨Lv, r.fs ++ [(.slice A7 n7 c7, xs)], r.gone⟩) HR.out q0 ?_ ?_ ?_ ?_ ?_ hloc
      · rw [rcells_set0 (r' := ⟨Lv, r.fs ++ [(.slice A7 n7 c7, xs)], r.gone⟩) HR.out rfl] at hrw
        exact hrw
      · simpa using ho
      · intro p hp
        rcases List.mem_append.1 hp with hp | hp
        · exact (HN.out.frames r (List.mem_of_getElem? HR.out) p hp).buts q0 hNBS
        · simp at hp; subst hp; exact hv
      · have := HN.out.gone r (List.mem_of_getElem? HR.out); simp; omega
      · simp; omega
    have hR := hfin _ ho hloc hrw
    have HR5 := hide hR
    have HLoc := hide hloc
    clear hR hfin ho hloc hrw q3 hs2 hs3 hv
    simp only [putOps, List.setIfInBounds_toArray, List.set_cons_succ, List.set_cons_zero]
    refine hK1 _ _ ?_
    go_wp2
    go_ret
    exact ⟨rfl, _, _, HR5.out, q0, HLoc.out⟩
end Go.Proofs.Ytlihoijbfffjcaa
