/-
  A net of ways: new; contracts. Own work.
-/
import Derived.Test.YtlihoijbfffjcaaWireC
namespace Go.Proofs.Ytlihoijbfffjcaa
open Go.RowKit Go.Conc
set_option linter.unusedVariables false
set_option linter.unusedSimpArgs false
theorem pl_info_ : (Try.prog.info? 152).map (fun i => (i.zero, i.size, i.bytes)) = some (some (.pointer none), 1, 8) := by kernel_rfl
theorem pl_info : ∃ i, Try.prog.info? 152 = some i ∧ i.zero = some (.pointer none) ∧ i.size = 1 ∧ i.bytes = 8 := by
  have := pl_info_
  cases hq : Try.prog.info? 152 with
  | none => rw [hq] at this; cases this
  | some i => rw [hq] at this; simp at this; exact ⟨i, rfl, this.1, this.2.1, this.2.2⟩
theorem sz149 : (Try.prog.info? 149).map (·.size) = some 1 := by kernel_rfl
theorem builtWire : Try.prog.built 151 [] = some [Value.slice none 0 0].toArray := by kernel_rfl
/-- A way on which nothing was sent. -/
def Way.bare (l : Way) : Prop := l.fs = [] ∧ l.gone = 0
/-- The region that makes a way and lays it behind the others: by which of its four steps have been carried out. -/
def NJ (w0 : World) (B gw : Nat) (nv : Value) (ls : List Way) (bs : List Bool) (vs : List Value) (w : World) : Prop :=
  Buts (gw :: nv.ownBlock.toList) w0 w ∧
  (bs.getD 3 false = false → Row w 151 gw [nv]) ∧
  (bs.getD 2 false = false → w.ownsRow B 152 1 nv ls.length (ls.map fun l => ptr l.gl)) ∧
  (bs.getD 0 false = true → ∃ l : Way, vs.getD 0 undef = ptr l.gl ∧ WayAt w B l ∧ l.bare ∧ (∀ k ∈ l.blocks, w0.heap.size ≤ k) ∧
    (bs.getD 1 false = true → ∃ g2, vs.getD 1 undef = .slice (some ⟨g2, 0, none⟩) 1 1 ∧ (bs.getD 2 false = false → Row w 152 g2 [ptr l.gl])) ∧
    (bs.getD 2 false = true → w.ownsRow B 152 1 (vs.getD 2 undef) (ls.length + 1) (ls.map (fun l => ptr l.gl) ++ [ptr l.gl]) ∧ ((vs.getD 2 undef).ownBlock = nv.ownBlock ∨ ∀ k ∈ (vs.getD 2 undef).ownBlock.toList, w0.heap.size ≤ k)) ∧
    (bs.getD 3 false = true → Row w 151 gw [vs.getD 2 undef]))
theorem WayAt.mono {w : World} {B B' : Nat} {l : Way} (h : WayAt w B' l) (hB : B ≤ B') : WayAt w B l :=
  ⟨h.row, Nat.le_trans hB h.lo1, Nat.le_trans hB h.lo2, h.chan, ⟨h.own.1, h.own.2.imp id fun ⟨g, cap, cur, e, h1, h2⟩ => ⟨g, cap, cur, e, Nat.le_trans hB h1, h2⟩⟩, h.frames, h.most, h.gone⟩
theorem no_bit {b : Bool} (h : b = false) : ¬ b = true := by rw [h]; simp
theorem no_bit' {b : Bool} (h : b = true) : ¬ b = false := by rw [h]; simp
theorem own_notBy {w : World} {B n : Nat} {v : Value} {xs : List Value} (h : w.ownsRow B 152 1 v n xs) : ∀ k ∈ v.ownBlock.toList, NotBy w k := by
  intro k hk cs fr e
  obtain ⟨_, _, cs', hc⟩ := own_lo h k hk
  rw [hc] at e
  simp at e
theorem own_not_row {w : World} {B n g t : Nat} {v : Value} {xs vs : List Value} (h : w.ownsRow B 152 1 v n xs) (hr : Row w t g vs) (ht : t ≠ 152) : g ∉ v.ownBlock.toList := by
  intro hk
  obtain ⟨_, _, cs', hc⟩ := own_lo h g hk
  unfold Row at hr
  rw [hr] at hc
  simp at hc
  exact ht hc.2
theorem own_at {v : Value} {m k n : Nat} (e : v.ownBlock = some m) (hk : k ∈ v.ownBlock.toList) (h : n ≤ m) : n ≤ k := by
  rw [e] at hk
  simp at hk
  subst hk
  exact h
theorem one_ptr (g : Nat) : ∀ u ∈ [ptr g], u.oneCell' = true := by intro u hu; simp at hu; subst hu; rfl
def SNw (gw : Nat) (nv : Value) (opn : Nat) (v : Value) : Prop :=
  match opn with
  | 0 | 1 | 2 | 3 | 8 | 9 => v = ptr gw
  | 4 => v = nv
  | _ => True

theorem new_none (w : World) (n : Int) (hn : n < 1 ∨ 64 < n) : Calls Try.prog 55 #[.int .i64 n] w fun e w' => e = .returned (.pointer none) ∧ w = w' := by
  by_cases h1 : n < 1
  · have d1 : decide (n < 1) = true := by simp; omega
    go_enter Try.func55, Try.ntmps55
    go_wp2
    go_ret
    exact ⟨rfl, rfl⟩
  · have d1 : decide (n < 1) = false := by simp; omega
    have d2 : decide (64 < n) = true := by simp; omega
    go_enter Try.func55, Try.ntmps55
    go_wp2
    go_ret
    exact ⟨rfl, rfl⟩
set_option maxRecDepth 100000 in
set_option maxHeartbeats 1000000 in
theorem new_some (w : World) (m : Nat) (h1 : 1 ≤ m) (h64 : m ≤ 64) : Calls Try.prog 55 #[.int .i64 m] w fun e w' => ∃ gw nv ls, e = .returned (ptr gw) ∧ NetAt w' w.heap.size gw nv ls ∧ ls.length = m ∧ (∀ l ∈ ls, l.bare) ∧ Below w.heap.size w w' := by
  have bw := builtWire
  obtain ⟨ip, hip, hpz, hps, hpb⟩ := pl_info
  have d1 : decide ((m : Int) < 1) = false := by simp; omega
  have d2 : decide (64 < (m : Int)) = false := by simp; omega
  go_enter Try.func55, Try.ntmps55
  go_wp2_with (first
    | ((with_reducible refine wl_build rfl 151 _ rfl _ ?hv _ bw ?hk); case hv => rfl)
    | ((with_reducible refine wl_box rfl 151 (.tmp 10) _ [.slice none 0 0] rfl rfl rfl ?_); intro gw wa ra pa la ba))
  clear d1 d2
  go_loopw [13] (fun iv wr => ∃ (i : Nat) (nv : Value) (ls : List Way), i ≤ m ∧ iv = .int .i64 i ∧ NetAt wr w.heap.size gw nv ls ∧ ls.length = i ∧ (∀ l ∈ ls, l.bare) ∧ Below w.heap.size w wr) (fun iv _ => m - (intOf iv).toNat)
  case atStart => exact ⟨0, _, [], by omega, rfl, ⟨ra, pa, World.ownsRow_nil _ _ _ _, fun l hl => (by cases hl), fun i j l l' h => (by simp at h)⟩, rfl, fun l hl => (by cases hl), ba⟩
  case round =>
    clear ra
    obtain ⟨i, nv, ls, him, rfl, hN, hlen, hbare, hBw⟩ := hrel
    by_cases hi : i < m
    · go_wp2_with fail
      rename_i K6 hK6
      have hB : w.heap.size ≤ wr.heap.size := hBw.size
      have hl64 : ls.length ≤ 64 := by omega
      generalize hBe : w.heap.size = B at hB hN
      refine wp_region_valsS [5, 6, 7, 10] (SNw gw nv) (NJ wr B gw nv ls) (by kernel_rfl) (by kernel_rfl) (by kernel_rfl) (by kernel_rfl) ?ini6 ?obs6 ?he6
      case ini6 => exact ⟨⟨rfl, rfl, rfl, Nat.le_refl _, fun _ _ _ => rfl⟩, fun _ => hN.row, fun _ => hN.own, fun h => (by cases h)⟩
      case obs6 =>
        refine ⟨?_, ?_, ?_, ?_, ?_, ?_, ?_, ?_, ?_, ?_, ?_, trivial⟩
        · refine .inl ⟨.inl rfl, ?_⟩
          exact .inl ⟨by kernel_rfl, fun L a1 w1 n h => ⟨_, rfl, run_move (.tmp 3) rfl (h.var n 3 (by kernel_rfl))⟩⟩
        · refine .inl ⟨.inl rfl, ?_⟩
          exact .inl ⟨by kernel_rfl, fun L a1 w1 n h => ⟨_, rfl, run_move (.tmp 3) rfl (h.var n 3 (by kernel_rfl))⟩⟩
        · refine .inl ⟨.inl rfl, ?_⟩
          refine .inl ⟨by kernel_rfl, fun L a1 w1 n h => ⟨ptr gw, rfl, ?_⟩⟩
          have e0 : a1.eval (.tmp 16) = _ := h.dep n 1 16 (by kernel_rfl) rfl
          unfold execOp
          simp only [e0]
          go_simp
        · refine .inl ⟨.inl rfl, ?_⟩
          refine .inl ⟨by kernel_rfl, fun L a1 w1 n h => ⟨ptr gw, rfl, ?_⟩⟩
          have e0 : a1.eval (.tmp 17) = _ := h.dep n 2 17 (by kernel_rfl) rfl
          unfold execOp
          simp only [e0]
          go_simp
        · refine .inl ⟨.inl rfl, ?_⟩
          exact .inl ⟨by kernel_rfl, fun L a1 w1 n h => ⟨_, rfl, run_loadA 149 (.tmp 18) ⟨gw, 0, none⟩ rfl Try.isAgg149 (h.dep n 3 18 (by kernel_rfl) rfl) ((h.inv.2.1 (n.later (by kernel_rfl))).cell (j := 0) (v := nv) rfl)⟩⟩
        · refine .inl ⟨.inl rfl, ?_⟩
          refine .inr fun L a1 w1 n h K hK => ?_
          have n1 : L.getD 6 false = false := n.later (by kernel_rfl)
          have n2 : L.getD 7 false = false := n.later (by kernel_rfl)
          have n3 : L.getD 10 false = false := n.later (by kernel_rfl)
          obtain ⟨q0, q1, q2, q3⟩ := h.inv
          refine st_call 104 _ _ #[] rfl Try.call104 (by simp) (newLane_any w1) ?_
          rintro e w3 ⟨l, rfl, hl, hf, hg, b9⟩
          exact ⟨_, rfl, hK _ w3 trivial ⟨q0.trans (Buts.of b9 _), fun _ => (q1 n3).later b9, fun _ => own_buts (q2 n2) (Buts.of b9 []) (fun k hk => by simp), fun _ => ⟨l, rfl, hl.mono (Nat.le_trans hB q0.size), ⟨hf, hg⟩, fun k hk => Nat.le_trans q0.size (hl.lo k hk).1, fun h1 => absurd h1 (no_bit n1), fun h1 => absurd h1 (no_bit n2), fun h1 => absurd h1 (no_bit n3)⟩⟩⟩
        · refine .inl ⟨.inl rfl, ?_⟩
          refine .inr fun L a1 w1 n h K hK => ?_
          have y0 : L.getD 5 false = true := n.dep (by kernel_rfl)
          have n2 : L.getD 7 false = false := n.later (by kernel_rfl)
          have n3 : L.getD 10 false = false := n.later (by kernel_rfl)
          obtain ⟨q0, q1, q2, q3⟩ := h.inv
          obtain ⟨l, e20, hl, hbare, hlo, _, _, _⟩ := q3 y0
          refine st_build1 149 (.tmp 20) rfl 152 ip (.pointer none) (ptr l.gl) Try.underlying149 hip hpz hps rfl e20 rfl ?_
          intro g2 w3 r3 p3 l3 b9
          exact hK _ w3 trivial ⟨q0.trans (Buts.of b9 _), fun _ => (q1 n3).later b9, fun _ => own_buts (q2 n2) (Buts.of b9 []) (fun k hk => by simp), fun _ => ⟨l, e20, hl.later b9, hbare, hlo, fun _ => ⟨g2, rfl, fun _ => r3⟩, fun h1 => absurd h1 (no_bit n2), fun h1 => absurd h1 (no_bit n3)⟩⟩
        · refine .inl ⟨.inl rfl, ?_⟩
          refine .inr fun L a1 w1 n h K hK => ?_
          have y0 : L.getD 5 false = true := n.dep (by kernel_rfl)
          have y1 : L.getD 6 false = true := n.dep (by kernel_rfl)
          have n2 : L.getD 7 false = false := n.not_yet
          have n3 : L.getD 10 false = false := n.later (by kernel_rfl)
          obtain ⟨q0, q1, q2, q3⟩ := h.inv
          obtain ⟨l, e20, hl, hbare, hlo, hs1, _, _⟩ := q3 y0
          obtain ⟨g2, e21, r2⟩ := hs1 y1
          have ho := q2 n2
          refine st_append_at (.tmp 19) (.tmp 21) 149 rfl B 152 ip (.pointer none) 1 8 Try.underlying149 hip hpz hps hpb rfl (by decide) nv ls.length _ (h.dep n 4 19 (by kernel_rfl) rfl) ho ⟨g2, 0, none⟩ 1 1 [ptr l.gl] e21 rfl (row_src (r2 n2)) (one_ptr _) (by simp only [maxLen]; omega) (by omega) (Nat.le_trans hB q0.size) ?_
          intro v' w3 hown3 hg3 hloc
          have b8 : Buts nv.ownBlock.toList w1 w3 := buts_own hg3 (fun k hk => hk)
          exact hK _ w3 trivial ⟨q0.trans (b8.sub (fun k hk => List.mem_cons_of_mem _ hk)), fun _ => (q1 n3).buts b8 (own_not_row ho (q1 n3) (by decide)), fun h1 => absurd h1 (no_bit' rfl), fun _ => ⟨l, e20, hl.buts b8 (fun k hk hk2 => hl.not_own ho k hk2 hk) (own_notBy ho), hbare, hlo, fun _ => ⟨g2, e21, fun h1 => absurd h1 (no_bit' rfl)⟩, fun _ => ⟨hown3, hloc.imp id fun e k hk => own_at e hk q0.size⟩, fun h1 => absurd h1 (no_bit n3)⟩⟩
        · refine .inl ⟨.inl rfl, ?_⟩
          refine .inl ⟨by kernel_rfl, fun L a1 w1 n h => ⟨ptr gw, rfl, ?_⟩⟩
          have e0 : a1.eval (.tmp 15) = _ := h.dep n 0 15 (by kernel_rfl) rfl
          unfold execOp
          simp only [e0]
          go_simp
        · refine .inl ⟨.inl rfl, ?_⟩
          refine .inl ⟨by kernel_rfl, fun L a1 w1 n h => ⟨ptr gw, rfl, ?_⟩⟩
          have e0 : a1.eval (.tmp 23) = _ := h.dep n 8 23 (by kernel_rfl) rfl
          unfold execOp
          simp only [e0]
          go_simp
        · refine .inl ⟨.inl rfl, ?_⟩
          refine .inr fun L a1 w1 n h K hK => ?_
          have y0 : L.getD 5 false = true := n.dep (by kernel_rfl)
          have y1 : L.getD 6 false = true := n.dep (by kernel_rfl)
          have y2 : L.getD 7 false = true := n.dep (by kernel_rfl)
          have n3 : L.getD 10 false = false := n.not_yet
          obtain ⟨q0, q1, q2, q3⟩ := h.inv
          obtain ⟨l, e20, hl, hbare, hlo, hs1, hs2, _⟩ := q3 y0
          obtain ⟨g2, e21, r2⟩ := hs1 y1
          obtain ⟨ho, hloc⟩ := hs2 y2
          have hr := q1 n3
          obtain ⟨A3, m3, c3, e3⟩ := own_slice ho
          refine st_store 149 (.tmp 24) (.tmp 22) gw 0 151 [nv] (a1.eval (.tmp 22)) rfl sz149 (h.dep n 9 24 (by kernel_rfl) rfl) rfl hr (by simp) (by rw [show a1.eval (.tmp 22) = .slice A3 m3 c3 from e3]; rfl) ?_
          intro w3 r3 o3
          have b8 : Buts [gw] w1 w3 := Buts.only o3 (by simp)
          have hno := own_not_row ho hr (by decide)
          exact hK undef w3 trivial ⟨q0.trans (b8.sub (fun k hk => by simp at hk; subst hk; exact List.mem_cons_self ..)), fun h1 => absurd h1 (no_bit' rfl), fun h1 => absurd h1 (no_bit' y2), fun _ => ⟨l, e20, hl.buts b8 (fun k hk hk2 => by simp at hk2; subst hk2; exact hl.not_row hr (by decide) (by decide) hk) (fun k hk => by simp at hk; subst hk; exact hr.notBy (by decide)), hbare, hlo, fun _ => ⟨g2, e21, fun h1 => absurd h1 (no_bit' y2)⟩, fun _ => ⟨own_buts ho b8 (fun k hk hk2 => by simp at hk2; subst hk2; exact hno hk), hloc⟩, fun _ => r3⟩⟩
      case he6 =>
        intro V w5 hV2 hJ
        obtain ⟨q0, _, _, q3⟩ := hJ
        obtain ⟨l, _, hl, hlb, hlo, _, hs2, hs3⟩ := q3 rfl
        obtain ⟨ho, hloc⟩ := hs2 rfl
        have hr := hs3 rfl
        have hgw : ∀ k ∈ gw :: nv.ownBlock.toList, B ≤ k := by
          intro k hk
          rcases List.mem_cons.1 hk with rfl | hk
          · exact hN.lo
          · exact (own_lo hN.own k hk).1
        have hb5 : Below B wr w5 := q0.below hgw hB
        have hold : ∀ l' ∈ ls, WayAt w5 B l' := fun l' hl' => (hN.ways l' hl').buts q0 (fun k hk hk2 => by
          rcases List.mem_cons.1 hk2 with rfl | hk2
          · exact (hN.ways l' hl').not_row hN.row (by decide) (by decide) hk
          · exact (hN.ways l' hl').not_own hN.own k hk2 hk) (fun k hk => by
          rcases List.mem_cons.1 hk with rfl | hk
          · exact hN.row.notBy (by decide)
          · exact own_notBy hN.own k hk)
        subst hBe
        have hN5 : NetAt w5 w.heap.size gw _ (ls ++ [l]) := ⟨hr, hN.lo, by rw [List.length_append, List.map_append]; exact ho, fun l' hl' => by
          rcases List.mem_append.1 hl' with h | h
          · exact hold l' h
          · simp at h; subst h; exact hl, fun a b x y hx hy hab k hk hk2 => by
          have hlt := hN.ways
          rcases Nat.lt_or_ge a ls.length with ha | ha
          · rw [List.getElem?_append_left ha] at hx
            rcases Nat.lt_or_ge b ls.length with hb | hb
            · rw [List.getElem?_append_left hb] at hy
              exact hN.apart a b x y hx hy hab k hk hk2
            · rw [List.getElem?_append_right hb] at hy
              have : y = l := by
                rcases Nat.eq_zero_or_pos (b - ls.length) with h0 | h0
                · rw [h0] at hy; simp at hy; exact hy.symm
                · rw [List.getElem?_eq_none (by simp; omega)] at hy; cases hy
              subst this
              have h2 := hlo k hk2
              have h3 := ((hN.mem hx).lo k hk).2
              omega
          · rw [List.getElem?_append_right ha] at hx
            have : x = l := by
              rcases Nat.eq_zero_or_pos (a - ls.length) with h0 | h0
              · rw [h0] at hx; simp at hx; exact hx.symm
              · rw [List.getElem?_eq_none (by simp; omega)] at hx; cases hx
            subst this
            rcases Nat.lt_or_ge b ls.length with hb | hb
            · rw [List.getElem?_append_left hb] at hy
              have h2 := hlo k hk
              have h3 := ((hN.mem hy).lo k hk2).2
              omega
            · rw [List.getElem?_append_right hb] at hy
              rcases Nat.eq_zero_or_pos (b - ls.length) with h0 | h0
              · rcases Nat.eq_zero_or_pos (a - ls.length) with h0' | h0'
                · omega
                · rw [List.getElem?_eq_none (by simp; omega)] at hx; cases hx
              · rw [List.getElem?_eq_none (by simp; omega)] at hy; cases hy⟩
        have hbare5 : ∀ l' ∈ ls ++ [l], l'.bare := fun l' hl' => by
          rcases List.mem_append.1 hl' with h | h
          · exact hbare l' h
          · simp at h; subst h; exact hlb
        have hl5 : (ls ++ [l]).length = i + 1 := by simp [hlen]
        generalize ls ++ [l] = ls' at hN5 hbare5 hl5
        generalize V 7 = nv' at *
        clear hV2 q3 hs2 hs3 ho hr hold hN hbare
        have hB5 := hBw.trans hb5
        simp only [putOps, List.setIfInBounds_toArray, List.set_cons_succ, List.set_cons_zero, Nat.reduceAdd]
        refine hK6 _ _ ?_
        go_wp2
        go_roundw
        case rel => exact ⟨i + 1, _, ls', by omega, by go_num, hN5, hl5, hbare5, hB5⟩
        case measure => simp [intOf]; omega
    · obtain rfl : i = m := by omega
      go_wp2
      go_ret
      exact ⟨gw, nv, ls, rfl, hN, hlen, hbare, hBw⟩
end Go.Proofs.Ytlihoijbfffjcaa
