/-
  Ways of a net: next, pick, send: contracts. Own work.
-/
import Derived.Test.YtlihoijbfffjcaaWireA
import Derived.Test.YtlihoijbfffjcaaApp
namespace Go.Proofs.Ytlihoijbfffjcaa
open Go.RowKit Go.Conc
set_option linter.unusedVariables false
set_option linter.unusedSimpArgs false
theorem WayAt.ne_c {w : World} {B : Nat} {l : Way} (h : WayAt w B l) : l.gl ≠ l.c ∧ ∀ k ∈ l.bv.ownBlock.toList, k ≠ l.c ∧ k ≠ l.gl := by
  obtain ⟨s, r, hc⟩ := h.chan
  refine ⟨fun e => ?_, fun k hk => ⟨fun e => ?_, fun e => ?_⟩⟩
  · have := h.row; unfold Row at this; rw [e, hc] at this; cases this
  · obtain ⟨_, _, cs, hb⟩ := own_lo h.own k hk; rw [e, hc] at hb; cases hb
  · obtain ⟨_, _, cs, hb⟩ := own_lo h.own k hk
    have hr := h.row
    unfold Row at hr
    rw [e, hr] at hb
    simp at hb
theorem WayAt.notBy_c {w : World} {B : Nat} {l : Way} (h : WayAt w B l) : ∀ k ∈ [l.c], NotBy w k := fun k hk => h.notBy k (by simp at hk; subst hk; simp [Way.blocks])
theorem heap_ch (w : World) (c cap : Nat) (buf : Array Value) (cl : Bool) (s r : Nat) (tm : Bool) (h : c < w.heap.size) : (w.setChan c cap buf cl s r tm).heap[c]? = some (.chan cap buf cl s r tm) := by
  simp [World.setChan, h]
/-- The channel alone has turned. -/
theorem WayAt.moved {w : World} {B : Nat} {l : Way} (h : WayAt w B l) (g' : Nat) (hg : g' ≤ l.fs.length) {s r : Nat} (vs : List Value) (hv : vs = (l.fs.drop g').map (·.1)) : WayAt (w.setChan l.c 200 vs.toArray false s r false) B { l with gone := g' } := by
  have hb : Buts [l.c] w (w.setChan l.c 200 vs.toArray false s r false) := Buts.chan (by simp)
  obtain ⟨s0, r0, hc⟩ := h.chan
  subst hv
  exact ⟨h.row.buts hb (by simp; exact h.ne_c.1), h.lo1, h.lo2, ⟨s, r, heap_ch _ _ _ _ _ _ _ _ (blk_lt hc)⟩, own_buts h.own hb (fun k hk => by simp; exact (h.ne_c.2 k hk).1), fun p hp => (h.frames p hp).buts hb h.notBy_c, h.most, hg⟩
theorem zero35 : ∀ w, (zeroValue 35).run Try.prog w = .ok (.slice none 0 0) w := fun w => by kernel_rfl
set_option maxRecDepth 100000 in
theorem next_some (w : World) (B : Nat) (l : Way) (h : WayAt w B l) (v : Value) (xs : List Int) (hv : l.fs[l.gone]? = some (v, xs)) :
    Calls Try.prog 106 #[ptr l.gl] w fun e w' => e = .returned (.tuple #[v, .int .i64 0]) ∧ WayAt w' B { l with gone := l.gone + 1 } ∧ Buts [l.c] w w' := by
  obtain ⟨s, r, hc⟩ := h.chan
  have hlt : l.gone < l.fs.length := (List.getElem?_eq_some_iff.1 hv).1
  have hd : l.fs.drop l.gone = (v, xs) :: l.fs.drop (l.gone + 1) := by
    rw [List.drop_eq_getElem_cons hlt]
    congr 1
    have := List.getElem?_eq_getElem hlt
    rw [hv] at this
    injection this with this
    exact this.symm
  have hfin := fun s r => h.moved (l.gone + 1) hlt (s := s) (r := r) ((l.fs.drop (l.gone + 1)).map (·.1)) rfl
  have c0 := h.row.cell (j := 0) (v := .chan (some l.c)) rfl
  rw [hd, List.map_cons] at hc
  have hzz := zero35
  generalize hvs : (l.fs.drop (l.gone + 1)).map (·.1) = vs at *
  clear hd hvs hlt hv
  refine calls_of_wpN Try.func106 rfl ?_
  simp only [Try.ntmps106, List.size_toArray, List.length_cons, List.length_nil, Nat.reduceAdd, Nat.reduceSub, Array.replicate_succ, Array.replicate_zero, List.push_toArray, List.append_toArray, List.nil_append, List.cons_append]
  refine wpN_seq1 ?_
  go_wp2
  refine wpN_seq1 ?_
  go_wp2
  refine wpN_seq2 (wpN_recv (c := l.c) (z := .slice none 0 0) rfl ?hr hc ?hs ?h)
  case hr => simp [go_sem, execOp, rcase, Act.eval, hzz]
  case hs => simp
  case h =>
    have e1 : ((v, xs).1 :: vs).toArray.getD 0 undef = v := rfl
    have e2 : ((v, xs).1 :: vs).toArray.extract 1 ((v, xs).1 :: vs).toArray.size = vs.toArray := by simp
    rw [e1, e2]
    generalize hw : w.setChan l.c 200 vs.toArray false s (r + 1) false = w1
    have hfin := hfin s (r + 1)
    rw [hw] at hfin
    have hbut : Buts [l.c] w w1 := by rw [← hw]; exact Buts.chan (by simp)
    clear hw hc e1 e2
    go_wp2
    go_ret2
    exact ⟨rfl, hfin, hbut⟩
set_option maxRecDepth 100000 in
theorem next_none (w : World) (B : Nat) (l : Way) (h : WayAt w B l) (he : l.gone = l.fs.length) :
    Calls Try.prog 106 #[ptr l.gl] w fun e w' => e = .returned (.tuple #[.slice none 0 0, .int .i64 9]) ∧ w = w' := by
  obtain ⟨s, r, hc⟩ := h.chan
  rw [he, List.drop_length] at hc
  have c0 := h.row.cell (j := 0) (v := .chan (some l.c)) rfl
  have hzz := zero35
  clear he
  refine calls_of_wpN Try.func106 rfl ?_
  simp only [Try.ntmps106, List.size_toArray, List.length_cons, List.length_nil, Nat.reduceAdd, Nat.reduceSub, Array.replicate_succ, Array.replicate_zero, List.push_toArray, List.append_toArray, List.nil_append, List.cons_append]
  refine wpN_seq1 ?_
  go_wp2
  refine wpN_seq1 ?_
  go_wp2
  refine wpN_seq2 (wpN_recv_default (c := l.c) (z := .slice none 0 0) rfl ?hr hc ?h)
  case hr => simp [go_sem, execOp, rcase, Act.eval, hzz]
  case h =>
    go_wp2
    go_ret2
    exact ⟨rfl, rfl⟩
/-- A frame that was sent once. -/
theorem pick_some (w : World) (B : Nat) (l : Way) (h : WayAt w B l) (k : Nat) (v : Value) (xs : List Int) (hv : l.fs[k]? = some (v, xs)) :
    Calls Try.prog 108 #[ptr l.gl, .int .i64 k] w fun e w' => e = .returned (.tuple #[v, .int .i64 0]) ∧ w = w' := by
  have hlt : k < l.fs.length := (List.getElem?_eq_some_iff.1 hv).1
  have hm := h.most
  have c1 := h.row.cell (j := 1) (v := l.bv) rfl
  obtain ⟨hl, ho⟩ := h.own
  rcases ho with ⟨_, h0⟩ | ⟨g, cap, cur, hbv, _, hg, h1, h2, h3, h4⟩
  · omega
  · have e : (cur.toList.take (l.fs.length * 1))[k]? = (l.fs.map (·.1))[k]? := by rw [h4]
    rw [Nat.mul_one, List.getElem?_take, if_pos hlt, List.getElem?_map, hv, Option.map_some] at e
    have ck : w.cell? ⟨g, k, none⟩ = some v := by rw [cell_of_row w g k cur _ (0, 0) hg, ← Array.getElem?_toList]; exact e
    rw [hbv] at c1
    have hk0 : ¬ (k : Int) < 0 := by omega
    have hd2 : decide ((l.fs.length : Int) ≤ (k : Int)) = false := by simp; omega
    generalize l.fs.length = nn at *
    clear e h4 h3 hg hv hl
    go_enter Try.func108, Try.ntmps108
    go_wp2
    go_ret2
    exact ⟨rfl, rfl⟩
theorem pick_none (w : World) (B : Nat) (l : Way) (h : WayAt w B l) (k : Int) (hk : k < 0 ∨ (l.fs.length : Int) ≤ k) :
    Calls Try.prog 108 #[ptr l.gl, .int .i64 k] w fun e w' => e = .returned (.tuple #[.slice none 0 0, .int .i64 9]) ∧ w = w' := by
  have c1 := h.row.cell (j := 1) (v := l.bv) rfl
  have hlen : ∃ A c, l.bv = .slice A l.fs.length c := by
    rcases h.own.2 with ⟨e, h0⟩ | ⟨g, cap, cur, e, _⟩
    · exact ⟨none, 0, by rw [e, h0]⟩
    · exact ⟨_, _, e⟩
  obtain ⟨A, c, e⟩ := hlen
  rw [e] at c1
  generalize l.fs.length = nn at *
  by_cases h0 : k < 0
  · have d0 : decide (k < 0) = true := by simp; omega
    go_enter Try.func108, Try.ntmps108
    go_wp2
    go_ret2
    exact ⟨rfl, rfl⟩
  · have d0 : decide (k < 0) = false := by simp; omega
    have d1 : decide ((nn : Int) ≤ k) = true := by simp; omega
    go_enter Try.func108, Try.ntmps108
    go_wp2
    go_ret2
    exact ⟨rfl, rfl⟩
theorem sl35_ : (Try.prog.info? 35).map (fun i => (i.zero, i.size, i.bytes)) = some (some (.slice none 0 0), 1, 24) := by kernel_rfl
theorem sl35 : ∃ i, Try.prog.info? 35 = some i ∧ i.zero = some (.slice none 0 0) ∧ i.size = 1 ∧ i.bytes = 24 := by
  have := sl35_
  cases hq : Try.prog.info? 35 with
  | none => rw [hq] at this; cases this
  | some i => rw [hq] at this; simp at this; exact ⟨i, rfl, this.1, this.2.1, this.2.2⟩
theorem sz122 : (Try.prog.info? 122).map (·.size) = some 1 := by kernel_rfl
theorem one_sl (A : Option Addr) (n c : Nat) : ∀ u ∈ [Value.slice A n c], u.oneCell' = true := by intro u hu; simp at hu; subst hu; rfl
theorem own_slice {w : World} {B e n : Nat} {v : Value} {xs : List Value} (h : w.ownsRow B e 1 v n xs) : ∃ A m c, v = .slice A m c := by
  rcases h.2 with ⟨rfl, _⟩ | ⟨g, cap, cur, rfl, _⟩
  · exact ⟨_, _, _, rfl⟩
  · exact ⟨_, _, _, rfl⟩
theorem row_grown {w w' : World} {t g : Nat} {vs : List Value} {r : Option Nat} (h : Row w t g vs) (hg : w.grownBy w' r) (hne : ∀ k ∈ r.toList, k ≠ g) : Row w' t g vs := (hg.block g h.lt (fun e => hne g (by rw [← e]; simp) rfl)).trans h
theorem buts_own {w w' : World} {S : List Nat} {r : Option Nat} (hg : w.grownBy w' r) (hS : ∀ k ∈ r.toList, k ∈ S) : Buts S w w' :=
  ⟨hg.os, hg.tape, hg.output, hg.size, fun k hk hn => hg.block k hk (fun e => hn (hS k (by rw [← e]; simp)))⟩
theorem set2 {w : World} {t g : Nat} {x y z : Value} (h : Row w t g ([x, y].set 1 z)) : Row w t g [x, z] := h
theorem lt2 (x y : Value) {j : Nat} (h : j < 2) : j < [x, y].length := h
set_option maxRecDepth 100000 in
theorem send_full (w : World) (B : Nat) (l : Way) (h : WayAt w B l) (he : l.fs.length = 200) (v : Value) :
    Calls Try.prog 109 #[ptr l.gl, v] w fun e w' => e = .returned (.int .i64 10) ∧ w = w' := by
  have c1 := h.row.cell (j := 1) (v := l.bv) rfl
  have hlen : ∃ A c, l.bv = .slice A 200 c := by
    rcases h.own.2 with ⟨e, h0⟩ | ⟨g, cap, cur, e, _⟩
    · omega
    · exact ⟨_, _, by rw [e, he]⟩
  obtain ⟨A, c, e⟩ := hlen
  rw [e] at c1
  clear he
  go_enter Try.func109, Try.ntmps109
  go_wp2
  go_ret
  exact ⟨rfl, rfl⟩
/-- A way with one frame more. -/
def Way.sent (l : Way) (v : Value) (xs : List Int) (bv : Value) : Way := { l with bv := bv, fs := l.fs ++ [(v, xs)] }
set_option maxRecDepth 100000 in
set_option maxHeartbeats 1000000 in
theorem send_room (w : World) (B : Nat) (hBw : B ≤ w.heap.size) (l : Way) (h : WayAt w B l) (hlt : l.fs.length < 200) (A : Option Addr) (n c : Nat) (xs : List Int) (hv : ByV w (.slice A n c) xs) :
    Calls Try.prog 109 #[ptr l.gl, .slice A n c] w fun e w' => e = .returned (.int .i64 0) ∧ ∃ bv, WayAt w' B (l.sent (.slice A n c) xs bv) ∧ Buts l.blocks w w' ∧ (bv.ownBlock = l.bv.ownBlock ∨ ∀ k ∈ bv.ownBlock.toList, w.heap.size ≤ k) := by
  obtain ⟨s, r, hc⟩ := h.chan
  obtain ⟨i0, hi0, hz0, hs0, hb0⟩ := sl35
  have c0 := h.row.cell (j := 0) (v := .chan (some l.c)) rfl
  have c1 := h.row.cell (j := 1) (v := l.bv) rfl
  have hlen : ∃ A c, l.bv = .slice A l.fs.length c := by
    rcases h.own.2 with ⟨e, h0⟩ | ⟨g, cap, cur, e, _⟩
    · exact ⟨none, 0, by rw [e, h0]⟩
    · exact ⟨_, _, e⟩
  obtain ⟨A1, cp, ebv⟩ := hlen
  have hd : decide ((l.fs.length : Int) < 200) = true := by simp; omega
  have hzz := zero35
  have hroom := h.gone
  have hB1 : Buts [l.c] w (w.setChan l.c 200 (((l.fs.drop l.gone).map (·.1)).toArray.push (.slice A n c)) false (s + 1) r false) := Buts.chan (by simp)
  have hc1 := heap_ch w l.c 200 (((l.fs.drop l.gone).map (·.1)).toArray.push (.slice A n c)) false (s + 1) r false (blk_lt hc)
  generalize hw1 : w.setChan l.c 200 (((l.fs.drop l.gone).map (·.1)).toArray.push (.slice A n c)) false (s + 1) r false = w1 at hB1 hc1
  have hrow1 := h.row.buts hB1 (by simp; exact h.ne_c.1)
  have hown1 := own_buts h.own hB1 (fun k hk => by simp; exact (h.ne_c.2 k hk).1)
  have hfr1 : ∀ p ∈ l.fs, ByV w1 p.1 p.2 := fun p hp => (h.frames p hp).buts hB1 h.notBy_c
  have hv1 : ByV w1 (.slice A n c) xs := hv.buts hB1 h.notBy_c
  have hsz1 : w.heap.size ≤ w1.heap.size := hB1.size
  have H := hide h
  have HW := hide hw1
  clear hw1 h
  rw [ebv] at c1
  refine calls_of_wpN Try.func109 rfl ?_
  simp only [Try.ntmps109, List.size_toArray, List.length_cons, List.length_nil, Nat.reduceAdd, Nat.reduceSub, Array.replicate_succ, Array.replicate_zero, List.push_toArray, List.append_toArray, List.nil_append, List.cons_append]
  refine wpN_seq1 ?_
  go_wp2
  refine wpN_seq ?_
  refine wpN_seq1 ?_
  go_wp2
  refine wpN_cond true rfl ?_
  simp only [if_true]
  refine wpN_seq1 ?_
  go_wp2
  refine wpN_seq2 (wpN_send (c := l.c) (v := .slice A n c) (z := .slice none 0 0) rfl ?hr hc ?hs ?h)
  case hr => simp [go_sem, execOp, scase, Act.eval, hzz]
  case hs => simp; omega
  case h =>
    rw [HW.out]
    clear c0 c1 hc
    have c1 := hrow1.cell (j := 1) (v := l.bv) rfl
    rw [ebv] at c1
    rw [ebv] at hown1
    have ne1 := hide H.out.ne_c
    rw [ebv] at ne1
    rw [ebv] at hrow1
    go_wp2_with (first
      | ((with_reducible refine wl_build1 rfl 122 (.tmp 24) rfl 35 i0 (.slice none 0 0) (.slice A n c) Try.underlying122 hi0 hz0 hs0 rfl rfl rfl ?_); intro g2 w2 r2 p2 l2 b2; have hown2 := own_buts hown1 (Buts.of b2 []) (fun k hk => by simp); have hrow2 := hrow1.later b2)
      | ((with_reducible refine wl_append_at rfl (.tmp 23) (.tmp 25) 122 rfl B 35 i0 (.slice none 0 0) 1 24 Try.underlying122 hi0 hz0 hs0 hb0 rfl (by decide) (.slice A1 l.fs.length cp) l.fs.length _ rfl hown2 ⟨g2, 0, none⟩ 1 1 [.slice A n c] rfl rfl (row_src r2) (one_sl _ _ _) (by simp only [maxLen]; omega) (by omega) (Nat.le_trans hBw (Nat.le_trans hsz1 b2.size)) ?_); intro bv' w3 hown3 hg3 hloc; obtain ⟨A3, n3, c3, rfl⟩ := own_slice hown3; have hrow3 := row_grown hrow2 hg3 (fun k hk => (ne1.out.2 k hk).2))
      | ((with_reducible refine wl_store rfl 122 (.tmp 28) (.tmp 26) l.gl 1 166 [.chan (some l.c), .slice A1 l.fs.length cp] (.slice A3 n3 c3) rfl sz122 rfl rfl hrow3 (lt2 _ _ (by decide)) rfl ?_); intro w4 r4 o4))
    go_ret
    have L := H.out
    have hbk : l.blocks = l.gl :: l.c :: (Value.slice A1 l.fs.length cp).ownBlock.toList := by rw [Way.blocks, ebv]
    have q1 : Buts l.blocks w w1 := hB1.sub (by rw [hbk]; simp)
    have q3 : Buts l.blocks w2 w3 := buts_own hg3 (fun k hk => by rw [hbk]; exact List.mem_cons_of_mem _ (List.mem_cons_of_mem _ hk))
    have qa : Buts l.blocks w w4 := ((q1.trans (Buts.of b2 _)).trans q3).trans (Buts.only o4 (by rw [hbk]; simp))
    have hlc : l.c < w1.heap.size := blk_lt hc1
    have hlg : l.gl < w2.heap.size := hrow2.lt
    have hc4 : w4.heap[l.c]? = w1.heap[l.c]? := by
      rw [o4.block l.c L.ne_c.1.symm, hg3.block l.c (Nat.lt_of_lt_of_le hlc b2.size) (fun e => (ne1.out.2 l.c (by rw [← e]; simp)).1 rfl), b2.block l.c hlc]
    have hown4 := own_buts hown3 (Buts.only (S := [l.gl]) o4 (by simp)) (fun k hk => by
      simp
      rcases hloc with e | e
      · exact (ne1.out.2 k (by rw [← e]; exact hk)).2
      · rw [e] at hk; simp at hk; omega)
    refine ⟨rfl, _, ⟨set2 r4, L.lo1, L.lo2, ⟨s + 1, r, ?_⟩, ?_, ?_, ?_, ?_⟩, qa, ?_⟩
    · show w4.heap[l.c]? = _
      rw [hc4, hc1]
      congr 2
      show _ = (((l.fs ++ [(Value.slice A n c, xs)]).drop l.gone).map (·.1)).toArray
      rw [List.drop_append_of_le_length hroom]
      simp
    · show w4.ownsRow B _ 1 _ (l.fs ++ [(Value.slice A n c, xs)]).length ((l.fs ++ [(Value.slice A n c, xs)]).map (·.1))
      rw [List.length_append, List.map_append]
      exact hown4
    · intro p hp
      have hp' : p ∈ l.fs ++ [(Value.slice A n c, xs)] := hp
      rcases List.mem_append.1 hp' with hp | hp
      · exact (L.frames p hp).buts qa L.notBy
      · simp at hp; subst hp; exact hv.buts qa L.notBy
    · show (l.fs ++ [(Value.slice A n c, xs)]).length ≤ 200
      simp; omega
    · show l.gone ≤ (l.fs ++ [(Value.slice A n c, xs)]).length
      simp; omega
    · rcases hloc with e | e
      · exact .inl (by rw [ebv]; exact e)
      · refine .inr fun k hk => ?_
        rw [e] at hk; simp at hk; subst hk
        exact Nat.le_trans hsz1 b2.size
end Go.Proofs.Ytlihoijbfffjcaa
