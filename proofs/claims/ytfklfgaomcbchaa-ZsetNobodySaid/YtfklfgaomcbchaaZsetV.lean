/-
  The document's sets: Put: contract. Own work.
-/
import Derived.Test.YtfklfgaomcbchaaZsetU
namespace Go.Proofs.Ytfklfgaomcbchaa
open Go.RowKit Go.Shelf
set_option linter.unusedVariables false
set_option linter.unusedSimpArgs false
theorem scsC_get : ∀ (l : List Sc) (j : Nat) (u : Value), (scsC l)[j]? = some u → ∃ i a q, l[i]? = some a ∧ a.cells[q]? = some u ∧ j = i * 2 + q
  | [], j, u, h => by simp at h
  | b :: r, j, u, h => by
    have h : (b.cells ++ scsC r)[j]? = some u := h
    by_cases hj : j < 2
    · rw [List.getElem?_append_left hj] at h
      exact ⟨0, b, j, rfl, h, by omega⟩
    · rw [List.getElem?_append_right (by show 2 ≤ j; omega)] at h
      obtain ⟨i, a, q, h1, h2, h3⟩ := scsC_get r (j - 2) u h
      exact ⟨i + 1, a, q, by simpa using h1, h2, by omega⟩
theorem ScV.src {w : World} {A : Option Addr} {n c : Nat} {l : List Sc} (h : ScV w (.slice A n c) l) : n = l.length ∧ l.length ≤ c ∧ (l ≠ [] → ∃ g, A = some ⟨g, 0, none⟩ ∧ ∀ j u, (scsC l)[j]? = some u → w.cell? ⟨g, j, none⟩ = some u) := by
  rcases h with ⟨rfl, A', c', e⟩ | ⟨g, cap, e, hg, hc, h⟩
  · injection e with q1 q2 q3
    exact ⟨q2, Nat.zero_le _, fun h => absurd rfl h⟩
  · injection e with q1 q2 q3
    subst q3
    refine ⟨q2, hc, fun _ => ⟨g, q1, fun j u hj => ?_⟩⟩
    obtain ⟨i, a, q, h1, h2, h3⟩ := scsC_get l j u hj
    rw [h3]; exact h i a h1 q u h2
theorem one_scs (l : List Sc) : ∀ u ∈ scsC l, u.oneCell' = true := by
  intro u hu
  obtain ⟨a, _, h⟩ := List.mem_flatMap.1 hu
  exact one_sc a u h
def SPt7 (ga g7 i c : Nat) (Lx : List Sc) (a : Sc) (m : Nm) (s : Int) (rr : Bool) (opn : Nat) (v : Value) : Prop :=
  match opn with
  | 0 => v = .slice (some ⟨ga, 0, none⟩) Lx.length c
  | 1 => v = .int .i64 (i : Int)
  | 2 => v = .pointer (some ⟨ga, 0 + i * 2, none⟩)
  | 3 => v = .agg a.cells.toArray
  | 4 => v = .agg [encStr m, .int .i64 s].toArray
  | 5 => v = .bool rr
  | _ => True

set_option maxRecDepth 100000 in
set_option maxHeartbeats 2000000 in
/-- Put. -/
theorem rput_any (w : World) (v : Value) (l : List Sc) (m : Nm) (s : Int) (h : ScV w v l) (hl : l.length ≤ 999999) (hr : Rising l) : Calls Try.prog 29 #[v, encStr m, .int .i64 s] w fun e w' => ∃ v', e = .returned v' ∧ OwnS w' w.heap.size v' (putS l ⟨m, s⟩) ∧ Below w.heap.size w w' := by
  obtain ⟨ip, hip, hiz, his, hib⟩ := score_info
  have HD := rdrop_any w v l m h (by omega)
  have hrL : Rising (dropS l m) := dropS_rise hr
  have hlL : (dropS l m).length ≤ 999999 := Nat.le_trans (List.length_filter_le _ _) hl
  unfold putS
  rw [show l.filter (fun a => !(a.m == m)) = dropS l m from rfl] at HD
  show Calls _ _ _ _ fun e w' => ∃ v', e = .returned v' ∧ OwnS w' w.heap.size v' (putAt (dropS l m) (nAhead ⟨m, s⟩ (dropS l m)) ⟨m, s⟩) ∧ Below w.heap.size w w'
  generalize dropS l m = Lx at *
  have hah := fun i a h => ahead_iff (x := ⟨m, s⟩) hrL i a h
  obtain ⟨k, hk⟩ : ∃ k, k = nAhead ⟨m, s⟩ Lx := ⟨_, rfl⟩
  have hkl : k ≤ Lx.length := by rw [hk]; exact nAhead_le _ _
  rw [← hk] at hah ⊢
  have hlI : (Lx.length : Int) ≤ 999999 := by omega
  replace hah := hide hah
  clear hk h hl hr hrL
  go_enter Try.func29, Try.ntmps29
  go_wp2_with fail
  refine HD.mono ?_
  rintro e w1 ⟨v1, rfl, own1, B1⟩
  clear HD
  have hv1 := own_scv own1
  obtain ⟨A, c, rfl⟩ := hv1.sl
  go_wp2_with (first
    | (with_reducible refine wl_build (o := ⟨some 16, _, _, _, _, _⟩) rfl 35 [(0, .tmp 14), (1, .tmp 15)] rfl [(0, encStr m), (1, .int .i64 s)] rfl [encStr m, .int .i64 s] (builtSc m s) ?_)
    | (with_reducible refine wl_alloc (o := ⟨some 7, _, _, _, _, _⟩) rfl 35 _ [encStr [], .int .i64 0] rfl rfl rfl ?_; intro g7 w4 r4 p4 l4 b4)
    | (with_reducible refine wl_store_row rfl 35 (.tmp 7) (.tmp 16) g7 35 _ [encStr m, .int .i64 s] rfl rfl rfl r4 (szSc ⟨m, s⟩) rfl (by simp [Value.oneCell', encStr]) ?_; intro w5 r5 o5))
  have B5 : Below w1.heap.size w1 w5 := b4.trans (o5.below p4)
  have hv5 := hv1.later B5
  have BW5 := B1.trans (B5.mono B1.size)
  clear hv1 own1 b4 o5 r4 p4 l4 B1 B5
  go_loopw [8, 9] (fun av iv wr => ∃ i : Nat, i ≤ Lx.length ∧ iv = .int .i64 (i : Int) ∧ av = .int .i64 ((min i k : Nat) : Int) ∧ Below w5.heap.size w5 wr) (fun _ iv _ => Lx.length - (intOf iv).toNat)
  case atStart => exact ⟨0, by omega, rfl, by rw [Nat.zero_min]; rfl, Below.refl _ _⟩
  case round =>
    obtain ⟨i, hi, rfl, rfl, BW⟩ := hrel
    have hwb := BW.size
    have r7 := r5.later BW
    have hvr := hv5.later BW
    by_cases hlt : i < Lx.length
    · have hltI : (i : Int) < (Lx.length : Int) := by omega
      obtain ⟨a, ha⟩ : ∃ a, Lx[i]? = some a := ⟨_, List.getElem?_eq_getElem hlt⟩
      obtain ⟨ga, ca, e, hga, x1, x2, x3⟩ := hvr.at ha
      injection e with q1 q2 q3
      subst q1
      subst q3
      clear q2 x1 x2 x3
      have hac : ∀ w1, Below wr.heap.size wr w1 → ∀ j u, a.cells[j]? = some u → w1.cell? ⟨ga, (0 + i * 2) + j, none⟩ = some u := by
        intro w1 hb1 j u hj
        obtain ⟨g, cc, e, _, _, _, hc⟩ := (hvr.later hb1).at ha
        injection e with q1 q2 q3
        injection q1 with q1
        injection q1 with q1
        subst q1
        rw [Nat.zero_add]; exact hc j u hj
      obtain ⟨rr, hrr⟩ : ∃ rr, rr = a.less ⟨m, s⟩ := ⟨_, rfl⟩
      have HLs := fun w => rless_any w a ⟨m, s⟩
      rw [← hrr] at HLs
      rw [hah.out i a ha] at hrr
      replace hlt := hide hlt
      replace ha := hide ha
      replace hrr := hide hrr
      go_wp2_with fail
      rename_i K6 hK6
      refine wp_region_vals [5] (SPt7 ga g7 i c Lx a m s rr) (fun _ _ wz => Below wr.heap.size wr wz) (by kernel_rfl) (by kernel_rfl) (by kernel_rfl) (by kernel_rfl) (by kernel_rfl) ((Below.refl _ _).drew) ?obs6 ?he6
      case obs6 =>
        refine ⟨?_, ?_, ?_, ?_, ?_, ?_, trivial⟩
        · exact .inl ⟨by kernel_rfl, fun L a1 w1 n h => ⟨_, rfl, run_move (.tmp 0) rfl (h.var n 0 (by kernel_rfl))⟩⟩
        · exact .inl ⟨by kernel_rfl, fun L a1 w1 n h => ⟨_, rfl, run_move (.tmp 9) rfl (h.var n 9 (by kernel_rfl))⟩⟩
        · exact .inl ⟨by kernel_rfl, fun L a1 w1 n h => ⟨_, rfl, run_indexSlN 26 (.tmp 23) (.tmp 24) 35 2 ga 0 Lx.length c i rfl Try.underlying26 Try.sizeOf35 (h.dep n 0 23 (by kernel_rfl) rfl) (h.dep n 1 24 (by kernel_rfl) rfl) hlt.out⟩⟩
        · exact .inl ⟨by kernel_rfl, fun L a1 w1 n h => ⟨_, rfl, run_loadCs 35 (.tmp 25) ga (0 + i * 2) a.cells _ rfl (h.dep n 2 25 (by kernel_rfl) rfl) (hac w1 h.inv) Try.underlying35 rfl (szSc a)⟩⟩
        · exact .inl ⟨by kernel_rfl, fun L a1 w1 n h => ⟨_, rfl, run_loadRow 35 (.tmp 7) g7 35 [encStr m, .int .i64 s] _ rfl (h.var n 7 (by kernel_rfl)) (Row.later r7 h.inv) Try.underlying35 rfl (szSc ⟨m, s⟩)⟩⟩
        · refine .inr fun L a1 w1 n h K hK => ?_
          have e0 : a1.eval (.tmp 26) = .agg a.cells.toArray := h.dep n 3 26 (by kernel_rfl) rfl
          have e1 : a1.eval (.tmp 27) = .agg [encStr m, .int .i64 s].toArray := h.dep n 4 27 (by kernel_rfl) rfl
          refine st_call 27 _ _ #[.agg a.cells.toArray, .agg [encStr m, .int .i64 s].toArray] rfl Try.call27 ?_ (HLs w1) ?_
          · simp only [List.map_toArray, List.map_cons, List.map_nil, e0, e1]
          · rintro e w3 ⟨rfl, b9⟩
            exact ⟨_, rfl, hK _ w3 rfl (h.inv.trans (b9.mono h.inv.size))⟩
      case he6 =>
        intro V w11 hV hJ
        have b11 : Below wr.heap.size wr w11 := hJ
        have hE : V 5 = .bool rr := hV 5 _ rfl
        clear hV hJ HLs
        simp only [putOps, List.setIfInBounds_toArray, List.set_cons_succ, List.set_cons_zero, Nat.reduceAdd]
        rw [hE]
        refine hK6 _ _ ?_
        have B11 := BW.trans (b11.mono hwb)
        cases rr with
        | true =>
          go_wp2_with fail
          go_roundw
          case rel =>
            have : i < k := by have := hrr.out; simpa using this.symm
            exact ⟨i + 1, by have := hlt.out; omega, by go_num, by rw [show min (i + 1) k = i + 1 by omega]; go_num, B11⟩
          case measure => have := hlt.out; simp [intOf]; omega
        | false =>
          go_wp2_with fail
          go_roundw
          case rel =>
            have : ¬ i < k := by have := hrr.out; simpa using this.symm
            exact ⟨i + 1, by have := hlt.out; omega, by go_num, by rw [show min (i + 1) k = min i k by omega], B11⟩
          case measure => have := hlt.out; simp [intOf]; omega
    · obtain rfl : i = Lx.length := by omega
      rw [show min Lx.length k = k by omega]
      obtain ⟨_, hcap, hsrc⟩ := hvr.src
      have hsplit : scsC Lx = scsC (Lx.take k) ++ scsC (Lx.drop k) := by rw [← scsC_app, List.take_append_drop]
      have htl : (scsC (Lx.take k)).length = k * 2 := by rw [scsC_len, List.length_take, Nat.min_eq_left hkl]
      have hdl : (scsC (Lx.drop k)).length = (Lx.length - k) * 2 := by rw [scsC_len, List.length_drop]
      have hA1 : A = none → k = 0 := fun e => by
        by_cases hne : Lx = []
        · rw [hne] at hkl; simpa using hkl
        · obtain ⟨g, e2, _⟩ := hsrc hne; rw [e] at e2; cases e2
      have hsrc1 : ∀ ad, A = some ad → ∀ j u, (scsC (Lx.take k))[j]? = some u → wr.cell? (ad.add j) = some u := by
        intro ad e j u hj
        by_cases hne : Lx = []
        · rw [hne] at hj; simp at hj
        · obtain ⟨g, e2, hc⟩ := hsrc hne
          obtain rfl := Option.some.inj (e.symm.trans e2)
          rw [addr_plain, Nat.zero_add]
          refine hc j u ?_
          rw [hsplit, List.getElem?_append_left (List.getElem?_eq_some_iff.1 hj).1]; exact hj
      have hA2 : (if c = k then A else A.map (·.add (k * 2))) = none → Lx.length - k = 0 := fun e => by
        by_cases hne : Lx = []
        · rw [hne]; simp
        · obtain ⟨g, e2, _⟩ := hsrc hne
          by_cases hck : c = k
          · omega
          · rw [if_neg hck, e2] at e; cases e
      have hsrc2 : ∀ wz, Below wr.heap.size wr wz → ∀ ad, (if c = k then A else A.map (·.add (k * 2))) = some ad → ∀ j u, (scsC (Lx.drop k))[j]? = some u → wz.cell? (ad.add j) = some u := by
        intro wz hbz ad e j u hj
        have hjl := (List.getElem?_eq_some_iff.1 hj).1
        by_cases hne : Lx = []
        · rw [hne] at hj; simp at hj
        · obtain ⟨g, e2, hc⟩ := ((hvr.later hbz).src).2.2 hne
          rw [if_neg (by omega), e2] at e
          obtain rfl := Option.some.inj e
          show wz.cell? (Addr.add (Addr.add ⟨g, 0, none⟩ (k * 2)) j) = _
          rw [addr_plain, addr_plain, Nat.zero_add]
          refine hc (k * 2 + j) u ?_
          rw [hsplit, List.getElem?_append_right (by omega), htl, show k * 2 + j - k * 2 = j by omega]; exact hj
      have hS1 := fun w => run_sliceTo (P := Try.prog) w 26 35 2 Try.underlying26 Try.sizeOf35 A Lx.length c .i64 (k : Int) k rfl (Nat.le_trans hkl hcap)
      have hS2 := fun w => run_sliceFromN (P := Try.prog) w 26 35 2 Try.underlying26 Try.sizeOf35 A Lx.length c .i64 k hkl
      have ho1 := one_scs (Lx.take k)
      have ho2 := one_scs (Lx.drop k)
      have h02 : 0 < 2 := by decide
      have hm1 : 0 + k ≤ maxLen := by simp only [maxLen]; omega
      have hb1 : (0 + k) * 24 ≤ 140737488355328 := by omega
      have hm2 : 0 + k + 1 ≤ maxLen := by simp only [maxLen]; omega
      have hb2 : (0 + k + 1) * 24 ≤ 140737488355328 := by omega
      have hm3 : 0 + k + 1 + (Lx.length - k) ≤ maxLen := by simp only [maxLen]; omega
      have hb3 : (0 + k + 1 + (Lx.length - k)) * 24 ≤ 140737488355328 := by omega
      generalize (if c = k then A else A.map (·.add (k * 2))) = A2 at *
      have hvr2 := hide hvr
      have hcap2 := hide hcap
      have hsp := hide hsplit
      have hhl := hide hkl
      generalize hT : scsC (Lx.take k) = T1 at *
      generalize hD : scsC (Lx.drop k) = T2 at *
      replace hT := hide hT
      replace hD := hide hD
      replace hsrc1 := hide hsrc1
      replace hsrc2 := hide hsrc2
      replace hA1 := hide hA1
      replace hA2 := hide hA2
      replace htl := hide htl
      replace hdl := hide hdl
      replace ho1 := hide ho1
      replace ho2 := hide ho2
      have hkI : (k : Int) ≤ (Lx.length : Int) := by omega
      clear hvr hcap hsrc hsplit
      go_wp2_with (first
        | ((at_builtin; with_reducible refine wl_append_src (o := ⟨some 35, _, _, _, _, _⟩) rfl (.tmp 31) (.tmp 34) 26 rfl wr.heap.size 35 ip _ 2 24 Try.underlying26 hip hiz his hib rfl h02 (.slice none 0 0) 0 [] rfl (World.ownsRow_nil _ _ _ _) A k c T1 rfl htl.out hA1.out hsrc1.out ho1.out hm1 hb1 (Nat.le_refl _) ?_); intro v8 w8 own8 gr8; have B8 : Below wr.heap.size wr w8 := (Below.refl _ _).grown gr8 (Nat.le_refl _) (fun k hk => by cases hk); have r78 := r7.later B8; have z8 := B8.size)
        | (with_reducible refine wl_load_row (o := ⟨some 37, _, _, _, _, _⟩) rfl 35 (.tmp 7) g7 35 [encStr m, .int .i64 s] _ rfl rfl r78 Try.underlying35 rfl (szSc ⟨m, s⟩) ?_)
        | ((with_reducible refine wl_build1B (o := ⟨some 38, _, _, _, _, _⟩) rfl 26 (.tmp 37) rfl 35 ip _ [encStr m, .int .i64 s] 2 Try.underlying26 hip hiz rfl his rfl h02 (by decide) rfl ?_); intro g9 w9 r9 p9 l9 b9; have own9 := own_later own8 b9; have B9 := B8.trans (b9.mono z8); have z9 := B9.size)
        | ((at_builtin; with_reducible refine wl_append_at (o := ⟨some 39, _, _, _, _, _⟩) rfl (.tmp 36) (.tmp 38) 26 rfl wr.heap.size 35 ip _ 2 24 Try.underlying26 hip hiz his hib rfl h02 v8 _ _ rfl own9 ⟨g9, 0, none⟩ 1 1 [encStr m, .int .i64 s] rfl rfl (row_src r9) (by simp [Value.oneCell']) hm2 hb2 z9 ?_); intro v10 w10 own10 gr10 at10; have B10 := B9.grown gr10 z9 (fun k hk => (own9.lt k hk).1); have z10 := B10.size; have hs10 := hsrc2.out w10 B10)
        | ((at_builtin; with_reducible refine wl_append_src (o := ⟨some 44, _, _, _, _, _⟩) rfl (.tmp 40) (.tmp 43) 26 rfl wr.heap.size 35 ip _ 2 24 Try.underlying26 hip hiz his hib rfl h02 v10 _ _ rfl own10 A2 (Lx.length - k) (c - k) T2 rfl hdl.out hA2.out hs10 ho2.out hm3 hb3 z10 ?_); intro v12 w12 own12 gr12; have B12 := B10.grown gr12 z10 (fun k hk => (own10.lt k hk).1)))
      go_ret
      have BB := BW5.trans (BW.mono BW5.size)
      refine ⟨_, rfl, own_lo (w := w12) (base := wr.heap.size) ?_ BB.size, BB.trans (B12.mono BB.size)⟩
      have e1 : scsC (putAt Lx k ⟨m, s⟩) = [] ++ T1 ++ [encStr m, .int .i64 s] ++ T2 := by
        rw [← hT.out, ← hD.out, List.nil_append]
        show scsC (Lx.take k ++ ([⟨m, s⟩] ++ Lx.drop k)) = _
        rw [scsC_app, scsC_app, List.append_assoc]
        rfl
      have e2 : (putAt Lx k ⟨m, s⟩).length = 0 + k + 1 + (Lx.length - k) := by rw [putAt_len]; have := hhl.out; omega
      rw [e1, e2]
      exact own12
end Go.Proofs.Ytfklfgaomcbchaa
