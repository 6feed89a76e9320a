/-
  The laws' made: a set behind some acts, and the document's. Own work.
-/
import Derived.Test.YtfklfgaomcbchaaZsetX
import Derived.OwnWalk
namespace Go.Proofs.Ytfklfgaomcbchaa
open Go.RowKit Go.Shelf
set_option linter.unusedVariables false
set_option linter.unusedSimpArgs false
/-- What an act does to a list. -/
def actS (L : List Sc) (a : ZA) : List Sc := if a.d then dropS L a.m else putS L ⟨a.m, a.s⟩
theorem idxS_nonneg (m : Nm) (l : List Sc) : decide ((0 : Int) ≤ idxS m l) = (scoreOf l m).isSome := by
  unfold idxS scoreOf
  rw [Option.isSome_map]
  cases h : l.findIdx? (fun a => a.m == m) with
  | none =>
    rw [List.findIdx?_eq_none_iff] at h
    have e : l.find? (fun a => a.m == m) = none := List.find?_eq_none.2 fun a ha => by rw [h a ha]; decide
    rw [e]; rfl
  | some i =>
    rw [List.findIdx?_eq_some_iff_getElem] at h
    obtain ⟨hi, h1, _⟩ := h
    have e : (l.find? (fun a => a.m == m)).isSome = true := by rw [List.find?_isSome]; exact ⟨_, List.getElem_mem hi, h1⟩
    rw [e]
    simp
theorem putS_names {L : List Sc} {x : Sc} {q : Nat} (h : ∀ a ∈ L, a.m.length ≤ q) (hx : x.m.length ≤ q) : ∀ a ∈ putS L x, a.m.length ≤ q := by
  intro a ha
  rcases List.mem_append.1 ha with e | e
  · exact h a (dropS_mem (List.take_subset _ _ e)).1
  · rcases List.mem_cons.1 e with e | e
    · rw [e]; exact hx
    · exact h a (dropS_mem (List.drop_subset _ _ e)).1
theorem putS_len_le {L : List Sc} {x : Sc} : (putS L x).length ≤ L.length + 1 := by
  unfold putS
  rw [putAt_len]
  have := List.length_filter_le (fun a : Sc => !(a.m == x.m)) L
  unfold dropS
  omega
/-- A row of a type that no set's turning block has stays. -/
theorem ZSet.zB_ne {w : World} {B gz mb : Nat} {hd : Nd} {Ls : List Nd} (h : ZSet w B gz mb hd Ls) {k : Nat} {cur : Array Value} {e : Nat} (hk : w.heap[k]? = some (.cells cur e (0, 0))) (he : e ≠ 70) : k ∉ zB mb hd Ls := by
  intro hm
  rcases List.mem_cons.1 hm with e1 | e1
  · subst e1
    obtain ⟨es, hM, _⟩ := h.map
    obtain ⟨es', clock, hb, _⟩ := hM
    rw [hb] at hk
    cases hk
  · obtain ⟨n, hn, rfl⟩ := List.mem_map.1 e1
    obtain ⟨c, hc⟩ := List.getElem?_of_mem hn
    have h2 := h.z.link c n hc
    have := (show w.heap[n.b]? = _ from h2).symm.trans hk
    simp at this
    exact he this.2.symm
theorem own_butS {w w' : World} {B gz mb T : Nat} {hd : Nd} {Ls : List Nd} {v : Value} {l : List Sc} (h : ZSet w B gz mb hd Ls) (ho : OwnS w T v l) (hb : ButZ (zB mb hd Ls) w w') : OwnS w' T v l := by
  refine own_at ho fun k hk => hb.block k (ho.lt k hk).2 ?_
  rcases ho.2 with ⟨rfl, _⟩ | ⟨g, cap, cur, rfl, _, hg, _⟩
  · simp [Value.ownBlock] at hk
  · simp [Value.ownBlock] at hk
    subst hk
    exact h.zB_ne hg (by decide)
theorem Row.butS {w w' : World} {B gz mb t g : Nat} {hd : Nd} {Ls : List Nd} {vs : List Value} (hr : Row w t g vs) (h : ZSet w B gz mb hd Ls) (hb : ButZ (zB mb hd Ls) w w') (ht : t ≠ 70) : Row w' t g vs :=
  (hb.block g hr.lt (h.zB_ne (show w.heap[g]? = some (.cells vs.toArray t (0, 0)) from hr) ht)).trans hr
theorem szAct (a : ZA) : (Try.prog.info? 43).map (·.size) = some a.cells.length := by kernel_rfl
theorem zeroAct : (Try.prog.info? 43).map (fun i => i.zero) = some (some (.agg #[.bool false, .string ByteArray.empty, .int .i64 0])) := by kernel_rfl
set_option maxRecDepth 100000 in
set_option maxHeartbeats 4000000 in
theorem lmade_any (w : World) (A : Option Addr) (n c : Nat) (f : Nat → ZA) (h : ZActs w w.heap.size A n f) (hf : Few n f) : Calls Try.prog 11 #[.slice A n c] w fun e w' => ∃ gz mb hd Ls v, e = .returned (.tuple #[ptr gz, v, .bool true]) ∧ ZSet w' w.heap.size gz mb hd Ls ∧ OwnS w' w.heap.size v (scs Ls) ∧ Ls.length ≤ n ∧ (∀ a ∈ scs Ls, a.m.length ≤ 100) ∧ scs Ls = (List.range n).foldl (fun L j => actS L (f j)) [] ∧ Below w.heap.size w w' := by
  have hn120 := hf.1
  have hnI : (n : Int) ≤ 120 := by omega
  have HN := new_any w
  go_enter Try.func11, Try.ntmps11
  go_wp2_with fail
  refine HN.mono ?_
  rintro e w1 ⟨gz, mb, hd, rfl, z1, B1⟩
  clear HN
  go_wp2_with fail
  go_loopw [6, 7] (fun xv iv wr => ∃ (i : Nat) (Ls : List Nd), i ≤ n ∧ iv = .int .i64 (i : Int) ∧ ZSet wr w.heap.size gz mb hd Ls ∧ OwnS wr w.heap.size xv (scs Ls) ∧ Ls.length ≤ i ∧ (∀ a ∈ scs Ls, a.m.length ≤ 100) ∧ scs Ls = (List.range i).foldl (fun L j => actS L (f j)) [] ∧ Below w.heap.size w wr) (fun _ iv _ => n - (intOf iv).toNat)
  case atStart => exact ⟨0, [], by omega, rfl, z1, World.ownsRow_nil _ _ _ _, Nat.le_refl _, fun a ha => by simp at ha, rfl, B1⟩
  case round =>
    clear z1 B1
    obtain ⟨i, Ls, hi, rfl, hz, own, hll, hnm, hfold, BW⟩ := hrel
    have hwb := BW.size
    have hsl : (scs Ls).length = Ls.length := by simp
    replace hfold := hide hfold
    by_cases hlt : i < n
    · have hltI : (i : Int) < (n : Int) := by omega
      obtain ⟨b, o, rfl, hB, x0, x1, x2, hcs⟩ := (h.below BW).at hlt
      clear x0 x1 x2
      have hm := hide (hf.2 i hlt)
      obtain ⟨a, ha⟩ : ∃ a, f i = a := ⟨_, rfl⟩
      rw [ha] at hcs hm
      replace ha := hide ha
      replace hlt := hide hlt
      obtain ⟨ad, am, as'⟩ := a
      cases ad with
      | true =>
        go_wp2_with (first
          | (with_reducible refine wl_run (o := ⟨some 19, _, _, _, _, _⟩) rfl (.pointer (some ⟨b, o + i * 3, none⟩)) (run_indexSlN 22 (.tmp 17) (.tmp 18) 43 3 b o n c i rfl Try.underlying22 Try.sizeOf43 rfl rfl hlt.out) ?_)
          | (with_reducible refine wl_load_cells (o := ⟨some 20, _, _, _, _, _⟩) rfl 43 (.tmp 19) b (o + i * 3) [.bool true, encStr am, .int .i64 as'] _ rfl rfl hcs Try.underlying43 rfl (szAct ⟨true, am, as'⟩) ?_)
          | (with_reducible refine wl_alloc (o := ⟨some 8, _, _, _, _, _⟩) rfl 43 _ [.bool false, encStr [], .int .i64 0] rfl zeroAct rfl ?_; intro g8 w4 r4 p4 l4 b4)
          | (with_reducible refine wl_store_row rfl 43 (.tmp 8) (.tmp 20) g8 43 _ [.bool true, encStr am, .int .i64 as'] rfl rfl rfl r4 (szAct ⟨true, am, as'⟩) rfl (by simp [Value.oneCell', encStr]) ?_; intro w5 r5 o5; have b5 : Below wr.heap.size wr w5 := b4.trans (o5.below p4); have c50 := r5.cell (j := 0) rfl; have c51 := r5.cell (j := 1) rfl; have c52 := r5.cell (j := 2) rfl))
        have own5 := own_later own b5
        have hz5 := hz.later b5
        have B5 := BW.trans (b5.mono hwb)
        have hwb5 := B5.size
        clear r4 p4 l4 b4 o5 b5
        refine (rfind_any w5 _ (scs Ls) am (own_scv own5) (by omega)).mono ?_
        rintro e w6 ⟨rfl, rfl⟩
        have hnn := idxS_nonneg am (scs Ls)
        obtain ⟨ix, hix⟩ : ∃ ix, ix = idxS am (scs Ls) := ⟨_, rfl⟩
        rw [← hix] at hnn ⊢
        clear hix
        obtain ⟨t, ht⟩ : ∃ t, t = (scoreOf (scs Ls) am).isSome := ⟨_, rfl⟩
        rw [← ht] at hnn
        replace ht := hide ht
        cases t with
        | true =>
          have hnn2 : (0 : Int) ≤ ix := by simpa using hnn
          clear hnn
          go_wp2_with fail
          go_wp2_with fail
          refine (rdrop_any w5 _ (scs Ls) am (own_scv own5) (by omega)).mono ?_
          rintro e w7 ⟨v7, rfl, own7, b7⟩
          have hz7 := hz5.later b7
          have B7 := B5.trans (b7.mono hwb5)
          have hwb7 := B7.size
          have r7 := r5.later b7
          have c71 := r7.cell (j := 1) rfl
          have c72 := r7.cell (j := 2) rfl
          clear c50 c51 c52
          go_wp2_with fail
          refine (drop_any w7 w.heap.size gz mb hd Ls am hz7 (by simp only [maxLen]; have := hm.out; omega) (by omega)).mono ?_
          rintro e w8 ⟨ Ls2, rfl, hz8, hs8, b8, hl8, hin8⟩
          rw [← ht.out]
          have own8 := own_butS hz7 own7 b8
          have B8 := B7.trans (b8.below hz7.lo_zB hwb7)
          clear c71 c72
          go_wp2_with fail
          go_roundw
          case rel =>
            refine ⟨i + 1, Ls2, by have := hlt.out; omega, by go_num, hz8, ?_, by omega, ?_, ?_, B8⟩
            · rw [hs8]; exact own_lo own8 (by have := B5.size; omega)
            · rw [hs8]; exact fun a ha => hnm a (dropS_mem ha).1
            · rw [hs8, List.range_succ, List.foldl_append, ← hfold.out]
              show _ = actS (scs Ls) (f i)
              rw [ha.out]; rfl
          case measure => have := hlt.out; simp [intOf]; omega
        | false =>
          have hnn2 : ¬ (0 : Int) ≤ ix := by simpa using hnn
          clear hnn
          go_wp2_with fail
          go_wp2_with fail
          refine (rdrop_any w5 _ (scs Ls) am (own_scv own5) (by omega)).mono ?_
          rintro e w7 ⟨v7, rfl, own7, b7⟩
          have hz7 := hz5.later b7
          have B7 := B5.trans (b7.mono hwb5)
          have hwb7 := B7.size
          have r7 := r5.later b7
          have c71 := r7.cell (j := 1) rfl
          have c72 := r7.cell (j := 2) rfl
          clear c50 c51 c52
          go_wp2_with fail
          refine (drop_any w7 w.heap.size gz mb hd Ls am hz7 (by simp only [maxLen]; have := hm.out; omega) (by omega)).mono ?_
          rintro e w8 ⟨ Ls2, rfl, hz8, hs8, b8, hl8, hin8⟩
          rw [← ht.out]
          have own8 := own_butS hz7 own7 b8
          have B8 := B7.trans (b8.below hz7.lo_zB hwb7)
          clear c71 c72
          go_wp2_with fail
          go_roundw
          case rel =>
            refine ⟨i + 1, Ls2, by have := hlt.out; omega, by go_num, hz8, ?_, by omega, ?_, ?_, B8⟩
            · rw [hs8]; exact own_lo own8 (by have := B5.size; omega)
            · rw [hs8]; exact fun a ha => hnm a (dropS_mem ha).1
            · rw [hs8, List.range_succ, List.foldl_append, ← hfold.out]
              show _ = actS (scs Ls) (f i)
              rw [ha.out]; rfl
          case measure => have := hlt.out; simp [intOf]; omega

      | false =>
        go_wp2_with (first
          | (with_reducible refine wl_run (o := ⟨some 19, _, _, _, _, _⟩) rfl (.pointer (some ⟨b, o + i * 3, none⟩)) (run_indexSlN 22 (.tmp 17) (.tmp 18) 43 3 b o n c i rfl Try.underlying22 Try.sizeOf43 rfl rfl hlt.out) ?_)
          | (with_reducible refine wl_load_cells (o := ⟨some 20, _, _, _, _, _⟩) rfl 43 (.tmp 19) b (o + i * 3) [.bool false, encStr am, .int .i64 as'] _ rfl rfl hcs Try.underlying43 rfl (szAct ⟨false, am, as'⟩) ?_)
          | (with_reducible refine wl_alloc (o := ⟨some 8, _, _, _, _, _⟩) rfl 43 _ [.bool false, encStr [], .int .i64 0] rfl zeroAct rfl ?_; intro g8 w4 r4 p4 l4 b4)
          | (with_reducible refine wl_store_row rfl 43 (.tmp 8) (.tmp 20) g8 43 _ [.bool false, encStr am, .int .i64 as'] rfl rfl rfl r4 (szAct ⟨false, am, as'⟩) rfl (by simp [Value.oneCell', encStr]) ?_; intro w5 r5 o5; have b5 : Below wr.heap.size wr w5 := b4.trans (o5.below p4); have c50 := r5.cell (j := 0) rfl; have c51 := r5.cell (j := 1) rfl; have c52 := r5.cell (j := 2) rfl))
        have own5 := own_later own b5
        have hz5 := hz.later b5
        have B5 := BW.trans (b5.mono hwb)
        have hwb5 := B5.size
        clear r4 p4 l4 b4 o5 b5
        refine (rfind_any w5 _ (scs Ls) am (own_scv own5) (by omega)).mono ?_
        rintro e w6 ⟨rfl, rfl⟩
        have hnn := idxS_nonneg am (scs Ls)
        obtain ⟨ix, hix⟩ : ∃ ix, ix = idxS am (scs Ls) := ⟨_, rfl⟩
        rw [← hix] at hnn ⊢
        clear hix
        obtain ⟨t, ht⟩ : ∃ t, t = (scoreOf (scs Ls) am).isSome := ⟨_, rfl⟩
        rw [← ht] at hnn
        replace ht := hide ht
        cases t with
        | true =>
          have hnn2 : (0 : Int) ≤ ix := by simpa using hnn
          clear hnn
          go_wp2_with fail
          go_wp2_with fail
          refine (rput_any w5 _ (scs Ls) am as' (own_scv own5) (by omega) hz5.rise).mono ?_
          rintro e w7 ⟨v7, rfl, own7, b7⟩
          have hz7 := hz5.later b7
          have B7 := B5.trans (b7.mono hwb5)
          have hwb7 := B7.size
          have r7 := r5.later b7
          have c71 := r7.cell (j := 1) rfl
          have c72 := r7.cell (j := 2) rfl
          clear c50 c51 c52
          go_wp2_with fail
          refine (put_any w7 w.heap.size gz mb hd Ls am as' hz7 (by have := hm.out; omega) (by omega) hwb7).mono ?_
          rintro e w8 ⟨ Ls2, rfl, hz8, hs8, b8, hl8⟩
          rw [← ht.out]
          have own8 := own_butS hz7 own7 b8
          have B8 := B7.trans (b8.below hz7.lo_zB hwb7)
          clear c71 c72
          go_wp2_with fail
          go_roundw
          case rel =>
            refine ⟨i + 1, Ls2, by have := hlt.out; omega, by go_num, hz8, ?_, by omega, ?_, ?_, B8⟩
            · rw [hs8]; exact own_lo own8 (by have := B5.size; omega)
            · rw [hs8]; exact putS_names hnm hm.out
            · rw [hs8, List.range_succ, List.foldl_append, ← hfold.out]
              show _ = actS (scs Ls) (f i)
              rw [ha.out]; rfl
          case measure => have := hlt.out; simp [intOf]; omega
        | false =>
          have hnn2 : ¬ (0 : Int) ≤ ix := by simpa using hnn
          clear hnn
          go_wp2_with fail
          go_wp2_with fail
          refine (rput_any w5 _ (scs Ls) am as' (own_scv own5) (by omega) hz5.rise).mono ?_
          rintro e w7 ⟨v7, rfl, own7, b7⟩
          have hz7 := hz5.later b7
          have B7 := B5.trans (b7.mono hwb5)
          have hwb7 := B7.size
          have r7 := r5.later b7
          have c71 := r7.cell (j := 1) rfl
          have c72 := r7.cell (j := 2) rfl
          clear c50 c51 c52
          go_wp2_with fail
          refine (put_any w7 w.heap.size gz mb hd Ls am as' hz7 (by have := hm.out; omega) (by omega) hwb7).mono ?_
          rintro e w8 ⟨ Ls2, rfl, hz8, hs8, b8, hl8⟩
          rw [← ht.out]
          have own8 := own_butS hz7 own7 b8
          have B8 := B7.trans (b8.below hz7.lo_zB hwb7)
          clear c71 c72
          go_wp2_with fail
          go_roundw
          case rel =>
            refine ⟨i + 1, Ls2, by have := hlt.out; omega, by go_num, hz8, ?_, by omega, ?_, ?_, B8⟩
            · rw [hs8]; exact own_lo own8 (by have := B5.size; omega)
            · rw [hs8]; exact putS_names hnm hm.out
            · rw [hs8, List.range_succ, List.foldl_append, ← hfold.out]
              show _ = actS (scs Ls) (f i)
              rw [ha.out]; rfl
          case measure => have := hlt.out; simp [intOf]; omega

    · obtain rfl : i = n := by omega
      go_wp2_with fail
      refine (len_any wr w.heap.size gz mb hd Ls hz).mono ?_
      rintro e w6 ⟨rfl, rfl⟩
      obtain ⟨Ax, cx, rfl⟩ := (own_scv own).sl
      have own2 : OwnS wr w.heap.size (.slice Ax Ls.length cx) (scs Ls) := by rw [← hsl]; exact own
      rw [hsl]
      go_wp2_with fail
      go_ret3
      exact ⟨gz, mb, hd, Ls, _, rfl, hz, own2, hll, hnm, hfold.out, BW⟩
end Go.Proofs.Ytfklfgaomcbchaa
