/-
  The law RespParses: what it stands on. Own work.
-/
import Derived.Test.YthjcmgjmdjihnaaDoorRespX
namespace Go.Proofs.YthjcmgjmdjihnaaDoor
open Go.RowKit Go.Shelf
set_option linter.unusedVariables false
set_option linter.unusedSimpArgs false
theorem run_toTxt {P : Program} {w : World} {a : Act} {o : Oper} (src dst e : TypeId) (x : Operand) {B n c : Nat} {A : Option Addr} {l : Wd} (ho : o.op = .convert src dst x) (hx : a.eval x = .slice A n c) (h : Bs w B A n (nb l)) (hs : P.underlying src = some (.slice e)) (he : P.underlying e = some (.int .u8)) (hd : P.underlying dst = some .string) :
    (execOp a.eval o).run P w = .ok (.value (encStr l)) w := by
  have := run_toStr src dst e x ho hx h hs he hd
  rw [nb_str] at this
  exact this
/-- Pieces in memory. -/
def PcV (w : World) (B : Nat) (v : Value) (l : List Wd) : Prop := ∃ A c, v = .slice A l.length c ∧ (0 < l.length → ∃ g off, A = some ⟨g, off, none⟩ ∧ g < B ∧ ∀ (i : Nat) (a : Wd), l[i]? = some a → ∃ A' c', w.cell? ⟨g, off + i, none⟩ = some (.slice A' a.length c') ∧ Bs w B A' a.length (nb a))
theorem PcV.below {w w' : World} {B : Nat} {v : Value} {l : List Wd} (h : PcV w B v l) (hb : Below B w w') : PcV w' B v l := by
  obtain ⟨A, c, e, h⟩ := h
  refine ⟨A, c, e, fun h0 => ?_⟩
  obtain ⟨g, off, eA, hg, hc⟩ := h h0
  refine ⟨g, off, eA, hg, fun i a hi => ?_⟩
  obtain ⟨A', c', h1, h2⟩ := hc i a hi
  exact ⟨A', c', by rw [← h1]; exact World.cell?_of_block (hb.block g hg), h2.below hb⟩
theorem PcV.at {w : World} {B n c i : Nat} {A : Option Addr} {l : List Wd} {a : Wd} (h : PcV w B (.slice A n c) l) (hi : l[i]? = some a) : n = l.length ∧ ∃ g off A' c', A = some ⟨g, off, none⟩ ∧ w.cell? ⟨g, off + i, none⟩ = some (.slice A' a.length c') ∧ Bs w B A' a.length (nb a) := by
  obtain ⟨A2, c2, e, h⟩ := h
  injection e with q1 q2 q3
  subst q1
  obtain ⟨g, off, eA, _, hc⟩ := h (by have := (List.getElem?_eq_some_iff.1 hi).1; omega)
  obtain ⟨A', c', h1, h2⟩ := hc i a hi
  exact ⟨q2, g, off, A', c', eA, h1, h2⟩
theorem weightsAll_memP {H : Type} {P : Program} {e : TypeId} : ∀ {l : List (DataW H)} {d : DataW H}, d ∈ l → ∀ n ∈ d.weights P e, n ∈ DataW.weightsAll P e l
  | d' :: r, d, hd, n, hn => by
    simp only [DataW.weightsAll, List.mem_append]
    rcases List.mem_cons.1 hd with rfl | h
    · exact Or.inl hn
    · exact Or.inr (weightsAll_memP h n hn)
section
variable {H : Type} {enc : TypeId × Value → H} {w : World} {spare : Nat → Bool} {held : Bool}
theorem byOne : Tryd.prog.bytesOf 5 = 1 := by kernel_rfl
set_option maxRecDepth 100000 in
/-- Pieces that came in: each within the reach of a call. -/
theorem trod_pieces {A : Option Addr} {n c : Nat} {d : DataW H} {p : List MemPlace} (h : DataW.Trod enc Tryd.prog w 0 spare held 22 (.slice A n c) d p) (hz0 : ∀ k ∈ d.weights Tryd.prog 22, k ≤ reachBytes) :
    ∃ ws : List Wd, PcV w w.heap.size (.slice A n c) ws ∧ ∀ a ∈ ws, a.length ≤ reachBytes := by
  obtain ⟨fuel, hf⟩ := h
  rcases Go.Deep.open_slice1 Tryd.underlying22 (by kernel_rfl) hf with ⟨hcs, _⟩ | ⟨a, len, cap, m, k, V, D, Pl, hcs, _, hl, hm, hmm, hxe, hx⟩
  · simp [Value.cells] at hcs
    obtain ⟨rfl, rfl, rfl⟩ := hcs
    exact ⟨[], ⟨none, 0, rfl, fun h => absurd h (by simp)⟩, by simp⟩
  · simp [Value.cells] at hcs
    obtain ⟨rfl, rfl, rfl⟩ := hcs
    injection hxe with hx1 hx2
    subst hx1
    have hnm : n ≤ m := by rw [hmm]; split <;> omega
    have key : ∀ i, i < n → ∃ s : Wd, s.length ≤ reachBytes ∧ ∃ A' c', w.cell? (a.add i) = some (.slice A' s.length c') ∧ Bs w w.heap.size A' s.length (nb s) := by
      intro i hi
      obtain ⟨h1, h2⟩ := hx i (by omega)
      obtain ⟨A', n', c', xs, hv, hb, hby, _, _⟩ := trod_bs Tryd.underlying26 Tryd.underlying5 (by kernel_rfl) h2
      obtain ⟨s, rfl, hbs⟩ := open_by hb hby
      refine ⟨s, ?_, A', c', by rw [h1, hv], hbs⟩
      have hin : D i ∈ (List.range n).map D := List.mem_map.2 ⟨i, List.mem_range.2 hi, rfl⟩
      rcases Go.Deep.open_slice1 Tryd.underlying26 (by kernel_rfl) h2 with ⟨hc2, _⟩ | ⟨a2, l2, cap2, m2, k2, V2, D2, P2, hc2, _, hl2, _, hm2, hx2, _⟩
      · rw [hv] at hc2
        simp at hc2
        rw [hc2.2.1]; exact Nat.zero_le _
      · rw [hv] at hc2
        simp at hc2
        obtain ⟨_, e2, _⟩ := hc2
        injection hx2 with hx3 _
        have hw : (l2 + (m2 - l2)) * 1 ≤ reachBytes := by
          refine hz0 _ ?_
          simp only [DataW.weights, Tryd.underlying22, List.mem_cons, List.mem_append]
          refine .inr (.inl (weightsAll_memP hin _ ?_))
          rw [hx3]
          simp [DataW.weights, Tryd.underlying26, byOne]
        omega
    obtain ⟨f, hf'⟩ := Go.Deep.choose_lt (α := Wd) key
    refine ⟨(List.range n).map f, ⟨some a, c, by simp, fun h0 => ?_⟩, fun x hx => ?_⟩
    · obtain ⟨b, off, spot⟩ := a
      have hn0 : 0 < n := by simpa using h0
      obtain ⟨_, A0, c0, hc0, _⟩ := hf' 0 hn0
      have hspot : spot = none := by simpa [Addr.add] using World.cell?_spot hc0
      subst hspot
      refine ⟨b, off, rfl, ?_, fun j x hj => ?_⟩
      · have := block_lt_of_cell hc0
        simpa [Addr.add] using this
      · rw [List.getElem?_map] at hj
        obtain ⟨q, hq, rfl⟩ := Option.map_eq_some_iff.1 hj
        have hjn : j < n := by have := (List.getElem?_eq_some_iff.1 hq).1; simpa using this
        rw [List.getElem?_range hjn] at hq
        injection hq with hq
        subst hq
        obtain ⟨_, A', c', hc', hb'⟩ := hf' j hjn
        rw [addr_plain] at hc'
        exact ⟨A', c', hc', hb'⟩
    · obtain ⟨i, hi, rfl⟩ := List.mem_map.1 hx
      exact (hf' i (List.mem_range.1 hi)).1
end
/-- What is told behind the first commands. -/
theorem CmV.drop {w : World} {A : Option Addr} {n c k : Nat} {L M : List (List Wd)} (h : CmV w (.slice A n c) (L ++ M)) (hk : k = L.length) (hc : n ≤ c) : CmV w (.slice (subA A c k) (n - k) (c - k)) M := by
  obtain ⟨A2, c2, e, h⟩ := h
  injection e with q1 q2 q3
  subst q1
  subst hk
  have hn : n - L.length = M.length := by rw [q2, List.length_append]; omega
  refine ⟨_, _, by rw [hn], fun h0 => ?_⟩
  obtain ⟨g, off, eA, hg, hcs⟩ := h (by rw [List.length_append]; omega)
  subst eA
  have hne : c ≠ L.length := by rw [List.length_append] at q2; omega
  refine ⟨g, off + L.length, by unfold subA; rw [if_neg hne]; simp [Addr.add], hg, fun i l hi => ?_⟩
  obtain ⟨u, h1, h2⟩ := hcs (L.length + i) l (by rw [List.getElem?_append_right (by omega), Nat.add_sub_cancel_left]; exact hi)
  exact ⟨u, by rw [Nat.add_assoc]; exact h1, h2⟩
theorem own_cap {w : World} {T e n : Nat} {A : Option Addr} {m c : Nat} {xs : List Value} (h : w.ownsRow T e 1 (.slice A m c) n xs) : m ≤ c := by
  rcases h.2 with ⟨e1, h0⟩ | ⟨g, cap, cur, e1, _, _, hnc, _⟩
  · injection e1 with q1 q2 q3
    omega
  · injection e1 with q1 q2 q3
    omega
/-- How much a parser holds behind all bytes, as the document says it. -/
theorem fed_left {all l : Wd} {f : Nat} (h : Fed all l f) : l.length = (if (pars all).2.2 = 0 then (pars all).2.1.length else 0) ∧ f = (pars all).2.2 ∧ l.length ≤ all.length := by
  obtain ⟨h1, h2⟩ := h
  subst h1
  have hp := pars_len all
  rw [h2]
  split
  · exact ⟨rfl, rfl, hp⟩
  · exact ⟨rfl, rfl, Nat.zero_le _⟩
theorem run_neZ {P : Program} {w : World} {a : Act} {o : Oper} {t s : Nat} {u v : Int} (x y : Operand) (ho : o.op = .binOp .neq t x y s) (hx : a.eval x = .int .i64 u) (hy : a.eval y = .int .i64 v) (hb : u = v) :
    (execOp a.eval o).run P w = .ok (.value (.bool false)) w := by
  subst hb
  unfold execOp
  simp only [ho, hx, hy]
  go_simp
def SRp14 (g9 gp : Nat) (lv : Value) (Ax : Option Addr) (Nx K0 cx E Lf : Nat) (opn : Nat) (v : Value) : Prop :=
  match opn with
  | 0 | 7 => v = .pointer (some ⟨g9, 0, none⟩)
  | 1 | 8 => v = .slice Ax Nx cx
  | 2 => v = .int .i64 (Nx : Int)
  | 3 | 9 => v = .int .i64 (K0 : Int)
  | 4 | 5 | 12 | 13 | 14 | 18 | 19 | 20 | 25 | 26 => v = .bool false
  | 6 => v = lv
  | 10 => v = .slice (subA Ax cx K0) (Nx - K0) (cx - K0)
  | 11 => v = .bool true
  | 15 | 17 => v = .int .i64 (E : Int)
  | 16 => v = .pointer (some ⟨g9, 1, none⟩)
  | 21 => v = .pointer (some ⟨gp, 0, none⟩)
  | 22 | 24 => v = .int .i64 (Lf : Int)
  | 23 => v = .pointer (some ⟨g9, 2, none⟩)
  | _ => True

theorem mem_ownL {v : Value} {k : Nat} (h : k ∈ ownL v) : v.ownBlock = some k := by
  unfold ownL at h
  cases ho : v.ownBlock with
  | none => rw [ho] at h; simp at h
  | some q => rw [ho] at h; simp at h; rw [h]
set_option maxRecDepth 100000 in
set_option maxHeartbeats 4000000 in
theorem parses_any (W : World) (v : Value) (ps : List Wd) (hp : PcV W W.heap.size v ps) (hz : ∀ a ∈ ps, a.length ≤ 140737488351232) (hT : TabV W) : Calls Tryd.prog 3 #[v] W fun e w' => e = .returned (.bool true) ∧ Below W.heap.size W w' := by
  obtain ⟨A, c, rfl, x1⟩ := id hp
  clear x1
  have hTb := hide (TabB.of hT)
  have HA := hide (fun (w : World) (hw : Below W.heap.size W w) => awake_any w (hTb.out.below hw).here)
  have hp9 := hide hp
  have hz9 := hide hz
  obtain ⟨i8, hi8, hz8, hsz8, hby8⟩ := u8_infoR
  clear hp hT hz
  by_cases h40 : 40 < ps.length
  · have h40I : (40 : Int) < (ps.length : Int) := by omega
    have HA2 := HA.out W (Below.refl _ _)
    go_enter Tryd.func3, Tryd.ntmps3
    go_wp2_with fail
    refine HA2.mono ?_
    rintro e w5 ⟨rfl, b5⟩
    go_wp2_with fail
    go_ret
    exact ⟨rfl, b5⟩
  have h40I : ¬ (40 : Int) < (ps.length : Int) := by omega
  have hn9 := hide (show ps.length ≤ 40 by omega)
  have hnI : (ps.length : Int) ≤ 40 := by omega
  go_enter Tryd.func3, Tryd.ntmps3
  go_wp2_with fail
  refine (new_ps W).mono ?_
  rintro e w2 ⟨gp, rfl, ps2, p2, l2, b2⟩
  go_wp2_with fail
  go_loopw [4, 5, 6] (fun av tv iv wr => ∃ (i : Nat) (all l : Wd) (f : Nat) (vp : Value), i ≤ ps.length ∧ all.length ≤ 6000 ∧ iv = .int .i64 (i : Int) ∧ tv = .int .i64 ((pars all).1.length : Int) ∧ OwnB wr w2.heap.size av all ∧ PsAt wr gp W.heap.size vp l f ∧ Fed all l f ∧ (∀ k, vp.ownBlock = some k → av.ownBlock ≠ some k) ∧ Below W.heap.size W wr ∧ w2.heap.size ≤ wr.heap.size) (fun _ _ iv _ => 200 - (intOf iv).toNat)
  case atStart => exact ⟨0, [], [], 0, _, by omega, by simp, rfl, rfl, World.ownsRow_nil _ _ _ _, ps2, fed_start, (by intro k h; cases h), b2, Nat.le_refl _⟩
  case round =>
    clear ps2
    obtain ⟨i, all, l, f, vp, hi, hal, rfl, rfl, own, pp, hfd, hap, BW, hw2⟩ := hrel
    obtain ⟨Av, cv, hav⟩ := own_slB own
    by_cases hlt : i < ps.length
    · have hltI : (i : Int) < (ps.length : Int) := by omega
      obtain ⟨a, ha⟩ : ∃ a, ps[i]? = some a := ⟨_, List.getElem?_eq_getElem hlt⟩
      obtain ⟨x1, g, off, A', c', rfl, c00, hbs⟩ := hp9.out.at ha
      have hcell := fun (w1 : World) (hb : Below W.heap.size W w1) => show w1.cell? ⟨g, off + i, none⟩ = some (.slice A' a.length c') by
        rw [← c00]; exact World.cell?_of_block (hb.block g (block_lt_of_cell c00))
      have hbsB := hide (fun (w1 : World) (hb : Below W.heap.size W w1) (hw : W.heap.size ≤ w1.heap.size) => (hbs.below hb).up hw)
      have c0 := hcell wr BW
      have haz := hz9.out a (List.mem_of_getElem? ha)
      obtain ⟨S1, hS1⟩ : ∃ n, n = a.length + all.length := ⟨_, rfl⟩
      have hadd := hide (show IntKind.i64.wrap ((a.length : Int) + (all.length : Int)) = (S1 : Int) from wrap_id (by omega) (by omega) (by omega))
      replace hcell := hide hcell
      replace hbs := hide hbs
      have hi9 := hide hi
      clear x1 c00 ha hi
      by_cases hb : 6000 < S1
      · have hbI : (6000 : Int) < (S1 : Int) := by omega
        have HAW := HA.out wr BW
        subst hav
        clear hS1 haz hal hb
        generalize (pars all).1.length = K0
        go_wp2_with (first
          | (with_reducible refine wl_run (o := ⟨some 23, _, _, _, _, _⟩) rfl (.pointer (some ⟨g, off + i * 1, none⟩)) (run_idxO 22 (.tmp 21) (.tmp 22) 26 1 g off ps.length c i rfl Tryd.underlying22 Tryd.sizeOf26 rfl rfl hlt) ?_)
          | (with_reducible refine wl_run (o := ⟨some 28, _, _, _, _, _⟩) rfl (.int .i64 (S1 : Int)) (run_addZ (.tmp 25) (.tmp 27) rfl rfl rfl hadd.out) ?_))
        refine HAW.mono ?_
        rintro e w5 ⟨rfl, b5⟩
        go_wp2_with fail
        go_ret
        exact ⟨rfl, BW.trans (b5.mono BW.size)⟩
      · have hbI : ¬ (6000 : Int) < (S1 : Int) := by omega
        obtain ⟨S, hS⟩ : ∃ S, S = all ++ a := ⟨_, rfl⟩
        have hSl := hide (show all.length + a.length = S.length by rw [hS, List.length_append])
        have hSb := hide (show nb all ++ nb a = nb S by rw [hS, nb_app])
        have hS6 := hide (show S.length ≤ 6000 by rw [hS, List.length_append]; omega)
        have hroom := hide (show all.length + a.length ≤ 140737488355328 ∨ (Value.slice Av all.length cv = .slice none 0 0 ∧ all.length + a.length ≤ 150000000000000) from .inl (by omega)) 
        have hfl := hide (fed_left hfd)
        obtain ⟨F, hF⟩ : ∃ F, F = feedL l f a := ⟨_, rfl⟩
        have hfs := hide (show Fed S F.2.1 F.2.2 ∧ (pars S).1 = (pars all).1 ++ F.1 by rw [hS, hF]; exact fed_step hfd)
        have hlen := hide (show l.length + a.length ≤ 100000 by have := hfl.out.2.2; omega)
        have hbw := hbsB.out wr BW BW.size
        subst hav
        replace hF := hide hF
        have hfl2 := hide (fed_left hfs.out.1)
        obtain ⟨K0, hK0⟩ : ∃ n, n = (pars all).1.length := ⟨_, rfl⟩
        rw [← hK0]
        replace hK0 := hide hK0
        have hfd9 := hide hfd
        have own9 := hide own
        clear hS hS1 haz hal hb hfd
        go_wp2_with (first
          | (with_reducible refine wl_run (o := ⟨some 23, _, _, _, _, _⟩) rfl (.pointer (some ⟨g, off + i * 1, none⟩)) (run_idxO 22 (.tmp 21) (.tmp 22) 26 1 g off ps.length c i rfl Tryd.underlying22 Tryd.sizeOf26 rfl rfl hlt) ?_)
          | (with_reducible refine wl_run (o := ⟨some 28, _, _, _, _, _⟩) rfl (.int .i64 (S1 : Int)) (run_addZ (.tmp 25) (.tmp 27) rfl rfl rfl hadd.out) ?_)
          | (with_reducible refine wl_run (o := ⟨some 34, _, _, _, _, _⟩) rfl (.pointer (some ⟨g, off + i * 1, none⟩)) (run_idxO 22 (.tmp 32) (.tmp 33) 26 1 g off ps.length c i rfl Tryd.underlying22 Tryd.sizeOf26 rfl rfl hlt) ?_)
          | ((at_builtin; with_reducible refine wl_append_bsA (o := ⟨some 36, _, _, _, _, _⟩) rfl (.tmp 31) (.tmp 35) 26 rfl w2.heap.size 5 i8 Tryd.underlying26 hi8 hz8 hsz8 hby8 (.slice Av all.length cv) _ (nb all) rfl own wr.heap.size A' a.length c' (nb a) rfl hbw hroom.out hw2 S.length (nb S) hSl.out hSb.out ?_); intro v9 w9 own99 gr9 at9; obtain ⟨A9, c9, hv9⟩ := own_slB own99; subst hv9; have B9 : Below W.heap.size W w9 := BW.grown gr9 BW.size (fun k hk => Nat.le_trans b2.size (own.lt k hk).1); have cc9 := hcell.out w9 B9)
          | (with_reducible refine wl_run (o := ⟨some 41, _, _, _, _, _⟩) rfl (.pointer (some ⟨g, off + i * 1, none⟩)) (run_idxO 22 (.tmp 39) (.tmp 40) 26 1 g off ps.length c i rfl Tryd.underlying22 Tryd.sizeOf26 rfl rfl hlt) ?_))
        have hpg : gp ∉ ownL (.slice Av all.length cv) := fun hm => by have := (own9.out.lt _ (mem_ownL hm)).1; omega
        have ps9 : PsAt w9 gp W.heap.size vp l f := pp.butz (ButZ.own gr9 (fun k hk => hk)) hpg (fun k hk h => hap k h (mem_ownL hk))
        have HF := feed_any w9 gp W.heap.size vp l f a A' c' ps9 (hbsB.out w9 B9 B9.size) (hTb.out.below B9) p2 hlen.out
        unfold FeedRes at HF
        rw [← hF.out] at HF
        refine HF.mono ?_
        rintro e w10 ⟨lv, vp2, rfl, oc10, pp10, hv10, bz10⟩
        clear HF
        have hw10 := hide bz10.size
        have hw9 := (ButZ.own (S := ownL (Value.slice Av all.length cv)) gr9 (fun k hk => hk)).size
        have hSb10 : ∀ k ∈ gp :: ownL vp, W.heap.size ≤ k := by
          intro k hk
          rcases List.mem_cons.1 hk with rfl | hk
          · exact p2
          · exact (pp.2.1.lt k (mem_ownL hk)).1
        have B10 : Below W.heap.size W w10 := B9.trans (bz10.below hSb10 B9.size)
        have own10 : OwnB w10 w2.heap.size (.slice A9 S.length c9) S := own_at own99 fun k hk => bz10.block k (own99.lt k hk).2 (fun hm => by
          rcases List.mem_cons.1 hm with rfl | hm
          · have := (own99.lt _ hk).1; omega
          · have hvk := mem_ownL hm
            rcases at9 k hk with h | h
            · exact hap k hvk h
            · have := (pp.2.1.lt k hvk).2; omega)
        have hap10 : ∀ k, vp2.ownBlock = some k → (Value.slice A9 S.length c9).ownBlock ≠ some k := by
          intro k h1 h2
          rcases hv10 k h1 with h | h
          · rcases at9 k h2 with h3 | h3
            · exact hap k h h3
            · have := (pp.2.1.lt k h).2; omega
          · have := (own99.lt k h2).2; omega
        obtain ⟨_, _, e10, bs10, _, _⟩ := ownsRow_bs own10
        injection e10 with e101 _ e103
        subst e101
        subst e103
        have HP := rparse_any S w10 hS6.out
        unfold ParRes at HP
        rw [← hfl2.out.1, ← hfl2.out.2.1] at HP
        have pp109 := hide pp10
        have own109 := hide own10
        have oc109 := hide oc10
        have hap109 := hide hap10
        clear ps9 own10 own99 pp10 oc10 hap10 hv10 bz10 at9 gr9 own hap pp hbw c0 cc9
        have hlE := hide (fed_left hfs.out.1).2.1
        go_wp2_with (first
          | (with_reducible refine wl_run (o := ⟨some 47, _, _, _, _, _⟩) rfl (encStr S) (run_toTxt 26 9 5 (.tmp 46) rfl rfl bs10 Tryd.underlying26 Tryd.underlying5 Tryd.underlying9) ?_))
        refine HP.mono ?_
        rintro e w11 ⟨b11, xv, rfl, ocx⟩
        clear HP
        have B11 := B10.trans (b11.mono B10.size)
        obtain ⟨Ax, cx, rfl⟩ := ocx.slice
        have hcap : (pars S).1.length ≤ cx := by
          obtain ⟨vsx, owx, _⟩ := id ocx
          exact own_cap owx
        have cmx11 := ocx.cmv
        have hcnt := pars_count S
        have hsh := pars_short S
        rw [hfs.out.2] at cmx11 hsh
        have hlen2 : (pars S).1.length = K0 + F.1.length := by rw [hfs.out.2, List.length_append, hK0.out]
        obtain ⟨Nx, hNx⟩ : ∃ n, n = (pars S).1.length := ⟨_, rfl⟩
        rw [← hfs.out.2] at cmx11
        rw [← hNx] at hcap hcnt hlen2 cmx11 ⊢
        rw [hfs.out.2] at cmx11
        obtain ⟨E, hE⟩ : ∃ n, n = F.2.2 := ⟨_, rfl⟩
        obtain ⟨Lf, hLf⟩ : ∃ n, n = F.2.1.length := ⟨_, rfl⟩
        rw [← hE, ← hLf]
        have hK := hide (show K0 ≤ Nx by omega)
        have hlt2 := hide (show decide ((Nx : Int) < (K0 : Int)) = false from decide_eq_false (by omega))
        have hone : ∀ u ∈ fdL (.slice Ax Nx cx) (E : Int) (Lf : Int), u.oneCell' = true := by simp [Value.oneCell']
        have hLn := hide (show F.1.length ≤ 100000 by have := hS6.out; omega)
        have hLs := hide (show ∀ l ∈ F.1, l.length ≤ 1000 from fun l hl => Nat.le_trans (hsh l (List.mem_append_right _ hl)) (by decide))
        have cmx := hide (cmx11.drop hK0.out hcap)
        replace hNx := hide hNx
        replace hE := hide hE
        replace hLf := hide hLf
        have hw11 := b11.size
        clear ocx cmx11 hcap hcnt hsh hlen2
        go_wp2_with (first
          | ((with_reducible refine wl_alloc (o := ⟨some 9, _, _, _, _, _⟩) rfl 32 _ (fdL (.slice none 0 0) 0 0) rfl fdInfo rfl ?_); intro g9 w12 q12 p12 l12 b12)
          | (refine wl_store_row rfl 32 (.tmp 9) (.tmp 48) g9 32 _ (fdL (.slice Ax Nx cx) (E : Int) (Lf : Int)) rfl rfl rfl q12 szFd rfl hone ?_; intro w13 r9 o13))
        rename_i K6 hK6
        have b1113 : Below w11.heap.size w11 w13 := b12.trans (o13.below p12)
        have b1013 : Below w10.heap.size w10 w13 := b11.trans (b1113.mono hw11)
        have B13 := B10.trans (b1013.mono B10.size)
        have cml := oc109.out.cmv.later b1013
        have cmd := cmx.out.later b1113
        have pp13 := pp109.out.later b1013
        have HS := hide (fun (w1 : World) (hb : Below w13.heap.size w13 w1) => sameC_any w1 lv _ F.1 (cml.later hb) (cmd.later hb) hLn.out hLs.out)
        have HL := hide (fun (w1 : World) (hb : Below w13.heap.size w13 w1) => show Calls Tryd.prog 12 #[.pointer (some ⟨gp, 0, none⟩)] w1 fun e w' => e = .returned (.int .i64 (Lf : Int)) ∧ Below w1.heap.size w1 w' from
          (left_ps w1 gp W.heap.size vp2 _ _ (pp13.later hb)).mono fun e w' ⟨h1, h2⟩ => ⟨by rw [h1, hLf.out], h2 ▸ Below.refl _ _⟩)
        have pp139 := hide pp13
        have own139 := hide (own_later own109.out b1013)
        clear q12 cml cmd pp13
        replace hlt := hide hlt
        replace hcell := hide hcell
        replace hbs10 := hide bs10
        refine wp_region_valsG [11, 22] (SRp14 g9 gp lv Ax Nx K0 cx E Lf) (fun _ _ wz => Below w13.heap.size w13 wz) (by kernel_rfl) (by kernel_rfl) (by kernel_rfl) (by kernel_rfl) ((Below.refl _ _).drew) ?obs6 ?he6
        case obs6 =>
          refine ⟨?_, ?_, ?_, ?_, ?_, ?_, ?_, ?_, ?_, ?_, ?_, ?_, ?_, ?_, ?_, ?_, ?_, ?_, ?_, ?_, ?_, ?_, ?_, ?_, ?_, ?_, ?_, trivial⟩
          · refine ⟨.inl rfl, ?_⟩
            refine .inl ⟨by kernel_rfl, fun L a1 w1 n h => ⟨.pointer (some ⟨g9, 0, none⟩), rfl, ?_⟩⟩
            have e0 : a1.eval (.tmp 9) = _ := h.var n 9 (by kernel_rfl)
            unfold execOp
            simp only [e0]
            go_simp
          · refine ⟨.inl rfl, ?_⟩
            exact .inl ⟨by kernel_rfl, fun L a1 w1 n h => ⟨_, rfl, run_load1 27 (.tmp 49) g9 0 (.slice Ax Nx cx) rfl Tryd.isAgg27 (h.dep n 0 49 (by kernel_rfl) rfl) ((r9.later h.inv).cell (j := 0) rfl)⟩⟩
          · refine ⟨.inl rfl, ?_⟩
            exact .inl ⟨by kernel_rfl, fun L a1 w1 n h => ⟨_, rfl, run_lenSl 27 (.tmp 50) Ax Nx cx rfl ⟨_, Tryd.underlying27⟩ (h.dep n 1 50 (by kernel_rfl) rfl)⟩⟩
          · refine ⟨.inl rfl, ?_⟩
            exact .inl ⟨by kernel_rfl, fun L a1 w1 n h => ⟨_, rfl, run_move (.tmp 5) rfl (h.var n 5 (by kernel_rfl))⟩⟩
          · refine ⟨.inl rfl, ?_⟩
            exact .inl ⟨by kernel_rfl, fun L a1 w1 n h => ⟨_, rfl, run_lssZ (.tmp 51) (.tmp 52) rfl (h.dep n 2 51 (by kernel_rfl) rfl) (h.dep n 3 52 (by kernel_rfl) rfl) hlt2.out⟩⟩
          · refine ⟨.inl rfl, ?_⟩
            exact .inl ⟨by kernel_rfl, fun L a1 w1 n h => ⟨_, rfl, run_move (.tmp 53) rfl (h.dep n 4 53 (by kernel_rfl) rfl)⟩⟩
          · refine ⟨.inr ⟨5, false, 54, rfl, by kernel_rfl, rfl, by simp, fun v h => h⟩, ?_⟩
            exact .inl ⟨by kernel_rfl, fun L a1 w1 n h => ⟨_, rfl, run_move (.tmp 7) rfl (h.var n 7 (by kernel_rfl))⟩⟩
          · refine ⟨.inr ⟨5, false, 54, rfl, by kernel_rfl, rfl, by simp, fun v h => h⟩, ?_⟩
            refine .inl ⟨by kernel_rfl, fun L a1 w1 n h => ⟨.pointer (some ⟨g9, 0, none⟩), rfl, ?_⟩⟩
            have e0 : a1.eval (.tmp 9) = _ := h.var n 9 (by kernel_rfl)
            unfold execOp
            simp only [e0]
            go_simp
          · refine ⟨.inr ⟨5, false, 54, rfl, by kernel_rfl, rfl, by simp, fun v h => h⟩, ?_⟩
            exact .inl ⟨by kernel_rfl, fun L a1 w1 n h => ⟨_, rfl, run_load1 27 (.tmp 56) g9 0 (.slice Ax Nx cx) rfl Tryd.isAgg27 (h.dep n 7 56 (by kernel_rfl) rfl) ((r9.later h.inv).cell (j := 0) rfl)⟩⟩
          · refine ⟨.inr ⟨5, false, 54, rfl, by kernel_rfl, rfl, by simp, fun v h => h⟩, ?_⟩
            exact .inl ⟨by kernel_rfl, fun L a1 w1 n h => ⟨_, rfl, run_move (.tmp 5) rfl (h.var n 5 (by kernel_rfl))⟩⟩
          · refine ⟨.inr ⟨5, false, 54, rfl, by kernel_rfl, rfl, by simp, fun v h => h⟩, ?_⟩
            exact .inl ⟨by kernel_rfl, fun L a1 w1 n h => ⟨_, rfl, run_sliceFromO 27 (.tmp 57) (.tmp 58) rfl 40 Tryd.underlying27 Tryd.sizeOf40 Ax Nx cx K0 .i64 (h.dep n 8 57 (by kernel_rfl) rfl) (h.dep n 9 58 (by kernel_rfl) rfl) hK.out⟩⟩
          · refine ⟨.inr ⟨5, false, 54, rfl, by kernel_rfl, rfl, by simp, fun v h => h⟩, ?_⟩
            refine .inr fun L a1 w1 n h K hK => ?_
            have e0 : a1.eval (.tmp 55) = lv := h.dep n 6 55 (by kernel_rfl) rfl
            have e1 : a1.eval (.tmp 59) = .slice (subA Ax cx K0) (Nx - K0) (cx - K0) := h.dep n 10 59 (by kernel_rfl) rfl
            refine st_call 11 _ _ #[lv, .slice (subA Ax cx K0) (Nx - K0) (cx - K0)] rfl Tryd.call11 ?_ (HS.out w1 h.inv) ?_
            · simp only [List.map_toArray, List.map_cons, List.map_nil, e0, e1]
            · rintro e w3 ⟨rfl, b9⟩
              exact ⟨_, rfl, hK _ w3 rfl (h.inv.trans (b9.mono h.inv.size))⟩
          · refine ⟨.inr ⟨5, false, 54, rfl, by kernel_rfl, rfl, by simp, fun v h => h⟩, ?_⟩
            refine .inl ⟨by kernel_rfl, fun L a1 w1 n h => ⟨.bool false, rfl, ?_⟩⟩
            have e0 : a1.eval (.tmp 60) = _ := h.dep n 11 60 (by kernel_rfl) rfl
            unfold execOp
            simp only [e0]
            go_simp
          · refine ⟨.inl rfl, ?_⟩
            exact .inl ⟨by kernel_rfl, fun L a1 w1 n h => ⟨_, rfl, run_pickF (.tmp 54) _ _ rfl (h.dep n 5 54 (by kernel_rfl) rfl) (h.dep n 12 61 (by kernel_rfl) rfl)⟩⟩
          · refine ⟨.inl rfl, ?_⟩
            exact .inl ⟨by kernel_rfl, fun L a1 w1 n h => ⟨_, rfl, run_move (.tmp 62) rfl (h.dep n 13 62 (by kernel_rfl) rfl)⟩⟩
          · refine ⟨.inr ⟨14, false, 63, rfl, by kernel_rfl, rfl, by simp, fun v h => h⟩, ?_⟩
            exact .inl ⟨by kernel_rfl, fun L a1 w1 n h => ⟨_, rfl, run_move (.tmp 8) rfl (h.var n 8 (by kernel_rfl))⟩⟩
          · refine ⟨.inr ⟨14, false, 63, rfl, by kernel_rfl, rfl, by simp, fun v h => h⟩, ?_⟩
            refine .inl ⟨by kernel_rfl, fun L a1 w1 n h => ⟨.pointer (some ⟨g9, 1, none⟩), rfl, ?_⟩⟩
            have e0 : a1.eval (.tmp 9) = _ := h.var n 9 (by kernel_rfl)
            unfold execOp
            simp only [e0]
            go_simp
          · refine ⟨.inr ⟨14, false, 63, rfl, by kernel_rfl, rfl, by simp, fun v h => h⟩, ?_⟩
            exact .inl ⟨by kernel_rfl, fun L a1 w1 n h => ⟨_, rfl, run_load1 3 (.tmp 65) g9 1 (.int .i64 (E : Int)) rfl Tryd.isAgg3 (h.dep n 16 65 (by kernel_rfl) rfl) ((r9.later h.inv).cell (j := 1) rfl)⟩⟩
          · refine ⟨.inr ⟨14, false, 63, rfl, by kernel_rfl, rfl, by simp, fun v h => h⟩, ?_⟩
            exact .inl ⟨by kernel_rfl, fun L a1 w1 n h => ⟨_, rfl, run_neZ (.tmp 64) (.tmp 66) rfl (h.dep n 15 64 (by kernel_rfl) rfl) (h.dep n 17 66 (by kernel_rfl) rfl) rfl⟩⟩
          · refine ⟨.inl rfl, ?_⟩
            exact .inl ⟨by kernel_rfl, fun L a1 w1 n h => ⟨_, rfl, run_pickF (.tmp 63) _ _ rfl (h.dep n 14 63 (by kernel_rfl) rfl) (h.dep n 18 67 (by kernel_rfl) rfl)⟩⟩
          · refine ⟨.inl rfl, ?_⟩
            exact .inl ⟨by kernel_rfl, fun L a1 w1 n h => ⟨_, rfl, run_move (.tmp 68) rfl (h.dep n 19 68 (by kernel_rfl) rfl)⟩⟩
          · refine ⟨.inr ⟨20, false, 69, rfl, by kernel_rfl, rfl, by simp, fun v h => h⟩, ?_⟩
            exact .inl ⟨by kernel_rfl, fun L a1 w1 n h => ⟨_, rfl, run_move (.tmp 3) rfl (h.var n 3 (by kernel_rfl))⟩⟩
          · refine ⟨.inr ⟨20, false, 69, rfl, by kernel_rfl, rfl, by simp, fun v h => h⟩, ?_⟩
            refine .inr fun L a1 w1 n h K hK => ?_
            have e0 : a1.eval (.tmp 70) = .pointer (some ⟨gp, 0, none⟩) := h.dep n 21 70 (by kernel_rfl) rfl
            refine st_call 12 _ _ #[.pointer (some ⟨gp, 0, none⟩)] rfl Tryd.call12 ?_ (HL.out w1 h.inv) ?_
            · simp only [List.map_toArray, List.map_cons, List.map_nil, e0]
            · rintro e w3 ⟨rfl, b9⟩
              exact ⟨_, rfl, hK _ w3 rfl (h.inv.trans (b9.mono h.inv.size))⟩
          · refine ⟨.inr ⟨20, false, 69, rfl, by kernel_rfl, rfl, by simp, fun v h => h⟩, ?_⟩
            refine .inl ⟨by kernel_rfl, fun L a1 w1 n h => ⟨.pointer (some ⟨g9, 2, none⟩), rfl, ?_⟩⟩
            have e0 : a1.eval (.tmp 9) = _ := h.var n 9 (by kernel_rfl)
            unfold execOp
            simp only [e0]
            go_simp
          · refine ⟨.inr ⟨20, false, 69, rfl, by kernel_rfl, rfl, by simp, fun v h => h⟩, ?_⟩
            exact .inl ⟨by kernel_rfl, fun L a1 w1 n h => ⟨_, rfl, run_load1 3 (.tmp 72) g9 2 (.int .i64 (Lf : Int)) rfl Tryd.isAgg3 (h.dep n 23 72 (by kernel_rfl) rfl) ((r9.later h.inv).cell (j := 2) rfl)⟩⟩
          · refine ⟨.inr ⟨20, false, 69, rfl, by kernel_rfl, rfl, by simp, fun v h => h⟩, ?_⟩
            exact .inl ⟨by kernel_rfl, fun L a1 w1 n h => ⟨_, rfl, run_neZ (.tmp 71) (.tmp 73) rfl (h.dep n 22 71 (by kernel_rfl) rfl) (h.dep n 24 73 (by kernel_rfl) rfl) rfl⟩⟩
          · refine ⟨.inl rfl, ?_⟩
            exact .inl ⟨by kernel_rfl, fun L a1 w1 n h => ⟨_, rfl, run_pickF (.tmp 69) _ _ rfl (h.dep n 20 69 (by kernel_rfl) rfl) (h.dep n 25 74 (by kernel_rfl) rfl)⟩⟩
        case he6 =>
          intro V w14 hV hJ
          have b14 : Below w13.heap.size w13 w14 := hJ
          have hE2 : V 26 = .bool false := hV 26 _ rfl
          clear hV hJ
          have r914 := r9.later b14
          have cc9 := r914.cell (j := 0) rfl
          simp only [putOps, List.setIfInBounds_toArray, List.set_cons_succ, List.set_cons_zero, Nat.reduceAdd]
          rw [hE2]
          go_wp2_with fail
          go_roundw
          case rel =>
            have B14 := B13.trans (b14.mono B13.size)
            refine ⟨i + 1, S, F.2.1, F.2.2, vp2, hlt.out, hS6.out, by go_num, by rw [hNx.out], own_later own139.out b14, pp139.out.later b14, hfs.out.1, hap109.out, B14, ?_⟩
            exact Nat.le_trans hw2 (Nat.le_trans hw9 (Nat.le_trans hw10.out (Nat.le_trans b1013.size b14.size)))
          case measure => have := hlt.out; have := hn9.out; simp [intOf]; omega
    · obtain rfl : i = ps.length := by omega
      have HAW := HA.out wr BW
      generalize (pars all).1.length = K0
      clear hlt hi
      go_wp2_with fail
      refine HAW.mono ?_
      rintro e w5 ⟨rfl, b5⟩
      go_wp2_with fail
      go_ret
      exact ⟨rfl, BW.trans (b5.mono BW.size)⟩
end Go.Proofs.YthjcmgjmdjihnaaDoor
