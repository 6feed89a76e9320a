/-
  The example. Contract. Own work.
-/
import Derived.Test.YthjcmgjmdjihnaaDoorRespL
namespace Go.Proofs.YthjcmgjmdjihnaaDoor
open Go.RowKit Go.Shelf
set_option linter.unusedVariables false
set_option linter.unusedSimpArgs false
theorem wg_buildN {P : Program} {ops : Array Oper} {rest : List Oper} {o : Oper} {a : Act} {w : World} {Q : Exit → Act → World → Prop} (g' : Nat) (b : Bool) (d' : Nat) (hg : o.guard = some (g', b)) (hd' : (ops[g']?).bind (·.dst) = some d') (hv' : a.tmps[d']? = some (.bool b)) (t n : Nat) (ps : List (Nat × Operand)) (ho : o.op = .buildSlice t n ps.toArray) (e : TypeId) (i : TypeInfo) (z : Value) (k : Nat) (vs : List Value) (Vs : List (List Value)) (ht : P.underlying t = some (.slice e)) (hi : P.info? e = some i) (hz : i.zero = some z) (hzs : z.cells.size = k) (hsz : i.size = k) (h0 : 0 < k) (hn : n * k ≤ 10000) (hn0 : 0 < n)
    (hv : ps.map (fun p => (p.1, a.eval p.2)) = numb 0 vs) (hl : vs.length = n) (hc : cellsOk k vs Vs)
    (hk : ∀ g w', Row w' e g Vs.flatten → w.heap.size ≤ g → g < w'.heap.size → Below w.heap.size w w' → wpList P ops Q rest (a.put o.dst (.slice (some ⟨g, 0, none⟩) n n)) w') : wpList P ops Q (o :: rest) a w :=
  wpList_guarded g' b d' hg hd' hv' fun K hK => st_buildN t n ps ho e i z k vs Vs ht hi hz hzs hsz h0 hn hn0 hv hl hc fun g w' h1 h2 h3 h4 => hK _ _ (hk g w' h1 h2 h3 h4)
theorem TabB.up {w : World} {B B' : Nat} (h : TabB w B) (hB : B ≤ B') : TabB w B' := fun w' hb => h w' (hb.mono hB)
abbrev exW : List Wd := [[71, 69, 84], [107]]
theorem lineB_dig (sg : UInt8) (n : Nat) (h : n < 10) : lineB sg n = [sg, UInt8.ofNat (48 + n), 13, 10] := by
  unfold lineB
  rw [itoa_ge0, decDigits_small h]
  rfl
theorem cmdB_ex : cmdB exW = [42, 50, 13, 10, 36, 51, 13, 10, 71, 69, 84, 13, 10, 36, 49, 13, 10, 107, 13, 10] := by
  show lineB 42 2 ++ (lineB 36 3 ++ ([71, 69, 84] ++ [13, 10]) ++ ((lineB 36 1 ++ ([107] ++ [13, 10])) ++ [])) = _
  rw [lineB_dig _ _ (by decide), lineB_dig _ _ (by decide), lineB_dig _ _ (by decide)]
  rfl
theorem pars_cmd {ws : List Wd} (h : ws.length ≤ 40) (ha : ∀ a ∈ ws, a.length ≤ 512) (h0 : ws ≠ []) (r : Wd) : pars (cmdB ws ++ r) = (ws :: (pars r).1, (pars r).2) := by
  rw [pars_ok (cmdL_cmd h ha r), if_neg h0]
theorem feed_ex : feedL [] 0 (cmdB exW) = ([exW], [], 0) := by
  have h := pars_cmd (ws := exW) (by decide) (by decide) (by decide) []
  rw [List.append_nil] at h
  have h2 : (pars ([] ++ cmdB exW)).2.2 = 0 := by rw [List.nil_append, h]; rfl
  rw [feed_ok h2, List.nil_append, h]
  rfl
theorem row_stv {w : World} {g : Nat} {l : List Wd} (r : Row w 9 g (l.map encStr)) (c : Nat) : StV w (.slice (some ⟨g, 0, none⟩) l.length c) l :=
  ⟨some ⟨g, 0, none⟩, c, rfl, fun _ => ⟨g, 0, rfl, r.lt, fun i a hi => by rw [Nat.zero_add]; exact r.cell (by rw [List.getElem?_map, hi]; rfl)⟩⟩
set_option maxRecDepth 100000 in
set_option maxHeartbeats 2000000 in
theorem awake_any (w : World) (hT : TabV w) : Calls Tryd.prog 7 #[] w fun e w' => e = .returned (.bool true) ∧ Below w.heap.size w w' := by
  have hTb := hide (TabB.of hT)
  obtain ⟨ip, hip, hiz, his, hib⟩ := wordI
  obtain ⟨il, hil, hlz, hls, hlb⟩ := liInfo
  have hfx := hide feed_ex
  have hxl := hide cmdB_ex
  have HCm := hide (fun (w1 : World) (b1 : Below w.heap.size w w1) (v : Value) (hs : StV w1 v exW) => cmd_any w1 v exW hs (by rw [cmdB_ex]; decide) (by decide) (hTb.out.below b1).here)
  clear hT
  go_enter Tryd.func7, Tryd.ntmps7
  go_wp2_with (first
    | (with_reducible refine wl_buildN (o := ⟨some 4, _, _, _, _, _⟩) rfl 40 2 [(0, .const (.string ⟨#[71, 69, 84]⟩)), (1, .const (.string ⟨#[107]⟩))] rfl 9 ip (.string ByteArray.empty) 1 [.string ⟨#[71, 69, 84]⟩, .string ⟨#[107]⟩] [[.string ⟨#[71, 69, 84]⟩], [.string ⟨#[107]⟩]] Tryd.underlying40 hip hiz rfl his (by decide) (by decide) (by decide) rfl rfl (by simp [cellsOk, Value.cells]) ?_; intro g1 w1 r1 p1 l1 b1))
  refine (HCm.out w1 b1 _ (row_stv (l := exW) r1 2)).mono ?_
  rintro e w2 ⟨v2, rfl, own2, b2⟩
  have B2 : Below w.heap.size w w2 := b1.trans (b2.mono b1.size)
  clear HCm r1
  go_wp2_with fail
  refine (new_ps w2).mono ?_
  rintro e w3 ⟨gp, rfl, ps3, p3, l3, b3⟩
  have B3 := B2.trans (b3.mono B2.size)
  have own3 := own_later own2 b3
  obtain ⟨A2, c2, rfl, bs3, hc3, _⟩ := ownsRow_bs own3
  have HF := feed_go w3 gp w2.heap.size _ [] (cmdB exW) A2 c2 ps3 bs3 ((hTb.out.below B3).up B2.size) p3 (by rw [List.nil_append]; exact Nat.le_trans (pars_count _) (by rw [cmdB_ex]; decide)) (.inl (by rw [cmdB_ex]; decide))
  go_wp2_with fail
  refine HF.mono ?_
  rintro e w4 ⟨lv, v4, rfl, oc4, ps4, hv4, bz4⟩
  rw [hfx.out] at oc4 ⊢
  simp only
  have hgp : ∀ k ∈ gp :: ownL (.slice none 0 0), w2.heap.size ≤ k := by
    intro k hk
    simp [ownL, Value.ownBlock] at hk
    omega
  have b24 : Below w2.heap.size w3 w4 := bz4.below hgp b3.size
  have own4 : OwnB w4 w1.heap.size (.slice A2 (cmdB exW).length c2) (cmdB exW) := own_at own3 fun k hk => bz4.block k (own3.lt k hk).2 (fun hm => by
    have := hgp k hm
    have := (own2.lt k hk).2
    omega)
  have B4 : Below w.heap.size w w4 := B3.trans (b24.mono B2.size)
  obtain ⟨A5, c5, e5, bs5, _, _⟩ := ownsRow_bs own4
  injection e5 with e51 _ e53
  subst e51
  subst e53
  have hstr := hide (show Value.string (strOfNums (nb (cmdB exW))) = encStr [42, 50, 13, 10, 36, 51, 13, 10, 71, 69, 84, 13, 10, 36, 49, 13, 10, 107, 13, 10] by rw [nb_str, hxl.out])
  have cv4 := oc4.cmv
  have HSm := hide (fun (w5 : World) (b5 : Below w4.heap.size w4 w5) (u : Value) (hu : CmV w5 u [exW]) => sameC_any w5 lv u [exW] (cv4.later b5) hu (by decide) (by decide))
  clear HF hfx ps4 hv4 bz4 oc4 ps3 own3 own4 own2 cv4 bs3
  go_wp2_with (first
    | (with_reducible refine wl_run (o := ⟨some 13, _, _, _, _, _⟩) rfl (.string (strOfNums (nb (cmdB exW)))) (run_toStr 26 9 5 (.tmp 12) rfl rfl bs5 Tryd.underlying26 Tryd.underlying5 Tryd.underlying9) ?_; rw [hstr.out])
    | (with_reducible refine wl_run (o := ⟨some 14, _, _, _, _, _⟩) rfl (.bool true) (run_eqStr (.tmp 13) (.const _) rfl rfl rfl (by decide)) ?_)
    | (refine wg_buildN (o := ⟨some 21, _, _, _, _, _⟩) 7 true 19 rfl rfl rfl 40 2 [(0, .const (.string ⟨#[71, 69, 84]⟩)), (1, .const (.string ⟨#[107]⟩))] rfl 9 ip (.string ByteArray.empty) 1 [.string ⟨#[71, 69, 84]⟩, .string ⟨#[107]⟩] [[.string ⟨#[71, 69, 84]⟩], [.string ⟨#[107]⟩]] Tryd.underlying40 hip hiz rfl his (by decide) (by decide) (by decide) rfl rfl (by simp [cellsOk, Value.cells]) ?_; intro g6 w6 r6 p6 l6 b6)
    | (refine wg_buildN (o := ⟨some 22, _, _, _, _, _⟩) 7 true 19 rfl rfl rfl 27 1 [(0, .tmp 21)] rfl 40 il (.slice none 0 0) 1 [.slice (some ⟨g6, 0, none⟩) 2 2] [[.slice (some ⟨g6, 0, none⟩) 2 2]] Tryd.underlying27 hil hlz rfl hls (by decide) (by decide) (by decide) rfl rfl (by simp [cellsOk, Value.cells]) ?_; intro g7 w7 r7 p7 l7 b7))
  have B67 : Below w4.heap.size w4 w7 := b6.trans (b7.mono b6.size)
  have hst : StV w7 (.slice (some ⟨g6, 0, none⟩) 2 2) exW := (row_stv (l := exW) r6 2).later b7
  refine (HSm.out w7 B67 _ ⟨some ⟨g7, 0, none⟩, 1, rfl, fun _ => ⟨g7, 0, rfl, r7.lt, fun i l hi => ?_⟩⟩).mono ?_
  · have h0 : i = 0 := by have := (List.getElem?_eq_some_iff.1 hi).1; simp at this; omega
    subst h0
    simp at hi
    subst hi
    exact ⟨_, r7.cell (j := 0) rfl, hst⟩
  rintro e w8 ⟨rfl, b8⟩
  have B8 : Below w.heap.size w w8 := (B4.trans (B67.mono B4.size)).trans (b8.mono (Nat.le_trans B4.size B67.size))
  go_wp2_with fail
  go_ret
  exact ⟨rfl, B8⟩
end Go.Proofs.YthjcmgjmdjihnaaDoor
