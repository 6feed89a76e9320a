/- Proved: the law BoxMarked (P8.3, P8.4) answers true and leaves its arguments as they read before. For every list of acts and every act; no condition but the tie of the table of keys to the program's text. -/
import Derived.Test.YtooooncmjhcdbaaGreatDoorRows
import Derived.Test.YtooooncmjhcdbaaGreatDoorCards
import Derived.Test.YtooooncmjhcdbaaGreatDoorTie
import Derived.WalkKit
import Derived.ProofKit
import Derived.OpenShut
import Derived.ShutString
import Derived.ChangeOld
import Derived.Below
import Derived.LaidMore
import Derived.Stop.Joined
import Derived.SevenTiedAt
import Derived.Test.YtooooncmjhcdbaaGreatDoorGE
set_option linter.unusedVariables false
set_option linter.unusedSimpArgs false
/-
  The law BoxForged: contract. Own work.
-/
namespace Go.Proofs.YtooooncmjhcdbaaGreatDoor
open Go.RowKit Go.Maps Go.ChangeMaps
theorem wg_build1B {P : Program} {ops : Array Oper} {rest : List Oper} {o : Oper} {a : Act} {w : World} {Q : Exit → Act → World → Prop} (g' : Nat) (b : Bool) (d' : Nat) (hg : o.guard = some (g', b)) (hd' : (ops[g']?).bind (·.dst) = some d') (hv : a.tmps[d']? = some (.bool b)) (t : TypeId) (x : Operand) (ho : o.op = .buildSlice t 1 #[(0, x)]) (e : TypeId) (i : TypeInfo) (z : Value) (M : List Value) (n : Nat) (ht : P.underlying t = some (.slice e)) (hi : P.info? e = some i) (hz : i.zero = some z) (hzs : z.cells.size = n) (hsz : i.size = n) (hl : M.length = n) (h0 : 0 < n) (hn : n ≤ 1000) (hx : a.eval x = .agg M.toArray)
    (hk : ∀ g w', Row w' e g M → w.heap.size ≤ g → g < w'.heap.size → Below w.heap.size w w' → wpList P ops Q rest (a.put o.dst (.slice (some ⟨g, 0, none⟩) 1 1)) w') : wpList P ops Q (o :: rest) a w :=
  wpList_guarded g' b d' hg hd' hv fun K hK => st_build1B t x ho e i z M n ht hi hz hzs hsz hl h0 hn hx fun g w' h1 h2 h3 h4 => hK _ _ (hk g w' h1 h2 h3 h4)
theorem actI : ∃ i, Tryz.prog.info? 27 = some i ∧ i.zero = some (.agg (BAct.cells ⟨0, ⟨0, 0, 0, 0, 0, 0⟩, 0, none, 0, 0, none, 0, 0, 0, 0, [], []⟩).toArray) ∧ i.size = 12 := by
  have h : (Tryz.prog.info? 27).map (fun i => (i.zero, i.size, i.bytes)) = some (some (.agg (BAct.cells ⟨0, ⟨0, 0, 0, 0, 0, 0⟩, 0, none, 0, 0, none, 0, 0, 0, 0, [], []⟩).toArray), 12, 120) := by kernel_rfl
  obtain ⟨i, h1, h2, h3, _⟩ := info_parts h
  exact ⟨i, h1, h2, h3⟩
theorem slI : ∃ i, Tryz.prog.info? 25 = some i ∧ i.zero = some (.slice none 0 0) ∧ i.size = 1 ∧ i.bytes = 24 := by
  have h : (Tryz.prog.info? 25).map (fun i => (i.zero, i.size, i.bytes)) = some (some (.slice none 0 0), 1, 24) := by kernel_rfl
  exact info_parts h
theorem szAct (a : BAct) : (Tryz.prog.info? 27).map (·.size) = some a.cells.length := by kernel_rfl
theorem one_act (a : BAct) : ∀ u ∈ a.cells, u.oneCell' = true := by
  intro u hu; simp at hu; rcases hu with rfl | rfl | rfl | rfl | rfl | rfl | rfl | rfl | rfl | rfl | rfl | rfl <;> rfl
theorem one_slB (A : Option Addr) (n c : Nat) : ∀ u ∈ [Value.slice A n c], u.oneCell' = true := by
  intro u hu; simp at hu; rw [hu]; rfl
theorem actC_one {w : World} {g : Nat} {a : BAct} (h : Row w 27 g a.cells) : ActC w (some ⟨g, 0, none⟩) 1 (fun _ => a) := fun _ => ⟨g, 0, rfl, fun j hj i v hv => by
  obtain rfl : j = 0 := by omega
  rw [show 0 + 0 * 12 + i = i by omega]
  exact h.cell hv⟩
def TldG (xs : List Int) (v : Value) (w : World) : Prop := TldV w v xs
def TlF (B g gl b : Nat) (k9 : Int) (xs9 : List Int) (ts9 : List SEn) (ms9 : List MEn) (v : Value) (w : World) : Prop := ∃ u, v = .tuple #[u, .int .i64 k9] ∧ TldV w u xs9 ∧ ∃ D', BxI w B g gl b D' ts9 ms9
def FFrg (B g gl b : Nat) (k9 : Int) (xs9 : List Int) (ts9 : List SEn) (ms9 : List MEn) (opn : Nat) (v : Value) (w : World) : Prop :=
  match opn with
  | 21 => TlF B g gl b k9 xs9 ts9 ms9 v w
  | 22 => TlF B g gl b k9 xs9 ts9 ms9 v w
  | 23 => TldG xs9 v w
  | 24 => IsF (.int .i64 k9) v w
  | 25 => TldG xs9 v w
  | 26 => IsF (.int .i64 k9) v w
  | _ => True

def SFrg (g b0 off n c0 i : Nat) (ids : List Value) (nn : Int) (A E : Option Addr) (m c l d : Nat) (opn : Nat) (v : Value) : Prop :=
  match opn with
  | 0 => v = .pointer (some ⟨g, 0, none⟩)
  | 1 | 6 | 11 | 16 => v = .slice (some ⟨b0, off, none⟩) n c0
  | 2 | 7 | 12 | 17 => v = .int .i64 (i : Int)
  | 3 | 8 | 13 | 18 => v = .pointer (some ⟨b0, off + i * 12, none⟩)
  | 4 => v = .pointer (some ⟨b0, off + i * 12 + 1, none⟩)
  | 5 => v = .agg ids.toArray
  | 9 => v = .pointer (some ⟨b0, off + i * 12 + 7, none⟩)
  | 10 => v = .int .i64 nn
  | 14 => v = .pointer (some ⟨b0, off + i * 12 + 8, none⟩)
  | 15 => v = .slice A m c
  | 19 => v = .pointer (some ⟨b0, off + i * 12 + 9, none⟩)
  | 20 => v = .slice E l d
  | _ => True

/-- A match. -/
def MatchF (f : Nat → BAct) (a : BAct) (tx hs : List Int) (xss : List (List Int)) (j : Nat) : Prop := (f j).q.l = a.q.l ∧ (f j).n = a.n ∧ (f j).ad = a.ad ∧ (f j).tx = tx ∧ xss[j]? = some hs
/-- What the second loop knows. -/
structure LqF (w wr : World) (g3 : Nat) (a : BAct) (tv : Value) (xss : List (List Int)) (T : Option Addr) (tc : Nat) (tx : List Int) (Hd : Option Addr) (hc : Nat) (hs : List Int) : Prop where
  told : Told wr w.heap.size tv xss
  act : Row wr 27 g3 a.cells
  bel : Below w.heap.size w wr
  bt : Bs wr wr.heap.size T tx.length tx
  bh : Bs wr wr.heap.size Hd hs.length hs
theorem LqF.later {w wr w' : World} {g3 : Nat} {a : BAct} {tv : Value} {xss : List (List Int)} {T : Option Addr} {tc : Nat} {tx : List Int} {Hd : Option Addr} {hc : Nat} {hs : List Int} (h : LqF w wr g3 a tv xss T tc tx Hd hc hs) (hb : Below wr.heap.size wr w') : LqF w w' g3 a tv xss T tc tx Hd hc hs :=
  ⟨h.told.later hb, Row.later h.act hb, h.bel.trans (hb.mono h.bel.size), h.bt.later hb, h.bh.later hb⟩
set_option maxRecDepth 100000 in
set_option maxHeartbeats 8000000 in
theorem boxForged_any (f : Nat → BAct) (a : BAct) (A0 : Option Addr) (n c0 : Nat) (w : World) (hT : TabK w) (hf : BActs w w.heap.size A0 n f) (ha : BOk w w.heap.size a) :
    Calls Tryz.prog 3 #[.slice A0 n c0, .agg a.cells.toArray] w fun e w' => e = .returned (.bool true) ∧ Below w.heap.size w w' := by
  obtain ⟨ia, hia, hza, hsa⟩ := actI
  obtain ⟨is, his, hzs, hss, hbs⟩ := slI
  have hTw := hide hT
  have hff := hide hf
  have haa := hide ha
  have hsza := hide (szAct a)
  have hcl := hide (show a.cells.length = 12 from rfl)
  obtain ⟨cs, hcs⟩ : ∃ cs, cs = a.cells := ⟨_, rfl⟩
  rw [← hcs] at hsza hcl ⊢
  have Hcs := hide hcs
  clear hT hf ha hcs
  go_enter Tryz.func3, Tryz.ntmps3
  go_wp2_with (first
    | (with_reducible refine wl_box (o := ⟨some 3, _, _, _, _, _⟩) rfl 27 (.tmp 1) _ cs rfl rfl rfl ?_; intro g3 w1 r1 p1 l1 b1))
  refine (few_any w1 A0 n c0 f 14 (hff.out.below b1).c (by decide)).mono ?_
  rintro e w' ⟨⟨q1, rfl, hq1⟩, rfl⟩
  cases q1 with
  | false =>
    go_wp2_with fail
    refine (bawake_any w1 (hTw.out.later b1)).mono ?_
    rintro e w2 ⟨rfl, b2⟩
    go_wp2_with fail
    go_ret
    exact ⟨rfl, b1.trans (b2.mono b1.size)⟩
  | true =>
    obtain ⟨hn14, hfew⟩ := hq1 rfl
    have hFew := hide hfew
    clear hq1 hfew
    go_wp2_with (first
      | (with_reducible refine wg_load_row 3 false 18 rfl rfl rfl 27 (.tmp 3) g3 27 cs _ rfl rfl r1 Tryz.underlying27 rfl hsza.out ?_)
      | (with_reducible refine wg_build1B 3 false 18 rfl rfl rfl 22 (.tmp 19) rfl 27 ia _ cs 12 Tryz.underlying22 hia hza rfl hsa hcl.out (by decide) (by decide) rfl ?_; intro g20 w2 r20 p20 l20 b20))
    have B2 := b1.trans (b20.mono b1.size)
    have r1 := r1.later b20
    refine (few_any w2 _ 1 1 (fun _ => a) 1 (actC_one (by rw [Hcs.out] at r20; exact r20)) (by decide)).mono ?_
    rintro e w' ⟨⟨q2, rfl, hq2⟩, rfl⟩
    cases q2 with
    | false =>
      go_wp2_with fail
      refine (bawake_any w2 (hTw.out.later B2)).mono ?_
      rintro e w3 ⟨rfl, b3⟩
      go_wp2_with fail
      go_ret
      exact ⟨rfl, B2.trans (b3.mono B2.size)⟩
    | true =>
      have hfa := hide ((hq2 rfl).2 0 (by decide))
      clear hq2 r20 p20 l20
      go_wp2_with fail
      refine (new_ideal w2 none 0 0 w.heap.size B2.size).mono ?_
      rintro e w3 ⟨g, gl, b, rfl, X3, b3⟩
      have B3 := B2.trans (b3.mono B2.size)
      have L3 : LpF w w3 g gl b g3 cs f 0 (.slice none 0 0) [] [] (.map []) := ⟨X3, Told.nil _ _, rfl, Nat.le_refl _, r1.later b3, B3, (fun s hs => by cases hs), (fun s hs => by cases hs), (fun j s hj => by simp at hj)⟩
      have hn14 : n ≤ 14 := by omega
      have hnI : (n : Int) ≤ 14 := by omega
      clear X3 r1 b1 b3 b20 B2 p1 l1
      go_wp2_with fail
      go_loopw [6, 7] (fun tv iv wr => ∃ (i : Nat) (xss : List (List Int)) (ts : List SEn) (D : DU), i ≤ n ∧ iv = .int .i64 i ∧ LpF w wr g gl b g3 cs f i tv xss ts D) (fun _ iv _ => n - (intOf iv).toNat)
      case atStart => exact ⟨0, [], [], .map [], by omega, rfl, L3⟩
      case round =>
        clear L3 B3
        obtain ⟨i, xss, ts, D, him, rfl, hL⟩ := hrel
        by_cases hi : i < n
        · have hL0 := hide hL
          clear hL
          obtain ⟨b0, off, rfl, hb0, hcc⟩ := (hff.out.below hL0.out.bel) (by omega)
          obtain ⟨hcell, hok⟩ := hcc i hi
          have hfw := hFew.out i hi
          have HOk := hide hok
          have HFw := hide hfw
          obtain ⟨vs, hown, hvs⟩ := hL0.out.told
          have HOwn := hide hown
          have HVs := hide hvs
          have hBr := hL0.out.bel.size
          obtain ⟨ids, hids⟩ : ∃ ids, ids = vk .i64 (f i).q.l := ⟨_, rfl⟩
          have hidz := hide (szKid (f i).q)
          have hin : isI (f i).n := hok.hn
          have hwi := hok
          obtain ⟨p, hp⟩ : ∃ p, p = f i := ⟨_, rfl⟩
          rw [← hp] at hids hidz hin hcell hok hfw
          have Hp := hide hp
          have hcl' : ∀ w1, TurnB w.heap.size wr w1 → ∀ k v, p.cells[k]? = some v → w1.cell? ⟨b0, off + i * 12 + k, none⟩ = some v := fun w1 ht k v hk => ((ht.below hBr).cell (p := ⟨b0, off + i * 12 + k, none⟩) hb0).trans (hcell k v hk)
          clear hp hcell hcc hwi
          obtain ⟨kd, q, nn, A, m, c, E, l, d, at_, by_, ad, tx⟩ := p
          dsimp only at hids hidz hin
          rw [← hids] at hidz
          have HC7 : ∀ w1, TurnB w.heap.size wr w1 → w1.cell? ⟨b0, off + i * 12 + 7, none⟩ = some (.int .i64 nn) := fun w1 ht => hcl' w1 ht 7 _ rfl
          have HC8 : ∀ w1, TurnB w.heap.size wr w1 → w1.cell? ⟨b0, off + i * 12 + 8, none⟩ = some (.slice A m c) := fun w1 ht => hcl' w1 ht 8 _ rfl
          have HC9 : ∀ w1, TurnB w.heap.size wr w1 → w1.cell? ⟨b0, off + i * 12 + 9, none⟩ = some (.slice E l d) := fun w1 ht => hcl' w1 ht 9 _ rfl
          have HI : ∀ w1, TurnB w.heap.size wr w1 → ∀ j v, ids[j]? = some v → w1.cell? ⟨b0, off + i * 12 + 1 + j, none⟩ = some v := fun w1 ht j v hj => by
            rw [hids] at hj
            have h6 := (List.getElem?_eq_some_iff.1 hj).1
            have := hcl' w1 ht (1 + j) v (by
              match j, h6 with
              | 0, _ => exact hj
              | 1, _ => exact hj
              | 2, _ => exact hj
              | 3, _ => exact hj
              | 4, _ => exact hj
              | 5, _ => exact hj)
            rw [← Nat.add_assoc] at this
            exact this
          have HSl0 : ∀ w1, Below wr.heap.size wr w1 → Calls Tryz.prog 10 #[.pointer (some ⟨g, 0, none⟩), .agg ids.toArray, .int .i64 nn, .slice A m c, .slice E l d] w1 fun e w' =>
              ∃ u, e = .returned (.tuple #[u, .int .i64 (slK q nn)]) ∧ TldV w' u (slX ts q nn tx) ∧ (∃ D', BxI w' w.heap.size g gl b D' (slT ts q nn ad tx) []) ∧ TurnB w.heap.size w1 w' := by
            intro w1 hb
            have hX := hL0.out.box.later hb
            have hbel := hL0.out.bel.trans (hb.mono hBr)
            have htl := hL0.out.tl
            rw [hids]
            exact (sealI w1 _ g gl b D ts [] q nn A E m c l d ad tx hX (hTw.out.later hbel) hok.hn (by omega) (by have := hfw.1; show m ≤ 65536; have h : m ≤ 300 := this; omega) (by have := hfw.2; show l ≤ 65536; have h : l ≤ 300 := this; omega) (bs_up (hok.had.below (hb.mono hBr)) (Nat.le_trans hBr hb.size)) (bs_up (hok.htx.below (hb.mono hBr)) (Nat.le_trans hBr hb.size)) (KpB.old hok.had) (KpB.old hok.htx)).mono fun e w' h => h.v hX
          obtain ⟨k9, hk9⟩ : ∃ k9, k9 = slK q nn := ⟨_, rfl⟩
          obtain ⟨xs9, hxs9⟩ : ∃ xs9, xs9 = slX ts q nn tx := ⟨_, rfl⟩
          obtain ⟨ts9, hts9⟩ : ∃ ts9, ts9 = slT ts q nn ad tx := ⟨_, rfl⟩
          rw [← hk9, ← hxs9, ← hts9] at HSl0
          have HSl := HSl0
          have Hx9 := hide hxs9
          have Ht9 := hide hts9
          have hxl := hL0.out.len
          have hx1 : xss.length + 1 ≤ maxLen := by simp only [maxLen]; omega
          have hx2 : (xss.length + 1) * 24 ≤ 140737488355328 := by omega
          clear hk9 hxs9 hts9 hcl' hown hvs hids hxl HSl0 hfw hok hin
          go_wp2_with fail
          rename_i K1 hK1
          refine wp_region_vals [21, 22, 23, 24, 25, 26] (SFrg g b0 off n c0 i ids nn A E m c l d) (JTu wr (TurnB w.heap.size) [21, 22, 23, 24, 25, 26] (FFrg w.heap.size g gl b k9 xs9 ts9 [])) (by kernel_rfl) (by kernel_rfl) (by kernel_rfl) (by kernel_rfl) (by kernel_rfl) (JTu.start _ (TurnB.of ((Below.refl _ _).drew))) ?obs1 ?he1
          case obs1 =>
            refine ⟨?_, ?_, ?_, ?_, ?_, ?_, ?_, ?_, ?_, ?_, ?_, ?_, ?_, ?_, ?_, ?_, ?_, ?_, ?_, ?_, ?_, ?_, ?_, ?_, ?_, ?_, ?_, trivial⟩
            · exact .inl ⟨by kernel_rfl, fun L a1 w1 n' h => ⟨_, rfl, run_move (.tmp 5) rfl (h.var n' 5 (by kernel_rfl))⟩⟩
            · exact .inl ⟨by kernel_rfl, fun L a1 w1 n' h => ⟨_, rfl, run_move (.tmp 0) rfl (h.var n' 0 (by kernel_rfl))⟩⟩
            · exact .inl ⟨by kernel_rfl, fun L a1 w1 n' h => ⟨_, rfl, run_move (.tmp 7) rfl (h.var n' 7 (by kernel_rfl))⟩⟩
            · exact .inl ⟨by kernel_rfl, fun L a1 w1 n' h => ⟨_, rfl, run_indexSn 22 (.tmp 34) (.tmp 35) 27 b0 off n c0 i 12 rfl Tryz.underlying22 Tryz.sizeOf27 (h.dep n' 1 34 (by kernel_rfl) rfl) (h.dep n' 2 35 (by kernel_rfl) rfl) hi⟩⟩
            · refine .inl ⟨by kernel_rfl, fun L a1 w1 n' h => ⟨.pointer (some ⟨b0, off + i * 12 + 1, none⟩), rfl, ?_⟩⟩
              have e0 : a1.eval (.tmp 36) = _ := h.dep n' 3 36 (by kernel_rfl) rfl
              unfold execOp
              simp only [e0]
              go_simp
            · exact .inl ⟨by kernel_rfl, fun L a1 w1 n' h => ⟨_, rfl, run_loadC 24 (.tmp 37) b0 (off + i * 12 + 1) ids _ rfl (h.dep n' 4 37 (by kernel_rfl) rfl) (HI w1 h.inv.1) Tryz.underlying24 rfl hidz.out⟩⟩
            · exact .inl ⟨by kernel_rfl, fun L a1 w1 n' h => ⟨_, rfl, run_move (.tmp 0) rfl (h.var n' 0 (by kernel_rfl))⟩⟩
            · exact .inl ⟨by kernel_rfl, fun L a1 w1 n' h => ⟨_, rfl, run_move (.tmp 7) rfl (h.var n' 7 (by kernel_rfl))⟩⟩
            · exact .inl ⟨by kernel_rfl, fun L a1 w1 n' h => ⟨_, rfl, run_indexSn 22 (.tmp 39) (.tmp 40) 27 b0 off n c0 i 12 rfl Tryz.underlying22 Tryz.sizeOf27 (h.dep n' 6 39 (by kernel_rfl) rfl) (h.dep n' 7 40 (by kernel_rfl) rfl) hi⟩⟩
            · refine .inl ⟨by kernel_rfl, fun L a1 w1 n' h => ⟨.pointer (some ⟨b0, off + i * 12 + 7, none⟩), rfl, ?_⟩⟩
              have e0 : a1.eval (.tmp 41) = _ := h.dep n' 8 41 (by kernel_rfl) rfl
              unfold execOp
              simp only [e0]
              go_simp
            · exact .inl ⟨by kernel_rfl, fun L a1 w1 n' h => ⟨_, rfl, run_loadA 3 (.tmp 42) ⟨b0, off + i * 12 + 7, none⟩ rfl Tryz.isAgg3 (h.dep n' 9 42 (by kernel_rfl) rfl) (HC7 w1 h.inv.1)⟩⟩
            · exact .inl ⟨by kernel_rfl, fun L a1 w1 n' h => ⟨_, rfl, run_move (.tmp 0) rfl (h.var n' 0 (by kernel_rfl))⟩⟩
            · exact .inl ⟨by kernel_rfl, fun L a1 w1 n' h => ⟨_, rfl, run_move (.tmp 7) rfl (h.var n' 7 (by kernel_rfl))⟩⟩
            · exact .inl ⟨by kernel_rfl, fun L a1 w1 n' h => ⟨_, rfl, run_indexSn 22 (.tmp 44) (.tmp 45) 27 b0 off n c0 i 12 rfl Tryz.underlying22 Tryz.sizeOf27 (h.dep n' 11 44 (by kernel_rfl) rfl) (h.dep n' 12 45 (by kernel_rfl) rfl) hi⟩⟩
            · refine .inl ⟨by kernel_rfl, fun L a1 w1 n' h => ⟨.pointer (some ⟨b0, off + i * 12 + 8, none⟩), rfl, ?_⟩⟩
              have e0 : a1.eval (.tmp 46) = _ := h.dep n' 13 46 (by kernel_rfl) rfl
              unfold execOp
              simp only [e0]
              go_simp
            · exact .inl ⟨by kernel_rfl, fun L a1 w1 n' h => ⟨_, rfl, run_loadA 25 (.tmp 47) ⟨b0, off + i * 12 + 8, none⟩ rfl Tryz.isAgg25 (h.dep n' 14 47 (by kernel_rfl) rfl) (HC8 w1 h.inv.1)⟩⟩
            · exact .inl ⟨by kernel_rfl, fun L a1 w1 n' h => ⟨_, rfl, run_move (.tmp 0) rfl (h.var n' 0 (by kernel_rfl))⟩⟩
            · exact .inl ⟨by kernel_rfl, fun L a1 w1 n' h => ⟨_, rfl, run_move (.tmp 7) rfl (h.var n' 7 (by kernel_rfl))⟩⟩
            · exact .inl ⟨by kernel_rfl, fun L a1 w1 n' h => ⟨_, rfl, run_indexSn 22 (.tmp 49) (.tmp 50) 27 b0 off n c0 i 12 rfl Tryz.underlying22 Tryz.sizeOf27 (h.dep n' 16 49 (by kernel_rfl) rfl) (h.dep n' 17 50 (by kernel_rfl) rfl) hi⟩⟩
            · refine .inl ⟨by kernel_rfl, fun L a1 w1 n' h => ⟨.pointer (some ⟨b0, off + i * 12 + 9, none⟩), rfl, ?_⟩⟩
              have e0 : a1.eval (.tmp 51) = _ := h.dep n' 18 51 (by kernel_rfl) rfl
              unfold execOp
              simp only [e0]
              go_simp
            · exact .inl ⟨by kernel_rfl, fun L a1 w1 n' h => ⟨_, rfl, run_loadA 25 (.tmp 52) ⟨b0, off + i * 12 + 9, none⟩ rfl Tryz.isAgg25 (h.dep n' 19 52 (by kernel_rfl) rfl) (HC9 w1 h.inv.1)⟩⟩
            · refine .inr fun L a1 w1 n' h K hK => ?_
              have no : L.getD 21 false = false := n'.not_yet
              have b1 := h.inv.2.1 ((bits_at rfl).trans no)
              have e0 : a1.eval (.tmp 33) = .pointer (some ⟨g, 0, none⟩) := h.dep n' 0 33 (by kernel_rfl) rfl
              have e1 : a1.eval (.tmp 38) = .agg ids.toArray := h.dep n' 5 38 (by kernel_rfl) rfl
              have e2 : a1.eval (.tmp 43) = .int .i64 nn := h.dep n' 10 43 (by kernel_rfl) rfl
              have e3 : a1.eval (.tmp 48) = .slice A m c := h.dep n' 15 48 (by kernel_rfl) rfl
              have e4 : a1.eval (.tmp 53) = .slice E l d := h.dep n' 20 53 (by kernel_rfl) rfl
              refine JTu.call h n' (fun hx hy => TurnB.trans hx hy) hK rfl (by kernel_rfl) 54 rfl 10 _ _ #[.pointer (some ⟨g, 0, none⟩), .agg ids.toArray, .int .i64 nn, .slice A m c, .slice E l d] rfl Tryz.call10 ?_ (HSl w1 b1) ?_
              · simp only [List.map_toArray, List.map_cons, List.map_nil, e0, e1, e2, e3, e4]
              · rintro e w3 ⟨u, rfl, hu, hX, hT⟩
                exact ⟨_, rfl, trivial, ⟨u, rfl, hu, hX⟩, hT⟩
            · refine .inr fun L a1 w1 n' h K hK => ?_
              obtain ⟨u, hv, hu, hX⟩ := JTu.get h n' 21 54 (by kernel_rfl) (by kernel_rfl) rfl
              exact JTu.run h n' hK 32 rfl (.tuple #[u, .int .i64 k9]) (run_move (.tmp 54) rfl hv) trivial (⟨u, rfl, hu, hX⟩) 21 rfl (by decide)
            · refine .inr fun L a1 w1 n' h K hK => ?_
              obtain ⟨u, hv, hu, hX⟩ := JTu.get h n' 22 32 (by kernel_rfl) (by kernel_rfl) rfl
              exact JTu.run h n' hK 55 rfl (u) (run_extractA (v := u) (.tmp 32) 0 _ rfl hv rfl) trivial (hu) 21 rfl (by decide)
            · refine .inr fun L a1 w1 n' h K hK => ?_
              obtain ⟨u, hv, hu, hX⟩ := JTu.get h n' 22 32 (by kernel_rfl) (by kernel_rfl) rfl
              exact JTu.run h n' hK 56 rfl (.int .i64 k9) (run_extractA (v := .int .i64 k9) (.tmp 32) 1 _ rfl hv rfl) trivial (rfl) 21 rfl (by decide)
            · refine .inr fun L a1 w1 n' h K hK => ?_
              obtain hu := JTu.get h n' 23 55 (by kernel_rfl) (by kernel_rfl) rfl
              exact JTu.run h n' hK 8 rfl (_) (run_assign (.tmp 55) rfl rfl) trivial (hu) 21 rfl (by decide)
            · refine .inr fun L a1 w1 n' h K hK => ?_
              obtain hv := JTu.get h n' 24 56 (by kernel_rfl) (by kernel_rfl) rfl
              exact JTu.run h n' hK 9 rfl (.int .i64 k9) (run_assign (.tmp 56) rfl hv) trivial (rfl) 21 rfl (by decide)
          case he1 =>
            intro V w8 hV hJ
            have hTr : TurnB w.heap.size wr w8 := hJ.1
            obtain ⟨u, _, _, D8, hX8⟩ := JTu.last hJ 21 54 rfl rfl
            have hu8 : TldV w8 (V 25) xs9 := JTu.last hJ 25 8 rfl rfl
            clear hV hJ
            simp only [putOps, List.setIfInBounds_toArray, List.set_cons_succ, List.set_cons_zero, Nat.reduceAdd]
            refine hK1 _ _ ?_
            have Hu8 := hide hu8
            obtain ⟨A9, c9, hsv, _, _⟩ := hu8
            have Hsv := hide hsv
            rw [hsv]
            clear hsv
            generalize V 21 = z21
            generalize V 22 = z22
            generalize V 23 = z23
            generalize V 24 = z24
            generalize V 26 = z26
            have hBw : w.heap.size ≤ w8.heap.size := Nat.le_trans hBr hTr.size
            have hown8 := own_turn HOwn.out hTr notBoxTy
            have Hown8 := hide hown8
            have hvs8 := fun (i : Nat) (xs : List Int) (hx : xss[i]? = some xs) => (let ⟨u, hu, ht⟩ := HVs.out i xs hx; ⟨u, hu, ht.turn hTr⟩ : ∃ u : Value, vs[i]? = some u ∧ TldV w8 u xs)
            have Hvs8 := hide hvs8
            have HTr := hide hTr
            have HX8 := hide hX8
            obtain ⟨ln, hln⟩ : ∃ ln, ln = xs9.length := ⟨_, rfl⟩
            rw [← hln]
            have Hln := hide hln
            clear hown8 hvs8 hTr hX8 HSl HI HC7 HC8 HC9 hln
            go_wp2_with (first
              | ((with_reducible refine wl_build1 rfl 32 (.tmp 58) rfl 25 is (.slice none 0 0) (.slice A9 ln c9) Tryz.underlying32 his hzs hss rfl rfl rfl ?_); intro g5 w5 r5 p5 q5 b5; have hown5 := own_later Hown8.out b5)
              | ((at_builtin; with_reducible refine wl_append_at rfl (.tmp 57) (.tmp 59) 32 rfl w.heap.size 25 is (.slice none 0 0) 1 24 Tryz.underlying32 his hzs hss hbs rfl (by decide) u6 xss.length vs rfl hown5 ⟨g5, 0, none⟩ 1 1 [.slice A9 ln c9] rfl rfl (row_src r5) (one_slB _ _ _) hx1 hx2 (Nat.le_trans hBw b5.size) ?_); intro v6 w6 hown6 hg6 hloc6))
            go_roundw
            case rel =>
              refine ⟨i + 1, _, _, D8, by omega, by go_num, LpF.step (u := .slice A9 ln c9) hL0.out HFw.out HOk.out HTr.out ?_ ?_ b5 hown5 (fun i xs hx => let ⟨u, hu, ht⟩ := Hvs8.out i xs hx; ⟨u, hu, ht.later b5⟩) hown6 hg6⟩
              · rw [← Hp.out]; exact Ht9.out ▸ HX8.out
              · rw [← Hp.out, Hln.out, ← Hsv.out]; exact Hx9.out ▸ Hu8.out
            case measure => simp [intOf]; omega
        · obtain rfl : i = n := by omega
          clear hi him
          have HL := hide hL
          have hB4 := hide hL.bel
          have HP := pick_any wr w.heap.size u6 xss a hL.told (by rw [hL.len]; exact hn14) hL.xg ⟨bs_up (haa.out.had.below hL.bel) hL.bel.size, haa.out.hadb, bs_up (haa.out.htx.below hL.bel) hL.bel.size, haa.out.htxb, haa.out.hmc, haa.out.hld, haa.out.hq, haa.out.hn, haa.out.hat, haa.out.hby⟩ hfa.out.2
          rw [← Hcs.out] at HP
          have r3 := hL.act
          have HPk := hide HP
          clear hL HP
          go_wp2_with (first
            | (with_reducible refine wl_load_row (o := ⟨some 62, _, _, _, _, _⟩) rfl 27 (.tmp 3) g3 27 cs _ rfl rfl r3 Tryz.underlying27 rfl hsza.out ?_))
          refine HPk.out.mono ?_
          rintro e w5 ⟨Hd, hc, hs, rfl, hbs5, hby5, hsl, b5⟩
          have X5 := HL.out.box.later b5
          have B5 := hB4.out.trans (b5.mono hB4.out.size)
          have r5 := r3.later b5
          have ha7 : Hid (cs[7]? = some (.int .i64 a.n)) := hide (by rw [Hcs.out]; rfl)
          have ha8 : Hid (cs[8]? = some (.slice a.A a.m a.c)) := hide (by rw [Hcs.out]; rfl)
          obtain ⟨ida, hida0⟩ : ∃ ida, ida = vk .i64 a.q.l := ⟨_, rfl⟩
          have Hida := hide hida0
          have hida := hide (szKid a.q)
          rw [← hida0] at hida
          have hsA : Hid (∀ wx, Row wx 27 g3 cs → Row wx 27 g3 ([.int .u8 a.k] ++ (ida ++ BAct.rest a))) := hide (fun wx h => by rw [hida0]; rw [Hcs.out] at h; exact h)
          clear hida0 r3
          have rA5 := hsA.out w5 r5
          have e7 := r5.cell ha7.out
          have e8 := r5.cell ha8.out
          have HOp := openI w5 w.heap.size g gl b D ts [] a.q a.n a.A Hd a.m a.c hs.length hc a.ad hs X5 (hTw.out.later B5) haa.out.hn (by have := HL.out.tl; omega) (fun s hs => by have := (HL.out.good s hs).1; omega) (fun s hs => (HL.out.good s hs).2) (by have := hfa.out.1; omega) (by omega) (bs_up (haa.out.had.below B5) B5.size) haa.out.hadb hbs5 hby5
          rw [← Hida.out] at HOp
          have HOpn := hide HOp
          clear HOp
          go_wp2_with (first
            | (with_reducible refine wl_load_part (o := ⟨some 67, _, _, _, _, _⟩) rfl 24 (.tmp 66) g3 1 27 [.int .u8 a.k] ida (BAct.rest a) _ rfl rfl rA5 rfl Tryz.underlying24 rfl hida.out ?_))
          refine HOpn.out.mono ?_
          rintro e w6 ⟨v, rfl, ⟨T, tc, rfl, hbt6, htl6, hty6⟩, b6⟩
          have B6 := B5.trans (b6.mono B5.size)
          have hOk := @opn_ok ts a.q a.n a.ad hs hs.length
          have hNo := @opn_no a.q a.n hs.length (opT ts a.q a.n a.ad hs)
          generalize opnX a.q a.n hs.length (opT ts a.q a.n a.ad hs) = tx at *
          generalize opnE a.q a.n hs.length (opT ts a.q a.n a.ad hs) = er at *
          clear HOpn HPk
          by_cases he : er = 0
          case neg =>
            obtain rfl : tx = [] := hNo he
            have he1 : (er == 0) = false := by simp [he]
            have he2 : decide (er = 0) = false := by simp [he]
            clear hOk hNo
            go_wp2_with fail
            refine (bawake_any w6 (hTw.out.later B6)).mono ?_
            rintro e w7 ⟨rfl, b7⟩
            go_wp2_with fail
            go_ret
            exact ⟨rfl, B6.trans (b7.mono B6.size)⟩
          case pos =>
            obtain ⟨j0, s0, hj0, h01, h02, h03, h04, h05⟩ := hOk he
            subst he
            obtain ⟨k0, hk0, k1, k2, k3, k4, k5⟩ := HL.out.rel j0 s0 hj0
            have hEx : Hid (∃ k, k < i ∧ MatchF f a tx hs xss k) := hide ⟨k0, hk0, k1.trans h01, k2.trans h02, k3.trans h03, k4.trans h05.symm, by rw [h04]; exact k5⟩
            have htb : Hid (IsBy tx) := hide (by rw [h05]; exact (HL.out.good s0 (List.mem_of_getElem? hj0)).2.1)
            have Hlen := hide HL.out.len
            have hxg := hide HL.out.xg
            have Q6 : LqF w w6 g3 a u6 xss T tc tx Hd hc hs := ⟨(HL.out.told.later b5).later b6, by rw [← Hcs.out]; exact r5.later b6, B6, hbt6, hbs5.later b6⟩
            clear hOk hNo hj0 h01 h02 h03 h04 h05 hk0 k1 k2 k3 k4 k5 r5 rA5 e7 e8 X5 hbt6 hbs5 HL hB4 B5
            have Hby := hide hby5
            clear hby5
            go_wp2_with fail
            go_loopw [13] (fun iv wr2 => ∃ i2 : Nat, i2 ≤ i ∧ iv = .int .i64 i2 ∧ LqF w wr2 g3 a u6 xss T tc tx Hd hc hs ∧ ∀ j, j < i2 → ¬ MatchF f a tx hs xss j) (fun iv _ => i - (intOf iv).toNat)
            case atStart => exact ⟨0, by omega, rfl, Q6, fun j hj => absurd hj (by omega)⟩
            case round =>
              clear Q6 B6
              obtain ⟨i2, hi2, rfl, hQ, hN⟩ := hrel
              by_cases hii : i2 < i
              · have hQ2 := hide hQ
                have hN2 := hide hN
                clear hQ hN
                obtain ⟨b0, off, rfl, hb0, hcc⟩ := (hff.out.below hQ2.out.bel) (by omega)
                obtain ⟨hcell, hok⟩ := hcc i2 hii
                clear hcc
                obtain ⟨gt, ct, ut, rfl, htc, A9, c9, rfl, hb9, ht9⟩ := hQ2.out.told.at (i := i2) (xs := xss[i2]'(by have := Hlen.out; omega)) (List.getElem?_eq_getElem (by have := Hlen.out; omega))
                have hx9 := hide (hxg.out _ (List.getElem_mem (show i2 < xss.length by have := Hlen.out; omega))).2
                have hxe : Hid (xss[i2]? = some (xss[i2]'(by have := Hlen.out; omega))) := hide (List.getElem?_eq_getElem (by have := Hlen.out; omega))
                generalize xss[i2]'(by have := Hlen.out; omega) = x9 at *
                obtain ⟨p, hp⟩ : ∃ p, p = f i2 := ⟨_, rfl⟩
                rw [← hp] at hcell hok
                have Hp := hide hp
                clear hp
                have hBr := hQ2.out.bel.size
                have HBp : Hid (∀ wx, Below wr.heap.size wr wx → Bs wx wx.heap.size p.A p.m p.ad) := hide (fun wx hb => (bs_up hok.had hBr).later hb)
                have HBt : Hid (∀ wx, Below wr.heap.size wr wx → Bs wx wx.heap.size p.E p.l p.tx) := hide (fun wx hb => (bs_up hok.htx hBr).later hb)
                have HBa : Hid (∀ wx, Below wr.heap.size wr wx → Bs wx wx.heap.size a.A a.m a.ad) := hide (fun wx hb => (bs_up (haa.out.had.below hQ2.out.bel) hBr).later hb)
                have HB9 : Hid (∀ wx, Below wr.heap.size wr wx → Bs wx wx.heap.size A9 x9.length x9) := hide (fun wx hb => hb9.later hb)
                have hpb := hide hok.hadb
                have hpt := hide hok.htxb
                have hszp := hide (szAct p)
                have hone := hide (one_act p)
                have hp7 : Hid (p.cells[7]? = some (.int .i64 p.n)) := hide rfl
                have hp8 : Hid (p.cells[8]? = some (.slice p.A p.m p.c)) := hide rfl
                have hp9 : Hid (p.cells[9]? = some (.slice p.E p.l p.d)) := hide rfl
                obtain ⟨idp, hidp0⟩ : ∃ idp, idp = vk .i64 p.q.l := ⟨_, rfl⟩
                have hidp := hide (szKid p.q)
                rw [← hidp0] at hidp
                have hsP : Hid (∀ wx gx, Row wx 27 gx p.cells → Row wx 27 gx ([.int .u8 p.k] ++ (idp ++ BAct.rest p))) := hide (fun wx gx h => by rw [hidp0]; exact h)
                obtain ⟨QB, hQB⟩ : ∃ QB, QB = decide (p.q.l = a.q.l) := ⟨_, rfl⟩
                have hEq : ∀ wx, (Op.equalIn 10000 24 (.agg idp.toArray) (.agg ida.toArray)).run Tryz.prog wx = .ok QB wx := fun wx => by rw [hidp0, Hida.out, hQB]; exact eqIdD 9998 p.q a.q wx
                obtain ⟨zc, hzc⟩ : ∃ zc : List Value, zc = BAct.cells ⟨0, ⟨0, 0, 0, 0, 0, 0⟩, 0, none, 0, 0, none, 0, 0, 0, 0, [], []⟩ := ⟨_, rfl⟩
                have hz0 : (Tryz.prog.info? 27).map (fun i => i.zero) = some (some (.agg zc.toArray)) := by rw [hia, hzc]; exact congrArg some hza
                have hlzp : Hid (zc.length = p.cells.length) := hide (by rw [hzc]; rfl)
                clear hzc hidp0 hok hb9 ht9
                obtain ⟨pc, hpc⟩ : ∃ pc, pc = p.cells := ⟨_, rfl⟩
                rw [← hpc] at hcell hszp hone hp7 hp8 hp9 hsP hlzp
                clear hpc
                have HQB := hide hQB
                clear hQB
                have hsA2 : Hid (∀ wx, Row wx 27 g3 a.cells → Row wx 27 g3 ([.int .u8 a.k] ++ (ida ++ BAct.rest a))) := hide (fun wx h => hsA.out wx (by rw [Hcs.out]; exact h))
                have ha7b : Hid (a.cells[7]? = some (.int .i64 a.n)) := hide rfl
                have ha8b : Hid (a.cells[8]? = some (.slice a.A a.m a.c)) := hide rfl
                have hxi : (i2 : Int) < (xss.length : Int) := by have := Hlen.out; omega
                have hxn : i2 < xss.length := by have := Hlen.out; omega
                cases QB with
                | false =>
                  have hno : Hid (¬ MatchF f a tx hs xss i2) := hide (fun hm => by have h := hm.1; rw [← Hp.out] at h; exact of_decide_eq_false HQB.out.symm h)
                  go_wp2_with (first
                  | (with_reducible refine wl_load_cells (o := ⟨some 93, _, _, _, _, _⟩) rfl 27 (.tmp 92) b0 (off + i2 * 12) pc _ rfl rfl hcell Tryz.underlying27 rfl hszp.out ?_)
                  | (with_reducible refine wl_alloc (o := ⟨some 14, _, _, _, _, _⟩) rfl 27 _ zc rfl hz0 rfl ?_; intro g14 w14 r14 p14 l14 b14a)
                  | (with_reducible refine wl_store_row rfl 27 (.tmp 14) (.tmp 93) g14 27 _ pc rfl rfl rfl r14 hszp.out hlzp.out hone.out ?_; intro w15 r15 o15; have b14 := b14a.trans (o15.below p14); have hq := hQ2.out.later b14; have hact := hq.act; have rA : Row w15 27 g3 ([.int .u8 a.k] ++ (ida ++ BAct.rest a)) := hsA2.out w15 hact; have rP : Row w15 27 g14 ([.int .u8 p.k] ++ (idp ++ BAct.rest p)) := hsP.out w15 g14 r15; have htc5 := (b14.cell (p := ⟨gt, i2, none⟩) (block_lt_of_cell htc)).trans htc; have d7 := r15.cell hp7.out; have d8 := r15.cell hp8.out; have d9 := r15.cell hp9.out; have e7 := hact.cell ha7b.out; have e8 := hact.cell ha8b.out)
                  | (with_reducible refine wl_load_part (o := ⟨some 95, _, _, _, _, _⟩) rfl 24 (.tmp 94) g14 1 27 [.int .u8 p.k] idp (BAct.rest p) _ rfl rfl rP rfl Tryz.underlying24 rfl hidp.out ?_)
                  | (with_reducible refine wl_load_part (o := ⟨some 97, _, _, _, _, _⟩) rfl 24 (.tmp 96) g3 1 27 [.int .u8 a.k] ida (BAct.rest a) _ rfl rfl rA rfl Tryz.underlying24 rfl hida.out ?_)
                  | (refine wl_run (o := ⟨some 98, _, _, _, _, _⟩) rfl (.bool false) (run_eqlS' (.tmp 95) (.tmp 97) rfl hEq rfl rfl (by kernel_rfl)) ?_))
                  go_roundw
                  case rel => exact ⟨i2 + 1, by omega, by go_num, hQ2.out.later b14, fun j hj => by
                    by_cases hji : j = i2
                    · rw [hji]; exact hno.out
                    · exact hN2.out j (by omega)⟩
                  case measure => simp [intOf]; omega
                | true =>
                  by_cases hn : p.n = a.n
                  case neg =>
                    have hno : Hid (¬ MatchF f a tx hs xss i2) := hide (fun hm => by have h := hm.2.1; rw [← Hp.out] at h; exact hn h)
                    have hn1 : (p.n == a.n) = false := by simp [hn]
                    have hn2 : decide (p.n = a.n) = false := by simp [hn]
                    go_wp2_with (first
                  | (with_reducible refine wl_load_cells (o := ⟨some 93, _, _, _, _, _⟩) rfl 27 (.tmp 92) b0 (off + i2 * 12) pc _ rfl rfl hcell Tryz.underlying27 rfl hszp.out ?_)
                  | (with_reducible refine wl_alloc (o := ⟨some 14, _, _, _, _, _⟩) rfl 27 _ zc rfl hz0 rfl ?_; intro g14 w14 r14 p14 l14 b14a)
                  | (with_reducible refine wl_store_row rfl 27 (.tmp 14) (.tmp 93) g14 27 _ pc rfl rfl rfl r14 hszp.out hlzp.out hone.out ?_; intro w15 r15 o15; have b14 := b14a.trans (o15.below p14); have hq := hQ2.out.later b14; have hact := hq.act; have rA : Row w15 27 g3 ([.int .u8 a.k] ++ (ida ++ BAct.rest a)) := hsA2.out w15 hact; have rP : Row w15 27 g14 ([.int .u8 p.k] ++ (idp ++ BAct.rest p)) := hsP.out w15 g14 r15; have htc5 := (b14.cell (p := ⟨gt, i2, none⟩) (block_lt_of_cell htc)).trans htc; have d7 := r15.cell hp7.out; have d8 := r15.cell hp8.out; have d9 := r15.cell hp9.out; have e7 := hact.cell ha7b.out; have e8 := hact.cell ha8b.out)
                  | (with_reducible refine wl_load_part (o := ⟨some 95, _, _, _, _, _⟩) rfl 24 (.tmp 94) g14 1 27 [.int .u8 p.k] idp (BAct.rest p) _ rfl rfl rP rfl Tryz.underlying24 rfl hidp.out ?_)
                  | (with_reducible refine wl_load_part (o := ⟨some 97, _, _, _, _, _⟩) rfl 24 (.tmp 96) g3 1 27 [.int .u8 a.k] ida (BAct.rest a) _ rfl rfl rA rfl Tryz.underlying24 rfl hida.out ?_)
                  | (refine wl_run (o := ⟨some 98, _, _, _, _, _⟩) rfl (.bool true) (run_eqlS' (.tmp 95) (.tmp 97) rfl hEq rfl rfl (by kernel_rfl)) ?_))
                    go_roundw
                    case rel => exact ⟨i2 + 1, by omega, by go_num, hQ2.out.later b14, fun j hj => by
                      by_cases hji : j = i2
                      · rw [hji]; exact hno.out
                      · exact hN2.out j (by omega)⟩
                    case measure => simp [intOf]; omega
                  case pos =>
                    have hn1 : (p.n == a.n) = true := by simp [hn]
                    have hn2 : decide (p.n = a.n) = true := by simp [hn]
                    go_wp2_with (first
                  | (with_reducible refine wl_load_cells (o := ⟨some 93, _, _, _, _, _⟩) rfl 27 (.tmp 92) b0 (off + i2 * 12) pc _ rfl rfl hcell Tryz.underlying27 rfl hszp.out ?_)
                  | (with_reducible refine wl_alloc (o := ⟨some 14, _, _, _, _, _⟩) rfl 27 _ zc rfl hz0 rfl ?_; intro g14 w14 r14 p14 l14 b14a)
                  | (with_reducible refine wl_store_row rfl 27 (.tmp 14) (.tmp 93) g14 27 _ pc rfl rfl rfl r14 hszp.out hlzp.out hone.out ?_; intro w15 r15 o15; have b14 := b14a.trans (o15.below p14); have hq := hQ2.out.later b14; have hact := hq.act; have rA : Row w15 27 g3 ([.int .u8 a.k] ++ (ida ++ BAct.rest a)) := hsA2.out w15 hact; have rP : Row w15 27 g14 ([.int .u8 p.k] ++ (idp ++ BAct.rest p)) := hsP.out w15 g14 r15; have htc5 := (b14.cell (p := ⟨gt, i2, none⟩) (block_lt_of_cell htc)).trans htc; have d7 := r15.cell hp7.out; have d8 := r15.cell hp8.out; have d9 := r15.cell hp9.out; have e7 := hact.cell ha7b.out; have e8 := hact.cell ha8b.out)
                  | (with_reducible refine wl_load_part (o := ⟨some 95, _, _, _, _, _⟩) rfl 24 (.tmp 94) g14 1 27 [.int .u8 p.k] idp (BAct.rest p) _ rfl rfl rP rfl Tryz.underlying24 rfl hidp.out ?_)
                  | (with_reducible refine wl_load_part (o := ⟨some 97, _, _, _, _, _⟩) rfl 24 (.tmp 96) g3 1 27 [.int .u8 a.k] ida (BAct.rest a) _ rfl rfl rA rfl Tryz.underlying24 rfl hida.out ?_)
                  | (refine wl_run (o := ⟨some 98, _, _, _, _, _⟩) rfl (.bool true) (run_eqlS' (.tmp 95) (.tmp 97) rfl hEq rfl rfl (by kernel_rfl)) ?_))
                    have HE := equal_any p.A a.A p.m a.m p.c a.c p.ad a.ad w15 (HBp.out w15 b14) (HBa.out w15 b14)
                    rw [beq_by hpb.out haa.out.hadb] at HE
                    refine HE.mono ?_
                    rintro e w' ⟨rfl, rfl⟩
                    clear HE
                    by_cases hd : p.ad = a.ad
                    case neg =>
                      have hno : Hid (¬ MatchF f a tx hs xss i2) := hide (fun hm => by have h := hm.2.2.1; rw [← Hp.out] at h; exact hd h)
                      rw [decide_eq_false hd]
                      go_wp2_with fail
                      go_roundw
                      case rel => exact ⟨i2 + 1, by omega, by go_num, hQ2.out.later b14, fun j hj => by
                        by_cases hji : j = i2
                        · rw [hji]; exact hno.out
                        · exact hN2.out j (by omega)⟩
                      case measure => simp [intOf]; omega
                    case pos =>
                      rw [decide_eq_true hd]
                      go_wp2_with fail
                      have HE := equal_any p.E T p.l tx.length p.d tc p.tx tx w15 (HBt.out w15 b14) hq.bt
                      rw [beq_by hpt.out htb.out] at HE
                      refine HE.mono ?_
                      rintro e w' ⟨rfl, rfl⟩
                      clear HE
                      by_cases ht : p.tx = tx
                      case neg =>
                        have hno : Hid (¬ MatchF f a tx hs xss i2) := hide (fun hm => by have h := hm.2.2.2.1; rw [← Hp.out] at h; exact ht h)
                        rw [decide_eq_false ht]
                        go_wp2_with fail
                        go_roundw
                        case rel => exact ⟨i2 + 1, by omega, by go_num, hQ2.out.later b14, fun j hj => by
                          by_cases hji : j = i2
                          · rw [hji]; exact hno.out
                          · exact hN2.out j (by omega)⟩
                        case measure => simp [intOf]; omega
                      case pos =>
                        rw [decide_eq_true ht]
                        go_wp2_with fail
                        have HE := equal_any A9 Hd x9.length hs.length c9 hc x9 hs w15 (HB9.out w15 b14) hq.bh
                        rw [beq_by hx9.out Hby.out] at HE
                        refine HE.mono ?_
                        rintro e w' ⟨rfl, rfl⟩
                        clear HE
                        by_cases hh : x9 = hs
                        case neg =>
                          have hno : Hid (¬ MatchF f a tx hs xss i2) := hide (fun hm => by have h := hm.2.2.2.2; rw [hxe.out] at h; exact hh (Option.some.inj h))
                          rw [decide_eq_false hh]
                          go_wp2_with fail
                          go_roundw
                          case rel => exact ⟨i2 + 1, by omega, by go_num, hQ2.out.later b14, fun j hj => by
                            by_cases hji : j = i2
                            · rw [hji]; exact hno.out
                            · exact hN2.out j (by omega)⟩
                          case measure => simp [intOf]; omega
                        case pos =>
                          rw [decide_eq_true hh]
                          go_wp2_with fail
                          refine (bawake_any w15 (hTw.out.later hq.bel)).mono ?_
                          rintro e w20 ⟨rfl, b20⟩
                          go_wp2_with fail
                          go_ret
                          exact ⟨rfl, hq.bel.trans (b20.mono hq.bel.size)⟩
              · obtain rfl : i2 = i := by omega
                exfalso
                obtain ⟨k, hk, hm⟩ := hEx.out
                exact hN k hk hm
end Go.Proofs.YtooooncmjhcdbaaGreatDoor

/-
  What an ideal box finds right it marked: the law's own words. Own work.
-/
namespace Go.Proofs.YtooooncmjhcdbaaGreatDoor
open Go.RowKit Go.Maps Go.ChangeMaps
theorem highB_succB (x : Int) (n : Nat) : highB x (n + 1) = highB (x / 256) n ++ [x % 256] := by simp [highB, lowB]
theorem beV_highZ {n : Nat} : ∀ {x : Int}, 0 ≤ x → x < 256 ^ n → beV (highB x n) = x := by
  induction n with
  | zero => intro x h1 h2; simp at h2; have : x = 0 := by omega
            subst this; rfl
  | succ n ih =>
    intro x h1 h2
    rw [Int.pow_succ] at h2
    rw [highB_succB, beV_snoc, ih (Int.ediv_nonneg h1 (by decide)) (by omega)]
    omega
theorem tkNum_backB {v m : Int} (h0 : 0 ≤ v) (h1 : v ≤ m) (h2 : v ≤ 1000000) (ys : List Int) : tkNum m (highB v 8 ++ ys) 0 = (v, ys, 0) := by
  have hl := highB_length v 8
  have ht : tk 8 (highB v 8 ++ ys) 0 = (highB v 8, ys, 0) := by
    unfold tk
    rw [if_neg (by simp), if_neg (by rw [List.length_append, hl]; omega)]
    rw [List.take_left' hl, List.drop_left' hl]
  have hv : unum 8 (highB v 8 ++ ys) 0 = v := by
    unfold unum
    rw [ht]
    exact beV_highZ h0 (by have : (256 : Int) ^ 8 = 18446744073709551616 := by decide
                           omega)
  unfold tkNum
  simp only [hv, ht]
  rw [if_neg (by omega)]
/-- A mark is found. -/
theorem fdM_tok {ms : List MEn} {j : Nat} {s : MEn} (h : ms[j]? = some s) (hn : ms.length ≤ 10000) : fdM ms (tokL j 32) = some s := by
  have hj := (List.getElem?_eq_some_iff.1 h).1
  have hr : nfT ms.length (tokL j 32) = ((j : Int), List.replicate (32 - 8) 0, 0) := by
    unfold nfT tokL
    exact tkNum_backB (by omega) (by omega) (by omega) _
  unfold fdM
  rw [hr]
  simp only [ne_eq, not_true_eq_false, if_false, Int.toNat_natCast, h]
  simp
theorem okU_l {q q' : Kid} (h : q.l = q'.l) (n : Int) : okU q n = okU q' n := by
  obtain ⟨a, b, c, d, e, f⟩ := q
  obtain ⟨a', b', c', d', e', f'⟩ := q'
  simp at h
  obtain ⟨rfl, rfl, rfl, rfl, rfl, rfl⟩ := h
  rfl
theorem okU0 (q : Kid) : okU q 0 = okB q.a q.b q.c q.d q.e q.f := by
  unfold okU Kid.ok
  rw [decide_eq_true (by decide), Bool.true_and]
/-- A match. -/
def MatchM (f : Nat → BAct) (a : BAct) (hs : List Int) (xss : List (List Int)) (j : Nat) : Prop := okU (f j).q 0 = true ∧ (f j).q.l = a.q.l ∧ (f j).tx = a.tx ∧ xss[j]? = some hs
/-- The first loop's words: marking. -/
structure LpM (w wr : World) (g gl b g3 : Nat) (cs : List Value) (f : Nat → BAct) (i : Nat) (tv : Value) (xss : List (List Int)) (ms : List MEn) (D : DU) : Prop where
  box : BxI wr w.heap.size g gl b D [] ms
  told : Told wr w.heap.size tv xss
  len : xss.length = i
  tl : ms.length ≤ i
  act : Row wr 27 g3 cs
  bel : Below w.heap.size w wr
  good : ∀ s ∈ ms, IsBy s.tx
  xg : ∀ xs ∈ xss, xs.length ≤ 400 ∧ IsBy xs
  rel : ∀ (j : Nat) (s : MEn), ms[j]? = some s → ∃ k, k < i ∧ okU (f k).q 0 = true ∧ (f k).q.l = s.q.l ∧ (f k).tx = s.tx ∧ xss[k]? = some (tokL j 32)
  bwd : ∀ k, k < i → okU (f k).q 0 = true → ∃ (j : Nat) (s : MEn), ms[j]? = some s ∧ s.q.l = (f k).q.l ∧ s.tx = (f k).tx ∧ xss[k]? = some (tokL j 32)
/-- Check finds right just what was marked. -/
theorem LpM.right {w wr : World} {g gl b g3 i : Nat} {cs : List Value} {f : Nat → BAct} {tv : Value} {xss : List (List Int)} {ms : List MEn} {D : DU} (h : LpM w wr g gl b g3 cs f i tv xss ms D) (hn : i ≤ 14) (a : BAct) (hs : List Int) :
    (okU a.q 0 && chM ms a.q a.tx hs) = true ↔ ∃ k, k < i ∧ MatchM f a hs xss k := by
  constructor
  · intro hc
    rw [Bool.and_eq_true] at hc
    obtain ⟨h1, h2⟩ := hc
    unfold chM at h2
    cases hf : fdM ms hs with
    | none => rw [hf] at h2; cases h2
    | some s =>
      rw [hf] at h2
      obtain ⟨h3, h4⟩ := of_decide_eq_true h2
      obtain ⟨j, hj, hb⟩ := fdM_at hf
      obtain ⟨k, hk, r0, r1, r2, r3⟩ := h.rel j s hj
      exact ⟨k, hk, r0, r1.trans h3, r2.trans h4, by rw [r3, hb]⟩
  · rintro ⟨k, hk, m1, m2, m3, m4⟩
    obtain ⟨j, s, hj, r1, r2, r3⟩ := h.bwd k hk m1
    have e : hs = tokL j 32 := by rw [r3] at m4; exact (Option.some.inj m4).symm
    have hf := fdM_tok hj (by have := h.tl; omega)
    rw [Bool.and_eq_true]
    refine ⟨by rw [← okU_l m2]; exact m1, ?_⟩
    unfold chM
    rw [e, hf]
    exact decide_eq_true ⟨r1.trans m2, r2.trans m3⟩
theorem LpM.step {w wr w8 w5 w6 : World} {g gl b g3 i : Nat} {cs : List Value} {f : Nat → BAct} {tv v' u : Value} {xss : List (List Int)} {ms : List MEn} {D D8 : DU} {vs : List Value} (h : LpM w wr g gl b g3 cs f i tv xss ms D) (hok : BOk wr w.heap.size (f i))
    (hT : TurnB w.heap.size wr w8) (hX : BxI w8 w.heap.size g gl b D8 [] (mkT ms (f i).q (f i).tx)) (hu : TldV w8 u (mkX ms (f i).q)) (b5 : Below w8.heap.size w8 w5)
    (ho : w5.ownsRow w.heap.size 25 1 tv xss.length vs) (h2 : ∀ (i : Nat) (xs : List Int), xss[i]? = some xs → ∃ u : Value, vs[i]? = some u ∧ TldV w5 u xs)
    (ho' : w6.ownsRow w.heap.size 25 1 v' (xss.length + 1) (vs ++ [u])) (hg : w5.grownBy w6 tv.ownBlock) : LpM w w6 g gl b g3 cs f (i + 1) v' (xss ++ [mkX ms (f i).q]) (mkT ms (f i).q (f i).tx) D8 := by
  have hB6 : ButS tv.ownBlock.toList w5 w6 := ButS.grown hg fun k hk => by simp [hk]
  have hty := own_typed ho
  have hlo : ∀ k ∈ tv.ownBlock.toList, w.heap.size ≤ k := fun k hk => (ho.lt k (by simpa [Option.mem_toList] using hk)).1
  have hBr := h.bel.size
  have bel8 : Below w.heap.size w w8 := h.bel.trans (hT.below hBr)
  have bel5 : Below w.heap.size w w5 := bel8.trans (b5.mono bel8.size)
  have hXl : (mkX ms (f i).q).length ≤ 400 ∧ IsBy (mkX ms (f i).q) := by
    unfold mkX
    split
    · rw [tokL_len (by omega)]
      exact ⟨by omega, tokL_by _ _⟩
    · exact ⟨by simp, fun x hx => by cases hx⟩
  have oldB : ∀ k, k < i → okU (f k).q 0 = true → ∃ (j : Nat) (s : MEn), (mkT ms (f i).q (f i).tx)[j]? = some s ∧ s.q.l = (f k).q.l ∧ s.tx = (f k).tx ∧ (xss ++ [mkX ms (f i).q])[k]? = some (tokL j 32) := fun k hk hv => by
    obtain ⟨j, s, hj, r1, r2, r3⟩ := h.bwd k hk hv
    refine ⟨j, s, ?_, r1, r2, by rw [List.getElem?_append_left (by rw [h.len]; exact hk)]; exact r3⟩
    unfold mkT
    split
    · rw [List.getElem?_append_left (List.getElem?_eq_some_iff.1 hj).1]; exact hj
    · exact hj
  refine ⟨(hX.later b5).buts hB6 fun k hk => ?_, Told.push ho h2 (hu.later b5) ho' hg, by rw [List.length_append, h.len]; rfl, ?_, ?_, bel5.trans (hB6.below hlo bel5.size), ?_, ?_, ?_, ?_⟩
  · obtain ⟨cs, fr, hc⟩ := hty k hk
    exact ⟨cs, _, fr, hc, notBoxTy⟩
  · unfold mkT
    split
    · rw [List.length_append]; have := h.tl; simp; omega
    · have := h.tl; omega
  · refine Row.butS (Row.later (hT.row h.act notBoxTyA) b5) hB6 fun hk => ?_
    obtain ⟨cs, fr, hc⟩ := hty _ hk
    have := (Row.later (hT.row h.act notBoxTyA) b5).symm.trans hc
    simp at this
  · unfold mkT
    split
    · intro s hs
      rcases List.mem_append.1 hs with hs | hs
      · exact h.good s hs
      · obtain rfl : s = ⟨(f i).q, (f i).tx⟩ := by simpa using hs
        exact hok.htxb
    · exact h.good
  · intro xs hx
    rcases List.mem_append.1 hx with hx | hx
    · exact h.xg xs hx
    · obtain rfl : xs = _ := by simpa using hx
      exact hXl
  · have old : ∀ (j : Nat) (s : MEn), ms[j]? = some s → ∃ k, k < i + 1 ∧ okU (f k).q 0 = true ∧ (f k).q.l = s.q.l ∧ (f k).tx = s.tx ∧ (xss ++ [mkX ms (f i).q])[k]? = some (tokL j 32) := fun j s hj => by
      obtain ⟨k, hk, r0, r1, r2, r3⟩ := h.rel j s hj
      exact ⟨k, by omega, r0, r1, r2, by rw [List.getElem?_append_left (by rw [h.len]; exact hk)]; exact r3⟩
    by_cases hk : okU (f i).q 0 = true
    · have e1 : mkT ms (f i).q (f i).tx = ms ++ [⟨(f i).q, (f i).tx⟩] := by unfold mkT; rw [if_pos hk]
      have e2 : mkX ms (f i).q = tokL ms.length 32 := by unfold mkX; rw [if_pos hk]
      intro j s hj
      rw [e1] at hj
      by_cases hjt : j < ms.length
      · rw [List.getElem?_append_left hjt] at hj
        exact old j s hj
      · rw [List.getElem?_append_right (by omega)] at hj
        have h0 : j - ms.length = 0 := by
          have := (List.getElem?_eq_some_iff.1 hj).1
          simp at this
          omega
        rw [h0] at hj
        simp at hj
        subst hj
        refine ⟨i, by omega, hk, rfl, rfl, ?_⟩
        rw [List.getElem?_append_right (by rw [h.len]; omega), h.len, Nat.sub_self, e2, show j = ms.length by omega]
        rfl
    · have e1 : mkT ms (f i).q (f i).tx = ms := by unfold mkT; rw [if_neg hk]
      rw [e1]
      exact old
  · intro k hk hv
    by_cases hki : k < i
    · exact oldB k hki hv
    · obtain rfl : k = i := by omega
      have e1 : mkT ms (f k).q (f k).tx = ms ++ [⟨(f k).q, (f k).tx⟩] := by unfold mkT; rw [if_pos hv]
      have e2 : mkX ms (f k).q = tokL ms.length 32 := by unfold mkX; rw [if_pos hv]
      refine ⟨ms.length, ⟨(f k).q, (f k).tx⟩, by rw [e1, List.getElem?_append_right (Nat.le_refl _), Nat.sub_self]; rfl, rfl, rfl, ?_⟩
      rw [List.getElem?_append_right (by rw [h.len]; omega), h.len, Nat.sub_self, e2]
      rfl
end Go.Proofs.YtooooncmjhcdbaaGreatDoor

/-
  The law BoxMarked: contract. Own work.
-/
namespace Go.Proofs.YtooooncmjhcdbaaGreatDoor
open Go.RowKit Go.Maps Go.ChangeMaps
def FMrk (B g gl b : Nat) (k9 : Int) (xs9 : List Int) (ts9 : List SEn) (ms9 : List MEn) (opn : Nat) (v : Value) (w : World) : Prop :=
  match opn with
  | 11 => TlF B g gl b k9 xs9 ts9 ms9 v w
  | 12 => TlF B g gl b k9 xs9 ts9 ms9 v w
  | 13 => TldG xs9 v w
  | 14 => IsF (.int .i64 k9) v w
  | 15 => TldG xs9 v w
  | 16 => IsF (.int .i64 k9) v w
  | _ => True

def SMrkd (g b0 off n c0 i : Nat) (ids : List Value) (nn : Int) (A E : Option Addr) (m c l d : Nat) (opn : Nat) (v : Value) : Prop :=
  match opn with
  | 0 => v = .pointer (some ⟨g, 0, none⟩)
  | 1 | 6 => v = .slice (some ⟨b0, off, none⟩) n c0
  | 2 | 7 => v = .int .i64 (i : Int)
  | 3 | 8 => v = .pointer (some ⟨b0, off + i * 12, none⟩)
  | 4 => v = .pointer (some ⟨b0, off + i * 12 + 1, none⟩)
  | 5 => v = .agg ids.toArray
  | 9 => v = .pointer (some ⟨b0, off + i * 12 + 9, none⟩)
  | 10 => v = .slice E l d
  | _ => True

def SMkR (g3 b0 off i c0 i2 gt xl ct xl9 c9 hl hc : Nat) (idp ida : List Value) (p a : BAct) (A9 Hd : Option Addr) (opn : Nat) (v : Value) : Prop :=
  match opn with
  | 0 | 1 | 36 | 37 => v = .bool true
  | 2 | 3 | 4 | 5 | 6 | 7 | 8 | 9 | 10 | 11 | 12 | 13 | 14 | 15 | 16 | 17 | 18 | 19 | 20 | 21 | 22 | 23 | 24 | 25 | 26 | 27 | 28 | 29 | 30 | 31 | 32 | 33 | 34 | 35 => v = undef
  | _ => True

def SMkV (g3 b0 off i c0 i2 gt xl ct xl9 c9 hl hc : Nat) (idp ida : List Value) (p a : BAct) (A9 Hd : Option Addr) (opn : Nat) (v : Value) : Prop :=
  match opn with
  | 0 | 1 | 7 | 8 | 17 | 18 | 27 | 28 | 35 | 36 | 37 => v = .bool false
  | 2 => v = .slice (some ⟨b0, off, none⟩) i c0
  | 3 => v = .int .i64 (i2 : Int)
  | 4 => v = .pointer (some ⟨b0, off + i2 * 12, none⟩)
  | 5 => v = .pointer (some ⟨b0, off + i2 * 12 + 1, none⟩)
  | 6 => v = .agg idp.toArray
  | 9 | 10 | 11 | 12 | 13 | 14 | 15 | 16 | 19 | 20 | 21 | 22 | 23 | 24 | 25 | 26 | 29 | 30 | 31 | 32 | 33 | 34 => v = undef
  | _ => True

def SMkQ (g3 b0 off i c0 i2 gt xl ct xl9 c9 hl hc : Nat) (idp ida : List Value) (p a : BAct) (A9 Hd : Option Addr) (opn : Nat) (v : Value) : Prop :=
  match opn with
  | 0 | 1 | 16 | 17 | 18 | 27 | 28 | 35 | 36 | 37 => v = .bool false
  | 2 | 9 => v = .slice (some ⟨b0, off, none⟩) i c0
  | 3 | 10 => v = .int .i64 (i2 : Int)
  | 4 | 11 => v = .pointer (some ⟨b0, off + i2 * 12, none⟩)
  | 5 | 12 => v = .pointer (some ⟨b0, off + i2 * 12 + 1, none⟩)
  | 6 | 13 => v = .agg idp.toArray
  | 7 | 8 => v = .bool true
  | 14 => v = .pointer (some ⟨g3, 1, none⟩)
  | 15 => v = .agg ida.toArray
  | 19 | 20 | 21 | 22 | 23 | 24 | 25 | 26 | 29 | 30 | 31 | 32 | 33 | 34 => v = undef
  | _ => True

def SMkX (g3 b0 off i c0 i2 gt xl ct xl9 c9 hl hc : Nat) (idp ida : List Value) (p a : BAct) (A9 Hd : Option Addr) (opn : Nat) (v : Value) : Prop :=
  match opn with
  | 0 | 1 | 26 | 27 | 28 | 35 | 36 | 37 => v = .bool false
  | 2 | 9 | 19 => v = .slice (some ⟨b0, off, none⟩) i c0
  | 3 | 10 | 20 => v = .int .i64 (i2 : Int)
  | 4 | 11 | 21 => v = .pointer (some ⟨b0, off + i2 * 12, none⟩)
  | 5 | 12 => v = .pointer (some ⟨b0, off + i2 * 12 + 1, none⟩)
  | 6 | 13 => v = .agg idp.toArray
  | 7 | 8 | 16 | 17 | 18 => v = .bool true
  | 14 => v = .pointer (some ⟨g3, 1, none⟩)
  | 15 => v = .agg ida.toArray
  | 22 => v = .pointer (some ⟨b0, off + i2 * 12 + 9, none⟩)
  | 23 => v = .slice p.E p.l p.d
  | 24 => v = .pointer (some ⟨g3, 9, none⟩)
  | 25 => v = .slice a.E a.l a.d
  | 29 | 30 | 31 | 32 | 33 | 34 => v = undef
  | _ => True

def SMkH (g3 b0 off i c0 i2 gt xl ct xl9 c9 hl hc : Nat) (idp ida : List Value) (p a : BAct) (A9 Hd : Option Addr) (opn : Nat) (v : Value) : Prop :=
  match opn with
  | 0 | 1 | 34 | 35 | 36 | 37 => v = .bool false
  | 2 | 9 | 19 => v = .slice (some ⟨b0, off, none⟩) i c0
  | 3 | 10 | 20 | 30 => v = .int .i64 (i2 : Int)
  | 4 | 11 | 21 => v = .pointer (some ⟨b0, off + i2 * 12, none⟩)
  | 5 | 12 => v = .pointer (some ⟨b0, off + i2 * 12 + 1, none⟩)
  | 6 | 13 => v = .agg idp.toArray
  | 7 | 8 | 16 | 17 | 18 | 26 | 27 | 28 => v = .bool true
  | 14 => v = .pointer (some ⟨g3, 1, none⟩)
  | 15 => v = .agg ida.toArray
  | 22 => v = .pointer (some ⟨b0, off + i2 * 12 + 9, none⟩)
  | 23 => v = .slice p.E p.l p.d
  | 24 => v = .pointer (some ⟨g3, 9, none⟩)
  | 25 => v = .slice a.E a.l a.d
  | 29 => v = .slice (some ⟨gt, 0, none⟩) xl ct
  | 31 => v = .pointer (some ⟨gt, i2, none⟩)
  | 32 => v = .slice A9 xl9 c9
  | 33 => v = .slice Hd hl hc
  | _ => True

def SMkT (g3 b0 off i c0 i2 gt xl ct xl9 c9 hl hc : Nat) (idp ida : List Value) (p a : BAct) (A9 Hd : Option Addr) (opn : Nat) (v : Value) : Prop :=
  match opn with
  | 0 | 1 => v = .bool false
  | 2 | 9 | 19 => v = .slice (some ⟨b0, off, none⟩) i c0
  | 3 | 10 | 20 | 30 => v = .int .i64 (i2 : Int)
  | 4 | 11 | 21 => v = .pointer (some ⟨b0, off + i2 * 12, none⟩)
  | 5 | 12 => v = .pointer (some ⟨b0, off + i2 * 12 + 1, none⟩)
  | 6 | 13 => v = .agg idp.toArray
  | 7 | 8 | 16 | 17 | 18 | 26 | 27 | 28 | 34 | 35 | 36 | 37 => v = .bool true
  | 14 => v = .pointer (some ⟨g3, 1, none⟩)
  | 15 => v = .agg ida.toArray
  | 22 => v = .pointer (some ⟨b0, off + i2 * 12 + 9, none⟩)
  | 23 => v = .slice p.E p.l p.d
  | 24 => v = .pointer (some ⟨g3, 9, none⟩)
  | 25 => v = .slice a.E a.l a.d
  | 29 => v = .slice (some ⟨gt, 0, none⟩) xl ct
  | 31 => v = .pointer (some ⟨gt, i2, none⟩)
  | 32 => v = .slice A9 xl9 c9
  | 33 => v = .slice Hd hl hc
  | _ => True

set_option maxRecDepth 100000 in
set_option maxHeartbeats 8000000 in
theorem boxMarked_any (f : Nat → BAct) (a : BAct) (A0 : Option Addr) (n c0 : Nat) (w : World) (hT : TabK w) (hf : BActs w w.heap.size A0 n f) (ha : BOk w w.heap.size a) :
    Calls Tryz.prog 4 #[.slice A0 n c0, .agg a.cells.toArray] w fun e w' => e = .returned (.bool true) ∧ Below w.heap.size w w' := by
  obtain ⟨ia, hia, hza, hsa⟩ := actI
  obtain ⟨is, his, hzs, hss, hbs⟩ := slI
  have hTw := hide hT
  have hff := hide hf
  have haa := hide ha
  have hsza := hide (szAct a)
  have hcl := hide (show a.cells.length = 12 from rfl)
  obtain ⟨cs, hcs⟩ : ∃ cs, cs = a.cells := ⟨_, rfl⟩
  rw [← hcs] at hsza hcl ⊢
  have Hcs := hide hcs
  clear hT hf ha hcs
  go_enter Tryz.func4, Tryz.ntmps4
  go_wp2_with (first
    | (with_reducible refine wl_box (o := ⟨some 3, _, _, _, _, _⟩) rfl 27 (.tmp 1) _ cs rfl rfl rfl ?_; intro g3 w1 r1 p1 l1 b1))
  refine (few_any w1 A0 n c0 f 14 (hff.out.below b1).c (by decide)).mono ?_
  rintro e w' ⟨⟨q1, rfl, hq1⟩, rfl⟩
  cases q1 with
  | false =>
    go_wp2_with fail
    refine (bawake_any w1 (hTw.out.later b1)).mono ?_
    rintro e w2 ⟨rfl, b2⟩
    go_wp2_with fail
    go_ret
    exact ⟨rfl, b1.trans (b2.mono b1.size)⟩
  | true =>
    obtain ⟨hn14, hfew⟩ := hq1 rfl
    have hFew := hide hfew
    clear hq1 hfew
    go_wp2_with (first
      | (with_reducible refine wg_load_row 3 false 16 rfl rfl rfl 27 (.tmp 3) g3 27 cs _ rfl rfl r1 Tryz.underlying27 rfl hsza.out ?_)
      | (with_reducible refine wg_build1B 3 false 16 rfl rfl rfl 22 (.tmp 17) rfl 27 ia _ cs 12 Tryz.underlying22 hia hza rfl hsa hcl.out (by decide) (by decide) rfl ?_; intro g20 w2 r20 p20 l20 b20))
    have B2 := b1.trans (b20.mono b1.size)
    have r1 := r1.later b20
    refine (few_any w2 _ 1 1 (fun _ => a) 1 (actC_one (by rw [Hcs.out] at r20; exact r20)) (by decide)).mono ?_
    rintro e w' ⟨⟨q2, rfl, hq2⟩, rfl⟩
    cases q2 with
    | false =>
      go_wp2_with fail
      refine (bawake_any w2 (hTw.out.later B2)).mono ?_
      rintro e w3 ⟨rfl, b3⟩
      go_wp2_with fail
      go_ret
      exact ⟨rfl, B2.trans (b3.mono B2.size)⟩
    | true =>
      have hfa := hide ((hq2 rfl).2 0 (by decide))
      clear hq2 r20 p20 l20
      go_wp2_with fail
      refine (new_ideal w2 none 0 0 w.heap.size B2.size).mono ?_
      rintro e w3 ⟨g, gl, b, rfl, X3, b3⟩
      have B3 := B2.trans (b3.mono B2.size)
      have L3 : LpM w w3 g gl b g3 cs f 0 (.slice none 0 0) [] [] (.map []) := ⟨X3, Told.nil _ _, rfl, Nat.le_refl _, r1.later b3, B3, (fun s hs => by cases hs), (fun s hs => by cases hs), (fun j s hj => by simp at hj), (fun k hk => absurd hk (by omega))⟩
      have hn14 : n ≤ 14 := by omega
      have hnI : (n : Int) ≤ 14 := by omega
      clear X3 r1 b1 b3 b20 B2 p1 l1
      go_wp2_with fail
      go_loopw [6, 7] (fun tv iv wr => ∃ (i : Nat) (xss : List (List Int)) (ts : List MEn) (D : DU), i ≤ n ∧ iv = .int .i64 i ∧ LpM w wr g gl b g3 cs f i tv xss ts D) (fun _ iv _ => n - (intOf iv).toNat)
      case atStart => exact ⟨0, [], [], .map [], by omega, rfl, L3⟩
      case round =>
        clear L3 B3
        obtain ⟨i, xss, ts, D, him, rfl, hL⟩ := hrel
        by_cases hi : i < n
        · have hL0 := hide hL
          clear hL
          obtain ⟨b0, off, rfl, hb0, hcc⟩ := (hff.out.below hL0.out.bel) (by omega)
          obtain ⟨hcell, hok⟩ := hcc i hi
          have hfw := hFew.out i hi
          have HOk := hide hok
          have HFw := hide hfw
          obtain ⟨vs, hown, hvs⟩ := hL0.out.told
          have HOwn := hide hown
          have HVs := hide hvs
          have hBr := hL0.out.bel.size
          obtain ⟨ids, hids⟩ : ∃ ids, ids = vk .i64 (f i).q.l := ⟨_, rfl⟩
          have hidz := hide (szKid (f i).q)
          have hin : isI (f i).n := hok.hn
          have hwi := hok
          obtain ⟨p, hp⟩ : ∃ p, p = f i := ⟨_, rfl⟩
          rw [← hp] at hids hidz hin hcell hok hfw
          have Hp := hide hp
          have hcl' : ∀ w1, TurnB w.heap.size wr w1 → ∀ k v, p.cells[k]? = some v → w1.cell? ⟨b0, off + i * 12 + k, none⟩ = some v := fun w1 ht k v hk => ((ht.below hBr).cell (p := ⟨b0, off + i * 12 + k, none⟩) hb0).trans (hcell k v hk)
          clear hp hcell hcc hwi
          obtain ⟨kd, q, nn, A, m, c, E, l, d, at_, by_, ad, tx⟩ := p
          dsimp only at hids hidz hin
          rw [← hids] at hidz
          have HC7 : ∀ w1, TurnB w.heap.size wr w1 → w1.cell? ⟨b0, off + i * 12 + 7, none⟩ = some (.int .i64 nn) := fun w1 ht => hcl' w1 ht 7 _ rfl
          have HC8 : ∀ w1, TurnB w.heap.size wr w1 → w1.cell? ⟨b0, off + i * 12 + 8, none⟩ = some (.slice A m c) := fun w1 ht => hcl' w1 ht 8 _ rfl
          have HC9 : ∀ w1, TurnB w.heap.size wr w1 → w1.cell? ⟨b0, off + i * 12 + 9, none⟩ = some (.slice E l d) := fun w1 ht => hcl' w1 ht 9 _ rfl
          have HI : ∀ w1, TurnB w.heap.size wr w1 → ∀ j v, ids[j]? = some v → w1.cell? ⟨b0, off + i * 12 + 1 + j, none⟩ = some v := fun w1 ht j v hj => by
            rw [hids] at hj
            have h6 := (List.getElem?_eq_some_iff.1 hj).1
            have := hcl' w1 ht (1 + j) v (by
              match j, h6 with
              | 0, _ => exact hj
              | 1, _ => exact hj
              | 2, _ => exact hj
              | 3, _ => exact hj
              | 4, _ => exact hj
              | 5, _ => exact hj)
            rw [← Nat.add_assoc] at this
            exact this
          have HSl0 : ∀ w1, Below wr.heap.size wr w1 → Calls Tryz.prog 14 #[.pointer (some ⟨g, 0, none⟩), .agg ids.toArray, .slice E l d] w1 fun e w' =>
              ∃ u, e = .returned (.tuple #[u, .int .i64 (slK q 0)]) ∧ TldV w' u (mkX ts q) ∧ (∃ D', BxI w' w.heap.size g gl b D' [] (mkT ts q tx)) ∧ TurnB w.heap.size w1 w' := by
            intro w1 hb
            have hX := hL0.out.box.later hb
            have hbel := hL0.out.bel.trans (hb.mono hBr)
            have htl := hL0.out.tl
            rw [hids]
            exact (markI w1 _ g gl b D [] ts q E l d tx hX (hTw.out.later hbel) (by omega) (bs_up (hok.htx.below (hb.mono hBr)) (Nat.le_trans hBr hb.size))).mono fun e w' h => h.v hX
          obtain ⟨k9, hk9⟩ : ∃ k9, k9 = slK q 0 := ⟨_, rfl⟩
          obtain ⟨xs9, hxs9⟩ : ∃ xs9, xs9 = mkX ts q := ⟨_, rfl⟩
          obtain ⟨ts9, hts9⟩ : ∃ ts9, ts9 = mkT ts q tx := ⟨_, rfl⟩
          rw [← hk9, ← hxs9, ← hts9] at HSl0
          have HSl := HSl0
          have Hx9 := hide hxs9
          have Ht9 := hide hts9
          have hxl := hL0.out.len
          have hx1 : xss.length + 1 ≤ maxLen := by simp only [maxLen]; omega
          have hx2 : (xss.length + 1) * 24 ≤ 140737488355328 := by omega
          clear hk9 hxs9 hts9 hcl' hown hvs hids hxl HSl0 hfw hok hin
          go_wp2_with fail
          rename_i K1 hK1
          refine wp_region_vals [11, 12, 13, 14, 15, 16] (SMrkd g b0 off n c0 i ids nn A E m c l d) (JTu wr (TurnB w.heap.size) [11, 12, 13, 14, 15, 16] (FMrk w.heap.size g gl b k9 xs9 [] ts9)) (by kernel_rfl) (by kernel_rfl) (by kernel_rfl) (by kernel_rfl) (by kernel_rfl) (JTu.start _ (TurnB.of ((Below.refl _ _).drew))) ?obs1 ?he1
          case obs1 =>
            refine ⟨?_, ?_, ?_, ?_, ?_, ?_, ?_, ?_, ?_, ?_, ?_, ?_, ?_, ?_, ?_, ?_, ?_, trivial⟩
            · exact .inl ⟨by kernel_rfl, fun L a1 w1 n' h => ⟨_, rfl, run_move (.tmp 5) rfl (h.var n' 5 (by kernel_rfl))⟩⟩
            · exact .inl ⟨by kernel_rfl, fun L a1 w1 n' h => ⟨_, rfl, run_move (.tmp 0) rfl (h.var n' 0 (by kernel_rfl))⟩⟩
            · exact .inl ⟨by kernel_rfl, fun L a1 w1 n' h => ⟨_, rfl, run_move (.tmp 7) rfl (h.var n' 7 (by kernel_rfl))⟩⟩
            · exact .inl ⟨by kernel_rfl, fun L a1 w1 n' h => ⟨_, rfl, run_indexSn 22 (.tmp 32) (.tmp 33) 27 b0 off n c0 i 12 rfl Tryz.underlying22 Tryz.sizeOf27 (h.dep n' 1 32 (by kernel_rfl) rfl) (h.dep n' 2 33 (by kernel_rfl) rfl) hi⟩⟩
            · refine .inl ⟨by kernel_rfl, fun L a1 w1 n' h => ⟨.pointer (some ⟨b0, off + i * 12 + 1, none⟩), rfl, ?_⟩⟩
              have e0 : a1.eval (.tmp 34) = _ := h.dep n' 3 34 (by kernel_rfl) rfl
              unfold execOp
              simp only [e0]
              go_simp
            · exact .inl ⟨by kernel_rfl, fun L a1 w1 n' h => ⟨_, rfl, run_loadC 24 (.tmp 35) b0 (off + i * 12 + 1) ids _ rfl (h.dep n' 4 35 (by kernel_rfl) rfl) (HI w1 h.inv.1) Tryz.underlying24 rfl hidz.out⟩⟩
            · exact .inl ⟨by kernel_rfl, fun L a1 w1 n' h => ⟨_, rfl, run_move (.tmp 0) rfl (h.var n' 0 (by kernel_rfl))⟩⟩
            · exact .inl ⟨by kernel_rfl, fun L a1 w1 n' h => ⟨_, rfl, run_move (.tmp 7) rfl (h.var n' 7 (by kernel_rfl))⟩⟩
            · exact .inl ⟨by kernel_rfl, fun L a1 w1 n' h => ⟨_, rfl, run_indexSn 22 (.tmp 37) (.tmp 38) 27 b0 off n c0 i 12 rfl Tryz.underlying22 Tryz.sizeOf27 (h.dep n' 6 37 (by kernel_rfl) rfl) (h.dep n' 7 38 (by kernel_rfl) rfl) hi⟩⟩
            · refine .inl ⟨by kernel_rfl, fun L a1 w1 n' h => ⟨.pointer (some ⟨b0, off + i * 12 + 9, none⟩), rfl, ?_⟩⟩
              have e0 : a1.eval (.tmp 39) = _ := h.dep n' 8 39 (by kernel_rfl) rfl
              unfold execOp
              simp only [e0]
              go_simp
            · exact .inl ⟨by kernel_rfl, fun L a1 w1 n' h => ⟨_, rfl, run_loadA 25 (.tmp 40) ⟨b0, off + i * 12 + 9, none⟩ rfl Tryz.isAgg25 (h.dep n' 9 40 (by kernel_rfl) rfl) (HC9 w1 h.inv.1)⟩⟩
            · refine .inr fun L a1 w1 n' h K hK => ?_
              have no : L.getD 11 false = false := n'.not_yet
              have b1 := h.inv.2.1 ((bits_at rfl).trans no)
              have e0 : a1.eval (.tmp 31) = .pointer (some ⟨g, 0, none⟩) := h.dep n' 0 31 (by kernel_rfl) rfl
              have e1 : a1.eval (.tmp 36) = .agg ids.toArray := h.dep n' 5 36 (by kernel_rfl) rfl
              have e2 : a1.eval (.tmp 41) = .slice E l d := h.dep n' 10 41 (by kernel_rfl) rfl
              refine JTu.call h n' (fun hx hy => TurnB.trans hx hy) hK rfl (by kernel_rfl) 42 rfl 14 _ _ #[.pointer (some ⟨g, 0, none⟩), .agg ids.toArray, .slice E l d] rfl Tryz.call14 ?_ (HSl w1 b1) ?_
              · simp only [List.map_toArray, List.map_cons, List.map_nil, e0, e1, e2]
              · rintro e w3 ⟨u, rfl, hu, hX, hT⟩
                exact ⟨_, rfl, trivial, ⟨u, rfl, hu, hX⟩, hT⟩
            · refine .inr fun L a1 w1 n' h K hK => ?_
              obtain ⟨u, hv, hu, hX⟩ := JTu.get h n' 11 42 (by kernel_rfl) (by kernel_rfl) rfl
              exact JTu.run h n' hK 30 rfl (.tuple #[u, .int .i64 k9]) (run_move (.tmp 42) rfl hv) trivial (⟨u, rfl, hu, hX⟩) 11 rfl (by decide)
            · refine .inr fun L a1 w1 n' h K hK => ?_
              obtain ⟨u, hv, hu, hX⟩ := JTu.get h n' 12 30 (by kernel_rfl) (by kernel_rfl) rfl
              exact JTu.run h n' hK 43 rfl (u) (run_extractA (v := u) (.tmp 30) 0 _ rfl hv rfl) trivial (hu) 11 rfl (by decide)
            · refine .inr fun L a1 w1 n' h K hK => ?_
              obtain ⟨u, hv, hu, hX⟩ := JTu.get h n' 12 30 (by kernel_rfl) (by kernel_rfl) rfl
              exact JTu.run h n' hK 44 rfl (.int .i64 k9) (run_extractA (v := .int .i64 k9) (.tmp 30) 1 _ rfl hv rfl) trivial (rfl) 11 rfl (by decide)
            · refine .inr fun L a1 w1 n' h K hK => ?_
              obtain hu := JTu.get h n' 13 43 (by kernel_rfl) (by kernel_rfl) rfl
              exact JTu.run h n' hK 8 rfl (_) (run_assign (.tmp 43) rfl rfl) trivial (hu) 11 rfl (by decide)
            · refine .inr fun L a1 w1 n' h K hK => ?_
              obtain hv := JTu.get h n' 14 44 (by kernel_rfl) (by kernel_rfl) rfl
              exact JTu.run h n' hK 9 rfl (.int .i64 k9) (run_assign (.tmp 44) rfl hv) trivial (rfl) 11 rfl (by decide)
          case he1 =>
            intro V w8 hV hJ
            have hTr : TurnB w.heap.size wr w8 := hJ.1
            obtain ⟨u, _, _, D8, hX8⟩ := JTu.last hJ 11 42 rfl rfl
            have hu8 : TldV w8 (V 15) xs9 := JTu.last hJ 15 8 rfl rfl
            clear hV hJ
            simp only [putOps, List.setIfInBounds_toArray, List.set_cons_succ, List.set_cons_zero, Nat.reduceAdd]
            refine hK1 _ _ ?_
            have Hu8 := hide hu8
            obtain ⟨A9, c9, hsv, _, _⟩ := hu8
            have Hsv := hide hsv
            rw [hsv]
            clear hsv
            generalize V 11 = z11
            generalize V 12 = z12
            generalize V 13 = z13
            generalize V 14 = z14
            generalize V 16 = z16
            have hBw : w.heap.size ≤ w8.heap.size := Nat.le_trans hBr hTr.size
            have hown8 := own_turn HOwn.out hTr notBoxTy
            have Hown8 := hide hown8
            have hvs8 := fun (i : Nat) (xs : List Int) (hx : xss[i]? = some xs) => (let ⟨u, hu, ht⟩ := HVs.out i xs hx; ⟨u, hu, ht.turn hTr⟩ : ∃ u : Value, vs[i]? = some u ∧ TldV w8 u xs)
            have Hvs8 := hide hvs8
            have HTr := hide hTr
            have HX8 := hide hX8
            obtain ⟨ln, hln⟩ : ∃ ln, ln = xs9.length := ⟨_, rfl⟩
            rw [← hln]
            have Hln := hide hln
            clear hown8 hvs8 hTr hX8 HSl HI HC7 HC8 HC9 hln
            go_wp2_with (first
              | ((with_reducible refine wl_build1 rfl 32 (.tmp 46) rfl 25 is (.slice none 0 0) (.slice A9 ln c9) Tryz.underlying32 his hzs hss rfl rfl rfl ?_); intro g5 w5 r5 p5 q5 b5; have hown5 := own_later Hown8.out b5)
              | ((at_builtin; with_reducible refine wl_append_at rfl (.tmp 45) (.tmp 47) 32 rfl w.heap.size 25 is (.slice none 0 0) 1 24 Tryz.underlying32 his hzs hss hbs rfl (by decide) u6 xss.length vs rfl hown5 ⟨g5, 0, none⟩ 1 1 [.slice A9 ln c9] rfl rfl (row_src r5) (one_slB _ _ _) hx1 hx2 (Nat.le_trans hBw b5.size) ?_); intro v6 w6 hown6 hg6 hloc6))
            go_roundw
            case rel =>
              refine ⟨i + 1, _, _, D8, by omega, by go_num, LpM.step (u := .slice A9 ln c9) hL0.out HOk.out HTr.out ?_ ?_ b5 hown5 (fun i xs hx => let ⟨u, hu, ht⟩ := Hvs8.out i xs hx; ⟨u, hu, ht.later b5⟩) hown6 hg6⟩
              · rw [← Hp.out]; exact Ht9.out ▸ HX8.out
              · rw [← Hp.out, Hln.out, ← Hsv.out]; exact Hx9.out ▸ Hu8.out
            case measure => simp [intOf]; omega
        · obtain rfl : i = n := by omega
          clear hi him
          have HL := hide hL
          have hB4 := hide hL.bel
          have HP := pick_any wr w.heap.size u6 xss a hL.told (by rw [hL.len]; exact hn14) hL.xg ⟨bs_up (haa.out.had.below hL.bel) hL.bel.size, haa.out.hadb, bs_up (haa.out.htx.below hL.bel) hL.bel.size, haa.out.htxb, haa.out.hmc, haa.out.hld, haa.out.hq, haa.out.hn, haa.out.hat, haa.out.hby⟩ hfa.out.2
          rw [← Hcs.out] at HP
          have r3 := hL.act
          have HPk := hide HP
          clear hL HP
          go_wp2_with (first
            | (with_reducible refine wl_load_row (o := ⟨some 50, _, _, _, _, _⟩) rfl 27 (.tmp 3) g3 27 cs _ rfl rfl r3 Tryz.underlying27 rfl hsza.out ?_))
          refine HPk.out.mono ?_
          rintro e w5 ⟨Hd, hc, hs, rfl, hbs5, hby5, hsl, b5⟩
          have X5 := HL.out.box.later b5
          have B5 := hB4.out.trans (b5.mono hB4.out.size)
          have r5 := r3.later b5
          have ha9 : Hid (a.cells[9]? = some (.slice a.E a.l a.d)) := hide rfl
          obtain ⟨ida, hida0⟩ : ∃ ida, ida = vk .i64 a.q.l := ⟨_, rfl⟩
          have Hida := hide hida0
          have hida := hide (szKid a.q)
          rw [← hida0] at hida
          have hsA : Hid (∀ wx, Row wx 27 g3 a.cells → Row wx 27 g3 ([.int .u8 a.k] ++ (ida ++ BAct.rest a))) := hide (fun wx h => by rw [hida0]; exact h)
          clear hida0 r3
          have hR := hide (fun (r : Bool) (hr : r = true ↔ ∃ k, k < i ∧ MatchM f a hs xss k) => (by rw [Bool.eq_iff_iff]; exact hr.trans (HL.out.right hn14 a hs).symm : r = (okU a.q 0 && chM ts a.q a.tx hs)))
          have Hlen := hide HL.out.len
          have hxg := hide HL.out.xg
          have Q5 : LqF w w5 g3 a u6 xss none 0 [] Hd hc hs := ⟨HL.out.told.later b5, by rw [← Hcs.out]; exact r5, B5, Bs.nil_, hbs5⟩
          have XB := hide X5
          have Hts : Hid ((∀ s ∈ ts, IsBy s.tx) ∧ ts.length ≤ 10000) := hide ⟨HL.out.good, by have := HL.out.tl; omega⟩
          have Hby := hide hby5
          have B5h := hide B5
          clear r5 X5 hbs5 HL hB4 hby5 HPk B5
          go_wp2_with fail
          go_loopw [11, 12] (fun rv iv wr2 => ∃ (i2 : Nat) (r : Bool), i2 ≤ i ∧ rv = .bool r ∧ iv = .int .i64 i2 ∧ (LqF w wr2 g3 a u6 xss none 0 [] Hd hc hs ∧ Below w5.heap.size w5 wr2) ∧ (r = true ↔ ∃ k, k < i2 ∧ MatchM f a hs xss k)) (fun _ iv _ => i - (intOf iv).toNat)
          case atStart => exact ⟨0, false, by omega, rfl, rfl, ⟨Q5, Below.refl _ _⟩, by simp⟩
          case round =>
            clear Q5
            obtain ⟨i2, r, hi2, rfl, rfl, ⟨hQ, hbw⟩, hN⟩ := hrel
            by_cases hii : i2 < i
            · have hQ2 := hide hQ
              have hN2 := hide hN
              have hbw2 := hide hbw
              clear hQ hN hbw
              obtain ⟨b0, off, rfl, hb0, hcc⟩ := (hff.out.below hQ2.out.bel) (by omega)
              obtain ⟨hcell, hok⟩ := hcc i2 hii
              clear hcc
              obtain ⟨gt, ct, ut, rfl, htc, A9, c9, rfl, hb9, ht9⟩ := hQ2.out.told.at (i := i2) (xs := xss[i2]'(by have := Hlen.out; omega)) (List.getElem?_eq_getElem (by have := Hlen.out; omega))
              have hx9 := hide (hxg.out _ (List.getElem_mem (show i2 < xss.length by have := Hlen.out; omega))).2
              have hxe : Hid (xss[i2]? = some (xss[i2]'(by have := Hlen.out; omega))) := hide (List.getElem?_eq_getElem (by have := Hlen.out; omega))
              generalize xss[i2]'(by have := Hlen.out; omega) = x9 at *
              obtain ⟨p, hp⟩ : ∃ p, p = f i2 := ⟨_, rfl⟩
              rw [← hp] at hcell hok
              have Hp := hide hp
              clear hp
              have hBr := hQ2.out.bel.size
              have hxn : i2 < xss.length := by have := Hlen.out; omega
              obtain ⟨idp, hidp0⟩ : ∃ idp, idp = vk .i64 p.q.l := ⟨_, rfl⟩
              have hidp := hide (szKid p.q)
              rw [← hidp0] at hidp
              have HC9 : ∀ w1, Below wr.heap.size wr w1 → w1.cell? ⟨b0, off + i2 * 12 + 9, none⟩ = some (.slice p.E p.l p.d) := fun w1 hb => ((hb.mono hBr).cell (p := ⟨b0, off + i2 * 12 + 9, none⟩) hb0).trans (hcell 9 _ rfl)
              have HI : ∀ w1, Below wr.heap.size wr w1 → ∀ j v, idp[j]? = some v → w1.cell? ⟨b0, off + i2 * 12 + 1 + j, none⟩ = some v := fun w1 hb j v hj => by
                rw [hidp0] at hj
                have h6 := (List.getElem?_eq_some_iff.1 hj).1
                have := ((hb.mono hBr).cell (p := ⟨b0, off + i2 * 12 + (1 + j), none⟩) hb0).trans (hcell (1 + j) v (by
                  match j, h6 with
                  | 0, _ => exact hj
                  | 1, _ => exact hj
                  | 2, _ => exact hj
                  | 3, _ => exact hj
                  | 4, _ => exact hj
                  | 5, _ => exact hj))
                rw [← Nat.add_assoc] at this
                exact this
              have ract : Row wr 27 g3 a.cells := hQ2.out.act
              have rA := hsA.out wr ract
              have HVal0 : ∀ w1, Below wr.heap.size wr w1 → Calls Tryz.prog 15 #[.agg idp.toArray] w1 fun e w' => e = .returned (.bool (okU p.q 0)) ∧ Below w1.heap.size w1 w' := fun w1 hb => by
                rw [hidp0, okU0]
                exact valid_any p.q.a p.q.b p.q.c p.q.d p.q.e p.q.f w1 (hTw.out.later (hQ2.out.bel.trans (hb.mono hBr)))
              have HEt0 : ∀ w1, Below wr.heap.size wr w1 → Calls Tryz.prog 13 #[.slice p.E p.l p.d, .slice a.E a.l a.d] w1 fun e w' => e = .returned (.bool (decide (p.tx = a.tx))) ∧ w1 = w' := fun w1 hb => by
                have HE := equal_any p.E a.E p.l a.l p.d a.d p.tx a.tx w1 ((bs_up hok.htx hBr).later hb) ((bs_up (haa.out.htx.below hQ2.out.bel) hBr).later hb)
                rwa [beq_by hok.htxb haa.out.htxb] at HE
              have HEh0 : ∀ w1, Below wr.heap.size wr w1 → Calls Tryz.prog 13 #[.slice A9 x9.length c9, .slice Hd hs.length hc] w1 fun e w' => e = .returned (.bool (decide (x9 = hs))) ∧ w1 = w' := fun w1 hb => by
                have HE := equal_any A9 Hd x9.length hs.length c9 hc x9 hs w1 (hb9.later hb) (hQ2.out.bh.later hb)
                rwa [beq_by hx9.out Hby.out] at HE
              have hEq0 : ∀ wx, (Op.equalIn 10000 24 (.agg idp.toArray) (.agg ida.toArray)).run Tryz.prog wx = .ok (decide (p.q.l = a.q.l)) wx := fun wx => by rw [hidp0, Hida.out]; exact eqIdD 9998 p.q a.q wx
              have hMa : MatchM f a hs xss i2 ↔ okU p.q 0 = true ∧ p.q.l = a.q.l ∧ p.tx = a.tx ∧ x9 = hs := by
                unfold MatchM
                rw [← Hp.out, hxe.out, Option.some.injEq]
              have hSt : ∀ r' : Bool, (r' = true ↔ (r = true ∨ MatchM f a hs xss i2)) → (r' = true ↔ ∃ k, k < i2 + 1 ∧ MatchM f a hs xss k) := fun r' hr => by
                rw [hr, hN2.out]
                constructor
                · rintro (⟨k, hk, hm⟩ | hm)
                  · exact ⟨k, by omega, hm⟩
                  · exact ⟨i2, by omega, hm⟩
                · rintro ⟨k, hk, hm⟩
                  by_cases hki : k = i2
                  · subst hki; exact .inr hm
                  · exact .inl ⟨k, by omega, hm⟩
              have HSt := hide hSt
              have HMa := hide hMa
              have ha9 := ha9
              clear hcell hok hb9 ht9 hidp0 hSt hMa
              go_wp2_with fail
              rename_i K15 hK15
              cases r with
              | true =>
                refine wp_region_valsS [] (SMkR g3 b0 off i c0 i2 gt (xss.length) ct (x9.length) c9 (hs.length) hc idp ida p a A9 Hd) (fun _ _ wz => Below wr.heap.size wr wz) (by kernel_rfl) (by kernel_rfl) (by kernel_rfl) (by kernel_rfl) ((Below.refl _ _).drew) ?obs ?he
                case obs =>
                  refine ⟨?_, ?_, ?_, ?_, ?_, ?_, ?_, ?_, ?_, ?_, ?_, ?_, ?_, ?_, ?_, ?_, ?_, ?_, ?_, ?_, ?_, ?_, ?_, ?_, ?_, ?_, ?_, ?_, ?_, ?_, ?_, ?_, ?_, ?_, ?_, ?_, ?_, ?_, trivial⟩
                  · refine .inl ⟨.inl rfl, ?_⟩
                    exact .inl ⟨by kernel_rfl, fun L a1 w1 n h => ⟨_, rfl, run_move (.tmp 11) rfl (h.var n 11 (by kernel_rfl))⟩⟩
                  · refine .inl ⟨.inl rfl, ?_⟩
                    exact .inl ⟨by kernel_rfl, fun L a1 w1 n h => ⟨_, rfl, run_move (.tmp 58) rfl (h.dep n 0 58 (by kernel_rfl) rfl)⟩⟩
                  · exact .inr ⟨⟨1, false, 59, rfl, by kernel_rfl, rfl, by simp, fun v h => by rw [show v = .bool true from h]; first | exact ne_tf | exact ne_ft | exact ne_undef _⟩, by kernel_rfl, rfl⟩
                  · exact .inr ⟨⟨1, false, 59, rfl, by kernel_rfl, rfl, by simp, fun v h => by rw [show v = .bool true from h]; first | exact ne_tf | exact ne_ft | exact ne_undef _⟩, by kernel_rfl, rfl⟩
                  · exact .inr ⟨⟨1, false, 59, rfl, by kernel_rfl, rfl, by simp, fun v h => by rw [show v = .bool true from h]; first | exact ne_tf | exact ne_ft | exact ne_undef _⟩, by kernel_rfl, rfl⟩
                  · exact .inr ⟨⟨1, false, 59, rfl, by kernel_rfl, rfl, by simp, fun v h => by rw [show v = .bool true from h]; first | exact ne_tf | exact ne_ft | exact ne_undef _⟩, by kernel_rfl, rfl⟩
                  · exact .inr ⟨⟨1, false, 59, rfl, by kernel_rfl, rfl, by simp, fun v h => by rw [show v = .bool true from h]; first | exact ne_tf | exact ne_ft | exact ne_undef _⟩, by kernel_rfl, rfl⟩
                  · exact .inr ⟨⟨1, false, 59, rfl, by kernel_rfl, rfl, by simp, fun v h => by rw [show v = .bool true from h]; first | exact ne_tf | exact ne_ft | exact ne_undef _⟩, by kernel_rfl, rfl⟩
                  · exact .inr ⟨⟨1, false, 59, rfl, by kernel_rfl, rfl, by simp, fun v h => by rw [show v = .bool true from h]; first | exact ne_tf | exact ne_ft | exact ne_undef _⟩, by kernel_rfl, rfl⟩
                  · exact .inr ⟨⟨8, true, 66, rfl, by kernel_rfl, rfl, by simp, fun v h => by rw [show v = undef from h]; first | exact ne_tf | exact ne_ft | exact ne_undef _⟩, by kernel_rfl, rfl⟩
                  · exact .inr ⟨⟨8, true, 66, rfl, by kernel_rfl, rfl, by simp, fun v h => by rw [show v = undef from h]; first | exact ne_tf | exact ne_ft | exact ne_undef _⟩, by kernel_rfl, rfl⟩
                  · exact .inr ⟨⟨8, true, 66, rfl, by kernel_rfl, rfl, by simp, fun v h => by rw [show v = undef from h]; first | exact ne_tf | exact ne_ft | exact ne_undef _⟩, by kernel_rfl, rfl⟩
                  · exact .inr ⟨⟨8, true, 66, rfl, by kernel_rfl, rfl, by simp, fun v h => by rw [show v = undef from h]; first | exact ne_tf | exact ne_ft | exact ne_undef _⟩, by kernel_rfl, rfl⟩
                  · exact .inr ⟨⟨8, true, 66, rfl, by kernel_rfl, rfl, by simp, fun v h => by rw [show v = undef from h]; first | exact ne_tf | exact ne_ft | exact ne_undef _⟩, by kernel_rfl, rfl⟩
                  · exact .inr ⟨⟨8, true, 66, rfl, by kernel_rfl, rfl, by simp, fun v h => by rw [show v = undef from h]; first | exact ne_tf | exact ne_ft | exact ne_undef _⟩, by kernel_rfl, rfl⟩
                  · exact .inr ⟨⟨8, true, 66, rfl, by kernel_rfl, rfl, by simp, fun v h => by rw [show v = undef from h]; first | exact ne_tf | exact ne_ft | exact ne_undef _⟩, by kernel_rfl, rfl⟩
                  · exact .inr ⟨⟨8, true, 66, rfl, by kernel_rfl, rfl, by simp, fun v h => by rw [show v = undef from h]; first | exact ne_tf | exact ne_ft | exact ne_undef _⟩, by kernel_rfl, rfl⟩
                  · exact .inr ⟨⟨1, false, 59, rfl, by kernel_rfl, rfl, by simp, fun v h => by rw [show v = .bool true from h]; first | exact ne_tf | exact ne_ft | exact ne_undef _⟩, by kernel_rfl, rfl⟩
                  · exact .inr ⟨⟨1, false, 59, rfl, by kernel_rfl, rfl, by simp, fun v h => by rw [show v = .bool true from h]; first | exact ne_tf | exact ne_ft | exact ne_undef _⟩, by kernel_rfl, rfl⟩
                  · exact .inr ⟨⟨18, true, 76, rfl, by kernel_rfl, rfl, by simp, fun v h => by rw [show v = undef from h]; first | exact ne_tf | exact ne_ft | exact ne_undef _⟩, by kernel_rfl, rfl⟩
                  · exact .inr ⟨⟨18, true, 76, rfl, by kernel_rfl, rfl, by simp, fun v h => by rw [show v = undef from h]; first | exact ne_tf | exact ne_ft | exact ne_undef _⟩, by kernel_rfl, rfl⟩
                  · exact .inr ⟨⟨18, true, 76, rfl, by kernel_rfl, rfl, by simp, fun v h => by rw [show v = undef from h]; first | exact ne_tf | exact ne_ft | exact ne_undef _⟩, by kernel_rfl, rfl⟩
                  · exact .inr ⟨⟨18, true, 76, rfl, by kernel_rfl, rfl, by simp, fun v h => by rw [show v = undef from h]; first | exact ne_tf | exact ne_ft | exact ne_undef _⟩, by kernel_rfl, rfl⟩
                  · exact .inr ⟨⟨18, true, 76, rfl, by kernel_rfl, rfl, by simp, fun v h => by rw [show v = undef from h]; first | exact ne_tf | exact ne_ft | exact ne_undef _⟩, by kernel_rfl, rfl⟩
                  · exact .inr ⟨⟨18, true, 76, rfl, by kernel_rfl, rfl, by simp, fun v h => by rw [show v = undef from h]; first | exact ne_tf | exact ne_ft | exact ne_undef _⟩, by kernel_rfl, rfl⟩
                  · exact .inr ⟨⟨18, true, 76, rfl, by kernel_rfl, rfl, by simp, fun v h => by rw [show v = undef from h]; first | exact ne_tf | exact ne_ft | exact ne_undef _⟩, by kernel_rfl, rfl⟩
                  · exact .inr ⟨⟨18, true, 76, rfl, by kernel_rfl, rfl, by simp, fun v h => by rw [show v = undef from h]; first | exact ne_tf | exact ne_ft | exact ne_undef _⟩, by kernel_rfl, rfl⟩
                  · exact .inr ⟨⟨1, false, 59, rfl, by kernel_rfl, rfl, by simp, fun v h => by rw [show v = .bool true from h]; first | exact ne_tf | exact ne_ft | exact ne_undef _⟩, by kernel_rfl, rfl⟩
                  · exact .inr ⟨⟨1, false, 59, rfl, by kernel_rfl, rfl, by simp, fun v h => by rw [show v = .bool true from h]; first | exact ne_tf | exact ne_ft | exact ne_undef _⟩, by kernel_rfl, rfl⟩
                  · exact .inr ⟨⟨28, true, 86, rfl, by kernel_rfl, rfl, by simp, fun v h => by rw [show v = undef from h]; first | exact ne_tf | exact ne_ft | exact ne_undef _⟩, by kernel_rfl, rfl⟩
                  · exact .inr ⟨⟨28, true, 86, rfl, by kernel_rfl, rfl, by simp, fun v h => by rw [show v = undef from h]; first | exact ne_tf | exact ne_ft | exact ne_undef _⟩, by kernel_rfl, rfl⟩
                  · exact .inr ⟨⟨28, true, 86, rfl, by kernel_rfl, rfl, by simp, fun v h => by rw [show v = undef from h]; first | exact ne_tf | exact ne_ft | exact ne_undef _⟩, by kernel_rfl, rfl⟩
                  · exact .inr ⟨⟨28, true, 86, rfl, by kernel_rfl, rfl, by simp, fun v h => by rw [show v = undef from h]; first | exact ne_tf | exact ne_ft | exact ne_undef _⟩, by kernel_rfl, rfl⟩
                  · exact .inr ⟨⟨28, true, 86, rfl, by kernel_rfl, rfl, by simp, fun v h => by rw [show v = undef from h]; first | exact ne_tf | exact ne_ft | exact ne_undef _⟩, by kernel_rfl, rfl⟩
                  · exact .inr ⟨⟨28, true, 86, rfl, by kernel_rfl, rfl, by simp, fun v h => by rw [show v = undef from h]; first | exact ne_tf | exact ne_ft | exact ne_undef _⟩, by kernel_rfl, rfl⟩
                  · exact .inr ⟨⟨1, false, 59, rfl, by kernel_rfl, rfl, by simp, fun v h => by rw [show v = .bool true from h]; first | exact ne_tf | exact ne_ft | exact ne_undef _⟩, by kernel_rfl, rfl⟩
                  · refine .inl ⟨.inl rfl, ?_⟩
                    exact .inl ⟨by kernel_rfl, fun L a1 w1 n h => ⟨_, rfl, run_pickT (.tmp 59) _ _ rfl (h.dep n 1 59 (by kernel_rfl) rfl) rfl⟩⟩
                  · refine .inl ⟨.inl rfl, ?_⟩
                    exact .inl ⟨by kernel_rfl, fun L a1 w1 n h => ⟨_, rfl, run_assign (.tmp 94) rfl (h.dep n 36 94 (by kernel_rfl) rfl)⟩⟩
                case he =>
                  intro V w14 hV hJ
                  have b14 : Below wr.heap.size wr w14 := hJ
                  have z37 : V 37 = .bool true := hV 37 _ rfl
                  clear hV hJ
                  simp only [putOps, List.setIfInBounds_toArray, List.set_cons_succ, List.set_cons_zero, Nat.reduceAdd]
                  rw [z37]
                  clear z37
                  refine hK15 _ _ ?_
                  go_wp2
                  go_roundw
                  case rel => exact ⟨i2 + 1, true, by omega, rfl, by go_num, ⟨hQ2.out.later b14, hbw2.out.trans (b14.mono hbw2.out.size)⟩, HSt.out true ⟨fun _ => .inl rfl, fun _ => rfl⟩⟩
                  case measure => simp [intOf]; omega

              | false =>
                by_cases hv : okU p.q 0 = true
                case neg =>
                  have hv2 : okU p.q 0 = false := by simpa using hv
                  have HVal := HVal0
                  rw [hv2] at HVal
                  refine wp_region_valsS [7] (SMkV g3 b0 off i c0 i2 gt (xss.length) ct (x9.length) c9 (hs.length) hc idp ida p a A9 Hd) (fun _ _ wz => Below wr.heap.size wr wz) (by kernel_rfl) (by kernel_rfl) (by kernel_rfl) (by kernel_rfl) ((Below.refl _ _).drew) ?obs ?he
                  case obs =>
                    refine ⟨?_, ?_, ?_, ?_, ?_, ?_, ?_, ?_, ?_, ?_, ?_, ?_, ?_, ?_, ?_, ?_, ?_, ?_, ?_, ?_, ?_, ?_, ?_, ?_, ?_, ?_, ?_, ?_, ?_, ?_, ?_, ?_, ?_, ?_, ?_, ?_, ?_, ?_, trivial⟩
                    · refine .inl ⟨.inl rfl, ?_⟩
                      exact .inl ⟨by kernel_rfl, fun L a1 w1 n h => ⟨_, rfl, run_move (.tmp 11) rfl (h.var n 11 (by kernel_rfl))⟩⟩
                    · refine .inl ⟨.inl rfl, ?_⟩
                      exact .inl ⟨by kernel_rfl, fun L a1 w1 n h => ⟨_, rfl, run_move (.tmp 58) rfl (h.dep n 0 58 (by kernel_rfl) rfl)⟩⟩
                    · refine .inl ⟨.inr ⟨1, false, 59, rfl, by kernel_rfl, rfl, by simp, fun v h => h⟩, ?_⟩
                      exact .inl ⟨by kernel_rfl, fun L a1 w1 n h => ⟨_, rfl, run_move (.tmp 0) rfl (h.var n 0 (by kernel_rfl))⟩⟩
                    · refine .inl ⟨.inr ⟨1, false, 59, rfl, by kernel_rfl, rfl, by simp, fun v h => h⟩, ?_⟩
                      exact .inl ⟨by kernel_rfl, fun L a1 w1 n h => ⟨_, rfl, run_move (.tmp 12) rfl (h.var n 12 (by kernel_rfl))⟩⟩
                    · refine .inl ⟨.inr ⟨1, false, 59, rfl, by kernel_rfl, rfl, by simp, fun v h => h⟩, ?_⟩
                      exact .inl ⟨by kernel_rfl, fun L a1 w1 n h => ⟨_, rfl, run_indexSn 22 (.tmp 60) (.tmp 61) 27 b0 off i c0 i2 12 rfl Tryz.underlying22 Tryz.sizeOf27 (h.dep n 2 60 (by kernel_rfl) rfl) (h.dep n 3 61 (by kernel_rfl) rfl) hii⟩⟩
                    · refine .inl ⟨.inr ⟨1, false, 59, rfl, by kernel_rfl, rfl, by simp, fun v h => h⟩, ?_⟩
                      refine .inl ⟨by kernel_rfl, fun L a1 w1 n h => ⟨.pointer (some ⟨b0, off + i2 * 12 + 1, none⟩), rfl, ?_⟩⟩
                      have e0 : a1.eval (.tmp 62) = _ := h.dep n 4 62 (by kernel_rfl) rfl
                      unfold execOp
                      simp only [e0]
                      go_simp
                    · refine .inl ⟨.inr ⟨1, false, 59, rfl, by kernel_rfl, rfl, by simp, fun v h => h⟩, ?_⟩
                      exact .inl ⟨by kernel_rfl, fun L a1 w1 n h => ⟨_, rfl, run_loadC 24 (.tmp 63) b0 (off + i2 * 12 + 1) idp _ rfl (h.dep n 5 63 (by kernel_rfl) rfl) (HI w1 h.inv) Tryz.underlying24 rfl hidp.out⟩⟩
                    · refine .inl ⟨.inr ⟨1, false, 59, rfl, by kernel_rfl, rfl, by simp, fun v h => h⟩, ?_⟩
                      refine .inr fun L a1 w1 n h K hK => ?_
                      have e0 : a1.eval (.tmp 64) = .agg idp.toArray := h.dep n 6 64 (by kernel_rfl) rfl
                      refine st_call 15 _ _ #[.agg idp.toArray] rfl Tryz.call15 ?_ (HVal w1 h.inv) ?_
                      · simp only [List.map_toArray, List.map_cons, List.map_nil, e0]
                      · rintro e w3 ⟨rfl, b9⟩
                        exact ⟨_, rfl, hK _ w3 rfl (h.inv.trans (b9.mono h.inv.size))⟩
                    · refine .inl ⟨.inr ⟨1, false, 59, rfl, by kernel_rfl, rfl, by simp, fun v h => h⟩, ?_⟩
                      exact .inl ⟨by kernel_rfl, fun L a1 w1 n h => ⟨_, rfl, run_move (.tmp 65) rfl (h.dep n 7 65 (by kernel_rfl) rfl)⟩⟩
                    · exact .inr ⟨⟨8, true, 66, rfl, by kernel_rfl, rfl, by simp, fun v h => by rw [show v = .bool false from h]; first | exact ne_tf | exact ne_ft | exact ne_undef _⟩, by kernel_rfl, rfl⟩
                    · exact .inr ⟨⟨8, true, 66, rfl, by kernel_rfl, rfl, by simp, fun v h => by rw [show v = .bool false from h]; first | exact ne_tf | exact ne_ft | exact ne_undef _⟩, by kernel_rfl, rfl⟩
                    · exact .inr ⟨⟨8, true, 66, rfl, by kernel_rfl, rfl, by simp, fun v h => by rw [show v = .bool false from h]; first | exact ne_tf | exact ne_ft | exact ne_undef _⟩, by kernel_rfl, rfl⟩
                    · exact .inr ⟨⟨8, true, 66, rfl, by kernel_rfl, rfl, by simp, fun v h => by rw [show v = .bool false from h]; first | exact ne_tf | exact ne_ft | exact ne_undef _⟩, by kernel_rfl, rfl⟩
                    · exact .inr ⟨⟨8, true, 66, rfl, by kernel_rfl, rfl, by simp, fun v h => by rw [show v = .bool false from h]; first | exact ne_tf | exact ne_ft | exact ne_undef _⟩, by kernel_rfl, rfl⟩
                    · exact .inr ⟨⟨8, true, 66, rfl, by kernel_rfl, rfl, by simp, fun v h => by rw [show v = .bool false from h]; first | exact ne_tf | exact ne_ft | exact ne_undef _⟩, by kernel_rfl, rfl⟩
                    · exact .inr ⟨⟨8, true, 66, rfl, by kernel_rfl, rfl, by simp, fun v h => by rw [show v = .bool false from h]; first | exact ne_tf | exact ne_ft | exact ne_undef _⟩, by kernel_rfl, rfl⟩
                    · exact .inr ⟨⟨8, true, 66, rfl, by kernel_rfl, rfl, by simp, fun v h => by rw [show v = .bool false from h]; first | exact ne_tf | exact ne_ft | exact ne_undef _⟩, by kernel_rfl, rfl⟩
                    · refine .inl ⟨.inr ⟨1, false, 59, rfl, by kernel_rfl, rfl, by simp, fun v h => h⟩, ?_⟩
                      exact .inl ⟨by kernel_rfl, fun L a1 w1 n h => ⟨_, rfl, run_pickF (.tmp 66) _ _ rfl (h.dep n 8 66 (by kernel_rfl) rfl) rfl⟩⟩
                    · refine .inl ⟨.inr ⟨1, false, 59, rfl, by kernel_rfl, rfl, by simp, fun v h => h⟩, ?_⟩
                      exact .inl ⟨by kernel_rfl, fun L a1 w1 n h => ⟨_, rfl, run_move (.tmp 75) rfl (h.dep n 17 75 (by kernel_rfl) rfl)⟩⟩
                    · exact .inr ⟨⟨18, true, 76, rfl, by kernel_rfl, rfl, by simp, fun v h => by rw [show v = .bool false from h]; first | exact ne_tf | exact ne_ft | exact ne_undef _⟩, by kernel_rfl, rfl⟩
                    · exact .inr ⟨⟨18, true, 76, rfl, by kernel_rfl, rfl, by simp, fun v h => by rw [show v = .bool false from h]; first | exact ne_tf | exact ne_ft | exact ne_undef _⟩, by kernel_rfl, rfl⟩
                    · exact .inr ⟨⟨18, true, 76, rfl, by kernel_rfl, rfl, by simp, fun v h => by rw [show v = .bool false from h]; first | exact ne_tf | exact ne_ft | exact ne_undef _⟩, by kernel_rfl, rfl⟩
                    · exact .inr ⟨⟨18, true, 76, rfl, by kernel_rfl, rfl, by simp, fun v h => by rw [show v = .bool false from h]; first | exact ne_tf | exact ne_ft | exact ne_undef _⟩, by kernel_rfl, rfl⟩
                    · exact .inr ⟨⟨18, true, 76, rfl, by kernel_rfl, rfl, by simp, fun v h => by rw [show v = .bool false from h]; first | exact ne_tf | exact ne_ft | exact ne_undef _⟩, by kernel_rfl, rfl⟩
                    · exact .inr ⟨⟨18, true, 76, rfl, by kernel_rfl, rfl, by simp, fun v h => by rw [show v = .bool false from h]; first | exact ne_tf | exact ne_ft | exact ne_undef _⟩, by kernel_rfl, rfl⟩
                    · exact .inr ⟨⟨18, true, 76, rfl, by kernel_rfl, rfl, by simp, fun v h => by rw [show v = .bool false from h]; first | exact ne_tf | exact ne_ft | exact ne_undef _⟩, by kernel_rfl, rfl⟩
                    · exact .inr ⟨⟨18, true, 76, rfl, by kernel_rfl, rfl, by simp, fun v h => by rw [show v = .bool false from h]; first | exact ne_tf | exact ne_ft | exact ne_undef _⟩, by kernel_rfl, rfl⟩
                    · refine .inl ⟨.inr ⟨1, false, 59, rfl, by kernel_rfl, rfl, by simp, fun v h => h⟩, ?_⟩
                      exact .inl ⟨by kernel_rfl, fun L a1 w1 n h => ⟨_, rfl, run_pickF (.tmp 76) _ _ rfl (h.dep n 18 76 (by kernel_rfl) rfl) rfl⟩⟩
                    · refine .inl ⟨.inr ⟨1, false, 59, rfl, by kernel_rfl, rfl, by simp, fun v h => h⟩, ?_⟩
                      exact .inl ⟨by kernel_rfl, fun L a1 w1 n h => ⟨_, rfl, run_move (.tmp 85) rfl (h.dep n 27 85 (by kernel_rfl) rfl)⟩⟩
                    · exact .inr ⟨⟨28, true, 86, rfl, by kernel_rfl, rfl, by simp, fun v h => by rw [show v = .bool false from h]; first | exact ne_tf | exact ne_ft | exact ne_undef _⟩, by kernel_rfl, rfl⟩
                    · exact .inr ⟨⟨28, true, 86, rfl, by kernel_rfl, rfl, by simp, fun v h => by rw [show v = .bool false from h]; first | exact ne_tf | exact ne_ft | exact ne_undef _⟩, by kernel_rfl, rfl⟩
                    · exact .inr ⟨⟨28, true, 86, rfl, by kernel_rfl, rfl, by simp, fun v h => by rw [show v = .bool false from h]; first | exact ne_tf | exact ne_ft | exact ne_undef _⟩, by kernel_rfl, rfl⟩
                    · exact .inr ⟨⟨28, true, 86, rfl, by kernel_rfl, rfl, by simp, fun v h => by rw [show v = .bool false from h]; first | exact ne_tf | exact ne_ft | exact ne_undef _⟩, by kernel_rfl, rfl⟩
                    · exact .inr ⟨⟨28, true, 86, rfl, by kernel_rfl, rfl, by simp, fun v h => by rw [show v = .bool false from h]; first | exact ne_tf | exact ne_ft | exact ne_undef _⟩, by kernel_rfl, rfl⟩
                    · exact .inr ⟨⟨28, true, 86, rfl, by kernel_rfl, rfl, by simp, fun v h => by rw [show v = .bool false from h]; first | exact ne_tf | exact ne_ft | exact ne_undef _⟩, by kernel_rfl, rfl⟩
                    · refine .inl ⟨.inr ⟨1, false, 59, rfl, by kernel_rfl, rfl, by simp, fun v h => h⟩, ?_⟩
                      exact .inl ⟨by kernel_rfl, fun L a1 w1 n h => ⟨_, rfl, run_pickF (.tmp 86) _ _ rfl (h.dep n 28 86 (by kernel_rfl) rfl) rfl⟩⟩
                    · refine .inl ⟨.inl rfl, ?_⟩
                      exact .inl ⟨by kernel_rfl, fun L a1 w1 n h => ⟨_, rfl, run_pickF (.tmp 59) _ _ rfl (h.dep n 1 59 (by kernel_rfl) rfl) (h.dep n 35 93 (by kernel_rfl) rfl)⟩⟩
                    · refine .inl ⟨.inl rfl, ?_⟩
                      exact .inl ⟨by kernel_rfl, fun L a1 w1 n h => ⟨_, rfl, run_assign (.tmp 94) rfl (h.dep n 36 94 (by kernel_rfl) rfl)⟩⟩
                  case he =>
                    intro V w14 hV hJ
                    have b14 : Below wr.heap.size wr w14 := hJ
                    have z37 : V 37 = .bool false := hV 37 _ rfl
                    clear hV hJ
                    simp only [putOps, List.setIfInBounds_toArray, List.set_cons_succ, List.set_cons_zero, Nat.reduceAdd]
                    rw [z37]
                    clear z37
                    refine hK15 _ _ ?_
                    go_wp2
                    go_roundw
                    case rel => exact ⟨i2 + 1, false, by omega, rfl, by go_num, ⟨hQ2.out.later b14, hbw2.out.trans (b14.mono hbw2.out.size)⟩, HSt.out false ⟨fun h => (by cases h), fun h => (by rcases h with h | h; cases h; exact absurd (HMa.out.1 h).1 hv)⟩⟩
                    case measure => simp [intOf]; omega

                case pos =>
                  have HVal := HVal0
                  rw [hv] at HVal
                  by_cases hq : p.q.l = a.q.l
                  case neg =>
                    have hEq := hEq0
                    rw [decide_eq_false hq] at hEq
                    refine wp_region_valsS [7] (SMkQ g3 b0 off i c0 i2 gt (xss.length) ct (x9.length) c9 (hs.length) hc idp ida p a A9 Hd) (fun _ _ wz => Below wr.heap.size wr wz) (by kernel_rfl) (by kernel_rfl) (by kernel_rfl) (by kernel_rfl) ((Below.refl _ _).drew) ?obs ?he
                    case obs =>
                      refine ⟨?_, ?_, ?_, ?_, ?_, ?_, ?_, ?_, ?_, ?_, ?_, ?_, ?_, ?_, ?_, ?_, ?_, ?_, ?_, ?_, ?_, ?_, ?_, ?_, ?_, ?_, ?_, ?_, ?_, ?_, ?_, ?_, ?_, ?_, ?_, ?_, ?_, ?_, trivial⟩
                      · refine .inl ⟨.inl rfl, ?_⟩
                        exact .inl ⟨by kernel_rfl, fun L a1 w1 n h => ⟨_, rfl, run_move (.tmp 11) rfl (h.var n 11 (by kernel_rfl))⟩⟩
                      · refine .inl ⟨.inl rfl, ?_⟩
                        exact .inl ⟨by kernel_rfl, fun L a1 w1 n h => ⟨_, rfl, run_move (.tmp 58) rfl (h.dep n 0 58 (by kernel_rfl) rfl)⟩⟩
                      · refine .inl ⟨.inr ⟨1, false, 59, rfl, by kernel_rfl, rfl, by simp, fun v h => h⟩, ?_⟩
                        exact .inl ⟨by kernel_rfl, fun L a1 w1 n h => ⟨_, rfl, run_move (.tmp 0) rfl (h.var n 0 (by kernel_rfl))⟩⟩
                      · refine .inl ⟨.inr ⟨1, false, 59, rfl, by kernel_rfl, rfl, by simp, fun v h => h⟩, ?_⟩
                        exact .inl ⟨by kernel_rfl, fun L a1 w1 n h => ⟨_, rfl, run_move (.tmp 12) rfl (h.var n 12 (by kernel_rfl))⟩⟩
                      · refine .inl ⟨.inr ⟨1, false, 59, rfl, by kernel_rfl, rfl, by simp, fun v h => h⟩, ?_⟩
                        exact .inl ⟨by kernel_rfl, fun L a1 w1 n h => ⟨_, rfl, run_indexSn 22 (.tmp 60) (.tmp 61) 27 b0 off i c0 i2 12 rfl Tryz.underlying22 Tryz.sizeOf27 (h.dep n 2 60 (by kernel_rfl) rfl) (h.dep n 3 61 (by kernel_rfl) rfl) hii⟩⟩
                      · refine .inl ⟨.inr ⟨1, false, 59, rfl, by kernel_rfl, rfl, by simp, fun v h => h⟩, ?_⟩
                        refine .inl ⟨by kernel_rfl, fun L a1 w1 n h => ⟨.pointer (some ⟨b0, off + i2 * 12 + 1, none⟩), rfl, ?_⟩⟩
                        have e0 : a1.eval (.tmp 62) = _ := h.dep n 4 62 (by kernel_rfl) rfl
                        unfold execOp
                        simp only [e0]
                        go_simp
                      · refine .inl ⟨.inr ⟨1, false, 59, rfl, by kernel_rfl, rfl, by simp, fun v h => h⟩, ?_⟩
                        exact .inl ⟨by kernel_rfl, fun L a1 w1 n h => ⟨_, rfl, run_loadC 24 (.tmp 63) b0 (off + i2 * 12 + 1) idp _ rfl (h.dep n 5 63 (by kernel_rfl) rfl) (HI w1 h.inv) Tryz.underlying24 rfl hidp.out⟩⟩
                      · refine .inl ⟨.inr ⟨1, false, 59, rfl, by kernel_rfl, rfl, by simp, fun v h => h⟩, ?_⟩
                        refine .inr fun L a1 w1 n h K hK => ?_
                        have e0 : a1.eval (.tmp 64) = .agg idp.toArray := h.dep n 6 64 (by kernel_rfl) rfl
                        refine st_call 15 _ _ #[.agg idp.toArray] rfl Tryz.call15 ?_ (HVal w1 h.inv) ?_
                        · simp only [List.map_toArray, List.map_cons, List.map_nil, e0]
                        · rintro e w3 ⟨rfl, b9⟩
                          exact ⟨_, rfl, hK _ w3 rfl (h.inv.trans (b9.mono h.inv.size))⟩
                      · refine .inl ⟨.inr ⟨1, false, 59, rfl, by kernel_rfl, rfl, by simp, fun v h => h⟩, ?_⟩
                        exact .inl ⟨by kernel_rfl, fun L a1 w1 n h => ⟨_, rfl, run_move (.tmp 65) rfl (h.dep n 7 65 (by kernel_rfl) rfl)⟩⟩
                      · refine .inl ⟨.inr ⟨8, true, 66, rfl, by kernel_rfl, rfl, by simp, fun v h => h⟩, ?_⟩
                        exact .inl ⟨by kernel_rfl, fun L a1 w1 n h => ⟨_, rfl, run_move (.tmp 0) rfl (h.var n 0 (by kernel_rfl))⟩⟩
                      · refine .inl ⟨.inr ⟨8, true, 66, rfl, by kernel_rfl, rfl, by simp, fun v h => h⟩, ?_⟩
                        exact .inl ⟨by kernel_rfl, fun L a1 w1 n h => ⟨_, rfl, run_move (.tmp 12) rfl (h.var n 12 (by kernel_rfl))⟩⟩
                      · refine .inl ⟨.inr ⟨8, true, 66, rfl, by kernel_rfl, rfl, by simp, fun v h => h⟩, ?_⟩
                        exact .inl ⟨by kernel_rfl, fun L a1 w1 n h => ⟨_, rfl, run_indexSn 22 (.tmp 67) (.tmp 68) 27 b0 off i c0 i2 12 rfl Tryz.underlying22 Tryz.sizeOf27 (h.dep n 9 67 (by kernel_rfl) rfl) (h.dep n 10 68 (by kernel_rfl) rfl) hii⟩⟩
                      · refine .inl ⟨.inr ⟨8, true, 66, rfl, by kernel_rfl, rfl, by simp, fun v h => h⟩, ?_⟩
                        refine .inl ⟨by kernel_rfl, fun L a1 w1 n h => ⟨.pointer (some ⟨b0, off + i2 * 12 + 1, none⟩), rfl, ?_⟩⟩
                        have e0 : a1.eval (.tmp 69) = _ := h.dep n 11 69 (by kernel_rfl) rfl
                        unfold execOp
                        simp only [e0]
                        go_simp
                      · refine .inl ⟨.inr ⟨8, true, 66, rfl, by kernel_rfl, rfl, by simp, fun v h => h⟩, ?_⟩
                        exact .inl ⟨by kernel_rfl, fun L a1 w1 n h => ⟨_, rfl, run_loadC 24 (.tmp 70) b0 (off + i2 * 12 + 1) idp _ rfl (h.dep n 12 70 (by kernel_rfl) rfl) (HI w1 h.inv) Tryz.underlying24 rfl hidp.out⟩⟩
                      · refine .inl ⟨.inr ⟨8, true, 66, rfl, by kernel_rfl, rfl, by simp, fun v h => h⟩, ?_⟩
                        refine .inl ⟨by kernel_rfl, fun L a1 w1 n h => ⟨.pointer (some ⟨g3, 1, none⟩), rfl, ?_⟩⟩
                        have e0 : a1.eval (.tmp 3) = _ := h.var n 3 (by kernel_rfl)
                        unfold execOp
                        simp only [e0]
                        go_simp
                      · refine .inl ⟨.inr ⟨8, true, 66, rfl, by kernel_rfl, rfl, by simp, fun v h => h⟩, ?_⟩
                        exact .inl ⟨by kernel_rfl, fun L a1 w1 n h => ⟨_, rfl, run_loadP 24 (.tmp 72) g3 1 27 [.int .u8 a.k] ida (BAct.rest a) _ rfl (h.dep n 14 72 (by kernel_rfl) rfl) (Row.later rA h.inv) rfl Tryz.underlying24 rfl hida.out⟩⟩
                      · refine .inl ⟨.inr ⟨8, true, 66, rfl, by kernel_rfl, rfl, by simp, fun v h => h⟩, ?_⟩
                        exact .inl ⟨by kernel_rfl, fun L a1 w1 n h => ⟨_, rfl, run_eqlS' (.tmp 71) (.tmp 73) rfl hEq (h.dep n 13 71 (by kernel_rfl) rfl) (h.dep n 15 73 (by kernel_rfl) rfl) (by kernel_rfl)⟩⟩
                      · refine .inl ⟨.inr ⟨1, false, 59, rfl, by kernel_rfl, rfl, by simp, fun v h => h⟩, ?_⟩
                        exact .inl ⟨by kernel_rfl, fun L a1 w1 n h => ⟨_, rfl, run_pickT (.tmp 66) _ _ rfl (h.dep n 8 66 (by kernel_rfl) rfl) (h.dep n 16 74 (by kernel_rfl) rfl)⟩⟩
                      · refine .inl ⟨.inr ⟨1, false, 59, rfl, by kernel_rfl, rfl, by simp, fun v h => h⟩, ?_⟩
                        exact .inl ⟨by kernel_rfl, fun L a1 w1 n h => ⟨_, rfl, run_move (.tmp 75) rfl (h.dep n 17 75 (by kernel_rfl) rfl)⟩⟩
                      · exact .inr ⟨⟨18, true, 76, rfl, by kernel_rfl, rfl, by simp, fun v h => by rw [show v = .bool false from h]; first | exact ne_tf | exact ne_ft | exact ne_undef _⟩, by kernel_rfl, rfl⟩
                      · exact .inr ⟨⟨18, true, 76, rfl, by kernel_rfl, rfl, by simp, fun v h => by rw [show v = .bool false from h]; first | exact ne_tf | exact ne_ft | exact ne_undef _⟩, by kernel_rfl, rfl⟩
                      · exact .inr ⟨⟨18, true, 76, rfl, by kernel_rfl, rfl, by simp, fun v h => by rw [show v = .bool false from h]; first | exact ne_tf | exact ne_ft | exact ne_undef _⟩, by kernel_rfl, rfl⟩
                      · exact .inr ⟨⟨18, true, 76, rfl, by kernel_rfl, rfl, by simp, fun v h => by rw [show v = .bool false from h]; first | exact ne_tf | exact ne_ft | exact ne_undef _⟩, by kernel_rfl, rfl⟩
                      · exact .inr ⟨⟨18, true, 76, rfl, by kernel_rfl, rfl, by simp, fun v h => by rw [show v = .bool false from h]; first | exact ne_tf | exact ne_ft | exact ne_undef _⟩, by kernel_rfl, rfl⟩
                      · exact .inr ⟨⟨18, true, 76, rfl, by kernel_rfl, rfl, by simp, fun v h => by rw [show v = .bool false from h]; first | exact ne_tf | exact ne_ft | exact ne_undef _⟩, by kernel_rfl, rfl⟩
                      · exact .inr ⟨⟨18, true, 76, rfl, by kernel_rfl, rfl, by simp, fun v h => by rw [show v = .bool false from h]; first | exact ne_tf | exact ne_ft | exact ne_undef _⟩, by kernel_rfl, rfl⟩
                      · exact .inr ⟨⟨18, true, 76, rfl, by kernel_rfl, rfl, by simp, fun v h => by rw [show v = .bool false from h]; first | exact ne_tf | exact ne_ft | exact ne_undef _⟩, by kernel_rfl, rfl⟩
                      · refine .inl ⟨.inr ⟨1, false, 59, rfl, by kernel_rfl, rfl, by simp, fun v h => h⟩, ?_⟩
                        exact .inl ⟨by kernel_rfl, fun L a1 w1 n h => ⟨_, rfl, run_pickF (.tmp 76) _ _ rfl (h.dep n 18 76 (by kernel_rfl) rfl) rfl⟩⟩
                      · refine .inl ⟨.inr ⟨1, false, 59, rfl, by kernel_rfl, rfl, by simp, fun v h => h⟩, ?_⟩
                        exact .inl ⟨by kernel_rfl, fun L a1 w1 n h => ⟨_, rfl, run_move (.tmp 85) rfl (h.dep n 27 85 (by kernel_rfl) rfl)⟩⟩
                      · exact .inr ⟨⟨28, true, 86, rfl, by kernel_rfl, rfl, by simp, fun v h => by rw [show v = .bool false from h]; first | exact ne_tf | exact ne_ft | exact ne_undef _⟩, by kernel_rfl, rfl⟩
                      · exact .inr ⟨⟨28, true, 86, rfl, by kernel_rfl, rfl, by simp, fun v h => by rw [show v = .bool false from h]; first | exact ne_tf | exact ne_ft | exact ne_undef _⟩, by kernel_rfl, rfl⟩
                      · exact .inr ⟨⟨28, true, 86, rfl, by kernel_rfl, rfl, by simp, fun v h => by rw [show v = .bool false from h]; first | exact ne_tf | exact ne_ft | exact ne_undef _⟩, by kernel_rfl, rfl⟩
                      · exact .inr ⟨⟨28, true, 86, rfl, by kernel_rfl, rfl, by simp, fun v h => by rw [show v = .bool false from h]; first | exact ne_tf | exact ne_ft | exact ne_undef _⟩, by kernel_rfl, rfl⟩
                      · exact .inr ⟨⟨28, true, 86, rfl, by kernel_rfl, rfl, by simp, fun v h => by rw [show v = .bool false from h]; first | exact ne_tf | exact ne_ft | exact ne_undef _⟩, by kernel_rfl, rfl⟩
                      · exact .inr ⟨⟨28, true, 86, rfl, by kernel_rfl, rfl, by simp, fun v h => by rw [show v = .bool false from h]; first | exact ne_tf | exact ne_ft | exact ne_undef _⟩, by kernel_rfl, rfl⟩
                      · refine .inl ⟨.inr ⟨1, false, 59, rfl, by kernel_rfl, rfl, by simp, fun v h => h⟩, ?_⟩
                        exact .inl ⟨by kernel_rfl, fun L a1 w1 n h => ⟨_, rfl, run_pickF (.tmp 86) _ _ rfl (h.dep n 28 86 (by kernel_rfl) rfl) rfl⟩⟩
                      · refine .inl ⟨.inl rfl, ?_⟩
                        exact .inl ⟨by kernel_rfl, fun L a1 w1 n h => ⟨_, rfl, run_pickF (.tmp 59) _ _ rfl (h.dep n 1 59 (by kernel_rfl) rfl) (h.dep n 35 93 (by kernel_rfl) rfl)⟩⟩
                      · refine .inl ⟨.inl rfl, ?_⟩
                        exact .inl ⟨by kernel_rfl, fun L a1 w1 n h => ⟨_, rfl, run_assign (.tmp 94) rfl (h.dep n 36 94 (by kernel_rfl) rfl)⟩⟩
                    case he =>
                      intro V w14 hV hJ
                      have b14 : Below wr.heap.size wr w14 := hJ
                      have z37 : V 37 = .bool false := hV 37 _ rfl
                      clear hV hJ
                      simp only [putOps, List.setIfInBounds_toArray, List.set_cons_succ, List.set_cons_zero, Nat.reduceAdd]
                      rw [z37]
                      clear z37
                      refine hK15 _ _ ?_
                      go_wp2
                      go_roundw
                      case rel => exact ⟨i2 + 1, false, by omega, rfl, by go_num, ⟨hQ2.out.later b14, hbw2.out.trans (b14.mono hbw2.out.size)⟩, HSt.out false ⟨fun h => (by cases h), fun h => (by rcases h with h | h; cases h; exact absurd (HMa.out.1 h).2.1 hq)⟩⟩
                      case measure => simp [intOf]; omega

                  case pos =>
                    have hEq := hEq0
                    rw [decide_eq_true hq] at hEq
                    by_cases hx : p.tx = a.tx
                    case neg =>
                      have HEt := HEt0
                      rw [decide_eq_false hx] at HEt
                      refine wp_region_valsS [7, 26] (SMkX g3 b0 off i c0 i2 gt (xss.length) ct (x9.length) c9 (hs.length) hc idp ida p a A9 Hd) (fun _ _ wz => Below wr.heap.size wr wz) (by kernel_rfl) (by kernel_rfl) (by kernel_rfl) (by kernel_rfl) ((Below.refl _ _).drew) ?obs ?he
                      case obs =>
                        refine ⟨?_, ?_, ?_, ?_, ?_, ?_, ?_, ?_, ?_, ?_, ?_, ?_, ?_, ?_, ?_, ?_, ?_, ?_, ?_, ?_, ?_, ?_, ?_, ?_, ?_, ?_, ?_, ?_, ?_, ?_, ?_, ?_, ?_, ?_, ?_, ?_, ?_, ?_, trivial⟩
                        · refine .inl ⟨.inl rfl, ?_⟩
                          exact .inl ⟨by kernel_rfl, fun L a1 w1 n h => ⟨_, rfl, run_move (.tmp 11) rfl (h.var n 11 (by kernel_rfl))⟩⟩
                        · refine .inl ⟨.inl rfl, ?_⟩
                          exact .inl ⟨by kernel_rfl, fun L a1 w1 n h => ⟨_, rfl, run_move (.tmp 58) rfl (h.dep n 0 58 (by kernel_rfl) rfl)⟩⟩
                        · refine .inl ⟨.inr ⟨1, false, 59, rfl, by kernel_rfl, rfl, by simp, fun v h => h⟩, ?_⟩
                          exact .inl ⟨by kernel_rfl, fun L a1 w1 n h => ⟨_, rfl, run_move (.tmp 0) rfl (h.var n 0 (by kernel_rfl))⟩⟩
                        · refine .inl ⟨.inr ⟨1, false, 59, rfl, by kernel_rfl, rfl, by simp, fun v h => h⟩, ?_⟩
                          exact .inl ⟨by kernel_rfl, fun L a1 w1 n h => ⟨_, rfl, run_move (.tmp 12) rfl (h.var n 12 (by kernel_rfl))⟩⟩
                        · refine .inl ⟨.inr ⟨1, false, 59, rfl, by kernel_rfl, rfl, by simp, fun v h => h⟩, ?_⟩
                          exact .inl ⟨by kernel_rfl, fun L a1 w1 n h => ⟨_, rfl, run_indexSn 22 (.tmp 60) (.tmp 61) 27 b0 off i c0 i2 12 rfl Tryz.underlying22 Tryz.sizeOf27 (h.dep n 2 60 (by kernel_rfl) rfl) (h.dep n 3 61 (by kernel_rfl) rfl) hii⟩⟩
                        · refine .inl ⟨.inr ⟨1, false, 59, rfl, by kernel_rfl, rfl, by simp, fun v h => h⟩, ?_⟩
                          refine .inl ⟨by kernel_rfl, fun L a1 w1 n h => ⟨.pointer (some ⟨b0, off + i2 * 12 + 1, none⟩), rfl, ?_⟩⟩
                          have e0 : a1.eval (.tmp 62) = _ := h.dep n 4 62 (by kernel_rfl) rfl
                          unfold execOp
                          simp only [e0]
                          go_simp
                        · refine .inl ⟨.inr ⟨1, false, 59, rfl, by kernel_rfl, rfl, by simp, fun v h => h⟩, ?_⟩
                          exact .inl ⟨by kernel_rfl, fun L a1 w1 n h => ⟨_, rfl, run_loadC 24 (.tmp 63) b0 (off + i2 * 12 + 1) idp _ rfl (h.dep n 5 63 (by kernel_rfl) rfl) (HI w1 h.inv) Tryz.underlying24 rfl hidp.out⟩⟩
                        · refine .inl ⟨.inr ⟨1, false, 59, rfl, by kernel_rfl, rfl, by simp, fun v h => h⟩, ?_⟩
                          refine .inr fun L a1 w1 n h K hK => ?_
                          have e0 : a1.eval (.tmp 64) = .agg idp.toArray := h.dep n 6 64 (by kernel_rfl) rfl
                          refine st_call 15 _ _ #[.agg idp.toArray] rfl Tryz.call15 ?_ (HVal w1 h.inv) ?_
                          · simp only [List.map_toArray, List.map_cons, List.map_nil, e0]
                          · rintro e w3 ⟨rfl, b9⟩
                            exact ⟨_, rfl, hK _ w3 rfl (h.inv.trans (b9.mono h.inv.size))⟩
                        · refine .inl ⟨.inr ⟨1, false, 59, rfl, by kernel_rfl, rfl, by simp, fun v h => h⟩, ?_⟩
                          exact .inl ⟨by kernel_rfl, fun L a1 w1 n h => ⟨_, rfl, run_move (.tmp 65) rfl (h.dep n 7 65 (by kernel_rfl) rfl)⟩⟩
                        · refine .inl ⟨.inr ⟨8, true, 66, rfl, by kernel_rfl, rfl, by simp, fun v h => h⟩, ?_⟩
                          exact .inl ⟨by kernel_rfl, fun L a1 w1 n h => ⟨_, rfl, run_move (.tmp 0) rfl (h.var n 0 (by kernel_rfl))⟩⟩
                        · refine .inl ⟨.inr ⟨8, true, 66, rfl, by kernel_rfl, rfl, by simp, fun v h => h⟩, ?_⟩
                          exact .inl ⟨by kernel_rfl, fun L a1 w1 n h => ⟨_, rfl, run_move (.tmp 12) rfl (h.var n 12 (by kernel_rfl))⟩⟩
                        · refine .inl ⟨.inr ⟨8, true, 66, rfl, by kernel_rfl, rfl, by simp, fun v h => h⟩, ?_⟩
                          exact .inl ⟨by kernel_rfl, fun L a1 w1 n h => ⟨_, rfl, run_indexSn 22 (.tmp 67) (.tmp 68) 27 b0 off i c0 i2 12 rfl Tryz.underlying22 Tryz.sizeOf27 (h.dep n 9 67 (by kernel_rfl) rfl) (h.dep n 10 68 (by kernel_rfl) rfl) hii⟩⟩
                        · refine .inl ⟨.inr ⟨8, true, 66, rfl, by kernel_rfl, rfl, by simp, fun v h => h⟩, ?_⟩
                          refine .inl ⟨by kernel_rfl, fun L a1 w1 n h => ⟨.pointer (some ⟨b0, off + i2 * 12 + 1, none⟩), rfl, ?_⟩⟩
                          have e0 : a1.eval (.tmp 69) = _ := h.dep n 11 69 (by kernel_rfl) rfl
                          unfold execOp
                          simp only [e0]
                          go_simp
                        · refine .inl ⟨.inr ⟨8, true, 66, rfl, by kernel_rfl, rfl, by simp, fun v h => h⟩, ?_⟩
                          exact .inl ⟨by kernel_rfl, fun L a1 w1 n h => ⟨_, rfl, run_loadC 24 (.tmp 70) b0 (off + i2 * 12 + 1) idp _ rfl (h.dep n 12 70 (by kernel_rfl) rfl) (HI w1 h.inv) Tryz.underlying24 rfl hidp.out⟩⟩
                        · refine .inl ⟨.inr ⟨8, true, 66, rfl, by kernel_rfl, rfl, by simp, fun v h => h⟩, ?_⟩
                          refine .inl ⟨by kernel_rfl, fun L a1 w1 n h => ⟨.pointer (some ⟨g3, 1, none⟩), rfl, ?_⟩⟩
                          have e0 : a1.eval (.tmp 3) = _ := h.var n 3 (by kernel_rfl)
                          unfold execOp
                          simp only [e0]
                          go_simp
                        · refine .inl ⟨.inr ⟨8, true, 66, rfl, by kernel_rfl, rfl, by simp, fun v h => h⟩, ?_⟩
                          exact .inl ⟨by kernel_rfl, fun L a1 w1 n h => ⟨_, rfl, run_loadP 24 (.tmp 72) g3 1 27 [.int .u8 a.k] ida (BAct.rest a) _ rfl (h.dep n 14 72 (by kernel_rfl) rfl) (Row.later rA h.inv) rfl Tryz.underlying24 rfl hida.out⟩⟩
                        · refine .inl ⟨.inr ⟨8, true, 66, rfl, by kernel_rfl, rfl, by simp, fun v h => h⟩, ?_⟩
                          exact .inl ⟨by kernel_rfl, fun L a1 w1 n h => ⟨_, rfl, run_eqlS' (.tmp 71) (.tmp 73) rfl hEq (h.dep n 13 71 (by kernel_rfl) rfl) (h.dep n 15 73 (by kernel_rfl) rfl) (by kernel_rfl)⟩⟩
                        · refine .inl ⟨.inr ⟨1, false, 59, rfl, by kernel_rfl, rfl, by simp, fun v h => h⟩, ?_⟩
                          exact .inl ⟨by kernel_rfl, fun L a1 w1 n h => ⟨_, rfl, run_pickT (.tmp 66) _ _ rfl (h.dep n 8 66 (by kernel_rfl) rfl) (h.dep n 16 74 (by kernel_rfl) rfl)⟩⟩
                        · refine .inl ⟨.inr ⟨1, false, 59, rfl, by kernel_rfl, rfl, by simp, fun v h => h⟩, ?_⟩
                          exact .inl ⟨by kernel_rfl, fun L a1 w1 n h => ⟨_, rfl, run_move (.tmp 75) rfl (h.dep n 17 75 (by kernel_rfl) rfl)⟩⟩
                        · refine .inl ⟨.inr ⟨18, true, 76, rfl, by kernel_rfl, rfl, by simp, fun v h => h⟩, ?_⟩
                          exact .inl ⟨by kernel_rfl, fun L a1 w1 n h => ⟨_, rfl, run_move (.tmp 0) rfl (h.var n 0 (by kernel_rfl))⟩⟩
                        · refine .inl ⟨.inr ⟨18, true, 76, rfl, by kernel_rfl, rfl, by simp, fun v h => h⟩, ?_⟩
                          exact .inl ⟨by kernel_rfl, fun L a1 w1 n h => ⟨_, rfl, run_move (.tmp 12) rfl (h.var n 12 (by kernel_rfl))⟩⟩
                        · refine .inl ⟨.inr ⟨18, true, 76, rfl, by kernel_rfl, rfl, by simp, fun v h => h⟩, ?_⟩
                          exact .inl ⟨by kernel_rfl, fun L a1 w1 n h => ⟨_, rfl, run_indexSn 22 (.tmp 77) (.tmp 78) 27 b0 off i c0 i2 12 rfl Tryz.underlying22 Tryz.sizeOf27 (h.dep n 19 77 (by kernel_rfl) rfl) (h.dep n 20 78 (by kernel_rfl) rfl) hii⟩⟩
                        · refine .inl ⟨.inr ⟨18, true, 76, rfl, by kernel_rfl, rfl, by simp, fun v h => h⟩, ?_⟩
                          refine .inl ⟨by kernel_rfl, fun L a1 w1 n h => ⟨.pointer (some ⟨b0, off + i2 * 12 + 9, none⟩), rfl, ?_⟩⟩
                          have e0 : a1.eval (.tmp 79) = _ := h.dep n 21 79 (by kernel_rfl) rfl
                          unfold execOp
                          simp only [e0]
                          go_simp
                        · refine .inl ⟨.inr ⟨18, true, 76, rfl, by kernel_rfl, rfl, by simp, fun v h => h⟩, ?_⟩
                          exact .inl ⟨by kernel_rfl, fun L a1 w1 n h => ⟨_, rfl, run_loadA 25 (.tmp 80) ⟨b0, off + i2 * 12 + 9, none⟩ rfl Tryz.isAgg25 (h.dep n 22 80 (by kernel_rfl) rfl) (HC9 w1 h.inv)⟩⟩
                        · refine .inl ⟨.inr ⟨18, true, 76, rfl, by kernel_rfl, rfl, by simp, fun v h => h⟩, ?_⟩
                          refine .inl ⟨by kernel_rfl, fun L a1 w1 n h => ⟨.pointer (some ⟨g3, 9, none⟩), rfl, ?_⟩⟩
                          have e0 : a1.eval (.tmp 3) = _ := h.var n 3 (by kernel_rfl)
                          unfold execOp
                          simp only [e0]
                          go_simp
                        · refine .inl ⟨.inr ⟨18, true, 76, rfl, by kernel_rfl, rfl, by simp, fun v h => h⟩, ?_⟩
                          exact .inl ⟨by kernel_rfl, fun L a1 w1 n h => ⟨_, rfl, run_loadA 25 (.tmp 82) ⟨g3, 9, none⟩ rfl Tryz.isAgg25 (h.dep n 24 82 (by kernel_rfl) rfl) ((Row.later ract h.inv).cell ha9.out)⟩⟩
                        · refine .inl ⟨.inr ⟨18, true, 76, rfl, by kernel_rfl, rfl, by simp, fun v h => h⟩, ?_⟩
                          refine .inr fun L a1 w1 n h K hK => ?_
                          have e0 : a1.eval (.tmp 81) = .slice p.E p.l p.d := h.dep n 23 81 (by kernel_rfl) rfl
                          have e1 : a1.eval (.tmp 83) = .slice a.E a.l a.d := h.dep n 25 83 (by kernel_rfl) rfl
                          refine st_call 13 _ _ #[.slice p.E p.l p.d, .slice a.E a.l a.d] rfl Tryz.call13 ?_ (HEt w1 h.inv) ?_
                          · simp only [List.map_toArray, List.map_cons, List.map_nil, e0, e1]
                          · rintro e w3 ⟨rfl, q9⟩
                            exact ⟨_, rfl, hK _ w3 rfl (q9 ▸ h.inv)⟩
                        · refine .inl ⟨.inr ⟨1, false, 59, rfl, by kernel_rfl, rfl, by simp, fun v h => h⟩, ?_⟩
                          exact .inl ⟨by kernel_rfl, fun L a1 w1 n h => ⟨_, rfl, run_pickT (.tmp 76) _ _ rfl (h.dep n 18 76 (by kernel_rfl) rfl) (h.dep n 26 84 (by kernel_rfl) rfl)⟩⟩
                        · refine .inl ⟨.inr ⟨1, false, 59, rfl, by kernel_rfl, rfl, by simp, fun v h => h⟩, ?_⟩
                          exact .inl ⟨by kernel_rfl, fun L a1 w1 n h => ⟨_, rfl, run_move (.tmp 85) rfl (h.dep n 27 85 (by kernel_rfl) rfl)⟩⟩
                        · exact .inr ⟨⟨28, true, 86, rfl, by kernel_rfl, rfl, by simp, fun v h => by rw [show v = .bool false from h]; first | exact ne_tf | exact ne_ft | exact ne_undef _⟩, by kernel_rfl, rfl⟩
                        · exact .inr ⟨⟨28, true, 86, rfl, by kernel_rfl, rfl, by simp, fun v h => by rw [show v = .bool false from h]; first | exact ne_tf | exact ne_ft | exact ne_undef _⟩, by kernel_rfl, rfl⟩
                        · exact .inr ⟨⟨28, true, 86, rfl, by kernel_rfl, rfl, by simp, fun v h => by rw [show v = .bool false from h]; first | exact ne_tf | exact ne_ft | exact ne_undef _⟩, by kernel_rfl, rfl⟩
                        · exact .inr ⟨⟨28, true, 86, rfl, by kernel_rfl, rfl, by simp, fun v h => by rw [show v = .bool false from h]; first | exact ne_tf | exact ne_ft | exact ne_undef _⟩, by kernel_rfl, rfl⟩
                        · exact .inr ⟨⟨28, true, 86, rfl, by kernel_rfl, rfl, by simp, fun v h => by rw [show v = .bool false from h]; first | exact ne_tf | exact ne_ft | exact ne_undef _⟩, by kernel_rfl, rfl⟩
                        · exact .inr ⟨⟨28, true, 86, rfl, by kernel_rfl, rfl, by simp, fun v h => by rw [show v = .bool false from h]; first | exact ne_tf | exact ne_ft | exact ne_undef _⟩, by kernel_rfl, rfl⟩
                        · refine .inl ⟨.inr ⟨1, false, 59, rfl, by kernel_rfl, rfl, by simp, fun v h => h⟩, ?_⟩
                          exact .inl ⟨by kernel_rfl, fun L a1 w1 n h => ⟨_, rfl, run_pickF (.tmp 86) _ _ rfl (h.dep n 28 86 (by kernel_rfl) rfl) rfl⟩⟩
                        · refine .inl ⟨.inl rfl, ?_⟩
                          exact .inl ⟨by kernel_rfl, fun L a1 w1 n h => ⟨_, rfl, run_pickF (.tmp 59) _ _ rfl (h.dep n 1 59 (by kernel_rfl) rfl) (h.dep n 35 93 (by kernel_rfl) rfl)⟩⟩
                        · refine .inl ⟨.inl rfl, ?_⟩
                          exact .inl ⟨by kernel_rfl, fun L a1 w1 n h => ⟨_, rfl, run_assign (.tmp 94) rfl (h.dep n 36 94 (by kernel_rfl) rfl)⟩⟩
                      case he =>
                        intro V w14 hV hJ
                        have b14 : Below wr.heap.size wr w14 := hJ
                        have z37 : V 37 = .bool false := hV 37 _ rfl
                        clear hV hJ
                        simp only [putOps, List.setIfInBounds_toArray, List.set_cons_succ, List.set_cons_zero, Nat.reduceAdd]
                        rw [z37]
                        clear z37
                        refine hK15 _ _ ?_
                        go_wp2
                        go_roundw
                        case rel => exact ⟨i2 + 1, false, by omega, rfl, by go_num, ⟨hQ2.out.later b14, hbw2.out.trans (b14.mono hbw2.out.size)⟩, HSt.out false ⟨fun h => (by cases h), fun h => (by rcases h with h | h; cases h; exact absurd (HMa.out.1 h).2.2.1 hx)⟩⟩
                        case measure => simp [intOf]; omega

                    case pos =>
                      have HEt := HEt0
                      rw [decide_eq_true hx] at HEt
                      by_cases hh : x9 = hs
                      case neg =>
                        have HEh := HEh0
                        rw [decide_eq_false hh] at HEh
                        refine wp_region_valsS [7, 26, 34] (SMkH g3 b0 off i c0 i2 gt (xss.length) ct (x9.length) c9 (hs.length) hc idp ida p a A9 Hd) (fun _ _ wz => Below wr.heap.size wr wz) (by kernel_rfl) (by kernel_rfl) (by kernel_rfl) (by kernel_rfl) ((Below.refl _ _).drew) ?obs ?he
                        case obs =>
                          refine ⟨?_, ?_, ?_, ?_, ?_, ?_, ?_, ?_, ?_, ?_, ?_, ?_, ?_, ?_, ?_, ?_, ?_, ?_, ?_, ?_, ?_, ?_, ?_, ?_, ?_, ?_, ?_, ?_, ?_, ?_, ?_, ?_, ?_, ?_, ?_, ?_, ?_, ?_, trivial⟩
                          · refine .inl ⟨.inl rfl, ?_⟩
                            exact .inl ⟨by kernel_rfl, fun L a1 w1 n h => ⟨_, rfl, run_move (.tmp 11) rfl (h.var n 11 (by kernel_rfl))⟩⟩
                          · refine .inl ⟨.inl rfl, ?_⟩
                            exact .inl ⟨by kernel_rfl, fun L a1 w1 n h => ⟨_, rfl, run_move (.tmp 58) rfl (h.dep n 0 58 (by kernel_rfl) rfl)⟩⟩
                          · refine .inl ⟨.inr ⟨1, false, 59, rfl, by kernel_rfl, rfl, by simp, fun v h => h⟩, ?_⟩
                            exact .inl ⟨by kernel_rfl, fun L a1 w1 n h => ⟨_, rfl, run_move (.tmp 0) rfl (h.var n 0 (by kernel_rfl))⟩⟩
                          · refine .inl ⟨.inr ⟨1, false, 59, rfl, by kernel_rfl, rfl, by simp, fun v h => h⟩, ?_⟩
                            exact .inl ⟨by kernel_rfl, fun L a1 w1 n h => ⟨_, rfl, run_move (.tmp 12) rfl (h.var n 12 (by kernel_rfl))⟩⟩
                          · refine .inl ⟨.inr ⟨1, false, 59, rfl, by kernel_rfl, rfl, by simp, fun v h => h⟩, ?_⟩
                            exact .inl ⟨by kernel_rfl, fun L a1 w1 n h => ⟨_, rfl, run_indexSn 22 (.tmp 60) (.tmp 61) 27 b0 off i c0 i2 12 rfl Tryz.underlying22 Tryz.sizeOf27 (h.dep n 2 60 (by kernel_rfl) rfl) (h.dep n 3 61 (by kernel_rfl) rfl) hii⟩⟩
                          · refine .inl ⟨.inr ⟨1, false, 59, rfl, by kernel_rfl, rfl, by simp, fun v h => h⟩, ?_⟩
                            refine .inl ⟨by kernel_rfl, fun L a1 w1 n h => ⟨.pointer (some ⟨b0, off + i2 * 12 + 1, none⟩), rfl, ?_⟩⟩
                            have e0 : a1.eval (.tmp 62) = _ := h.dep n 4 62 (by kernel_rfl) rfl
                            unfold execOp
                            simp only [e0]
                            go_simp
                          · refine .inl ⟨.inr ⟨1, false, 59, rfl, by kernel_rfl, rfl, by simp, fun v h => h⟩, ?_⟩
                            exact .inl ⟨by kernel_rfl, fun L a1 w1 n h => ⟨_, rfl, run_loadC 24 (.tmp 63) b0 (off + i2 * 12 + 1) idp _ rfl (h.dep n 5 63 (by kernel_rfl) rfl) (HI w1 h.inv) Tryz.underlying24 rfl hidp.out⟩⟩
                          · refine .inl ⟨.inr ⟨1, false, 59, rfl, by kernel_rfl, rfl, by simp, fun v h => h⟩, ?_⟩
                            refine .inr fun L a1 w1 n h K hK => ?_
                            have e0 : a1.eval (.tmp 64) = .agg idp.toArray := h.dep n 6 64 (by kernel_rfl) rfl
                            refine st_call 15 _ _ #[.agg idp.toArray] rfl Tryz.call15 ?_ (HVal w1 h.inv) ?_
                            · simp only [List.map_toArray, List.map_cons, List.map_nil, e0]
                            · rintro e w3 ⟨rfl, b9⟩
                              exact ⟨_, rfl, hK _ w3 rfl (h.inv.trans (b9.mono h.inv.size))⟩
                          · refine .inl ⟨.inr ⟨1, false, 59, rfl, by kernel_rfl, rfl, by simp, fun v h => h⟩, ?_⟩
                            exact .inl ⟨by kernel_rfl, fun L a1 w1 n h => ⟨_, rfl, run_move (.tmp 65) rfl (h.dep n 7 65 (by kernel_rfl) rfl)⟩⟩
                          · refine .inl ⟨.inr ⟨8, true, 66, rfl, by kernel_rfl, rfl, by simp, fun v h => h⟩, ?_⟩
                            exact .inl ⟨by kernel_rfl, fun L a1 w1 n h => ⟨_, rfl, run_move (.tmp 0) rfl (h.var n 0 (by kernel_rfl))⟩⟩
                          · refine .inl ⟨.inr ⟨8, true, 66, rfl, by kernel_rfl, rfl, by simp, fun v h => h⟩, ?_⟩
                            exact .inl ⟨by kernel_rfl, fun L a1 w1 n h => ⟨_, rfl, run_move (.tmp 12) rfl (h.var n 12 (by kernel_rfl))⟩⟩
                          · refine .inl ⟨.inr ⟨8, true, 66, rfl, by kernel_rfl, rfl, by simp, fun v h => h⟩, ?_⟩
                            exact .inl ⟨by kernel_rfl, fun L a1 w1 n h => ⟨_, rfl, run_indexSn 22 (.tmp 67) (.tmp 68) 27 b0 off i c0 i2 12 rfl Tryz.underlying22 Tryz.sizeOf27 (h.dep n 9 67 (by kernel_rfl) rfl) (h.dep n 10 68 (by kernel_rfl) rfl) hii⟩⟩
                          · refine .inl ⟨.inr ⟨8, true, 66, rfl, by kernel_rfl, rfl, by simp, fun v h => h⟩, ?_⟩
                            refine .inl ⟨by kernel_rfl, fun L a1 w1 n h => ⟨.pointer (some ⟨b0, off + i2 * 12 + 1, none⟩), rfl, ?_⟩⟩
                            have e0 : a1.eval (.tmp 69) = _ := h.dep n 11 69 (by kernel_rfl) rfl
                            unfold execOp
                            simp only [e0]
                            go_simp
                          · refine .inl ⟨.inr ⟨8, true, 66, rfl, by kernel_rfl, rfl, by simp, fun v h => h⟩, ?_⟩
                            exact .inl ⟨by kernel_rfl, fun L a1 w1 n h => ⟨_, rfl, run_loadC 24 (.tmp 70) b0 (off + i2 * 12 + 1) idp _ rfl (h.dep n 12 70 (by kernel_rfl) rfl) (HI w1 h.inv) Tryz.underlying24 rfl hidp.out⟩⟩
                          · refine .inl ⟨.inr ⟨8, true, 66, rfl, by kernel_rfl, rfl, by simp, fun v h => h⟩, ?_⟩
                            refine .inl ⟨by kernel_rfl, fun L a1 w1 n h => ⟨.pointer (some ⟨g3, 1, none⟩), rfl, ?_⟩⟩
                            have e0 : a1.eval (.tmp 3) = _ := h.var n 3 (by kernel_rfl)
                            unfold execOp
                            simp only [e0]
                            go_simp
                          · refine .inl ⟨.inr ⟨8, true, 66, rfl, by kernel_rfl, rfl, by simp, fun v h => h⟩, ?_⟩
                            exact .inl ⟨by kernel_rfl, fun L a1 w1 n h => ⟨_, rfl, run_loadP 24 (.tmp 72) g3 1 27 [.int .u8 a.k] ida (BAct.rest a) _ rfl (h.dep n 14 72 (by kernel_rfl) rfl) (Row.later rA h.inv) rfl Tryz.underlying24 rfl hida.out⟩⟩
                          · refine .inl ⟨.inr ⟨8, true, 66, rfl, by kernel_rfl, rfl, by simp, fun v h => h⟩, ?_⟩
                            exact .inl ⟨by kernel_rfl, fun L a1 w1 n h => ⟨_, rfl, run_eqlS' (.tmp 71) (.tmp 73) rfl hEq (h.dep n 13 71 (by kernel_rfl) rfl) (h.dep n 15 73 (by kernel_rfl) rfl) (by kernel_rfl)⟩⟩
                          · refine .inl ⟨.inr ⟨1, false, 59, rfl, by kernel_rfl, rfl, by simp, fun v h => h⟩, ?_⟩
                            exact .inl ⟨by kernel_rfl, fun L a1 w1 n h => ⟨_, rfl, run_pickT (.tmp 66) _ _ rfl (h.dep n 8 66 (by kernel_rfl) rfl) (h.dep n 16 74 (by kernel_rfl) rfl)⟩⟩
                          · refine .inl ⟨.inr ⟨1, false, 59, rfl, by kernel_rfl, rfl, by simp, fun v h => h⟩, ?_⟩
                            exact .inl ⟨by kernel_rfl, fun L a1 w1 n h => ⟨_, rfl, run_move (.tmp 75) rfl (h.dep n 17 75 (by kernel_rfl) rfl)⟩⟩
                          · refine .inl ⟨.inr ⟨18, true, 76, rfl, by kernel_rfl, rfl, by simp, fun v h => h⟩, ?_⟩
                            exact .inl ⟨by kernel_rfl, fun L a1 w1 n h => ⟨_, rfl, run_move (.tmp 0) rfl (h.var n 0 (by kernel_rfl))⟩⟩
                          · refine .inl ⟨.inr ⟨18, true, 76, rfl, by kernel_rfl, rfl, by simp, fun v h => h⟩, ?_⟩
                            exact .inl ⟨by kernel_rfl, fun L a1 w1 n h => ⟨_, rfl, run_move (.tmp 12) rfl (h.var n 12 (by kernel_rfl))⟩⟩
                          · refine .inl ⟨.inr ⟨18, true, 76, rfl, by kernel_rfl, rfl, by simp, fun v h => h⟩, ?_⟩
                            exact .inl ⟨by kernel_rfl, fun L a1 w1 n h => ⟨_, rfl, run_indexSn 22 (.tmp 77) (.tmp 78) 27 b0 off i c0 i2 12 rfl Tryz.underlying22 Tryz.sizeOf27 (h.dep n 19 77 (by kernel_rfl) rfl) (h.dep n 20 78 (by kernel_rfl) rfl) hii⟩⟩
                          · refine .inl ⟨.inr ⟨18, true, 76, rfl, by kernel_rfl, rfl, by simp, fun v h => h⟩, ?_⟩
                            refine .inl ⟨by kernel_rfl, fun L a1 w1 n h => ⟨.pointer (some ⟨b0, off + i2 * 12 + 9, none⟩), rfl, ?_⟩⟩
                            have e0 : a1.eval (.tmp 79) = _ := h.dep n 21 79 (by kernel_rfl) rfl
                            unfold execOp
                            simp only [e0]
                            go_simp
                          · refine .inl ⟨.inr ⟨18, true, 76, rfl, by kernel_rfl, rfl, by simp, fun v h => h⟩, ?_⟩
                            exact .inl ⟨by kernel_rfl, fun L a1 w1 n h => ⟨_, rfl, run_loadA 25 (.tmp 80) ⟨b0, off + i2 * 12 + 9, none⟩ rfl Tryz.isAgg25 (h.dep n 22 80 (by kernel_rfl) rfl) (HC9 w1 h.inv)⟩⟩
                          · refine .inl ⟨.inr ⟨18, true, 76, rfl, by kernel_rfl, rfl, by simp, fun v h => h⟩, ?_⟩
                            refine .inl ⟨by kernel_rfl, fun L a1 w1 n h => ⟨.pointer (some ⟨g3, 9, none⟩), rfl, ?_⟩⟩
                            have e0 : a1.eval (.tmp 3) = _ := h.var n 3 (by kernel_rfl)
                            unfold execOp
                            simp only [e0]
                            go_simp
                          · refine .inl ⟨.inr ⟨18, true, 76, rfl, by kernel_rfl, rfl, by simp, fun v h => h⟩, ?_⟩
                            exact .inl ⟨by kernel_rfl, fun L a1 w1 n h => ⟨_, rfl, run_loadA 25 (.tmp 82) ⟨g3, 9, none⟩ rfl Tryz.isAgg25 (h.dep n 24 82 (by kernel_rfl) rfl) ((Row.later ract h.inv).cell ha9.out)⟩⟩
                          · refine .inl ⟨.inr ⟨18, true, 76, rfl, by kernel_rfl, rfl, by simp, fun v h => h⟩, ?_⟩
                            refine .inr fun L a1 w1 n h K hK => ?_
                            have e0 : a1.eval (.tmp 81) = .slice p.E p.l p.d := h.dep n 23 81 (by kernel_rfl) rfl
                            have e1 : a1.eval (.tmp 83) = .slice a.E a.l a.d := h.dep n 25 83 (by kernel_rfl) rfl
                            refine st_call 13 _ _ #[.slice p.E p.l p.d, .slice a.E a.l a.d] rfl Tryz.call13 ?_ (HEt w1 h.inv) ?_
                            · simp only [List.map_toArray, List.map_cons, List.map_nil, e0, e1]
                            · rintro e w3 ⟨rfl, q9⟩
                              exact ⟨_, rfl, hK _ w3 rfl (q9 ▸ h.inv)⟩
                          · refine .inl ⟨.inr ⟨1, false, 59, rfl, by kernel_rfl, rfl, by simp, fun v h => h⟩, ?_⟩
                            exact .inl ⟨by kernel_rfl, fun L a1 w1 n h => ⟨_, rfl, run_pickT (.tmp 76) _ _ rfl (h.dep n 18 76 (by kernel_rfl) rfl) (h.dep n 26 84 (by kernel_rfl) rfl)⟩⟩
                          · refine .inl ⟨.inr ⟨1, false, 59, rfl, by kernel_rfl, rfl, by simp, fun v h => h⟩, ?_⟩
                            exact .inl ⟨by kernel_rfl, fun L a1 w1 n h => ⟨_, rfl, run_move (.tmp 85) rfl (h.dep n 27 85 (by kernel_rfl) rfl)⟩⟩
                          · refine .inl ⟨.inr ⟨28, true, 86, rfl, by kernel_rfl, rfl, by simp, fun v h => h⟩, ?_⟩
                            exact .inl ⟨by kernel_rfl, fun L a1 w1 n h => ⟨_, rfl, run_move (.tmp 6) rfl (h.var n 6 (by kernel_rfl))⟩⟩
                          · refine .inl ⟨.inr ⟨28, true, 86, rfl, by kernel_rfl, rfl, by simp, fun v h => h⟩, ?_⟩
                            exact .inl ⟨by kernel_rfl, fun L a1 w1 n h => ⟨_, rfl, run_move (.tmp 12) rfl (h.var n 12 (by kernel_rfl))⟩⟩
                          · refine .inl ⟨.inr ⟨28, true, 86, rfl, by kernel_rfl, rfl, by simp, fun v h => h⟩, ?_⟩
                            exact .inl ⟨by kernel_rfl, fun L a1 w1 n h => ⟨_, rfl, run_indexSl0 32 (.tmp 87) (.tmp 88) 25 gt (xss.length) ct i2 rfl Tryz.underlying32 Tryz.sizeOf25 (h.dep n 29 87 (by kernel_rfl) rfl) (h.dep n 30 88 (by kernel_rfl) rfl) hxn⟩⟩
                          · refine .inl ⟨.inr ⟨28, true, 86, rfl, by kernel_rfl, rfl, by simp, fun v h => h⟩, ?_⟩
                            exact .inl ⟨by kernel_rfl, fun L a1 w1 n h => ⟨_, rfl, run_loadA 25 (.tmp 89) ⟨gt, i2, none⟩ rfl Tryz.isAgg25 (h.dep n 31 89 (by kernel_rfl) rfl) ((Below.cell h.inv (block_lt_of_cell htc)).trans htc)⟩⟩
                          · refine .inl ⟨.inr ⟨28, true, 86, rfl, by kernel_rfl, rfl, by simp, fun v h => h⟩, ?_⟩
                            exact .inl ⟨by kernel_rfl, fun L a1 w1 n h => ⟨_, rfl, run_move (.tmp 10) rfl (h.var n 10 (by kernel_rfl))⟩⟩
                          · refine .inl ⟨.inr ⟨28, true, 86, rfl, by kernel_rfl, rfl, by simp, fun v h => h⟩, ?_⟩
                            refine .inr fun L a1 w1 n h K hK => ?_
                            have e0 : a1.eval (.tmp 90) = .slice A9 x9.length c9 := h.dep n 32 90 (by kernel_rfl) rfl
                            have e1 : a1.eval (.tmp 91) = .slice Hd hs.length hc := h.dep n 33 91 (by kernel_rfl) rfl
                            refine st_call 13 _ _ #[.slice A9 x9.length c9, .slice Hd hs.length hc] rfl Tryz.call13 ?_ (HEh w1 h.inv) ?_
                            · simp only [List.map_toArray, List.map_cons, List.map_nil, e0, e1]
                            · rintro e w3 ⟨rfl, q9⟩
                              exact ⟨_, rfl, hK _ w3 rfl (q9 ▸ h.inv)⟩
                          · refine .inl ⟨.inr ⟨1, false, 59, rfl, by kernel_rfl, rfl, by simp, fun v h => h⟩, ?_⟩
                            exact .inl ⟨by kernel_rfl, fun L a1 w1 n h => ⟨_, rfl, run_pickT (.tmp 86) _ _ rfl (h.dep n 28 86 (by kernel_rfl) rfl) (h.dep n 34 92 (by kernel_rfl) rfl)⟩⟩
                          · refine .inl ⟨.inl rfl, ?_⟩
                            exact .inl ⟨by kernel_rfl, fun L a1 w1 n h => ⟨_, rfl, run_pickF (.tmp 59) _ _ rfl (h.dep n 1 59 (by kernel_rfl) rfl) (h.dep n 35 93 (by kernel_rfl) rfl)⟩⟩
                          · refine .inl ⟨.inl rfl, ?_⟩
                            exact .inl ⟨by kernel_rfl, fun L a1 w1 n h => ⟨_, rfl, run_assign (.tmp 94) rfl (h.dep n 36 94 (by kernel_rfl) rfl)⟩⟩
                        case he =>
                          intro V w14 hV hJ
                          have b14 : Below wr.heap.size wr w14 := hJ
                          have z37 : V 37 = .bool false := hV 37 _ rfl
                          clear hV hJ
                          simp only [putOps, List.setIfInBounds_toArray, List.set_cons_succ, List.set_cons_zero, Nat.reduceAdd]
                          rw [z37]
                          clear z37
                          refine hK15 _ _ ?_
                          go_wp2
                          go_roundw
                          case rel => exact ⟨i2 + 1, false, by omega, rfl, by go_num, ⟨hQ2.out.later b14, hbw2.out.trans (b14.mono hbw2.out.size)⟩, HSt.out false ⟨fun h => (by cases h), fun h => (by rcases h with h | h; cases h; exact absurd (HMa.out.1 h).2.2.2 hh)⟩⟩
                          case measure => simp [intOf]; omega

                      case pos =>
                        have HEh := HEh0
                        rw [decide_eq_true hh] at HEh
                        refine wp_region_valsS [7, 26, 34] (SMkT g3 b0 off i c0 i2 gt (xss.length) ct (x9.length) c9 (hs.length) hc idp ida p a A9 Hd) (fun _ _ wz => Below wr.heap.size wr wz) (by kernel_rfl) (by kernel_rfl) (by kernel_rfl) (by kernel_rfl) ((Below.refl _ _).drew) ?obs ?he
                        case obs =>
                          refine ⟨?_, ?_, ?_, ?_, ?_, ?_, ?_, ?_, ?_, ?_, ?_, ?_, ?_, ?_, ?_, ?_, ?_, ?_, ?_, ?_, ?_, ?_, ?_, ?_, ?_, ?_, ?_, ?_, ?_, ?_, ?_, ?_, ?_, ?_, ?_, ?_, ?_, ?_, trivial⟩
                          · refine .inl ⟨.inl rfl, ?_⟩
                            exact .inl ⟨by kernel_rfl, fun L a1 w1 n h => ⟨_, rfl, run_move (.tmp 11) rfl (h.var n 11 (by kernel_rfl))⟩⟩
                          · refine .inl ⟨.inl rfl, ?_⟩
                            exact .inl ⟨by kernel_rfl, fun L a1 w1 n h => ⟨_, rfl, run_move (.tmp 58) rfl (h.dep n 0 58 (by kernel_rfl) rfl)⟩⟩
                          · refine .inl ⟨.inr ⟨1, false, 59, rfl, by kernel_rfl, rfl, by simp, fun v h => h⟩, ?_⟩
                            exact .inl ⟨by kernel_rfl, fun L a1 w1 n h => ⟨_, rfl, run_move (.tmp 0) rfl (h.var n 0 (by kernel_rfl))⟩⟩
                          · refine .inl ⟨.inr ⟨1, false, 59, rfl, by kernel_rfl, rfl, by simp, fun v h => h⟩, ?_⟩
                            exact .inl ⟨by kernel_rfl, fun L a1 w1 n h => ⟨_, rfl, run_move (.tmp 12) rfl (h.var n 12 (by kernel_rfl))⟩⟩
                          · refine .inl ⟨.inr ⟨1, false, 59, rfl, by kernel_rfl, rfl, by simp, fun v h => h⟩, ?_⟩
                            exact .inl ⟨by kernel_rfl, fun L a1 w1 n h => ⟨_, rfl, run_indexSn 22 (.tmp 60) (.tmp 61) 27 b0 off i c0 i2 12 rfl Tryz.underlying22 Tryz.sizeOf27 (h.dep n 2 60 (by kernel_rfl) rfl) (h.dep n 3 61 (by kernel_rfl) rfl) hii⟩⟩
                          · refine .inl ⟨.inr ⟨1, false, 59, rfl, by kernel_rfl, rfl, by simp, fun v h => h⟩, ?_⟩
                            refine .inl ⟨by kernel_rfl, fun L a1 w1 n h => ⟨.pointer (some ⟨b0, off + i2 * 12 + 1, none⟩), rfl, ?_⟩⟩
                            have e0 : a1.eval (.tmp 62) = _ := h.dep n 4 62 (by kernel_rfl) rfl
                            unfold execOp
                            simp only [e0]
                            go_simp
                          · refine .inl ⟨.inr ⟨1, false, 59, rfl, by kernel_rfl, rfl, by simp, fun v h => h⟩, ?_⟩
                            exact .inl ⟨by kernel_rfl, fun L a1 w1 n h => ⟨_, rfl, run_loadC 24 (.tmp 63) b0 (off + i2 * 12 + 1) idp _ rfl (h.dep n 5 63 (by kernel_rfl) rfl) (HI w1 h.inv) Tryz.underlying24 rfl hidp.out⟩⟩
                          · refine .inl ⟨.inr ⟨1, false, 59, rfl, by kernel_rfl, rfl, by simp, fun v h => h⟩, ?_⟩
                            refine .inr fun L a1 w1 n h K hK => ?_
                            have e0 : a1.eval (.tmp 64) = .agg idp.toArray := h.dep n 6 64 (by kernel_rfl) rfl
                            refine st_call 15 _ _ #[.agg idp.toArray] rfl Tryz.call15 ?_ (HVal w1 h.inv) ?_
                            · simp only [List.map_toArray, List.map_cons, List.map_nil, e0]
                            · rintro e w3 ⟨rfl, b9⟩
                              exact ⟨_, rfl, hK _ w3 rfl (h.inv.trans (b9.mono h.inv.size))⟩
                          · refine .inl ⟨.inr ⟨1, false, 59, rfl, by kernel_rfl, rfl, by simp, fun v h => h⟩, ?_⟩
                            exact .inl ⟨by kernel_rfl, fun L a1 w1 n h => ⟨_, rfl, run_move (.tmp 65) rfl (h.dep n 7 65 (by kernel_rfl) rfl)⟩⟩
                          · refine .inl ⟨.inr ⟨8, true, 66, rfl, by kernel_rfl, rfl, by simp, fun v h => h⟩, ?_⟩
                            exact .inl ⟨by kernel_rfl, fun L a1 w1 n h => ⟨_, rfl, run_move (.tmp 0) rfl (h.var n 0 (by kernel_rfl))⟩⟩
                          · refine .inl ⟨.inr ⟨8, true, 66, rfl, by kernel_rfl, rfl, by simp, fun v h => h⟩, ?_⟩
                            exact .inl ⟨by kernel_rfl, fun L a1 w1 n h => ⟨_, rfl, run_move (.tmp 12) rfl (h.var n 12 (by kernel_rfl))⟩⟩
                          · refine .inl ⟨.inr ⟨8, true, 66, rfl, by kernel_rfl, rfl, by simp, fun v h => h⟩, ?_⟩
                            exact .inl ⟨by kernel_rfl, fun L a1 w1 n h => ⟨_, rfl, run_indexSn 22 (.tmp 67) (.tmp 68) 27 b0 off i c0 i2 12 rfl Tryz.underlying22 Tryz.sizeOf27 (h.dep n 9 67 (by kernel_rfl) rfl) (h.dep n 10 68 (by kernel_rfl) rfl) hii⟩⟩
                          · refine .inl ⟨.inr ⟨8, true, 66, rfl, by kernel_rfl, rfl, by simp, fun v h => h⟩, ?_⟩
                            refine .inl ⟨by kernel_rfl, fun L a1 w1 n h => ⟨.pointer (some ⟨b0, off + i2 * 12 + 1, none⟩), rfl, ?_⟩⟩
                            have e0 : a1.eval (.tmp 69) = _ := h.dep n 11 69 (by kernel_rfl) rfl
                            unfold execOp
                            simp only [e0]
                            go_simp
                          · refine .inl ⟨.inr ⟨8, true, 66, rfl, by kernel_rfl, rfl, by simp, fun v h => h⟩, ?_⟩
                            exact .inl ⟨by kernel_rfl, fun L a1 w1 n h => ⟨_, rfl, run_loadC 24 (.tmp 70) b0 (off + i2 * 12 + 1) idp _ rfl (h.dep n 12 70 (by kernel_rfl) rfl) (HI w1 h.inv) Tryz.underlying24 rfl hidp.out⟩⟩
                          · refine .inl ⟨.inr ⟨8, true, 66, rfl, by kernel_rfl, rfl, by simp, fun v h => h⟩, ?_⟩
                            refine .inl ⟨by kernel_rfl, fun L a1 w1 n h => ⟨.pointer (some ⟨g3, 1, none⟩), rfl, ?_⟩⟩
                            have e0 : a1.eval (.tmp 3) = _ := h.var n 3 (by kernel_rfl)
                            unfold execOp
                            simp only [e0]
                            go_simp
                          · refine .inl ⟨.inr ⟨8, true, 66, rfl, by kernel_rfl, rfl, by simp, fun v h => h⟩, ?_⟩
                            exact .inl ⟨by kernel_rfl, fun L a1 w1 n h => ⟨_, rfl, run_loadP 24 (.tmp 72) g3 1 27 [.int .u8 a.k] ida (BAct.rest a) _ rfl (h.dep n 14 72 (by kernel_rfl) rfl) (Row.later rA h.inv) rfl Tryz.underlying24 rfl hida.out⟩⟩
                          · refine .inl ⟨.inr ⟨8, true, 66, rfl, by kernel_rfl, rfl, by simp, fun v h => h⟩, ?_⟩
                            exact .inl ⟨by kernel_rfl, fun L a1 w1 n h => ⟨_, rfl, run_eqlS' (.tmp 71) (.tmp 73) rfl hEq (h.dep n 13 71 (by kernel_rfl) rfl) (h.dep n 15 73 (by kernel_rfl) rfl) (by kernel_rfl)⟩⟩
                          · refine .inl ⟨.inr ⟨1, false, 59, rfl, by kernel_rfl, rfl, by simp, fun v h => h⟩, ?_⟩
                            exact .inl ⟨by kernel_rfl, fun L a1 w1 n h => ⟨_, rfl, run_pickT (.tmp 66) _ _ rfl (h.dep n 8 66 (by kernel_rfl) rfl) (h.dep n 16 74 (by kernel_rfl) rfl)⟩⟩
                          · refine .inl ⟨.inr ⟨1, false, 59, rfl, by kernel_rfl, rfl, by simp, fun v h => h⟩, ?_⟩
                            exact .inl ⟨by kernel_rfl, fun L a1 w1 n h => ⟨_, rfl, run_move (.tmp 75) rfl (h.dep n 17 75 (by kernel_rfl) rfl)⟩⟩
                          · refine .inl ⟨.inr ⟨18, true, 76, rfl, by kernel_rfl, rfl, by simp, fun v h => h⟩, ?_⟩
                            exact .inl ⟨by kernel_rfl, fun L a1 w1 n h => ⟨_, rfl, run_move (.tmp 0) rfl (h.var n 0 (by kernel_rfl))⟩⟩
                          · refine .inl ⟨.inr ⟨18, true, 76, rfl, by kernel_rfl, rfl, by simp, fun v h => h⟩, ?_⟩
                            exact .inl ⟨by kernel_rfl, fun L a1 w1 n h => ⟨_, rfl, run_move (.tmp 12) rfl (h.var n 12 (by kernel_rfl))⟩⟩
                          · refine .inl ⟨.inr ⟨18, true, 76, rfl, by kernel_rfl, rfl, by simp, fun v h => h⟩, ?_⟩
                            exact .inl ⟨by kernel_rfl, fun L a1 w1 n h => ⟨_, rfl, run_indexSn 22 (.tmp 77) (.tmp 78) 27 b0 off i c0 i2 12 rfl Tryz.underlying22 Tryz.sizeOf27 (h.dep n 19 77 (by kernel_rfl) rfl) (h.dep n 20 78 (by kernel_rfl) rfl) hii⟩⟩
                          · refine .inl ⟨.inr ⟨18, true, 76, rfl, by kernel_rfl, rfl, by simp, fun v h => h⟩, ?_⟩
                            refine .inl ⟨by kernel_rfl, fun L a1 w1 n h => ⟨.pointer (some ⟨b0, off + i2 * 12 + 9, none⟩), rfl, ?_⟩⟩
                            have e0 : a1.eval (.tmp 79) = _ := h.dep n 21 79 (by kernel_rfl) rfl
                            unfold execOp
                            simp only [e0]
                            go_simp
                          · refine .inl ⟨.inr ⟨18, true, 76, rfl, by kernel_rfl, rfl, by simp, fun v h => h⟩, ?_⟩
                            exact .inl ⟨by kernel_rfl, fun L a1 w1 n h => ⟨_, rfl, run_loadA 25 (.tmp 80) ⟨b0, off + i2 * 12 + 9, none⟩ rfl Tryz.isAgg25 (h.dep n 22 80 (by kernel_rfl) rfl) (HC9 w1 h.inv)⟩⟩
                          · refine .inl ⟨.inr ⟨18, true, 76, rfl, by kernel_rfl, rfl, by simp, fun v h => h⟩, ?_⟩
                            refine .inl ⟨by kernel_rfl, fun L a1 w1 n h => ⟨.pointer (some ⟨g3, 9, none⟩), rfl, ?_⟩⟩
                            have e0 : a1.eval (.tmp 3) = _ := h.var n 3 (by kernel_rfl)
                            unfold execOp
                            simp only [e0]
                            go_simp
                          · refine .inl ⟨.inr ⟨18, true, 76, rfl, by kernel_rfl, rfl, by simp, fun v h => h⟩, ?_⟩
                            exact .inl ⟨by kernel_rfl, fun L a1 w1 n h => ⟨_, rfl, run_loadA 25 (.tmp 82) ⟨g3, 9, none⟩ rfl Tryz.isAgg25 (h.dep n 24 82 (by kernel_rfl) rfl) ((Row.later ract h.inv).cell ha9.out)⟩⟩
                          · refine .inl ⟨.inr ⟨18, true, 76, rfl, by kernel_rfl, rfl, by simp, fun v h => h⟩, ?_⟩
                            refine .inr fun L a1 w1 n h K hK => ?_
                            have e0 : a1.eval (.tmp 81) = .slice p.E p.l p.d := h.dep n 23 81 (by kernel_rfl) rfl
                            have e1 : a1.eval (.tmp 83) = .slice a.E a.l a.d := h.dep n 25 83 (by kernel_rfl) rfl
                            refine st_call 13 _ _ #[.slice p.E p.l p.d, .slice a.E a.l a.d] rfl Tryz.call13 ?_ (HEt w1 h.inv) ?_
                            · simp only [List.map_toArray, List.map_cons, List.map_nil, e0, e1]
                            · rintro e w3 ⟨rfl, q9⟩
                              exact ⟨_, rfl, hK _ w3 rfl (q9 ▸ h.inv)⟩
                          · refine .inl ⟨.inr ⟨1, false, 59, rfl, by kernel_rfl, rfl, by simp, fun v h => h⟩, ?_⟩
                            exact .inl ⟨by kernel_rfl, fun L a1 w1 n h => ⟨_, rfl, run_pickT (.tmp 76) _ _ rfl (h.dep n 18 76 (by kernel_rfl) rfl) (h.dep n 26 84 (by kernel_rfl) rfl)⟩⟩
                          · refine .inl ⟨.inr ⟨1, false, 59, rfl, by kernel_rfl, rfl, by simp, fun v h => h⟩, ?_⟩
                            exact .inl ⟨by kernel_rfl, fun L a1 w1 n h => ⟨_, rfl, run_move (.tmp 85) rfl (h.dep n 27 85 (by kernel_rfl) rfl)⟩⟩
                          · refine .inl ⟨.inr ⟨28, true, 86, rfl, by kernel_rfl, rfl, by simp, fun v h => h⟩, ?_⟩
                            exact .inl ⟨by kernel_rfl, fun L a1 w1 n h => ⟨_, rfl, run_move (.tmp 6) rfl (h.var n 6 (by kernel_rfl))⟩⟩
                          · refine .inl ⟨.inr ⟨28, true, 86, rfl, by kernel_rfl, rfl, by simp, fun v h => h⟩, ?_⟩
                            exact .inl ⟨by kernel_rfl, fun L a1 w1 n h => ⟨_, rfl, run_move (.tmp 12) rfl (h.var n 12 (by kernel_rfl))⟩⟩
                          · refine .inl ⟨.inr ⟨28, true, 86, rfl, by kernel_rfl, rfl, by simp, fun v h => h⟩, ?_⟩
                            exact .inl ⟨by kernel_rfl, fun L a1 w1 n h => ⟨_, rfl, run_indexSl0 32 (.tmp 87) (.tmp 88) 25 gt (xss.length) ct i2 rfl Tryz.underlying32 Tryz.sizeOf25 (h.dep n 29 87 (by kernel_rfl) rfl) (h.dep n 30 88 (by kernel_rfl) rfl) hxn⟩⟩
                          · refine .inl ⟨.inr ⟨28, true, 86, rfl, by kernel_rfl, rfl, by simp, fun v h => h⟩, ?_⟩
                            exact .inl ⟨by kernel_rfl, fun L a1 w1 n h => ⟨_, rfl, run_loadA 25 (.tmp 89) ⟨gt, i2, none⟩ rfl Tryz.isAgg25 (h.dep n 31 89 (by kernel_rfl) rfl) ((Below.cell h.inv (block_lt_of_cell htc)).trans htc)⟩⟩
                          · refine .inl ⟨.inr ⟨28, true, 86, rfl, by kernel_rfl, rfl, by simp, fun v h => h⟩, ?_⟩
                            exact .inl ⟨by kernel_rfl, fun L a1 w1 n h => ⟨_, rfl, run_move (.tmp 10) rfl (h.var n 10 (by kernel_rfl))⟩⟩
                          · refine .inl ⟨.inr ⟨28, true, 86, rfl, by kernel_rfl, rfl, by simp, fun v h => h⟩, ?_⟩
                            refine .inr fun L a1 w1 n h K hK => ?_
                            have e0 : a1.eval (.tmp 90) = .slice A9 x9.length c9 := h.dep n 32 90 (by kernel_rfl) rfl
                            have e1 : a1.eval (.tmp 91) = .slice Hd hs.length hc := h.dep n 33 91 (by kernel_rfl) rfl
                            refine st_call 13 _ _ #[.slice A9 x9.length c9, .slice Hd hs.length hc] rfl Tryz.call13 ?_ (HEh w1 h.inv) ?_
                            · simp only [List.map_toArray, List.map_cons, List.map_nil, e0, e1]
                            · rintro e w3 ⟨rfl, q9⟩
                              exact ⟨_, rfl, hK _ w3 rfl (q9 ▸ h.inv)⟩
                          · refine .inl ⟨.inr ⟨1, false, 59, rfl, by kernel_rfl, rfl, by simp, fun v h => h⟩, ?_⟩
                            exact .inl ⟨by kernel_rfl, fun L a1 w1 n h => ⟨_, rfl, run_pickT (.tmp 86) _ _ rfl (h.dep n 28 86 (by kernel_rfl) rfl) (h.dep n 34 92 (by kernel_rfl) rfl)⟩⟩
                          · refine .inl ⟨.inl rfl, ?_⟩
                            exact .inl ⟨by kernel_rfl, fun L a1 w1 n h => ⟨_, rfl, run_pickF (.tmp 59) _ _ rfl (h.dep n 1 59 (by kernel_rfl) rfl) (h.dep n 35 93 (by kernel_rfl) rfl)⟩⟩
                          · refine .inl ⟨.inl rfl, ?_⟩
                            exact .inl ⟨by kernel_rfl, fun L a1 w1 n h => ⟨_, rfl, run_assign (.tmp 94) rfl (h.dep n 36 94 (by kernel_rfl) rfl)⟩⟩
                        case he =>
                          intro V w14 hV hJ
                          have b14 : Below wr.heap.size wr w14 := hJ
                          have z37 : V 37 = .bool true := hV 37 _ rfl
                          clear hV hJ
                          simp only [putOps, List.setIfInBounds_toArray, List.set_cons_succ, List.set_cons_zero, Nat.reduceAdd]
                          rw [z37]
                          clear z37
                          refine hK15 _ _ ?_
                          go_wp2
                          go_roundw
                          case rel => exact ⟨i2 + 1, true, by omega, rfl, by go_num, ⟨hQ2.out.later b14, hbw2.out.trans (b14.mono hbw2.out.size)⟩, HSt.out true ⟨fun _ => .inr (HMa.out.2 ⟨hv, hq, hx, hh⟩), fun _ => rfl⟩⟩
                          case measure => simp [intOf]; omega

            · obtain rfl : i2 = i := by omega
              have hr := hR.out r hN
              have rX := hQ.act
              have rA := hsA.out wr rX
              have e9 := rX.cell ha9.out
              have HC := checkI wr w.heap.size g gl b D [] ts a.q Hd a.E hs.length hc a.l a.d a.tx hs (XB.out.later hbw) (hTw.out.later hQ.bel) Hts.out.2 Hts.out.1 (bs_up (haa.out.htx.below hQ.bel) hQ.bel.size) haa.out.htxb hQ.bh Hby.out (by omega)
              rw [← hr, ← Hida.out] at HC
              have HCk := hide HC
              have HQ := hide hQ
              clear hQ hN hr HC rX
              go_wp2_with (first
                | (with_reducible refine wl_load_part (o := ⟨some 97, _, _, _, _, _⟩) rfl 24 (.tmp 96) g3 1 27 [.int .u8 a.k] ida (BAct.rest a) _ rfl rfl rA rfl Tryz.underlying24 rfl hida.out ?_))
              refine HCk.out.mono ?_
              rintro e w7 ⟨rfl, b7⟩
              have B7 := HQ.out.bel.trans (b7.mono HQ.out.bel.size)
              cases r with
              | true =>
                go_wp2_with fail
                refine (bawake_any w7 (hTw.out.later B7)).mono ?_
                rintro e w8 ⟨rfl, b8⟩
                go_wp2_with fail
                go_ret
                exact ⟨rfl, B7.trans (b8.mono B7.size)⟩
              | false =>
                go_wp2_with fail
                refine (bawake_any w7 (hTw.out.later B7)).mono ?_
                rintro e w8 ⟨rfl, b8⟩
                go_wp2_with fail
                go_ret
                exact ⟨rfl, B7.trans (b8.mono B7.size)⟩
end Go.Proofs.YtooooncmjhcdbaaGreatDoor

/- Proved: the law BoxMarked (P8.3, P8.4) answers true and leaves its arguments as they read before. For every list of acts and every act; no condition but the tie of the table of keys to the program's text. -/
namespace Go.Proofs.YtooooncmjhcdbaaGreatDoor.boxMarked
open Go.ChangeShapes Go.WideShapes Go.ChangeAt Go.WideMaps Go.WideElems Go.RowKit

theorem own : ownKnob Tryz.prog.godebug = none := by kernel_rfl
theorem laidOut : laidOutB Tryz.prog = true := by kernel_rfl
theorem door_met (os : Os) (args : Array Value) : laidMetH Tryz.prog laidK ((World.doorLaid Tryz.prog 400 os).forCall (fun _ _ => 0) ⟨#[], args, []⟩).memory :=
  laidMetH_of_parts3 (fuel := 8) (laidMet_of_run' 8 (by kernel_rfl) (by kernel_rfl)) (by kernel_rfl) (by kernel_rfl)

set_option maxRecDepth 100000 in
theorem lifted (os : Os) (started : os.Started) (H : Type) (enc : TypeId × Value → H) :
    ReturnsInHanded {} Tryz.checked os 4 .any (fun w args => (Rows.boxMarkedSpec.pre enc Tryz.prog Tryz.f4 [] false w args ∧ laidMetH Tryz.prog laidK w) ∧ sizedMet enc Tryz.prog Tryz.f4 (OpenSpec.ofChange Rows.boxMarkedSpec) false w args)
      (Rows.boxMarkedSpec.post enc Tryz.prog Tryz.f4 false true false false) := by
  refine returnsInHanded_of_change_and (C := Tryz.checked) (X := fun w _ => laidMetH Tryz.prog laidK w) (fun _ _ _ hh h => h.of_heap hh) own started (by kernel_rfl) Tryz.func4
    (ChangeSpec.witness_shaped (enc := enc) (C := Tryz.checked) (os := os) (X := fun w _ => laidMetH Tryz.prog laidK w) false (World.doorLaid Tryz.prog 400 os) #[.slice none 0 0, .agg #[.int .u8 0, .int .i64 0, .int .i64 0, .int .i64 0, .int .i64 0, .int .i64 0, .int .i64 0, .int .i64 0, .slice none 0 0, .slice none 0 0, .int .u8 0, .int .u8 0]] 8 rfl (World.shaped_of_RefB (by kernel_rfl) (by kernel_rfl)) (by kernel_rfl) (by kernel_rfl) (by kernel_rfl) (door_met os _)) ?_
  intro W base args ds gs before hval0 hW _ _ hL _
  have hval : ∀ (j : Nat) t v, Tryz.f4.params[j]? = some t → args[j]? = some v → Value.okWide Tryz.prog W .any base t v := hval0
  have hW' := hW
  obtain ⟨p, q, hA0, hV, rfl, hfz, hnd⟩ := hW
  have hA : DataW.TrodAll enc Tryz.prog W 0 (fun _ => true) true Tryz.f4.params.toList args.toList ds p := hA0
  rw [Tryz.params4] at hA hval
  obtain ⟨v0, vs0, d0, ds0, p0, q0, hargs, rfl, rfl, h0, r0⟩ := trodAll_cons hA
  obtain ⟨v1, vs1, d1, ds1, p1, q1, rfl, rfl, rfl, h1, r1⟩ := trodAll_cons r0
  obtain ⟨rfl, rfl, rfl⟩ := trodAll_nil r1
  obtain rfl : args = #[v0, v1] := by cases args; simp_all
  obtain ⟨rfl, rfl⟩ := trodVars_none hV
  obtain ⟨a0, len0, cap0, rfl⟩ := okWide_slice Tryz.underlying22 (hval 0 22 v0 rfl rfl)
  have k0 := h0
  have lt0 : ∀ x ∈ p0, x.block < W.heap.size := by obtain ⟨m, hm⟩ := k0; exact DataW.trod_lt m _ _ _ hm
  have k1 := h1
  have lt1 : ∀ x ∈ p1, x.block < W.heap.size := by obtain ⟨m, hm⟩ := k1; exact DataW.trod_lt m _ _ _ hm
  clear hA0 hval0
  have hT : TabK W := tabsK_of_laid hL
  obtain ⟨f0, hf0⟩ := trod_bacts k0
  obtain ⟨cs, rfl⟩ : ∃ cs : List Value, v1 = .agg cs.toArray := by
    have := hval 1 27 v1 rfl rfl
    obtain ⟨cs, rfl, _⟩ : ∃ cs, v1 = .agg cs ∧ cs.size = Tryz.prog.cellsOf 27 ∧ Row.okWide Tryz.prog W .any base 27 cs := by
      simpa [Value.okWide, Tryz.underlying27] using this
    exact ⟨cs.toList, by simp⟩
  have kk := k1
  obtain ⟨fuel, hf⟩ := kk
  obtain ⟨q, hcs, hok⟩ := open_bact hf
  obtain rfl : cs = q.cells := hcs
  clear hf
  refine (boxMarked_any f0 q a0 len0 cap0 W hT hf0 hok).mono fun e W' ⟨he, bel⟩ => ?_
  subst he
  exact ⟨_, rfl, _, _, _, [], _, [], hW', trodAll_mk1 (shut_bool Tryz.underlying4 _), (trodAll_cons_mk (Below.trod laidOut (by kernel_rfl) (of_decide_eq_true (by kernel_rfl)) k0 bel lt0) (trodAll_cons_mk (Below.trod laidOut (by kernel_rfl) (of_decide_eq_true (by kernel_rfl)) k1 bel lt1) trodAll_mk0)), rfl, bel.frame _, fun h => by cases h⟩

theorem over : Rows.BoxMarkedSaid :=
  OpenClaim.holds_of_wide 4 Tryz.f4 rfl rfl rfl rfl rfl rfl rfl ⟨rfl, rfl, rfl, rfl, rfl⟩ rfl rfl rfl rfl rfl (by kernel_rfl) Tryz.func4 (by kernel_rfl)
    (of_decide_eq_true (by kernel_rfl)) (by unfold Func.isWrapper; first | (rw [if_pos (by decide +kernel)]; kernel_rfl) | (rw [if_neg (by decide +kernel)]; exact ⟨rfl, rfl⟩))
    (fun os started H enc _ => lifted os started H enc)

/-- The given statement. -/
theorem proved : Rows.BoxMarkedCardSaid :=
  Claim7.holds_tied_plain_at .later [] [.data] true (true, "a4e521d8f70eca98a07e36a6dd29b496ca03e3ca0ebfd55ad8c0a9911a3e1dd0") false
    over (fun _ h => by cases h) (by kernel_rfl) (fun _ h => by cases h) boxMarked_row_tie rfl ⟨rfl, rfl⟩ (by kernel_rfl) rfl
    (fun f fn hf hfn => by
      obtain rfl : f = 4 := Option.some.inj ((show Tryz.prog.funcNamed "intaglio/intagliolaw08.BoxMarked" = some 4 by kernel_rfl).symm.trans hf) |>.symm
      obtain rfl : fn = Tryz.f4 := (Option.some.inj (Tryz.func4.symm.trans hfn)).symm
      exact ⟨by kernel_rfl, fun j t ht => by
        rw [Tryz.params4] at ht
        have hm : t ∈ [22, 27] := by simpa using Array.mem_of_getElem? ht
        have hall : ([22, 27].all fun u => !Tryz.prog.wantsStandIn u) = true := by kernel_rfl
        exact (show Tryz.prog.wantsStandIn t = false by simpa using List.all_eq_true.1 hall t hm)⟩)
    (by kernel_rfl)
#print axioms proved
end Go.Proofs.YtooooncmjhcdbaaGreatDoor.boxMarked
