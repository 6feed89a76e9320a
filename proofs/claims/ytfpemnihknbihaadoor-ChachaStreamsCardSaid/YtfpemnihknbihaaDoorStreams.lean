/-
  ChachaStreams: the Go text of the law answers true for every input, and writes nothing that was there. Own work.
-/
import Derived.Test.YtfpemnihknbihaaDoorRefXor
namespace Go.Proofs.YtfpemnihknbihaaDoor
open Go.RowKit
set_option linter.unusedVariables false
set_option linter.unusedSimpArgs false
theorem st_run {P : Program} {o : Oper} {a : Act} {w : World} {v : Value} {K : Act → World → Prop} {Q : Exit → Act → World → Prop} (hr : (execOp a.eval o).run P w = .ok (.value v) w) (hk : K (a.put o.dst v) w) : o.wp P a w K Q := by
  unfold Oper.wp
  rw [hr]
  exact hk
theorem run_lenS {P : Program} {o : Oper} {a : Act} {w : World} (t : TypeId) (x : Operand) (e : TypeId) (A : Option Addr) (n c : Nat) (ho : o.op = .call { callee := .builtin .len, args := #[x], argTypes := #[t] }) (ht : P.underlying t = some (.slice e)) (hx : a.eval x = .slice A n c) :
    (execOp a.eval o).run P w = .ok (.value (.int .i64 (n : Int))) w := by
  unfold execOp
  simp only [ho, resolve, invoke, builtin, Sem.run_bind, Sem.run_pure, Result.andThen_ok, List.map_toArray, List.map_cons, List.map_nil, hx]
  simp [Builtin.len_, underlying, ht]
  rfl
theorem outL_get {ks ns xs : List Int} {p j : Nat} (hj : j < xs.length) : (outL ks ns p xs).getD j 0 = bits .xor .u8 (xs.getD j 0) (kbyte ks ns (p + j)) := by
  simp [outL, List.getD, hj]
def IsPr (m : Nat) (v : Value) : Prop := ∃ A c, v = .tuple #[.slice A m c, .bool true]
def Pks (m : Nat) (ys : List Int) (w : World) (v : Value) : Prop := ∃ A c, v = .tuple #[.slice A m c, .bool true] ∧ Bs w w.heap.size A m ys
def Qks (m : Nat) (ys : List Int) (w : World) (v : Value) : Prop := ∃ A c, v = .slice A m c ∧ Bs w w.heap.size A m ys
def JSt (w0 : World) (m : Nat) (ys : List Int) (bs : List Bool) (vs : List Value) (w : World) : Prop :=
  Below w0.heap.size w0 w ∧ (bs.getD 0 false = true → Pks m ys w (vs.getD 0 undef)) ∧ (bs.getD 1 false = true → Pks m ys w (vs.getD 1 undef)) ∧ (bs.getD 2 false = true → Qks m ys w (vs.getD 2 undef)) ∧ (bs.getD 3 false = true → Qks m ys w (vs.getD 3 undef))
theorem JSt.mk {w0 : World} {m : Nat} {ys : List Int} {bs : List Bool} {vs : List Value} {w : World} (h : Below w0.heap.size w0 w) (h0 : bs.getD 0 false = true → Pks m ys w (vs.getD 0 undef)) (h1 : bs.getD 1 false = true → Pks m ys w (vs.getD 1 undef)) (h2 : bs.getD 2 false = true → Qks m ys w (vs.getD 2 undef)) (h3 : bs.getD 3 false = true → Qks m ys w (vs.getD 3 undef)) : JSt w0 m ys bs vs w := ⟨h, h0, h1, h2, h3⟩
theorem JSt.b {w0 : World} {m : Nat} {ys : List Int} {bs : List Bool} {vs : List Value} {w : World} (h : JSt w0 m ys bs vs w) : Below w0.heap.size w0 w := h.1
def J0 (w0 : World) (bs : List Bool) (vs : List Value) (w : World) : Prop := Below w0.heap.size w0 w
theorem J0.b {w0 : World} {bs : List Bool} {vs : List Value} {w : World} (h : J0 w0 bs vs w) : Below w0.heap.size w0 w := h
def S11 (ks ns : List Int) (b o g2 q cp m c1 G i c : Nat) (A1 : Option Addr) (opn : Nat) (v : Value) : Prop :=
  match opn with
  | 0 => v = .agg (atL ks c ns).toArray
  | 1 => v = .int .i64 (G : Int)
  | 2 => v = .slice (some ⟨b, o, none⟩) q cp
  | 3 => v = .int .i64 (i : Int)
  | 4 => v = .pointer (some ⟨b, o + i, none⟩)
  | 5 => v = .slice A1 m c1
  | 6 => v = .int .i64 (m : Int)
  | 7 => v = .int .i64 ((G + m : Nat) : Int)
  | 8 | 9 => IsPr (G + m) v
  | 11 | 13 => v = .bool true
  | _ => True
def S11n (ks ns : List Int) (b o g2 q cp m c1 G i c : Nat) (A1 : Option Addr) (opn : Nat) (v : Value) : Prop :=
  match opn with
  | 0 => v = .agg (atL ks c ns).toArray
  | 1 => v = .int .i64 (G : Int)
  | 2 => v = .slice (some ⟨b, o, none⟩) q cp
  | 3 => v = .int .i64 (i : Int)
  | 4 => v = .pointer (some ⟨b, o + i, none⟩)
  | 5 => v = .slice A1 m c1
  | 6 => v = .int .i64 (m : Int)
  | 7 => v = .int .i64 ((G + m : Nat) : Int)
  | 8 | 9 => v = .tuple #[.slice none 0 0, .bool false]
  | 10 | 12 => v = .slice none 0 0
  | 11 | 13 => v = .bool false
  | _ => True
def S18 (b o q cp b1 o1 m c1 b4 c4 bk ok ck G i j : Nat) (X Y : Int) (opn : Nat) (v : Value) : Prop :=
  match opn with
  | 0 => v = .slice (some ⟨b4, 0, none⟩) m c4
  | 1 | 8 | 13 => v = .int .i64 (j : Int)
  | 2 => v = .pointer (some ⟨b4, 0 + j, none⟩)
  | 3 | 17 => v = .int .u8 (bits .xor .u8 X Y)
  | 4 => v = .slice (some ⟨b, o, none⟩) q cp
  | 5 => v = .int .i64 (i : Int)
  | 6 => v = .pointer (some ⟨b, o + i, none⟩)
  | 7 => v = .slice (some ⟨b1, o1, none⟩) m c1
  | 9 => v = .pointer (some ⟨b1, o1 + j, none⟩)
  | 10 => v = .int .u8 X
  | 11 => v = .slice (some ⟨bk, ok, none⟩) (G + m) ck
  | 12 => v = .int .i64 (G : Int)
  | 14 => v = .int .i64 ((G + j : Nat) : Int)
  | 15 => v = .pointer (some ⟨bk, ok + (G + j), none⟩)
  | 16 => v = .int .u8 Y
  | 18 => v = .bool false
  | _ => True
def S21 (g g2 G c L0 : Nat) (opn : Nat) (v : Value) : Prop :=
  match opn with
  | 0 => v = .pointer (some ⟨g, 0, none⟩)
  | 1 | 9 => v = .int .u64 ((L0 - G : Nat) : Int)
  | 2 => v = .pointer (some ⟨g2, 32, none⟩)
  | 3 => v = .int .u32 (c : Int)
  | 4 => v = .int .u64 (c : Int)
  | 5 => v = .int .u64 (4294967296 - (c : Int))
  | 6 => v = .int .u64 (L0 : Int)
  | 7 => v = .int .i64 (G : Int)
  | 8 => v = .int .u64 (G : Int)
  | 10 | 11 | 12 | 13 | 14 => v = .bool true
  | _ => True
set_option maxRecDepth 100000 in
set_option maxHeartbeats 6000000 in
theorem streams_any (ks ns : List Int) (xss : List (List Int)) (c q cp : Nat) (A : Option Addr) (w : World) (hT : Tabs w) (hk : ks.length = 32) (hn : ns.length = 12) (hk' : IsBy ks) (hn' : IsBy ns) (hc : c < 4294967296)
    (hx : Bss w w.heap.size A q xss) (hby : ∀ xs ∈ xss, IsBy xs) :
    Calls Tryd.prog 6 #[.agg (atL ks c ns).toArray, .slice A q cp] w fun e w' => e = .returned (.bool true) ∧ Below w.heap.size w w' := by
  have zk := hide (size_b (P := Tryd.prog) (T := 22) (by kernel_rfl) hk)
  have zn := hide (size_b (P := Tryd.prog) (T := 24) (by kernel_rfl) hn)
  have zA := hide (show (Tryd.prog.info? 26).map (·.size) = some (atL ks c ns).length by rw [at_len' hk hn]; kernel_rfl)
  have h32 := hide (show (bv ks).length = 32 by rw [bv_len, hk])
  have h33 := hide (show (bv ks ++ [Value.int .u32 c]).length = 33 by rw [List.length_append, bv_len, hk]; rfl)
  have Hk := hide hk
  have Hn := hide hn
  have Hx := hide hx.1
  clear hk hn
  by_cases hlen : 12 < q
  · have hd : decide ((12 : Int) < (q : Int)) = true := by simp; omega
    go_enter Tryd.func6, Tryd.ntmps6
    go_wp2_with (first
      | (with_reducible refine wl_box rfl 26 (.tmp 0) _ (atL ks c ns) rfl rfl rfl ?_; intro g2 w2 r2 a2 l2 b2)
      | (go_at_call 18; refine (awake_any _).mono ?_; rintro e w' ⟨rfl, rfl⟩))
    go_ret
    exact ⟨rfl, b2⟩
  · have hd : decide ((12 : Int) < (q : Int)) = false := by simp; omega
    go_enter Tryd.func6, Tryd.ntmps6
    go_wp2_with (first
      | (with_reducible refine wl_box rfl 26 (.tmp 0) _ (atL ks c ns) rfl rfl rfl ?_; intro g2 w2 r2 a2 l2 b2)
      | (with_reducible refine wl_load_part rfl 22 (.tmp 17) g2 0 26 _ (bv ks) _ _ rfl rfl (atRowA r2) rfl Tryd.underlying22 rfl zk.out ?_)
      | (with_reducible refine wl_load rfl 23 (.tmp 19) g2 32 26 _ (.int .u32 (c : Int)) rfl Tryd.isAgg23 rfl r2 (atCtr h32.out) ?_)
      | (with_reducible refine wl_load_part rfl 24 (.tmp 21) g2 33 26 _ (bv ns) _ _ rfl rfl (atRowC r2) h33.out Tryd.underlying24 rfl zn.out ?_))
    refine (new_any ks ns c w2 Hk.out Hn.out ⟨by omega, by omega⟩).mono ?_
    rintro e w3 ⟨g, rfl, hg, hr, b3⟩
    rw [left_cast c hc] at hr
    obtain ⟨L0, hL0d⟩ : ∃ L0 : Nat, Hid (L0 = (4294967296 - c) * 64) := ⟨_, rfl⟩
    rw [← hL0d.out] at hr
    have hL1 : L0 ≤ 274877906944 := by have := hL0d.out; omega
    have B3 := b2.trans (b3.mono b2.size)
    have R3 := r2.later b3
    have hne : g2 ≠ g := by omega
    have hgw : w.heap.size ≤ g := by omega
    have h2g : 2 ≤ g := by have := hT.1; omega
    clear r2 b2 b3
    go_wp2_with fail
    go_loopw [6, 7] (fun gv iv wr => ∃ i G : Nat, i ≤ q ∧ G ≤ 300 * i ∧ G ≤ L0 ∧ gv = .int .i64 G ∧ iv = .int .i64 i ∧ Row wr 73 g (strm ks ns ((L0 - G : Nat) : Int)) ∧ But g w3 wr) (fun _ iv _ => q - (intOf iv).toNat)
    case atStart => exact ⟨0, 0, by omega, by omega, by omega, rfl, rfl, hr, But.refl _ _⟩
    case round =>
      clear hr
      obtain ⟨i, G, hi', hG, hGL, rfl, rfl, rr, bx⟩ := hrel
      have Bw : Below w.heap.size w wr := B3.trans (bx.below hgw B3.size)
      have R4 := R3.but bx hne
      have Tr := hT.later Bw
      by_cases hi : i < q
      · have hdi : decide ((i : Int) < (q : Int)) = true := by simp; omega
        obtain ⟨b, o, rfl, lb0, hcs⟩ := (hx.below Bw).2 (by omega)
        obtain ⟨A1, m, c1, hcell, hbs⟩ := hcs i hi
        have hby1 : IsBy (xss.getD i []) := by
          have hl := Hx.out
          have hil : i < xss.length := by omega
          rw [show xss.getD i [] = xss[i] by simp [List.getD, hil]]
          exact hby _ (List.getElem_mem _)
        generalize xss.getD i [] = xs at hbs hby1
        have hxl := hide hbs.1
        clear hcs hx
        by_cases h300 : 300 < m
        · have hd3 : decide ((300 : Int) < (m : Int)) = true := by simp; omega
          go_wp2_with (go_at_call 18; refine (awake_any _).mono ?_; rintro e w' ⟨rfl, rfl⟩)
          go_ret
          exact ⟨rfl, Bw⟩
        · have hd3 : decide ((300 : Int) < (m : Int)) = false := by simp; omega
          go_wp2_with fail
          by_cases hfit : m ≤ L0 - G
          · refine (sxor_all ks ns xs (L0 - G) g m c1 w.heap.size A1 wr Tr Hk.out Hn.out hk' hn' (by omega) rr h2g hbs hgw hby1 hfit).mono ?_
            rintro e w4 ⟨b4, c4, rfl, hb4, h4, r4, bu4, _, _⟩
            rw [hxl.out] at h4 r4
            rw [hxl.out]
            have hpos : pos (L0 - G) = 64 * c + G := by have := hL0d.out; unfold pos; omega
            rw [hpos] at h4
            replace R4 := R4.but bu4 hne
            have bw4 := bu4.below hgw Bw.size
            have lb : b < w4.heap.size := by have := bw4.size; have := Bw.size; omega
            replace hcell : w4.cell? ⟨b, o + i, none⟩ = some (.slice A1 m c1) := (bw4.cell lb0).trans hcell
            replace hbs := hbs.below bw4
            have hB4 : w.heap.size ≤ w4.heap.size := Nat.le_trans Bw.size bw4.size
            have bx4 := bx.trans bu4
            have Hy := hide (fun w => refBytes_any ks ns c (G + m) w Hk.out Hn.out hk' hn' hc (by omega) (by have := hL0d.out; omega))
            clear rr Tr bw4 bu4 bx hpos
            go_wp2_with fail
            rename_i K1 hK1
            refine wp_region_vals [8, 9, 10, 12] (S11 ks ns b o g2 q cp m c1 G i c A1) (JSt w4 (G + m) (ksl ks ns (64 * c) (G + m))) (by kernel_rfl) (by kernel_rfl) (by kernel_rfl) (by kernel_rfl) (by kernel_rfl) (JSt.mk (Below.refl _ _).drew (fun h => absurd h (by decide)) (fun h => absurd h (by decide)) (fun h => absurd h (by decide)) (fun h => absurd h (by decide))) ?obs ?he
            case obs =>
              refine ⟨?_, ?_, ?_, ?_, ?_, ?_, ?_, ?_, ?_, ?_, ?_, ?_, ?_, ?_, trivial⟩
              · exact .inl ⟨by kernel_rfl, fun L a1 w1 n h => ⟨_, rfl, run_loadP 26 (.tmp 2) g2 0 26 [] (atL ks c ns) [] _ rfl (h.var n 2 (by kernel_rfl)) (by simpa using R4.later (JSt.b h.inv)) rfl Tryd.underlying26 rfl zA.out⟩⟩
              · exact .inl ⟨by kernel_rfl, fun L a1 w1 n h => ⟨_, rfl, run_move (.tmp 6) rfl (h.var n 6 (by kernel_rfl))⟩⟩
              · exact .inl ⟨by kernel_rfl, fun L a1 w1 n h => ⟨_, rfl, run_move (.tmp 1) rfl (h.var n 1 (by kernel_rfl))⟩⟩
              · exact .inl ⟨by kernel_rfl, fun L a1 w1 n h => ⟨_, rfl, run_move (.tmp 7) rfl (h.var n 7 (by kernel_rfl))⟩⟩
              · exact .inl ⟨by kernel_rfl, fun L a1 w1 n h => ⟨_, rfl, run_indexS 39 (.tmp 49) (.tmp 50) 30 b o q cp i rfl Tryd.underlying39 Tryd.sizeOf30 (h.dep n 2 49 (by kernel_rfl) rfl) (h.dep n 3 50 (by kernel_rfl) rfl) hi⟩⟩
              · exact .inl ⟨by kernel_rfl, fun L a1 w1 n h => ⟨_, rfl, run_loadA 30 (.tmp 51) ⟨b, o + i, none⟩ rfl Tryd.isAgg30 (h.dep n 4 51 (by kernel_rfl) rfl) (((JSt.b h.inv).cell lb).trans hcell)⟩⟩
              · exact .inl ⟨by kernel_rfl, fun L a1 w1 n h => ⟨_, rfl, run_lenS 30 (.tmp 52) 5 _ _ _ rfl Tryd.underlying30 (h.dep n 5 52 (by kernel_rfl) rfl)⟩⟩
              · refine .inl ⟨by kernel_rfl, fun L a1 w1 n h => ⟨.int .i64 ((G + m : Nat) : Int), rfl, ?_⟩⟩
                have e0 : a1.eval (.tmp 48) = _ := h.dep n 1 48 (by kernel_rfl) rfl
                have e1 : a1.eval (.tmp 53) = _ := h.dep n 6 53 (by kernel_rfl) rfl
                unfold execOp
                simp only [e0, e1]
                go_simp
                rw [IntWalk.i64_in _ (by omega)]
              · refine .inr fun L a1 w1 n h K hK => ?_
                have no1 : L.getD 9 false = false := n.later (by kernel_rfl)
                have no2 : L.getD 10 false = false := n.later (by kernel_rfl)
                have no3 : L.getD 12 false = false := n.later (by kernel_rfl)
                have e0 : a1.eval (.tmp 47) = _ := h.dep n 0 47 (by kernel_rfl) rfl
                have e1 : a1.eval (.tmp 54) = _ := h.dep n 7 54 (by kernel_rfl) rfl
                refine st_call 24 _ _ #[.agg (atL ks c ns).toArray, .int .i64 ((G + m : Nat) : Int)] rfl Tryd.call24 ?_ (Hy.out w1) ?_
                · simp only [List.map_toArray, List.map_cons, List.map_nil, e0, e1]
                · rintro e2 w3 ⟨A, c2, rfl, hbs, hb2⟩
                  exact ⟨_, rfl, hK _ _ ⟨A, c2, rfl⟩ (JSt.mk (h.inv.1.trans (hb2.mono h.inv.1.size)) (fun _ => ⟨A, c2, rfl, hbs⟩) (fun h1 => absurd ((show L.getD 9 false = true from h1).symm.trans no1) (by decide)) (fun h1 => absurd ((show L.getD 10 false = true from h1).symm.trans no2) (by decide)) (fun h1 => absurd ((show L.getD 12 false = true from h1).symm.trans no3) (by decide)))⟩
              · refine .inr fun L a1 w1 n h K hK => ?_
                have yes : L.getD 8 false = true := n.dep (by kernel_rfl)
                obtain ⟨A, c2, hv, hbs⟩ := h.inv.2.1 yes
                have hv' : a1.eval (.tmp 55) = .tuple #[.slice A (G + m) c2, .bool true] := hv
                refine st_run (run_move (.tmp 55) rfl hv') ?_
                exact hK _ _ ⟨A, c2, rfl⟩ (JSt.mk h.inv.1 h.inv.2.1 (fun _ => ⟨A, c2, rfl, hbs⟩) h.inv.2.2.2.1 h.inv.2.2.2.2)
              · refine .inr fun L a1 w1 n h K hK => ?_
                have yes : L.getD 9 false = true := n.dep (by kernel_rfl)
                obtain ⟨A, c2, hv, hbs⟩ := h.inv.2.2.1 yes
                have hv' : a1.eval (.tmp 46) = .tuple #[.slice A (G + m) c2, .bool true] := hv
                refine st_run (run_extractA (v := .slice A (G + m) c2) (.tmp 46) 0 _ rfl hv' rfl) ?_
                exact hK _ _ trivial (JSt.mk h.inv.1 h.inv.2.1 h.inv.2.2.1 (fun _ => ⟨A, c2, rfl, hbs⟩) h.inv.2.2.2.2)
              · refine .inl ⟨by kernel_rfl, fun L a1 w1 n h => ?_⟩
                obtain ⟨A, c, hv⟩ := h.dep n 9 46 (by kernel_rfl) rfl
                exact ⟨_, rfl, run_extractA (.tmp 46) 1 _ rfl hv rfl⟩
              · refine .inr fun L a1 w1 n h K hK => ?_
                have yes : L.getD 10 false = true := n.dep (by kernel_rfl)
                obtain ⟨A, c2, hv, hbs⟩ := h.inv.2.2.2.1 yes
                have hv' : a1.eval (.tmp 56) = .slice A (G + m) c2 := hv
                refine st_run (run_assign (.tmp 56) rfl hv') ?_
                exact hK _ _ trivial (JSt.mk h.inv.1 h.inv.2.1 h.inv.2.2.1 h.inv.2.2.2.1 (fun _ => ⟨A, c2, rfl, hbs⟩))
              · exact .inl ⟨by kernel_rfl, fun L a1 w1 n h => ⟨_, rfl, run_assign (.tmp 57) rfl (h.dep n 11 57 (by kernel_rfl) rfl)⟩⟩
            case he =>
              intro V w5 hV hJ
              obtain ⟨Ak, ck, hVk0, hks⟩ := hJ.2.2.2.2 rfl
              have hVk : V 12 = .slice Ak (G + m) ck := hVk0
              have h13 : V 13 = .bool true := hV 13 11 rfl
              have b5 := hJ.b
              clear hV hJ hVk0
              simp only [putOps, List.setIfInBounds_toArray, List.set_cons_succ, List.set_cons_zero]
              rw [hVk, h13]
              refine hK1 _ _ ?_
              replace hcell : w5.cell? ⟨b, o + i, none⟩ = some (.slice A1 m c1) := (b5.cell lb).trans hcell
              clear hK1 hVk h13
              go_wp2_with fail
              have h45 := h4.below b5
              have hbs5 := hbs.below (b5.mono hB4)
              have hB5 : w.heap.size ≤ w5.heap.size := Nat.le_trans hB4 b5.size
              have R5 := R4.later b5
              have r5 := r4.later b5
              have bx5 := bx4.trans (But.of b5 g)
              clear h4 hbs R4 r4
              go_loopw [12] (fun jv wr' => ∃ j : Nat, j ≤ m ∧ jv = .int .i64 j ∧ Below w5.heap.size w5 wr') (fun jv _ => m - (intOf jv).toNat)
              case atStart => exact ⟨0, by omega, rfl, Below.refl _ _⟩
              case round =>
                obtain ⟨j, hj', rfl, bj⟩ := hrel
                have s5 := b5.size
                have sj := bj.size
                by_cases hj : j < m
                · go_wp2_with fail
                  obtain ⟨_, _, e4, l4, c4s⟩ := (h45.below (bj.mono b5.size)).2 (by omega)
                  cases e4
                  obtain ⟨b1, o1, rfl, l1, c1s⟩ := (hbs5.below (bj.mono hB5)).2 (by omega)
                  obtain ⟨bk, ok, rfl, lk, cks⟩ := (hks.below bj).2 (by omega)
                  have c4j := c4s j hj
                  have c1j := c1s j hj
                  have ckj := cks (G + j) (by omega)
                  rw [ksl_get (by omega), show 64 * c + (G + j) = 64 * c + G + j from by omega] at ckj
                  rw [outL_get (by rw [hxl.out]; exact hj)] at c4j
                  generalize xs.getD j 0 = X at c4j c1j
                  generalize kbyte ks ns (64 * c + G + j) = Y at c4j ckj
                  replace hcell : wr.cell? ⟨b, o + i, none⟩ = _ := (bj.cell (by show b < _; omega)).trans hcell
                  replace lb : b < wr.heap.size := by omega
                  replace l4 : b4 < wr.heap.size := by omega
                  replace l1 : b1 < wr.heap.size := by omega
                  replace lk : bk < wr.heap.size := by omega
                  have hGj : G + j < G + m := by omega
                  clear c4s c1s cks h45 hbs5 hks
                  rename_i K1 hK1
                  refine wp_region_vals [] (S18 b o q cp b1 o1 m c1 b4 c4 bk ok ck G i j X Y) (J0 wr) (by kernel_rfl) (by kernel_rfl) (by kernel_rfl) (by kernel_rfl) (by kernel_rfl) (Below.refl _ _).drew ?obs18 ?he18
                  case obs18 =>
                    refine ⟨?_, ?_, ?_, ?_, ?_, ?_, ?_, ?_, ?_, ?_, ?_, ?_, ?_, ?_, ?_, ?_, ?_, ?_, ?_, trivial⟩
                    · exact .inl ⟨by kernel_rfl, fun L a1 w1 n h => ⟨_, rfl, run_move (.tmp 8) rfl (h.var n 8 (by kernel_rfl))⟩⟩
                    · exact .inl ⟨by kernel_rfl, fun L a1 w1 n h => ⟨_, rfl, run_move (.tmp 12) rfl (h.var n 12 (by kernel_rfl))⟩⟩
                    · exact .inl ⟨by kernel_rfl, fun L a1 w1 n h => ⟨_, rfl, run_indexS 30 (.tmp 91) (.tmp 92) 5 b4 0 m c4 j rfl Tryd.underlying30 Tryd.sizeOf5 (h.dep n 0 91 (by kernel_rfl) rfl) (h.dep n 1 92 (by kernel_rfl) rfl) hj⟩⟩
                    · exact .inl ⟨by kernel_rfl, fun L a1 w1 n h => ⟨_, rfl, run_loadA 5 (.tmp 93) ⟨b4, 0 + j, none⟩ rfl Tryd.isAgg5 (h.dep n 2 93 (by kernel_rfl) rfl) (((J0.b h.inv).cell l4).trans c4j)⟩⟩
                    · exact .inl ⟨by kernel_rfl, fun L a1 w1 n h => ⟨_, rfl, run_move (.tmp 1) rfl (h.var n 1 (by kernel_rfl))⟩⟩
                    · exact .inl ⟨by kernel_rfl, fun L a1 w1 n h => ⟨_, rfl, run_move (.tmp 7) rfl (h.var n 7 (by kernel_rfl))⟩⟩
                    · exact .inl ⟨by kernel_rfl, fun L a1 w1 n h => ⟨_, rfl, run_indexS 39 (.tmp 95) (.tmp 96) 30 b o q cp i rfl Tryd.underlying39 Tryd.sizeOf30 (h.dep n 4 95 (by kernel_rfl) rfl) (h.dep n 5 96 (by kernel_rfl) rfl) hi⟩⟩
                    · exact .inl ⟨by kernel_rfl, fun L a1 w1 n h => ⟨_, rfl, run_loadA 30 (.tmp 97) ⟨b, o + i, none⟩ rfl Tryd.isAgg30 (h.dep n 6 97 (by kernel_rfl) rfl) (((J0.b h.inv).cell lb).trans hcell)⟩⟩
                    · exact .inl ⟨by kernel_rfl, fun L a1 w1 n h => ⟨_, rfl, run_move (.tmp 12) rfl (h.var n 12 (by kernel_rfl))⟩⟩
                    · exact .inl ⟨by kernel_rfl, fun L a1 w1 n h => ⟨_, rfl, run_indexS 30 (.tmp 98) (.tmp 99) 5 b1 o1 m c1 j rfl Tryd.underlying30 Tryd.sizeOf5 (h.dep n 7 98 (by kernel_rfl) rfl) (h.dep n 8 99 (by kernel_rfl) rfl) hj⟩⟩
                    · exact .inl ⟨by kernel_rfl, fun L a1 w1 n h => ⟨_, rfl, run_loadA 5 (.tmp 100) ⟨b1, o1 + j, none⟩ rfl Tryd.isAgg5 (h.dep n 9 100 (by kernel_rfl) rfl) (((J0.b h.inv).cell l1).trans c1j)⟩⟩
                    · exact .inl ⟨by kernel_rfl, fun L a1 w1 n h => ⟨_, rfl, run_move (.tmp 10) rfl (h.var n 10 (by kernel_rfl))⟩⟩
                    · exact .inl ⟨by kernel_rfl, fun L a1 w1 n h => ⟨_, rfl, run_move (.tmp 6) rfl (h.var n 6 (by kernel_rfl))⟩⟩
                    · exact .inl ⟨by kernel_rfl, fun L a1 w1 n h => ⟨_, rfl, run_move (.tmp 12) rfl (h.var n 12 (by kernel_rfl))⟩⟩
                    · refine .inl ⟨by kernel_rfl, fun L a1 w1 n h => ⟨.int .i64 ((G + j : Nat) : Int), rfl, ?_⟩⟩
                      have e0 : a1.eval (.tmp 103) = _ := h.dep n 12 103 (by kernel_rfl) rfl
                      have e1 : a1.eval (.tmp 104) = _ := h.dep n 13 104 (by kernel_rfl) rfl
                      unfold execOp
                      simp only [e0, e1]
                      go_simp
                      rw [IntWalk.i64_in _ (by omega)]
                    · exact .inl ⟨by kernel_rfl, fun L a1 w1 n h => ⟨_, rfl, run_indexS 30 (.tmp 102) (.tmp 105) 5 bk ok (G + m) ck (G + j) rfl Tryd.underlying30 Tryd.sizeOf5 (h.dep n 11 102 (by kernel_rfl) rfl) (h.dep n 14 105 (by kernel_rfl) rfl) hGj⟩⟩
                    · exact .inl ⟨by kernel_rfl, fun L a1 w1 n h => ⟨_, rfl, run_loadA 5 (.tmp 106) ⟨bk, ok + (G + j), none⟩ rfl Tryd.isAgg5 (h.dep n 15 106 (by kernel_rfl) rfl) (((J0.b h.inv).cell lk).trans ckj)⟩⟩
                    · refine .inl ⟨by kernel_rfl, fun L a1 w1 n h => ⟨.int .u8 (bits .xor .u8 X Y), rfl, ?_⟩⟩
                      have e0 : a1.eval (.tmp 101) = _ := h.dep n 10 101 (by kernel_rfl) rfl
                      have e1 : a1.eval (.tmp 107) = _ := h.dep n 16 107 (by kernel_rfl) rfl
                      unfold execOp
                      simp only [e0, e1]
                      go_simp
                    · refine .inl ⟨by kernel_rfl, fun L a1 w1 n h => ⟨.bool false, rfl, ?_⟩⟩
                      have e0 : a1.eval (.tmp 94) = _ := h.dep n 3 94 (by kernel_rfl) rfl
                      have e1 : a1.eval (.tmp 108) = _ := h.dep n 17 108 (by kernel_rfl) rfl
                      unfold execOp
                      simp only [e0, e1]
                      go_simp
                  case he18 =>
                    intro V' w7 hV hJ
                    have h18 : V' 18 = .bool false := hV 18 109 rfl
                    have b7 := J0.b hJ
                    clear hV hJ
                    simp only [putOps, List.setIfInBounds_toArray, List.set_cons_succ, List.set_cons_zero]
                    rw [h18]
                    refine hK1 _ _ ?_
                    go_wp2
                    go_roundw
                    case rel => exact ⟨j + 1, by omega, by go_num, bj.trans (b7.mono bj.size)⟩
                    case measure => simp [intOf]; omega
                · have hjm : j = m := by omega
                  have rE : Row wr 73 g (strm ks ns ((L0 - (G + m) : Nat) : Int)) := by
                    rw [← Nat.sub_sub]
                    exact r5.later bj
                  have bE := bx5.trans (But.of bj g)
                  go_wp2_with fail
                  go_roundw
                  case rel => exact ⟨i + 1, G + m, by omega, by omega, by omega, by go_num, by go_num, rE, bE⟩
                  case measure => simp [intOf]; omega
          · have hm300 : m ≤ maxLen := by unfold maxLen; omega
            refine (sxor_long ks ns (L0 - G) g m c1 A1 wr Hk.out Hn.out (by omega) rr (by omega) hm300).mono ?_
            rintro e w4 ⟨rfl, rfl⟩
            have Hy := hide (fun w => refBytes_no ks ns c (G + m) w Hk.out Hn.out hc (by omega) (by have := hL0d.out; omega))
            have lb : b < wr.heap.size := by have := Bw.size; omega
            go_wp2_with fail
            rename_i K1 hK1
            refine wp_region_vals [8] (S11n ks ns b o g2 q cp m c1 G i c A1) (J0 wr) (by kernel_rfl) (by kernel_rfl) (by kernel_rfl) (by kernel_rfl) (by kernel_rfl) (Below.refl _ _).drew ?obs ?he
            case obs =>
              refine ⟨?_, ?_, ?_, ?_, ?_, ?_, ?_, ?_, ?_, ?_, ?_, ?_, ?_, ?_, trivial⟩
              · exact .inl ⟨by kernel_rfl, fun L a1 w1 n h => ⟨_, rfl, run_loadP 26 (.tmp 2) g2 0 26 [] (atL ks c ns) [] _ rfl (h.var n 2 (by kernel_rfl)) (by simpa using R4.later (J0.b h.inv)) rfl Tryd.underlying26 rfl zA.out⟩⟩
              · exact .inl ⟨by kernel_rfl, fun L a1 w1 n h => ⟨_, rfl, run_move (.tmp 6) rfl (h.var n 6 (by kernel_rfl))⟩⟩
              · exact .inl ⟨by kernel_rfl, fun L a1 w1 n h => ⟨_, rfl, run_move (.tmp 1) rfl (h.var n 1 (by kernel_rfl))⟩⟩
              · exact .inl ⟨by kernel_rfl, fun L a1 w1 n h => ⟨_, rfl, run_move (.tmp 7) rfl (h.var n 7 (by kernel_rfl))⟩⟩
              · exact .inl ⟨by kernel_rfl, fun L a1 w1 n h => ⟨_, rfl, run_indexS 39 (.tmp 49) (.tmp 50) 30 b o q cp i rfl Tryd.underlying39 Tryd.sizeOf30 (h.dep n 2 49 (by kernel_rfl) rfl) (h.dep n 3 50 (by kernel_rfl) rfl) hi⟩⟩
              · exact .inl ⟨by kernel_rfl, fun L a1 w1 n h => ⟨_, rfl, run_loadA 30 (.tmp 51) ⟨b, o + i, none⟩ rfl Tryd.isAgg30 (h.dep n 4 51 (by kernel_rfl) rfl) (((J0.b h.inv).cell lb).trans hcell)⟩⟩
              · exact .inl ⟨by kernel_rfl, fun L a1 w1 n h => ⟨_, rfl, run_lenS 30 (.tmp 52) 5 _ _ _ rfl Tryd.underlying30 (h.dep n 5 52 (by kernel_rfl) rfl)⟩⟩
              · refine .inl ⟨by kernel_rfl, fun L a1 w1 n h => ⟨.int .i64 ((G + m : Nat) : Int), rfl, ?_⟩⟩
                have e0 : a1.eval (.tmp 48) = _ := h.dep n 1 48 (by kernel_rfl) rfl
                have e1 : a1.eval (.tmp 53) = _ := h.dep n 6 53 (by kernel_rfl) rfl
                unfold execOp
                simp only [e0, e1]
                go_simp
                rw [IntWalk.i64_in _ (by omega)]
              · refine .inr fun L a1 w1 n h K hK => ?_
                have e0 : a1.eval (.tmp 47) = _ := h.dep n 0 47 (by kernel_rfl) rfl
                have e1 : a1.eval (.tmp 54) = _ := h.dep n 7 54 (by kernel_rfl) rfl
                refine st_call 24 _ _ #[.agg (atL ks c ns).toArray, .int .i64 ((G + m : Nat) : Int)] rfl Tryd.call24 ?_ (Hy.out w1) ?_
                · simp only [List.map_toArray, List.map_cons, List.map_nil, e0, e1]
                · rintro e2 w3 ⟨rfl, hb2⟩
                  exact ⟨_, rfl, hK _ _ rfl ((J0.b h.inv).trans (hb2.mono (J0.b h.inv).size))⟩
              · exact .inl ⟨by kernel_rfl, fun L a1 w1 n h => ⟨_, rfl, run_move (.tmp 55) rfl (h.dep n 8 55 (by kernel_rfl) rfl)⟩⟩
              · exact .inl ⟨by kernel_rfl, fun L a1 w1 n h => ⟨_, rfl, run_extractA (.tmp 46) 0 _ rfl (h.dep n 9 46 (by kernel_rfl) rfl) rfl⟩⟩
              · exact .inl ⟨by kernel_rfl, fun L a1 w1 n h => ⟨_, rfl, run_extractA (.tmp 46) 1 _ rfl (h.dep n 9 46 (by kernel_rfl) rfl) rfl⟩⟩
              · exact .inl ⟨by kernel_rfl, fun L a1 w1 n h => ⟨_, rfl, run_assign (.tmp 56) rfl (h.dep n 10 56 (by kernel_rfl) rfl)⟩⟩
              · exact .inl ⟨by kernel_rfl, fun L a1 w1 n h => ⟨_, rfl, run_assign (.tmp 57) rfl (h.dep n 11 57 (by kernel_rfl) rfl)⟩⟩
            case he =>
              intro V w5 hV hJ
              have h12 : V 12 = .slice none 0 0 := hV 12 10 rfl
              have h13 : V 13 = .bool false := hV 13 11 rfl
              have b5 := J0.b hJ
              have rE := rr.later b5
              have bE := bx.trans (But.of b5 g)
              clear hV hJ
              simp only [putOps, List.setIfInBounds_toArray, List.set_cons_succ, List.set_cons_zero]
              rw [h12, h13]
              refine hK1 _ _ ?_
              go_wp2_with fail
              go_roundw
              case rel => exact ⟨i + 1, G, by omega, by omega, by omega, by go_num, by go_num, rE, bE⟩
              case measure => simp [intOf]; omega
      · go_wp2_with fail
        have hL0 : (4294967296 - (c : Int)) * 64 = (L0 : Int) := by have := hL0d.out; omega
        have hLG : (L0 : Int) - (G : Int) = ((L0 - G : Nat) : Int) := by omega
        rename_i K1 hK1
        refine wp_region_valsG [1, 12] (S21 g g2 G c L0) (J0 wr) (by kernel_rfl) (by kernel_rfl) (by kernel_rfl) (by kernel_rfl) (Below.refl _ _).drew ?obs ?he
        case obs =>
          refine ⟨?_, ?_, ?_, ?_, ?_, ?_, ?_, ?_, ?_, ?_, ?_, ?_, ?_, ?_, ?_, trivial⟩
          · refine ⟨.inl rfl, ?_⟩
            exact .inl ⟨by kernel_rfl, fun L a1 w1 n h => ⟨_, rfl, run_move (.tmp 5) rfl (h.var n 5 (by kernel_rfl))⟩⟩
          · refine ⟨.inl rfl, ?_⟩
            refine .inr fun L a1 w1 n h K hK => ?_
            have e : a1.eval (.tmp 114) = _ := h.dep n 0 114 (by kernel_rfl) rfl
            refine st_call 25 _ _ #[.pointer (some ⟨g, 0, none⟩)] rfl Tryd.call25 ?_ (left_any ks ns ((L0 - G : Nat) : Int) g w1 Hk.out Hn.out (rr.later (J0.b h.inv))) ?_
            · simp only [List.map_toArray, List.map_cons, List.map_nil, e]
            · rintro e2 w3 ⟨rfl, rfl⟩
              exact ⟨_, rfl, hK _ _ rfl h.inv⟩
          · refine ⟨.inl rfl, ?_⟩
            refine .inl ⟨by kernel_rfl, fun L a1 w1 n h => ⟨.pointer (some ⟨g2, 32, none⟩), rfl, ?_⟩⟩
            have e0 : a1.eval (.tmp 2) = _ := h.var n 2 (by kernel_rfl)
            unfold execOp
            simp only [e0]
            go_simp
          · refine ⟨.inl rfl, ?_⟩
            exact .inl ⟨by kernel_rfl, fun L a1 w1 n h => ⟨_, rfl, run_loadA 23 (.tmp 116) ⟨g2, 32, none⟩ rfl Tryd.isAgg23 (h.dep n 2 116 (by kernel_rfl) rfl) ((R4.later (J0.b h.inv)).cell (atCtr h32.out))⟩⟩
          · refine ⟨.inl rfl, ?_⟩
            refine .inl ⟨by kernel_rfl, fun L a1 w1 n h => ⟨.int .u64 (c : Int), rfl, ?_⟩⟩
            have e0 : a1.eval (.tmp 117) = _ := h.dep n 3 117 (by kernel_rfl) rfl
            unfold execOp
            simp only [e0]
            go_simp
            rw [IntWalk.u64_in _ (by omega)]
          · refine ⟨.inl rfl, ?_⟩
            refine .inl ⟨by kernel_rfl, fun L a1 w1 n h => ⟨.int .u64 (4294967296 - (c : Int)), rfl, ?_⟩⟩
            have e0 : a1.eval (.tmp 118) = _ := h.dep n 4 118 (by kernel_rfl) rfl
            unfold execOp
            simp only [e0]
            go_simp
            rw [IntWalk.u64_in _ (by omega)]
          · refine ⟨.inl rfl, ?_⟩
            refine .inl ⟨by kernel_rfl, fun L a1 w1 n h => ⟨.int .u64 (L0 : Int), rfl, ?_⟩⟩
            have e0 : a1.eval (.tmp 119) = _ := h.dep n 5 119 (by kernel_rfl) rfl
            unfold execOp
            simp only [e0]
            go_simp
            rw [IntWalk.u64_in _ (by omega)]
          · refine ⟨.inl rfl, ?_⟩
            exact .inl ⟨by kernel_rfl, fun L a1 w1 n h => ⟨_, rfl, run_move (.tmp 6) rfl (h.var n 6 (by kernel_rfl))⟩⟩
          · refine ⟨.inl rfl, ?_⟩
            refine .inl ⟨by kernel_rfl, fun L a1 w1 n h => ⟨.int .u64 (G : Int), rfl, ?_⟩⟩
            have e0 : a1.eval (.tmp 121) = _ := h.dep n 7 121 (by kernel_rfl) rfl
            unfold execOp
            simp only [e0]
            go_simp
            rw [IntWalk.u64_in _ (by omega)]
          · refine ⟨.inl rfl, ?_⟩
            refine .inl ⟨by kernel_rfl, fun L a1 w1 n h => ⟨.int .u64 ((L0 - G : Nat) : Int), rfl, ?_⟩⟩
            have e0 : a1.eval (.tmp 120) = _ := h.dep n 6 120 (by kernel_rfl) rfl
            have e1 : a1.eval (.tmp 122) = _ := h.dep n 8 122 (by kernel_rfl) rfl
            unfold execOp
            simp only [e0, e1]
            go_simp
            rw [IntWalk.u64_in _ (by omega)]
          · refine ⟨.inl rfl, ?_⟩
            refine .inl ⟨by kernel_rfl, fun L a1 w1 n h => ⟨.bool true, rfl, ?_⟩⟩
            have e0 : a1.eval (.tmp 115) = _ := h.dep n 1 115 (by kernel_rfl) rfl
            have e1 : a1.eval (.tmp 123) = _ := h.dep n 9 123 (by kernel_rfl) rfl
            unfold execOp
            simp only [e0, e1]
            go_simp
          · refine ⟨.inl rfl, ?_⟩
            exact .inl ⟨by kernel_rfl, fun L a1 w1 n h => ⟨_, rfl, run_move (.tmp 124) rfl (h.dep n 10 124 (by kernel_rfl) rfl)⟩⟩
          · refine ⟨.inr ⟨11, true, 125, rfl, by kernel_rfl, rfl, by simp, fun v h => h⟩, ?_⟩
            refine .inr fun L a1 w1 n h K hK => ?_
            refine st_call 18 _ _ #[] rfl Tryd.call18 (by simp) (awake_any w1) ?_
            rintro e2 w3 ⟨rfl, rfl⟩
            exact ⟨_, rfl, hK _ _ rfl h.inv⟩
          · refine ⟨.inl rfl, ?_⟩
            exact .inl ⟨by kernel_rfl, fun L a1 w1 n h => ⟨_, rfl, run_pickT (.tmp 125) _ _ rfl (h.dep n 11 125 (by kernel_rfl) rfl) (h.dep n 12 126 (by kernel_rfl) rfl)⟩⟩
          · refine ⟨.inl rfl, ?_⟩
            exact .inl ⟨by kernel_rfl, fun L a1 w1 n h => ⟨_, rfl, run_assign (.tmp 127) rfl (h.dep n 13 127 (by kernel_rfl) rfl)⟩⟩
        case he =>
          intro V w5 hV hJ
          have h14 : V 14 = .bool true := hV 14 4 rfl
          have b5 := J0.b hJ
          clear hV hJ
          simp only [putOps, List.setIfInBounds_toArray, List.set_cons_succ, List.set_cons_zero]
          rw [h14]
          refine hK1 _ _ ?_
          go_wp2
          go_ret
          exact ⟨rfl, Bw.trans (b5.mono Bw.size)⟩
end Go.Proofs.YtfpemnihknbihaaDoor
