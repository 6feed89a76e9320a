/-
  The disk: Crash, the walk. Own work.
-/
import Derived.Test.YtaflmiopaiigbaaDiskO
namespace Go.Proofs.Ytaflmiopaiigbaa
open Go.RowKit Go.Maps Go.ChangeMaps
set_option linter.unusedVariables false
set_option linter.unusedSimpArgs false
def crashF (fs : Fs) (cs : List Int) : Fs := crashTo fs cs fs.length
set_option maxRecDepth 100000 in
theorem crash_no (w : World) (v cv : Value) (h : Unmade w v) : Calls Try.prog 30 #[v, cv] w fun e w' => e = .returned (.tuple #[]) ∧ w = w' := by
  go_enter Try.func30, Try.ntmps30
  go_wp2_with fail
  refine (made_no w v h).mono ?_
  rintro e w1 ⟨rfl, rfl⟩
  go_wp2_with fail
  first | go_end0 | refine bodyPost_ret (results_none rfl _ _ _) rfl ?_
  exact ⟨rfl, rfl⟩
theorem names_cell {w : World} {T m i : Nat} {v : Value} {ns : List Nm} (h : w.ownsRow T 9 1 v m (ns.map encStr)) (hi : i < m) {n : Nm} (hn : ns[i]? = some n) : ∃ g cap, v = .slice (some ⟨g, 0, none⟩) m cap ∧ w.cell? ⟨g, i, none⟩ = some (encStr n) := by
  obtain ⟨hl, ho⟩ := h
  rcases ho with ⟨rfl, h0⟩ | ⟨g, cap, cur, rfl, _, hg, h1, h2, h3, h4⟩
  · omega
  · refine ⟨g, cap, rfl, ?_⟩
    have e : (cur.toList.take (m * 1))[i]? = (ns.map encStr)[i]? := by rw [h4]
    rw [Nat.mul_one, List.getElem?_take, if_pos hi, List.getElem?_map, hn, Option.map_some] at e
    rw [cell_of_row w g i cur _ (0, 0) hg, ← Array.getElem?_toList]
    exact e
theorem own_sl {w : World} {T e m : Nat} {v : Value} {xs : List Value} (h : w.ownsRow T e 1 v m xs) : ∃ A c, v = .slice A m c := by
  rcases h.2 with ⟨rfl, rfl⟩ | ⟨g, cap, cur, rfl, _⟩
  · exact ⟨none, 0, rfl⟩
  · exact ⟨_, cap, rfl⟩
theorem ownr_buts {w w' : World} {T e m : Nat} {v : Value} {xs : List Value} {S : List Nat} (h : w.ownsRow T e 1 v m xs) (hb : Buts S w w') (hS : ∀ k ∈ S, k < T) : w'.ownsRow T e 1 v m xs := by
  have hlt := h.lt
  refine ⟨h.1, h.2.imp id fun ⟨g, cap, cur, e1, h1, hg, h2⟩ => ⟨g, cap, cur, e1, h1, (hb.block g (Array.getElem?_eq_some_iff.1 hg).1 (fun hk => by have := hS g hk; omega)).trans hg, h2⟩⟩
def SCx (gd gp mb : Nat) (nm : Nm) (f : FV) (cut : Int) (opn : Nat) (v : Value) : Prop :=
  match opn with
  | 0 | 1 | 5 | 6 => v = ptr gd
  | 2 | 7 => v = .pointer (some ⟨gd, 1, none⟩)
  | 3 | 8 => v = .map (some mb)
  | 4 | 9 => v = encStr nm
  | 10 => v = f.val
  | 11 => v = .int .i64 cut
  | 12 => v = (tornV f cut).val
  | _ => True

set_option maxRecDepth 100000 in
set_option maxHeartbeats 2000000 in
theorem crash_any2 (w : World) (B gd mb gp : Nat) (on : Bool) (fuse : Int) (fs : Fs) (A : Option Addr) (m c : Nat) (cs : List Int) (hc : IsAt w w.heap.size A m cs) (hnd : 0 < m → ∀ b o, A = some ⟨b, o, none⟩ → b ∉ dblocks gd mb fs) (h : DiskAt w B gd (ptr gp) mb fs) (hp : Plg w gp on fuse) :
    Calls Try.prog 30 #[ptr gd, .slice A m c] w fun e w' => e = .returned (.tuple #[]) ∧ DiskAt w' B gd (ptr gp) mb (crashF fs cs) ∧ Plg w' gp true (-1) ∧ Buts (gp :: dblocks gd mb fs) w w' := by
  have HNm := names_ent w gd mb (ptr gp) (ents fs) h.row h.map (by rw [ents_len]; exact h.few)
  rw [ents_len, show (ents fs).map (·.1) = fs.map (·.1) by simp [ents]] at HNm
  have hmb := h.map.lt
  have hris : riseF fs := FMap.rise h.map
  have hcl := hc.1
  have HNm := hide HNm
  have HC := hide hc
  have HH := hide h
  clear hc
  go_enter Try.func30, Try.ntmps30
  go_wp2_with fail
  refine (made_yes w gd mb _ h.row).mono ?_
  rintro e w1 ⟨rfl, rfl⟩
  clear h
  go_wp2_with fail
  refine HNm.out.mono ?_
  rintro e w1 ⟨nv, rfl, hN, b1⟩
  obtain ⟨NA, nc, rfl⟩ := own_sl hN
  have hD1 := HH.out.later b1
  have hP1 : PlAt w1 (ptr gp) on fuse := .inl ⟨gp, rfl, Row.later hp b1⟩
  rw [← crashTo_zero fs cs] at hD1
  clear HNm hp
  go_wp2_with fail
  go_loopw [13] (fun iv wr => ∃ i : Nat, i ≤ fs.length ∧ iv = .int .i64 i ∧ DiskAt wr B gd (ptr gp) mb (crashTo fs cs i) ∧ PlAt wr (ptr gp) on fuse ∧ wr.ownsRow w.heap.size 9 1 (.slice NA fs.length nc) fs.length ((fs.map (·.1)).map encStr) ∧ Buts (dblocks gd mb fs) w wr) (fun iv _ => fs.length - (intOf iv).toNat)
  case atStart => exact ⟨0, by omega, rfl, hD1, hP1, hN, Buts.of b1 _⟩
  case round =>
    clear hD1 hP1 hN b1
    obtain ⟨i, hi, rfl, hD, hP, hN, hU⟩ := hrel
    by_cases hlt : i < fs.length
    · obtain ⟨⟨nm, f⟩, hf⟩ : ∃ p, fs[i]? = some p := ⟨_, List.getElem?_eq_getElem hlt⟩
      have hfi : (crashTo fs cs i)[i]? = some (nm, f) := (crashTo_at fs cs i).trans hf
      have hmem := List.mem_of_getElem? hfi
      have hri : riseF (crashTo fs cs i) := FMap.rise hD.map
      have hat0 := at_nth hri hfi
      have hn : nm.length ≤ maxLen := strKeys_le HH.out.map Try.underlying9 nm (by rw [entD_keys, ents, List.map_map]; exact List.mem_map.2 ⟨_, List.mem_of_getElem? hf, rfl⟩)
      have hok := hD.files.bd _ hmem
      have hof := hD.files.own _ hmem
      have hcap := owf_cap hof
      obtain ⟨g7, cap7, e7, c7⟩ := names_cell hN hlt (n := nm) (by rw [List.getElem?_map, hf]; rfl)
      injection e7 with e71 e72 e73
      subst e71
      subst e73
      have hU0 := hU
      obtain ⟨cut, hcut⟩ : ∃ cut, cs.getD i 0 = cut := ⟨_, rfl⟩
      have hset := crashTo_set fs cs i hf
      rw [hcut] at hset
      have HFin : ∀ w9, MapAt w9 mb (putE (ents (crashTo fs cs i)) nm (tornV f cut).val) → Buts [mb] wr w9 → DiskAt w9 B gd (ptr gp) mb (crashTo fs cs (i + 1)) := fun w9 m9 b9 => by
        have := hD.stored m9 b9 (tornV_own hof hok cut) (tornV_ok hok cut) (fun p hp hne k hk => by rw [tornV_bk]; exact hD.files.two hp hmem hne k hk) (.inl (by rw [hat0]; rfl))
        rw [put_set _ i nm f _ hri hfi, hset] at this
        exact this
      have hat : (atF (crashTo fs cs i) nm).getD zV = f := by rw [hat0]; rfl
      have HFin := hide HFin
      have cd1 := hD.row.cell (j := 1) rfl
      clear hfi hmem hri hat0 hof hset hf hU0
      by_cases him : i < m
      · obtain ⟨cb, co, rfl, hcb, hcc⟩ := HC.out.2 (by omega)
        have cc := hcc i him
        rw [hcut] at cc
        have cc : wr.cell? ⟨cb, co + i, none⟩ = some (.int .i64 cut) := by
          rw [← cc]
          unfold World.cell?
          have hb : wr.heap[cb]? = w.heap[cb]? := hU.block cb hcb (hnd (by omega) cb co rfl)
          rw [hb]
        clear hcc hcut
        go_wp2_with fail
        rename_i K0 hK0
        refine wp_region_vals [12, 13] (SCx gd gp mb nm f cut) (JM wr (fun w' => MapAt w' mb (putE (ents (crashTo fs cs i)) nm (tornV f cut).val) ∧ Buts [mb] wr w') 1) (by kernel_rfl) (by kernel_rfl) (by kernel_rfl) (by kernel_rfl) (by kernel_rfl) (JM.start _ _ _ _ _ rfl) ?obsE ?heE
        case obsE =>
          refine ⟨?_, ?_, ?_, ?_, ?_, ?_, ?_, ?_, ?_, ?_, ?_, ?_, ?_, ?_, trivial⟩
          · exact .inl ⟨by kernel_rfl, fun L a1 w1 n' h => ⟨_, rfl, run_move (.tmp 0) rfl (h.var n' 0 (by kernel_rfl))⟩⟩
          · refine .inl ⟨by kernel_rfl, fun L a1 w1 n' h => ⟨ptr gd, rfl, ?_⟩⟩
            have e0 : a1.eval (.tmp 26) = _ := h.dep n' 0 26 (by kernel_rfl) rfl
            unfold execOp
            simp only [e0]
            go_simp
          · refine .inl ⟨by kernel_rfl, fun L a1 w1 n' h => ⟨.pointer (some ⟨gd, 1, none⟩), rfl, ?_⟩⟩
            have e0 : a1.eval (.tmp 27) = _ := h.dep n' 1 27 (by kernel_rfl) rfl
            unfold execOp
            simp only [e0]
            go_simp
          · exact .inl ⟨by kernel_rfl, fun L a1 w1 n' h => ⟨_, rfl, run_loadA 70 (.tmp 28) ⟨gd, 1, none⟩ rfl Try.isAgg70 (h.dep n' 2 28 (by kernel_rfl) rfl) ((Row.later hD.row (h.inv.1 ((bits_at rfl).trans (n'.later (by kernel_rfl))))).cell (j := 1) (v := .map (some mb)) rfl)⟩⟩
          · exact .inl ⟨by kernel_rfl, fun L a1 w1 n' h => ⟨_, rfl, run_move (.tmp 5) rfl (h.var n' 5 (by kernel_rfl))⟩⟩
          · exact .inl ⟨by kernel_rfl, fun L a1 w1 n' h => ⟨_, rfl, run_move (.tmp 0) rfl (h.var n' 0 (by kernel_rfl))⟩⟩
          · refine .inl ⟨by kernel_rfl, fun L a1 w1 n' h => ⟨ptr gd, rfl, ?_⟩⟩
            have e0 : a1.eval (.tmp 31) = _ := h.dep n' 5 31 (by kernel_rfl) rfl
            unfold execOp
            simp only [e0]
            go_simp
          · refine .inl ⟨by kernel_rfl, fun L a1 w1 n' h => ⟨.pointer (some ⟨gd, 1, none⟩), rfl, ?_⟩⟩
            have e0 : a1.eval (.tmp 32) = _ := h.dep n' 6 32 (by kernel_rfl) rfl
            unfold execOp
            simp only [e0]
            go_simp
          · exact .inl ⟨by kernel_rfl, fun L a1 w1 n' h => ⟨_, rfl, run_loadA 70 (.tmp 33) ⟨gd, 1, none⟩ rfl Try.isAgg70 (h.dep n' 7 33 (by kernel_rfl) rfl) ((Row.later hD.row (h.inv.1 ((bits_at rfl).trans (n'.later (by kernel_rfl))))).cell (j := 1) (v := .map (some mb)) rfl)⟩⟩
          · exact .inl ⟨by kernel_rfl, fun L a1 w1 n' h => ⟨_, rfl, run_move (.tmp 5) rfl (h.var n' 5 (by kernel_rfl))⟩⟩
          · exact .inl ⟨by kernel_rfl, fun L a1 w1 n' h => ⟨_, rfl, run_lookG (.tmp 34) (.tmp 35) rfl (h.dep n' 8 34 (by kernel_rfl) rfl) (h.dep n' 9 35 (by kernel_rfl) rfl) (hD.map.later (h.inv.1 ((bits_at rfl).trans (n'.later (by kernel_rfl))))) hn hat⟩⟩
          · exact .inl ⟨by kernel_rfl, fun L a1 w1 n' h => ⟨_, rfl, run_move (.tmp 6) rfl (h.var n' 6 (by kernel_rfl))⟩⟩
          · refine .inr fun L a1 w1 n' h K hK => ?_
            have no8 : L.getD 13 false = false := n'.later (by kernel_rfl)
            have b9 := h.inv.1 ((bits_at rfl).trans no8)
            have y0 : a1.eval (.tmp 36) = f.val := h.dep n' 10 36 (by kernel_rfl) rfl
            have y1 : a1.eval (.tmp 37) = .int .i64 cut := h.dep n' 11 37 (by kernel_rfl) rfl
            refine st_call 62 _ _ #[f.val, .int .i64 cut] rfl Try.call62 ?_ (torn_fv w1 f cut hok hcap) ?_
            · simp only [List.map_toArray, List.map_cons, List.map_nil, y0, y1]
            · rintro e w3 ⟨rfl, b8⟩
              exact ⟨_, rfl, hK _ w3 rfl ⟨fun _ => b9.trans (b8.mono b9.size), fun h0 => absurd (no8.symm.trans h0) (by decide)⟩⟩
          · refine .inr fun L a1 w1 n' h K hK => ?_
            have no : L.getD 13 false = false := n'.not_yet
            have b9 := h.inv.1 ((bits_at rfl).trans no)
            refine st_put (.tmp 29) (.tmp 30) (.tmp 38) (tornV f cut).val rfl (h.dep n' 3 29 (by kernel_rfl) rfl) (h.dep n' 4 30 (by kernel_rfl) rfl) (h.dep n' 12 38 (by kernel_rfl) rfl) (hD.map.later b9) hn (lenE hD.few) ?_
            intro w3 m3 o3
            exact hK undef w3 trivial ⟨fun h0 => absurd (show true = false from h0) (by decide), fun _ => ⟨m3, (Buts.of b9 _).trans (Buts.only o3 (List.mem_singleton.2 rfl))⟩⟩
        case heE =>
          intro V w9 hV hJ
          obtain ⟨m9, b9⟩ := hJ.2 rfl
          clear hV hJ
          simp only [putOps, List.setIfInBounds_toArray, List.set_cons_succ, List.set_cons_zero, Nat.reduceAdd]
          refine hK0 _ _ ?_
          have hD9 := HFin.out w9 m9 b9
          have hP9 := hP.buts b9 (fun k hk hk2 => pl_not hP hD k (by simp at hk2; subst hk2; exact mem_dblocks.2 (.inr (.inl rfl))) hk)
          have hN9 := ownr_buts hN b9 (by simpa using hmb)
          have hU9 := hU.trans (b9.sub (S' := dblocks gd mb fs) (fun k hk => by simp at hk; subst hk; exact mem_dblocks.2 (.inr (.inl rfl))))
          clear m9 b9 hD hP hN hU HFin hK0 hat hok hcap hn
          have hfew : fs.length ≤ 64 := HH.out.few
          go_wp2_with fail
          go_roundw
          case rel => exact ⟨i + 1, by omega, by go_num, hD9, hP9, hN9, hU9⟩
          case measure => simp [intOf]; omega
      · have hz : cut = 0 := by
          rw [← hcut, List.getD, List.getElem?_eq_none (by omega)]
          rfl
        clear hcut
        subst hz
        go_wp2_with fail
        rename_i K0 hK0
        refine wp_region_vals [12, 13] (SCx gd gp mb nm f 0) (JM wr (fun w' => MapAt w' mb (putE (ents (crashTo fs cs i)) nm (tornV f 0).val) ∧ Buts [mb] wr w') 1) (by kernel_rfl) (by kernel_rfl) (by kernel_rfl) (by kernel_rfl) (by kernel_rfl) (JM.start _ _ _ _ _ rfl) ?obsE ?heE
        case obsE =>
          refine ⟨?_, ?_, ?_, ?_, ?_, ?_, ?_, ?_, ?_, ?_, ?_, ?_, ?_, ?_, trivial⟩
          · exact .inl ⟨by kernel_rfl, fun L a1 w1 n' h => ⟨_, rfl, run_move (.tmp 0) rfl (h.var n' 0 (by kernel_rfl))⟩⟩
          · refine .inl ⟨by kernel_rfl, fun L a1 w1 n' h => ⟨ptr gd, rfl, ?_⟩⟩
            have e0 : a1.eval (.tmp 26) = _ := h.dep n' 0 26 (by kernel_rfl) rfl
            unfold execOp
            simp only [e0]
            go_simp
          · refine .inl ⟨by kernel_rfl, fun L a1 w1 n' h => ⟨.pointer (some ⟨gd, 1, none⟩), rfl, ?_⟩⟩
            have e0 : a1.eval (.tmp 27) = _ := h.dep n' 1 27 (by kernel_rfl) rfl
            unfold execOp
            simp only [e0]
            go_simp
          · exact .inl ⟨by kernel_rfl, fun L a1 w1 n' h => ⟨_, rfl, run_loadA 70 (.tmp 28) ⟨gd, 1, none⟩ rfl Try.isAgg70 (h.dep n' 2 28 (by kernel_rfl) rfl) ((Row.later hD.row (h.inv.1 ((bits_at rfl).trans (n'.later (by kernel_rfl))))).cell (j := 1) (v := .map (some mb)) rfl)⟩⟩
          · exact .inl ⟨by kernel_rfl, fun L a1 w1 n' h => ⟨_, rfl, run_move (.tmp 5) rfl (h.var n' 5 (by kernel_rfl))⟩⟩
          · exact .inl ⟨by kernel_rfl, fun L a1 w1 n' h => ⟨_, rfl, run_move (.tmp 0) rfl (h.var n' 0 (by kernel_rfl))⟩⟩
          · refine .inl ⟨by kernel_rfl, fun L a1 w1 n' h => ⟨ptr gd, rfl, ?_⟩⟩
            have e0 : a1.eval (.tmp 31) = _ := h.dep n' 5 31 (by kernel_rfl) rfl
            unfold execOp
            simp only [e0]
            go_simp
          · refine .inl ⟨by kernel_rfl, fun L a1 w1 n' h => ⟨.pointer (some ⟨gd, 1, none⟩), rfl, ?_⟩⟩
            have e0 : a1.eval (.tmp 32) = _ := h.dep n' 6 32 (by kernel_rfl) rfl
            unfold execOp
            simp only [e0]
            go_simp
          · exact .inl ⟨by kernel_rfl, fun L a1 w1 n' h => ⟨_, rfl, run_loadA 70 (.tmp 33) ⟨gd, 1, none⟩ rfl Try.isAgg70 (h.dep n' 7 33 (by kernel_rfl) rfl) ((Row.later hD.row (h.inv.1 ((bits_at rfl).trans (n'.later (by kernel_rfl))))).cell (j := 1) (v := .map (some mb)) rfl)⟩⟩
          · exact .inl ⟨by kernel_rfl, fun L a1 w1 n' h => ⟨_, rfl, run_move (.tmp 5) rfl (h.var n' 5 (by kernel_rfl))⟩⟩
          · exact .inl ⟨by kernel_rfl, fun L a1 w1 n' h => ⟨_, rfl, run_lookG (.tmp 34) (.tmp 35) rfl (h.dep n' 8 34 (by kernel_rfl) rfl) (h.dep n' 9 35 (by kernel_rfl) rfl) (hD.map.later (h.inv.1 ((bits_at rfl).trans (n'.later (by kernel_rfl))))) hn hat⟩⟩
          · exact .inl ⟨by kernel_rfl, fun L a1 w1 n' h => ⟨_, rfl, run_move (.tmp 6) rfl (h.var n' 6 (by kernel_rfl))⟩⟩
          · refine .inr fun L a1 w1 n' h K hK => ?_
            have no8 : L.getD 13 false = false := n'.later (by kernel_rfl)
            have b9 := h.inv.1 ((bits_at rfl).trans no8)
            have y0 : a1.eval (.tmp 36) = f.val := h.dep n' 10 36 (by kernel_rfl) rfl
            have y1 : a1.eval (.tmp 37) = .int .i64 0 := h.dep n' 11 37 (by kernel_rfl) rfl
            refine st_call 62 _ _ #[f.val, .int .i64 0] rfl Try.call62 ?_ (torn_fv w1 f 0 hok hcap) ?_
            · simp only [List.map_toArray, List.map_cons, List.map_nil, y0, y1]
            · rintro e w3 ⟨rfl, b8⟩
              exact ⟨_, rfl, hK _ w3 rfl ⟨fun _ => b9.trans (b8.mono b9.size), fun h0 => absurd (no8.symm.trans h0) (by decide)⟩⟩
          · refine .inr fun L a1 w1 n' h K hK => ?_
            have no : L.getD 13 false = false := n'.not_yet
            have b9 := h.inv.1 ((bits_at rfl).trans no)
            refine st_put (.tmp 29) (.tmp 30) (.tmp 38) (tornV f 0).val rfl (h.dep n' 3 29 (by kernel_rfl) rfl) (h.dep n' 4 30 (by kernel_rfl) rfl) (h.dep n' 12 38 (by kernel_rfl) rfl) (hD.map.later b9) hn (lenE hD.few) ?_
            intro w3 m3 o3
            exact hK undef w3 trivial ⟨fun h0 => absurd (show true = false from h0) (by decide), fun _ => ⟨m3, (Buts.of b9 _).trans (Buts.only o3 (List.mem_singleton.2 rfl))⟩⟩
        case heE =>
          intro V w9 hV hJ
          obtain ⟨m9, b9⟩ := hJ.2 rfl
          clear hV hJ
          simp only [putOps, List.setIfInBounds_toArray, List.set_cons_succ, List.set_cons_zero, Nat.reduceAdd]
          refine hK0 _ _ ?_
          have hD9 := HFin.out w9 m9 b9
          have hP9 := hP.buts b9 (fun k hk hk2 => pl_not hP hD k (by simp at hk2; subst hk2; exact mem_dblocks.2 (.inr (.inl rfl))) hk)
          have hN9 := ownr_buts hN b9 (by simpa using hmb)
          have hU9 := hU.trans (b9.sub (S' := dblocks gd mb fs) (fun k hk => by simp at hk; subst hk; exact mem_dblocks.2 (.inr (.inl rfl))))
          clear m9 b9 hD hP hN hU HFin hK0 hat hok hcap hn
          have hfew : fs.length ≤ 64 := HH.out.few
          go_wp2_with fail
          go_roundw
          case rel => exact ⟨i + 1, by omega, by go_num, hD9, hP9, hN9, hU9⟩
          case measure => simp [intOf]; omega
    · obtain rfl : i = fs.length := by omega
      have hPg : Plg wr gp on fuse := by
        rcases hP with ⟨g9, e9, h9⟩ | ⟨e9, _⟩
        · cases e9; exact h9
        · cases e9
      have hnb := pl_not hP hD
      have cd0 := hD.row.cell (j := 0) rfl
      clear hN hris hcl HC
      go_wp2_with fail
      refine (mend_any wr gp on fuse hPg).mono ?_
      rintro e w2 ⟨rfl, h2, o2⟩
      go_wp2_with fail
      first | go_end0 | refine bodyPost_ret (results_none rfl _ _ _) rfl ?_
      exact ⟨rfl, hD.buts (Buts.only (S := [gp]) o2 (List.mem_singleton.2 rfl)) (fun k hk hk2 => hnb k hk (by simpa [plB] using hk2)), h2, (hU.sub (fun k hk => List.mem_cons_of_mem _ hk)).trans (Buts.only o2 (List.mem_cons_self ..))⟩
theorem crash_any (w : World) (B gd mb gp : Nat) (on : Bool) (fuse : Int) (fs : Fs) (A : Option Addr) (m c : Nat) (cs : List Int) (hc : IsAt w w.heap.size A m cs) (hnd : ∀ b o, A = some ⟨b, o, none⟩ → b ∉ dblocks gd mb fs) (h : DiskAt w B gd (ptr gp) mb fs) (hp : Plg w gp on fuse) :
    Calls Try.prog 30 #[ptr gd, .slice A m c] w fun e w' => e = .returned (.tuple #[]) ∧ DiskAt w' B gd (ptr gp) mb (crashF fs cs) ∧ Plg w' gp true (-1) ∧ Buts (gp :: dblocks gd mb fs) w w' :=
  crash_any2 w B gd mb gp on fuse fs A m c cs hc (fun _ => hnd) h hp
end Go.Proofs.Ytaflmiopaiigbaa
