/-
  The disk: what Sync, Remove and Rename do to the map. Own work.
-/
import Derived.Test.YtaflmiopaiigbaaDiskG
namespace Go.Proofs.Ytaflmiopaiigbaa
open Go.RowKit Go.Maps Go.ChangeMaps
set_option linter.unusedVariables false
set_option linter.unusedSimpArgs false
/-- Nothing that was there turns until the few's ib-th; N behind it. -/
def JM (w0 : World) (N : World → Prop) (ib : Nat) (bs : List Bool) (vs : List Value) (w : World) : Prop := (bs.getD ib false = false → Below w0.heap.size w0 w) ∧ (bs.getD ib false = true → N w)
theorem JM.start (w0 : World) (N : World → Prop) (ib : Nat) (bs : List Bool) (vs : List Value) (h : bs.getD ib false = false) : JM w0 N ib bs vs w0.drew := ⟨fun _ => (Below.refl _ _).drew, fun h2 => absurd (h.symm.trans h2) (by decide)⟩
abbrev BoxF (w : World) (g : Nat) (f : FV) : Prop := Row w 86 g [.slice f.A f.n f.c, .int .i64 f.kept]
def SSy (gF gA gB gd mb : Nat) (pl : Value) (n : Nm) (f : FV) (opn : Nat) (v : Value) : Prop :=
  match opn with
  | 0 | 1 => v = ptr gd
  | 2 => v = .pointer (some ⟨gd, 1, none⟩)
  | 3 => v = .map (some mb)
  | 4 => v = encStr n
  | 5 => v = .pointer (some ⟨gF, 0, none⟩)
  | 6 => v = .slice f.A f.n f.c
  | 7 => v = .agg #[.slice f.A f.n f.c, .int .i64 (f.n : Int)]
  | _ => True

def SRm (gA gB gd mb : Nat) (pl : Value) (n : Nm) (opn : Nat) (v : Value) : Prop :=
  match opn with
  | 0 | 1 => v = ptr gd
  | 2 => v = .pointer (some ⟨gd, 1, none⟩)
  | 3 => v = .map (some mb)
  | 4 => v = encStr n
  | _ => True

def SR0 (gA gB gF gT gd mb : Nat) (pl : Value) (n : Nm) (opn : Nat) (v : Value) : Prop :=
  match opn with
  | 0 | 1 => v = ptr gd
  | 2 => v = .pointer (some ⟨gd, 1, none⟩)
  | 3 => v = .map (some mb)
  | 4 => v = encStr n
  | _ => True

def SR1 (gA gB gF gT gd mb : Nat) (pl : Value) (n2 : Nm) (f : FV) (opn : Nat) (v : Value) : Prop :=
  match opn with
  | 0 | 1 => v = ptr gd
  | 2 => v = .pointer (some ⟨gd, 1, none⟩)
  | 3 => v = .map (some mb)
  | 4 => v = encStr n2
  | 5 => v = .agg #[.slice f.A f.n f.c, .int .i64 f.kept]
  | _ => True

set_option maxRecDepth 100000 in
theorem syncC_any (w : World) (gF gA gB gd mb : Nat) (pl : Value) (fs : Fs) (n : Nm) (f : FV) (hn : n.length ≤ maxLen) (rF : BoxF w gF f) (rA : BoxD w gA gd) (rB : BoxS w gB n) (hr : DRow w gd pl (.map (some mb))) (hm : FMap w mb fs) (hl : fs.length ≤ 64) :
    Calls Try.prog 60 #[ptr gF, ptr gA, ptr gB] w fun e w' => e = .returned (.tuple #[]) ∧ MapAt w' mb (putE (ents fs) n (FV.val { f with kept := (f.n : Int) })) ∧ Buts [mb] w w' := by
  go_enter Try.func60, Try.ntmps60
  go_wp2_with fail
  refine wp_region_vals [7, 8] (SSy gF gA gB gd mb pl n f) (JM w (fun w' => MapAt w' mb (putE (ents fs) n (FV.val { f with kept := (f.n : Int) })) ∧ Buts [mb] w w') 1) (by kernel_rfl) (by kernel_rfl) (by kernel_rfl) (by kernel_rfl) (by kernel_rfl) (JM.start _ _ _ _ _ rfl) ?obsE ?heE
  case obsE =>
    refine ⟨?_, ?_, ?_, ?_, ?_, ?_, ?_, ?_, ?_, trivial⟩
    · exact .inl ⟨by kernel_rfl, fun L a1 w1 n' h => ⟨_, rfl, run_loadA 27 (.tmp 1) ⟨gA, 0, none⟩ rfl Try.isAgg27 (h.var n' 1 (by kernel_rfl)) ((Row.later rA (h.inv.1 ((bits_at rfl).trans (n'.later (by kernel_rfl))))).cell (j := 0) (v := ptr gd) rfl)⟩⟩
    · refine .inl ⟨by kernel_rfl, fun L a1 w1 n' h => ⟨ptr gd, rfl, ?_⟩⟩
      have e0 : a1.eval (.tmp 3) = _ := h.dep n' 0 3 (by kernel_rfl) rfl
      unfold execOp
      simp only [e0]
      go_simp
    · refine .inl ⟨by kernel_rfl, fun L a1 w1 n' h => ⟨.pointer (some ⟨gd, 1, none⟩), rfl, ?_⟩⟩
      have e0 : a1.eval (.tmp 4) = _ := h.dep n' 1 4 (by kernel_rfl) rfl
      unfold execOp
      simp only [e0]
      go_simp
    · exact .inl ⟨by kernel_rfl, fun L a1 w1 n' h => ⟨_, rfl, run_loadA 70 (.tmp 5) ⟨gd, 1, none⟩ rfl Try.isAgg70 (h.dep n' 2 5 (by kernel_rfl) rfl) ((Row.later hr (h.inv.1 ((bits_at rfl).trans (n'.later (by kernel_rfl))))).cell (j := 1) (v := .map (some mb)) rfl)⟩⟩
    · exact .inl ⟨by kernel_rfl, fun L a1 w1 n' h => ⟨_, rfl, run_loadA 9 (.tmp 2) ⟨gB, 0, none⟩ rfl Try.isAgg9 (h.var n' 2 (by kernel_rfl)) ((Row.later rB (h.inv.1 ((bits_at rfl).trans (n'.later (by kernel_rfl))))).cell (j := 0) (v := encStr n) rfl)⟩⟩
    · refine .inl ⟨by kernel_rfl, fun L a1 w1 n' h => ⟨.pointer (some ⟨gF, 0, none⟩), rfl, ?_⟩⟩
      have e0 : a1.eval (.tmp 0) = _ := h.var n' 0 (by kernel_rfl)
      unfold execOp
      simp only [e0]
      go_simp
    · exact .inl ⟨by kernel_rfl, fun L a1 w1 n' h => ⟨_, rfl, run_loadA 35 (.tmp 8) ⟨gF, 0, none⟩ rfl Try.isAgg35 (h.dep n' 5 8 (by kernel_rfl) rfl) ((Row.later rF (h.inv.1 ((bits_at rfl).trans (n'.later (by kernel_rfl))))).cell (j := 0) (v := .slice f.A f.n f.c) rfl)⟩⟩
    · refine .inr fun L a1 w1 n' h K hK => ?_
      have no8 : L.getD 8 false = false := n'.later (by kernel_rfl)
      have b9 := h.inv.1 ((bits_at rfl).trans no8)
      have y0 : a1.eval (.tmp 9) = .slice f.A f.n f.c := h.dep n' 6 9 (by kernel_rfl) rfl
      refine st_call 61 _ _ #[.slice f.A f.n f.c] rfl Try.call61 ?_ (whole_any w1 f.A f.n f.c) ?_
      · simp only [List.map_toArray, List.map_cons, List.map_nil, y0]
      · rintro e w3 ⟨rfl, b8⟩
        exact ⟨_, rfl, hK _ w3 rfl ⟨fun _ => b9.trans (b8.mono b9.size), fun h0 => absurd (no8.symm.trans h0) (by decide)⟩⟩
    · refine .inr fun L a1 w1 n' h K hK => ?_
      have no : L.getD 8 false = false := n'.not_yet
      have b9 := h.inv.1 ((bits_at rfl).trans no)
      refine st_put (.tmp 6) (.tmp 7) (.tmp 10) ((FV.val { f with kept := (f.n : Int) })) rfl (h.dep n' 3 6 (by kernel_rfl) rfl) (h.dep n' 4 7 (by kernel_rfl) rfl) (h.dep n' 7 10 (by kernel_rfl) rfl) (hm.later b9) hn (lenE hl) ?_
      intro w3 m3 o3
      exact hK undef w3 trivial ⟨fun h0 => absurd (show true = false from h0) (by decide), fun _ => ⟨m3, (Buts.of b9 _).trans (Buts.only o3 (List.mem_singleton.2 rfl))⟩⟩
  case heE =>
    intro V w9 hV hJ
    obtain ⟨h1, h2⟩ := hJ.2 rfl
    go_end0
    exact ⟨rfl, h1, h2⟩
set_option maxRecDepth 100000 in
theorem removeC_any (w : World) (gA gB gd mb : Nat) (pl : Value) (fs : Fs) (n : Nm) (hn : n.length ≤ maxLen) (rA : BoxD w gA gd) (rB : BoxS w gB n) (hr : DRow w gd pl (.map (some mb))) (hm : FMap w mb fs) :
    Calls Try.prog 65 #[ptr gA, ptr gB] w fun e w' => e = .returned (.tuple #[]) ∧ MapAt w' mb (delE (ents fs) n) ∧ Buts [mb] w w' := by
  go_enter Try.func65, Try.ntmps65
  go_wp2_with fail
  refine wp_region_vals [5] (SRm gA gB gd mb pl n) (JM w (fun w' => MapAt w' mb (delE (ents fs) n) ∧ Buts [mb] w w') 0) (by kernel_rfl) (by kernel_rfl) (by kernel_rfl) (by kernel_rfl) (by kernel_rfl) (JM.start _ _ _ _ _ rfl) ?obsE ?heE
  case obsE =>
    refine ⟨?_, ?_, ?_, ?_, ?_, ?_, trivial⟩
    · exact .inl ⟨by kernel_rfl, fun L a1 w1 n' h => ⟨_, rfl, run_loadA 27 (.tmp 0) ⟨gA, 0, none⟩ rfl Try.isAgg27 (h.var n' 0 (by kernel_rfl)) ((Row.later rA (h.inv.1 ((bits_at rfl).trans (n'.later (by kernel_rfl))))).cell (j := 0) (v := ptr gd) rfl)⟩⟩
    · refine .inl ⟨by kernel_rfl, fun L a1 w1 n' h => ⟨ptr gd, rfl, ?_⟩⟩
      have e0 : a1.eval (.tmp 2) = _ := h.dep n' 0 2 (by kernel_rfl) rfl
      unfold execOp
      simp only [e0]
      go_simp
    · refine .inl ⟨by kernel_rfl, fun L a1 w1 n' h => ⟨.pointer (some ⟨gd, 1, none⟩), rfl, ?_⟩⟩
      have e0 : a1.eval (.tmp 3) = _ := h.dep n' 1 3 (by kernel_rfl) rfl
      unfold execOp
      simp only [e0]
      go_simp
    · exact .inl ⟨by kernel_rfl, fun L a1 w1 n' h => ⟨_, rfl, run_loadA 70 (.tmp 4) ⟨gd, 1, none⟩ rfl Try.isAgg70 (h.dep n' 2 4 (by kernel_rfl) rfl) ((Row.later hr (h.inv.1 ((bits_at rfl).trans (n'.later (by kernel_rfl))))).cell (j := 1) (v := .map (some mb)) rfl)⟩⟩
    · exact .inl ⟨by kernel_rfl, fun L a1 w1 n' h => ⟨_, rfl, run_loadA 9 (.tmp 1) ⟨gB, 0, none⟩ rfl Try.isAgg9 (h.var n' 1 (by kernel_rfl)) ((Row.later rB (h.inv.1 ((bits_at rfl).trans (n'.later (by kernel_rfl))))).cell (j := 0) (v := encStr n) rfl)⟩⟩
    · refine .inr fun L a1 w1 n' h K hK => ?_
      have no : L.getD 5 false = false := n'.not_yet
      have b9 := h.inv.1 ((bits_at rfl).trans no)
      refine st_del (.tmp 5) (.tmp 6) rfl (h.dep n' 3 5 (by kernel_rfl) rfl) (h.dep n' 4 6 (by kernel_rfl) rfl) (hm.later b9) hn ?_
      intro w3 m3 o3
      exact hK _ w3 trivial ⟨fun h0 => absurd (show true = false from h0) (by decide), fun _ => ⟨m3, (Buts.of b9 _).trans (Buts.only o3 (List.mem_singleton.2 rfl))⟩⟩
  case heE =>
    intro V w9 hV hJ
    obtain ⟨h1, h2⟩ := hJ.2 rfl
    go_end0
    exact ⟨rfl, h1, h2⟩
set_option maxRecDepth 100000 in
theorem renameC_any (w : World) (gA gB gF gT gd mb : Nat) (pl : Value) (fs : Fs) (n n2 : Nm) (f : FV) (hn : n.length ≤ maxLen) (hn2 : n2.length ≤ maxLen) (rA : BoxD w gA gd) (rB : BoxS w gB n) (rF : BoxF w gF f) (rT : BoxS w gT n2) (hr : DRow w gd pl (.map (some mb))) (hm : FMap w mb fs) (hl : fs.length ≤ 64) :
    Calls Try.prog 64 #[ptr gA, ptr gB, ptr gF, ptr gT] w fun e w' => e = .returned (.tuple #[]) ∧ MapAt w' mb (putE (delE (ents fs) n) n2 f.val) ∧ Buts [mb] w w' := by
  have hl2 : (delE (ents fs) n).length < maxLen := Nat.lt_of_le_of_lt (List.length_filter_le _ _) (lenE hl)
  go_enter Try.func64, Try.ntmps64
  go_wp2_with fail
  rename_i K0 hK0
  refine wp_region_vals [5] (SR0 gA gB gF gT gd mb pl n) (JM w (fun w' => MapAt w' mb (delE (ents fs) n) ∧ Buts [mb] w w') 0) (by kernel_rfl) (by kernel_rfl) (by kernel_rfl) (by kernel_rfl) (by kernel_rfl) (JM.start _ _ _ _ _ rfl) ?obsE ?heE
  case obsE =>
    refine ⟨?_, ?_, ?_, ?_, ?_, ?_, trivial⟩
    · exact .inl ⟨by kernel_rfl, fun L a1 w1 n' h => ⟨_, rfl, run_loadA 27 (.tmp 0) ⟨gA, 0, none⟩ rfl Try.isAgg27 (h.var n' 0 (by kernel_rfl)) ((Row.later rA (h.inv.1 ((bits_at rfl).trans (n'.later (by kernel_rfl))))).cell (j := 0) (v := ptr gd) rfl)⟩⟩
    · refine .inl ⟨by kernel_rfl, fun L a1 w1 n' h => ⟨ptr gd, rfl, ?_⟩⟩
      have e0 : a1.eval (.tmp 4) = _ := h.dep n' 0 4 (by kernel_rfl) rfl
      unfold execOp
      simp only [e0]
      go_simp
    · refine .inl ⟨by kernel_rfl, fun L a1 w1 n' h => ⟨.pointer (some ⟨gd, 1, none⟩), rfl, ?_⟩⟩
      have e0 : a1.eval (.tmp 5) = _ := h.dep n' 1 5 (by kernel_rfl) rfl
      unfold execOp
      simp only [e0]
      go_simp
    · exact .inl ⟨by kernel_rfl, fun L a1 w1 n' h => ⟨_, rfl, run_loadA 70 (.tmp 6) ⟨gd, 1, none⟩ rfl Try.isAgg70 (h.dep n' 2 6 (by kernel_rfl) rfl) ((Row.later hr (h.inv.1 ((bits_at rfl).trans (n'.later (by kernel_rfl))))).cell (j := 1) (v := .map (some mb)) rfl)⟩⟩
    · exact .inl ⟨by kernel_rfl, fun L a1 w1 n' h => ⟨_, rfl, run_loadA 9 (.tmp 1) ⟨gB, 0, none⟩ rfl Try.isAgg9 (h.var n' 1 (by kernel_rfl)) ((Row.later rB (h.inv.1 ((bits_at rfl).trans (n'.later (by kernel_rfl))))).cell (j := 0) (v := encStr n) rfl)⟩⟩
    · refine .inr fun L a1 w1 n' h K hK => ?_
      have no : L.getD 5 false = false := n'.not_yet
      have b9 := h.inv.1 ((bits_at rfl).trans no)
      refine st_del (.tmp 7) (.tmp 8) rfl (h.dep n' 3 7 (by kernel_rfl) rfl) (h.dep n' 4 8 (by kernel_rfl) rfl) (hm.later b9) hn ?_
      intro w3 m3 o3
      exact hK _ w3 trivial ⟨fun h0 => absurd (show true = false from h0) (by decide), fun _ => ⟨m3, (Buts.of b9 _).trans (Buts.only o3 (List.mem_singleton.2 rfl))⟩⟩
  case heE =>
    intro V w2 hV hJ
    obtain ⟨m1, bU⟩ := hJ.2 rfl
    clear hV hJ
    have nb : ∀ {t g : Nat} {vs : List Value}, Row w t g vs → g ∉ [mb] := fun r hk => hm.ne_row r (List.mem_singleton.1 hk).symm
    have rA := Row.buts rA bU (nb rA)
    have rF := Row.buts rF bU (nb rF)
    have rT := Row.buts rT bU (nb rT)
    have hr := Row.buts hr bU (nb hr)
    clear nb
    simp only [putOps, List.setIfInBounds_toArray, List.set_cons_succ, List.set_cons_zero, Nat.reduceAdd]
    refine hK0 _ _ ?_
    go_wp2_with fail
    refine wp_region_vals [6] (SR1 gA gB gF gT gd mb pl n2 f) (JM w2 (fun w' => MapAt w' mb (putE (delE (ents fs) n) n2 f.val) ∧ Buts [mb] w2 w') 0) (by kernel_rfl) (by kernel_rfl) (by kernel_rfl) (by kernel_rfl) (by kernel_rfl) (JM.start _ _ _ _ _ rfl) ?obsF ?heF
    case obsF =>
      refine ⟨?_, ?_, ?_, ?_, ?_, ?_, ?_, trivial⟩
      · exact .inl ⟨by kernel_rfl, fun L a1 w1 n' h => ⟨_, rfl, run_loadA 27 (.tmp 0) ⟨gA, 0, none⟩ rfl Try.isAgg27 (h.var n' 0 (by kernel_rfl)) ((Row.later rA (h.inv.1 ((bits_at rfl).trans (n'.later (by kernel_rfl))))).cell (j := 0) (v := ptr gd) rfl)⟩⟩
      · refine .inl ⟨by kernel_rfl, fun L a1 w1 n' h => ⟨ptr gd, rfl, ?_⟩⟩
        have e0 : a1.eval (.tmp 9) = _ := h.dep n' 0 9 (by kernel_rfl) rfl
        unfold execOp
        simp only [e0]
        go_simp
      · refine .inl ⟨by kernel_rfl, fun L a1 w1 n' h => ⟨.pointer (some ⟨gd, 1, none⟩), rfl, ?_⟩⟩
        have e0 : a1.eval (.tmp 10) = _ := h.dep n' 1 10 (by kernel_rfl) rfl
        unfold execOp
        simp only [e0]
        go_simp
      · exact .inl ⟨by kernel_rfl, fun L a1 w1 n' h => ⟨_, rfl, run_loadA 70 (.tmp 11) ⟨gd, 1, none⟩ rfl Try.isAgg70 (h.dep n' 2 11 (by kernel_rfl) rfl) ((Row.later hr (h.inv.1 ((bits_at rfl).trans (n'.later (by kernel_rfl))))).cell (j := 1) (v := .map (some mb)) rfl)⟩⟩
      · exact .inl ⟨by kernel_rfl, fun L a1 w1 n' h => ⟨_, rfl, run_loadA 9 (.tmp 3) ⟨gT, 0, none⟩ rfl Try.isAgg9 (h.var n' 3 (by kernel_rfl)) ((Row.later rT (h.inv.1 ((bits_at rfl).trans (n'.later (by kernel_rfl))))).cell (j := 0) (v := encStr n2) rfl)⟩⟩
      · exact .inl ⟨by kernel_rfl, fun L a1 w1 n' h => ⟨_, rfl, run_loadRow 86 (.tmp 2) gF 86 _ _ rfl (h.var n' 2 (by kernel_rfl)) (Row.later rF (h.inv.1 ((bits_at rfl).trans (n'.later (by kernel_rfl))))) Try.underlying86 rfl (szFile f)⟩⟩
      · refine .inr fun L a1 w1 n' h K hK => ?_
        have no : L.getD 6 false = false := n'.not_yet
        have b9 := h.inv.1 ((bits_at rfl).trans no)
        refine st_put (.tmp 12) (.tmp 13) (.tmp 14) (f.val) rfl (h.dep n' 3 12 (by kernel_rfl) rfl) (h.dep n' 4 13 (by kernel_rfl) rfl) (h.dep n' 5 14 (by kernel_rfl) rfl) (m1.later b9) hn2 hl2 ?_
        intro w3 m3 o3
        exact hK undef w3 trivial ⟨fun h0 => absurd (show true = false from h0) (by decide), fun _ => ⟨m3, (Buts.of b9 _).trans (Buts.only o3 (List.mem_singleton.2 rfl))⟩⟩
    case heF =>
      intro V2 w9 hV hJ
      obtain ⟨h1, h2⟩ := hJ.2 rfl
      go_end0
      exact ⟨rfl, h1, bU.trans h2⟩
end Go.Proofs.Ytaflmiopaiigbaa
