/-
  The disk: Create. Own work.
-/
import Derived.Test.YtaflmiopaiigbaaDiskF
namespace Go.Proofs.Ytaflmiopaiigbaa
open Go.RowKit Go.Maps Go.ChangeMaps
set_option linter.unusedVariables false
set_option linter.unusedSimpArgs false
/-- Nothing that was there turns until the last of the few; N behind it. -/
def JN (w0 : World) (N : World → Prop) (bs : List Bool) (vs : List Value) (w : World) : Prop := (bs.getD 0 false = false → Below w0.heap.size w0 w) ∧ (bs.getD 0 false = true → N w)
theorem JN.start (w0 : World) (N : World → Prop) (vs : List Value) : JN w0 N [false] vs w0.drew := ⟨fun _ => (Below.refl _ _).drew, fun h => absurd (show false = true from h) (by decide)⟩
abbrev BoxD (w : World) (g gd : Nat) : Prop := Row w 27 g [ptr gd]
abbrev BoxS (w : World) (g : Nat) (n : Nm) : Prop := Row w 9 g [encStr n]
def SCr (gA gB gd mb : Nat) (pl : Value) (n : Nm) (opn : Nat) (v : Value) : Prop :=
  match opn with
  | 0 | 1 => v = ptr gd
  | 2 => v = .pointer (some ⟨gd, 1, none⟩)
  | 3 => v = .map (some mb)
  | 4 => v = encStr n
  | 5 => v = .agg #[.slice none 0 0, .int .i64 0]
  | _ => True

theorem lenE {fs : Fs} (h : fs.length ≤ 64) : (ents fs).length < maxLen := by rw [ents_len]; exact Nat.lt_of_le_of_lt h (by decide)
set_option maxRecDepth 100000 in
theorem createC_any (w : World) (gA gB gd mb : Nat) (pl : Value) (fs : Fs) (n : Nm) (hn : n.length ≤ maxLen) (rA : BoxD w gA gd) (rB : BoxS w gB n) (hr : DRow w gd pl (.map (some mb))) (hm : FMap w mb fs) (hl : fs.length ≤ 64) :
    Calls Try.prog 57 #[ptr gA, ptr gB] w fun e w' => e = .returned (.tuple #[]) ∧ MapAt w' mb (putE (ents fs) n zV.val) ∧ Buts [mb] w w' := by
  go_enter Try.func57, Try.ntmps57
  go_wp2_with fail
  refine wp_region_vals [6] (SCr gA gB gd mb pl n) (JN w fun w' => MapAt w' mb (putE (ents fs) n zV.val) ∧ Buts [mb] w w') (by kernel_rfl) (by kernel_rfl) (by kernel_rfl) (by kernel_rfl) (by kernel_rfl) (JN.start _ _ _) ?obsE ?heE
  case obsE =>
    refine ⟨?_, ?_, ?_, ?_, ?_, ?_, ?_, trivial⟩
    · exact .inl ⟨by kernel_rfl, fun L a1 w1 n' h => ⟨_, rfl, run_loadA 27 (.tmp 0) ⟨gA, 0, none⟩ rfl Try.isAgg27 (h.var n' 0 (by kernel_rfl)) ((Row.later rA (h.inv.1 ((bits_at rfl).trans (n'.later (by kernel_rfl))))).cell (j := 0) (v := ptr gd) rfl)⟩⟩
    · refine .inl ⟨by kernel_rfl, fun L a1 w1 n' h => ⟨ptr gd, rfl, ?_⟩⟩
      have e0 : a1.eval (.tmp 2) = _ := h.dep n' 0 2 (by kernel_rfl) rfl
      unfold execOp
      simp only [e0]
      go_simp
    · refine .inl ⟨by kernel_rfl, fun L a1 w1 n' h => ⟨.pointer (some ⟨gd, 1, none⟩), rfl, ?_⟩⟩
      have e0 : a1.eval (.tmp 3) = _ := h.dep n' 1 3 (by kernel_rfl) rfl
      unfold execOp
      simp only [e0]
      go_simp
    · exact .inl ⟨by kernel_rfl, fun L a1 w1 n' h => ⟨_, rfl, run_loadA 70 (.tmp 4) ⟨gd, 1, none⟩ rfl Try.isAgg70 (h.dep n' 2 4 (by kernel_rfl) rfl) ((Row.later hr (h.inv.1 ((bits_at rfl).trans (n'.later (by kernel_rfl))))).cell (j := 1) (v := .map (some mb)) rfl)⟩⟩
    · exact .inl ⟨by kernel_rfl, fun L a1 w1 n' h => ⟨_, rfl, run_loadA 9 (.tmp 1) ⟨gB, 0, none⟩ rfl Try.isAgg9 (h.var n' 1 (by kernel_rfl)) ((Row.later rB (h.inv.1 ((bits_at rfl).trans (n'.later (by kernel_rfl))))).cell (j := 0) (v := encStr n) rfl)⟩⟩
    · exact .inl ⟨by kernel_rfl, fun L a1 w1 n' h => ⟨_, rfl, run_buildX 86 [] rfl [] rfl _ builtFile0⟩⟩
    · refine .inr fun L a1 w1 n' h K hK => ?_
      have no : L.getD 6 false = false := n'.not_yet
      have b9 := h.inv.1 ((bits_at rfl).trans no)
      refine st_put (.tmp 5) (.tmp 6) (.tmp 7) (zV.val) rfl (h.dep n' 3 5 (by kernel_rfl) rfl) (h.dep n' 4 6 (by kernel_rfl) rfl) (h.dep n' 5 7 (by kernel_rfl) rfl) (hm.later b9) hn (lenE hl) ?_
      intro w3 m3 o3
      exact hK undef w3 trivial ⟨fun h0 => absurd (show true = false from h0) (by decide), fun _ => ⟨m3, (Buts.of b9 _).trans (Buts.only o3 (List.mem_singleton.2 rfl))⟩⟩
  case heE =>
    intro V w9 hV hJ
    obtain ⟨h1, h2⟩ := hJ.2 rfl
    go_end0
    exact ⟨rfl, h1, h2⟩
/-- What an act answers, and leaves: e0 is what there is to refuse ahead of the act. -/
def dE (e0 : Int) (on : Bool) (fuse : Int) : Int := if e0 = 0 then actE on fuse else e0
def dOn (e0 : Int) (on : Bool) (fuse : Int) : Bool := if e0 = 0 then (on && actOn on fuse) else on
def dFu (e0 : Int) (on : Bool) (fuse : Int) : Int := if e0 = 0 then actF on fuse else fuse
def dFs (e0 : Int) (on : Bool) (fuse : Int) (fs fs1 : Fs) : Fs := if e0 = 0 then (if actE on fuse = 0 then fs1 else fs) else fs
theorem PlAt.buts {w w' : World} {pl : Value} {on : Bool} {fuse : Int} {S : List Nat} (h : PlAt w pl on fuse) (hb : Buts S w w') (hS : ∀ k ∈ plB pl, k ∉ S) : PlAt w' pl on fuse := by
  rcases h with ⟨gp, rfl, h⟩ | ⟨rfl, h⟩
  · exact .inl ⟨gp, rfl, Row.buts h hb (hS gp (List.mem_singleton.2 rfl))⟩
  · exact .inr ⟨rfl, h⟩
/-- Behind an act. -/
def Acted (w w' : World) (B gd : Nat) (pl : Value) (mb : Nat) (e0 : Int) (on : Bool) (fuse : Int) (fs fs1 : Fs) : Prop :=
  DiskAt w' B gd pl mb (dFs e0 on fuse fs fs1) ∧ PlAt w' pl (dOn e0 on fuse) (dFu e0 on fuse) ∧ Buts (plB pl ++ dblocks gd mb fs) w w'
theorem Acted.from {w0 w w' : World} {B gd mb : Nat} {pl : Value} {e0 : Int} {on : Bool} {fuse : Int} {fs fs1 : Fs} (h : Acted w w' B gd pl mb e0 on fuse fs fs1) (hb : Below w0.heap.size w0 w) : Acted w0 w' B gd pl mb e0 on fuse fs fs1 := ⟨h.1, h.2.1, (Buts.of hb _).trans h.2.2⟩
theorem change_all (w : World) (B gd mb : Nat) (pl : Value) (F : FuncId) (caps : Array Value) (e0 : Int) (on : Bool) (fuse : Int) (fs fs1 : Fs) (h : DiskAt w B gd pl mb fs) (hp : PlAt w pl on fuse) (hf : isI fuse) (hF : ∀ (xs : Array Value) (w : World), (callFunc F xs).run Try.prog w = .ok (.enter F xs) w)
    (hc : e0 = 0 → ∀ w1, DiskAt w1 B gd pl mb fs → Buts (plB pl) w w1 → Calls Try.prog F caps w1 fun en w2 => en = .returned (.tuple #[]) ∧ DiskAt w2 B gd pl mb fs1 ∧ Buts (dblocks gd mb fs) w1 w2) :
    Calls Try.prog 56 #[ptr gd, .int .i64 e0, .func (.func F) #[] caps] w fun en w' => en = .returned (.int .i64 (dE e0 on fuse)) ∧ Acted w w' B gd pl mb e0 on fuse fs fs1 := by
  have hnb := pl_not hp h
  by_cases he : e0 = 0
  · subst he
    rcases actE_cases on fuse with ha | ha
    · refine (change_do w gd pl _ F caps on fuse h.row hp hf ha hF (fun w1 w2 => DiskAt w2 B gd pl mb fs1 ∧ Buts (dblocks gd mb fs) w1 w2) (fun w1 h1 h2 => hc rfl w1 (h.buts h2 hnb) h2)).mono ?_
      rintro en w' ⟨rfl, w1, h1, h2, h3, h4⟩
      refine ⟨by simp [dE, ha], by simpa [dFs, ha] using h3, ?_, (h2.sub (fun k hk => List.mem_append.2 (.inl hk))).trans (h4.sub (fun k hk => List.mem_append.2 (.inr hk)))⟩
      simpa [dOn, dFu] using h1.buts h4 (fun k hk hk2 => hnb k hk2 hk)
    · refine (change_off w gd pl _ _ on fuse h.row hp hf ha).mono ?_
      rintro en w' ⟨rfl, h1, h2⟩
      exact ⟨by simp [dE, ha], by simpa [dFs, ha] using h.buts h2 hnb, by simpa [dOn, dFu] using h1, h2.sub (fun k hk => List.mem_append.2 (.inl hk))⟩
  · refine (change_err w gd e0 _ he).mono ?_
    rintro en w' ⟨rfl, rfl⟩
    exact ⟨by simp [dE, he], by simpa [dFs, he] using h, by simpa [dOn, dFu, he] using hp, Buts.refl _ _⟩
/-- What Create refuses. -/
def creE (fs : Fs) (n : Nm) (on : Bool) : Int := if refE [n] on = 0 then (if (!(atF fs n).isSome && decide (64 ≤ fs.length)) then 10 else 0) else refE [n] on
theorem creE_cases (fs : Fs) (n : Nm) (on : Bool) : (refE [n] on = 0 ∧ n.length ≤ maxLen ∧ (((!(atF fs n).isSome && decide (64 ≤ fs.length)) = true ∧ creE fs n on = 10) ∨ ((!(atF fs n).isSome && decide (64 ≤ fs.length)) = false ∧ creE fs n on = 0 ∧ ((atF fs n).isSome = true ∨ fs.length < 64)))) ∨ (refE [n] on = 1 ∧ creE fs n on = 1) ∨ (refE [n] on = 8 ∧ creE fs n on = 8) := by
  rcases refE_cases [n] on with ⟨h, ho⟩ | h | h
  · refine .inl ⟨h, okN_le (by simpa using ho), ?_⟩
    cases hq : (!(atF fs n).isSome && decide (64 ≤ fs.length)) with
    | true => exact .inl ⟨rfl, by unfold creE; rw [hq, h]; rfl⟩
    | false =>
      refine .inr ⟨rfl, by unfold creE; rw [hq, h]; rfl, ?_⟩
      by_cases hs : (atF fs n).isSome = true
      · exact .inl hs
      · simp at hq
        right
        have : (atF fs n) = none := by simpa using hs
        have := hq this
        omega
  · exact .inr (.inl ⟨h, by simp [creE, h]⟩)
  · exact .inr (.inr ⟨h, by simp [creE, h]⟩)
theorem zV_ok : zV.ok := ⟨by decide, by decide, by decide⟩
set_option maxRecDepth 100000 in
theorem create_any (w : World) (B gd mb : Nat) (pl : Value) (on : Bool) (fuse : Int) (fs : Fs) (n : Nm) (h : DiskAt w B gd pl mb fs) (hp : PlAt w pl on fuse) (hf : isI fuse) :
    Calls Try.prog 27 #[ptr gd, encStr n] w fun e w' => e = .returned (.int .i64 (dE (creE fs n on) on fuse)) ∧ Acted w w' B gd pl mb (creE fs n on) on fuse fs (putF fs n zV) := by
  obtain ⟨i0, hi, hz, hs, hb⟩ := str_info
  have HR := fun (w1 : World) (A : Option Addr) (m c : Nat) (b : Below w.heap.size w w1) (hm2 : m ≤ 2) (hN : NmsAt w1 A m [n]) => refuse_any w1 gd mb pl on fuse A m c [n] hm2 (Row.later h.row b) (hp.later b) hN
  have HC : ∀ (w1 : World) (gA gB : Nat), Below w.heap.size w w1 → BoxD w1 gA gd → BoxS w1 gB n → w.heap.size ≤ gA → w.heap.size ≤ gB → Calls Try.prog 56 #[ptr gd, .int .i64 (creE fs n on), .func (.func 57) #[] #[ptr gA, ptr gB]] w1 fun en w' => en = .returned (.int .i64 (dE (creE fs n on) on fuse)) ∧ Acted w1 w' B gd pl mb (creE fs n on) on fuse fs (putF fs n zV) := by
    intro w1 gA gB b rA rB hA hB
    refine change_all w1 B gd mb pl _ _ _ on fuse fs _ (h.later b) (hp.later b) hf Try.call57 (fun he w2 hD b2 => ?_)
    rcases creE_cases fs n on with ⟨_, hn, ⟨_, hx⟩ | ⟨_, _, hl⟩⟩ | ⟨_, hx⟩ | ⟨_, hx⟩
    · rw [hx] at he; cases he
    · have nA : gA ∉ plB pl := fun hk => by
        rcases hp with ⟨gp, rfl, hp⟩ | ⟨rfl, _⟩
        · simp [plB] at hk; have := hp.lt; omega
        · simp [plB] at hk
      have nB : gB ∉ plB pl := fun hk => by
        rcases hp with ⟨gp, rfl, hp⟩ | ⟨rfl, _⟩
        · simp [plB] at hk; have := hp.lt; omega
        · simp [plB] at hk
      refine (createC_any w2 gA gB gd mb pl fs n hn (Row.buts rA b2 nA) (Row.buts rB b2 nB) hD.row hD.map hD.few).mono ?_
      rintro e w3 ⟨rfl, m3, b3⟩
      exact ⟨rfl, hD.stored m3 b3 owf_nil zV_ok (fun p _ _ k _ hk2 => by simp [FV.bk, zV, Value.ownBlock] at hk2) hl, b3.sub (fun k hk => by simp at hk; subst hk; exact mem_dblocks.2 (.inr (.inl rfl)))⟩
    · rw [hx] at he; cases he
    · rw [hx] at he; cases he
  have HU := fun (hn : n.length ≤ maxLen) (w1 : World) (b : Below w.heap.size w w1) => full_any w1 gd mb pl fs n hn (Row.later h.row b) (h.map.later b)
  clear h hp
  rcases creE_cases fs n on with ⟨he, hn, ⟨hq, h0⟩ | ⟨hq, h0, _⟩⟩ | ⟨he, h0⟩ | ⟨he, h0⟩
  · have HU := HU hn
    rw [he] at HR
    rw [h0] at HC ⊢
    have HR := hide HR
    have HC := hide HC
    have HU := hide HU
    clear he h0
    go_enter Try.func27, Try.ntmps27
    go_wp2_with (first
      | ((with_reducible refine wl_box rfl 27 _ (ptr gd) [ptr gd] rfl rfl rfl ?_); intro gA w1 rA pA lA bA)
      | ((with_reducible refine wl_box rfl 9 _ (encStr n) [encStr n] rfl rfl rfl ?_); intro gB w2 rB pB lB bB; have rA := Row.later rA bB; have bAB := bA.trans (bB.mono bA.size))
      | (with_reducible refine wl_load rfl 27 _ gA 0 27 _ (ptr gd) rfl Try.isAgg27 rfl rA rfl ?_)
      | (with_reducible refine wl_load rfl 9 _ gB 0 9 _ (encStr n) rfl Try.isAgg9 rfl rB rfl ?_)
      | ((with_reducible refine wl_build1 rfl 43 (.tmp 7) rfl 9 i0 (.string ByteArray.empty) (encStr n) Try.underlying43 hi hz hs rfl rfl rfl ?_); intro g3 w3 r3 p3 l3 b3; have rA := Row.later rA b3; have rB := Row.later rB b3; have b03 := bAB.trans (b3.mono bAB.size)))
    refine (HR.out w3 _ 1 1 b03 (by decide) (row_nms r3)).mono ?_
    rintro en w4 ⟨rfl, rfl⟩
    clear HR r3 p3 l3 b3 lA lB
    have cA := rA.cell (j := 0) rfl
    have cB := rB.cell (j := 0) rfl
    go_wp2_with fail
    refine (HU.out w3 b03).mono ?_
    rintro en w4 ⟨rfl, b4⟩
    rw [hq]
    have rA := Row.later rA b4
    have rB := Row.later rB b4
    have b03 := b03.trans (b4.mono b03.size)
    have cA := rA.cell (j := 0) rfl
    have cB := rB.cell (j := 0) rfl
    clear HU hq b4
    go_wp2_with fail
    refine (HC.out w4 gA gB b03 rA rB pA (Nat.le_trans bA.size pB)).mono ?_
    rintro en w5 ⟨rfl, h5⟩
    go_wp2_with fail
    go_ret
    exact ⟨rfl, h5.from b03⟩
  · have HU := HU hn
    rw [he] at HR
    rw [h0] at HC ⊢
    have HR := hide HR
    have HC := hide HC
    have HU := hide HU
    clear he h0
    go_enter Try.func27, Try.ntmps27
    go_wp2_with (first
      | ((with_reducible refine wl_box rfl 27 _ (ptr gd) [ptr gd] rfl rfl rfl ?_); intro gA w1 rA pA lA bA)
      | ((with_reducible refine wl_box rfl 9 _ (encStr n) [encStr n] rfl rfl rfl ?_); intro gB w2 rB pB lB bB; have rA := Row.later rA bB; have bAB := bA.trans (bB.mono bA.size))
      | (with_reducible refine wl_load rfl 27 _ gA 0 27 _ (ptr gd) rfl Try.isAgg27 rfl rA rfl ?_)
      | (with_reducible refine wl_load rfl 9 _ gB 0 9 _ (encStr n) rfl Try.isAgg9 rfl rB rfl ?_)
      | ((with_reducible refine wl_build1 rfl 43 (.tmp 7) rfl 9 i0 (.string ByteArray.empty) (encStr n) Try.underlying43 hi hz hs rfl rfl rfl ?_); intro g3 w3 r3 p3 l3 b3; have rA := Row.later rA b3; have rB := Row.later rB b3; have b03 := bAB.trans (b3.mono bAB.size)))
    refine (HR.out w3 _ 1 1 b03 (by decide) (row_nms r3)).mono ?_
    rintro en w4 ⟨rfl, rfl⟩
    clear HR r3 p3 l3 b3 lA lB
    have cA := rA.cell (j := 0) rfl
    have cB := rB.cell (j := 0) rfl
    go_wp2_with fail
    refine (HU.out w3 b03).mono ?_
    rintro en w4 ⟨rfl, b4⟩
    rw [hq]
    have rA := Row.later rA b4
    have rB := Row.later rB b4
    have b03 := b03.trans (b4.mono b03.size)
    have cA := rA.cell (j := 0) rfl
    have cB := rB.cell (j := 0) rfl
    clear HU hq b4
    go_wp2_with fail
    refine (HC.out w4 gA gB b03 rA rB pA (Nat.le_trans bA.size pB)).mono ?_
    rintro en w5 ⟨rfl, h5⟩
    go_wp2_with fail
    go_ret
    exact ⟨rfl, h5.from b03⟩
  · rw [he] at HR
    rw [h0] at HC ⊢
    have HR := hide HR
    have HC := hide HC
    clear HU
    clear he h0
    go_enter Try.func27, Try.ntmps27
    go_wp2_with (first
      | ((with_reducible refine wl_box rfl 27 _ (ptr gd) [ptr gd] rfl rfl rfl ?_); intro gA w1 rA pA lA bA)
      | ((with_reducible refine wl_box rfl 9 _ (encStr n) [encStr n] rfl rfl rfl ?_); intro gB w2 rB pB lB bB; have rA := Row.later rA bB; have bAB := bA.trans (bB.mono bA.size))
      | (with_reducible refine wl_load rfl 27 _ gA 0 27 _ (ptr gd) rfl Try.isAgg27 rfl rA rfl ?_)
      | (with_reducible refine wl_load rfl 9 _ gB 0 9 _ (encStr n) rfl Try.isAgg9 rfl rB rfl ?_)
      | ((with_reducible refine wl_build1 rfl 43 (.tmp 7) rfl 9 i0 (.string ByteArray.empty) (encStr n) Try.underlying43 hi hz hs rfl rfl rfl ?_); intro g3 w3 r3 p3 l3 b3; have rA := Row.later rA b3; have rB := Row.later rB b3; have b03 := bAB.trans (b3.mono bAB.size)))
    refine (HR.out w3 _ 1 1 b03 (by decide) (row_nms r3)).mono ?_
    rintro en w4 ⟨rfl, rfl⟩
    clear HR r3 p3 l3 b3 lA lB
    have cA := rA.cell (j := 0) rfl
    have cB := rB.cell (j := 0) rfl
    go_wp2_with fail
    refine (HC.out w3 gA gB b03 rA rB pA (Nat.le_trans bA.size pB)).mono ?_
    rintro en w5 ⟨rfl, h5⟩
    go_wp2_with fail
    go_ret
    exact ⟨rfl, h5.from b03⟩
  · rw [he] at HR
    rw [h0] at HC ⊢
    have HR := hide HR
    have HC := hide HC
    clear HU
    clear he h0
    go_enter Try.func27, Try.ntmps27
    go_wp2_with (first
      | ((with_reducible refine wl_box rfl 27 _ (ptr gd) [ptr gd] rfl rfl rfl ?_); intro gA w1 rA pA lA bA)
      | ((with_reducible refine wl_box rfl 9 _ (encStr n) [encStr n] rfl rfl rfl ?_); intro gB w2 rB pB lB bB; have rA := Row.later rA bB; have bAB := bA.trans (bB.mono bA.size))
      | (with_reducible refine wl_load rfl 27 _ gA 0 27 _ (ptr gd) rfl Try.isAgg27 rfl rA rfl ?_)
      | (with_reducible refine wl_load rfl 9 _ gB 0 9 _ (encStr n) rfl Try.isAgg9 rfl rB rfl ?_)
      | ((with_reducible refine wl_build1 rfl 43 (.tmp 7) rfl 9 i0 (.string ByteArray.empty) (encStr n) Try.underlying43 hi hz hs rfl rfl rfl ?_); intro g3 w3 r3 p3 l3 b3; have rA := Row.later rA b3; have rB := Row.later rB b3; have b03 := bAB.trans (b3.mono bAB.size)))
    refine (HR.out w3 _ 1 1 b03 (by decide) (row_nms r3)).mono ?_
    rintro en w4 ⟨rfl, rfl⟩
    clear HR r3 p3 l3 b3 lA lB
    have cA := rA.cell (j := 0) rfl
    have cB := rB.cell (j := 0) rfl
    go_wp2_with fail
    refine (HC.out w3 gA gB b03 rA rB pA (Nat.le_trans bA.size pB)).mono ?_
    rintro en w5 ⟨rfl, h5⟩
    go_wp2_with fail
    go_ret
    exact ⟨rfl, h5.from b03⟩

end Go.Proofs.Ytaflmiopaiigbaa
