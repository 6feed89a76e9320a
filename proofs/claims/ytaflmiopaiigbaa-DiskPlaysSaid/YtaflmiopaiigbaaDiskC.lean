/-
  The disk: which names may be; the disk's own row; made, refuse, full. Own work.
-/
import Derived.Test.YtaflmiopaiigbaaDiskB
namespace Go.Proofs.Ytaflmiopaiigbaa
open Go.RowKit Go.Maps Go.ChangeMaps
set_option linter.unusedVariables false
set_option linter.unusedSimpArgs false
def okN (n : Nm) : Bool := decide (1 ≤ n.length) && decide (n.length ≤ 40)
theorem okN_le {n : Nm} (h : okN n = true) : n.length ≤ maxLen := by
  simp [okN] at h
  exact Nat.le_trans h.2 (by decide)
theorem enc_size (n : Nm) : (⟨n.toArray⟩ : ByteArray).size = n.length := by show n.toArray.size = _; simp
set_option maxRecDepth 100000 in
theorem named_any (n : Nm) (w : World) : Calls Try.prog 63 #[encStr n] w fun e w' => e = .returned (.bool (okN n)) ∧ w = w' := by
  have hsz := enc_size n
  by_cases h1 : 1 ≤ n.length
  · have hd : decide ((1 : Int) ≤ (n.length : Int)) = true := by simp; omega
    have he : okN n = decide ((n.length : Int) ≤ 40) := by
      simp only [okN, h1, decide_true, Bool.true_and]
      apply decide_eq_decide.2
      omega
    rw [he]
    go_enter Try.func63, Try.ntmps63
    go_wp2_with fail
    go_ret
    exact ⟨rfl, rfl⟩
  · have hd : decide ((1 : Int) ≤ (n.length : Int)) = false := by simp; omega
    have he : okN n = false := by simp [okN, h1]
    rw [he]
    go_enter Try.func63, Try.ntmps63
    go_wp2_with fail
    go_ret
    exact ⟨rfl, rfl⟩
/-- The plug that a disk has: a plug, or none. -/
def PlAt (w : World) (pl : Value) (on : Bool) (fuse : Int) : Prop := (∃ gp, pl = ptr gp ∧ Plg w gp on fuse) ∨ (pl = .pointer none ∧ on = false)
abbrev DRow (w : World) (gd : Nat) (pl mv : Value) : Prop := Row w 72 gd [pl, mv]
set_option maxRecDepth 100000 in
theorem livePl_any (w : World) (pl : Value) (on : Bool) (fuse : Int) (h : PlAt w pl on fuse) : Calls Try.prog 46 #[pl] w fun e w' => e = .returned (.bool on) ∧ w = w' := by
  rcases h with ⟨gp, rfl, h⟩ | ⟨rfl, rfl⟩
  · exact live_any w gp on fuse h
  · exact live_nil w
set_option maxRecDepth 100000 in
theorem made_yes (w : World) (gd mb : Nat) (pl : Value) (h : DRow w gd pl (.map (some mb))) : Calls Try.prog 47 #[ptr gd] w fun e w' => e = .returned (.bool true) ∧ w = w' := by
  have c1 := h.cell (j := 1) rfl
  have hneq : ∀ w, (binOp BinOp.neq 70 (.map (some mb)) (.map none)).run Try.prog w = .ok (.bool true) w := by intro w; rfl
  go_enter Try.func47, Try.ntmps47
  go_wp2_with fail
  go_ret
  exact ⟨rfl, rfl⟩
set_option maxRecDepth 100000 in
theorem made_zero (w : World) (gd : Nat) (pl : Value) (h : DRow w gd pl (.map none)) : Calls Try.prog 47 #[ptr gd] w fun e w' => e = .returned (.bool false) ∧ w = w' := by
  have c1 := h.cell (j := 1) rfl
  have hneq : ∀ w, (binOp BinOp.neq 70 (.map (none)) (.map none)).run Try.prog w = .ok (.bool false) w := by intro w; rfl
  go_enter Try.func47, Try.ntmps47
  go_wp2_with fail
  go_ret
  exact ⟨rfl, rfl⟩
set_option maxRecDepth 100000 in
theorem made_nil (w : World) : Calls Try.prog 47 #[.pointer none] w fun e w' => e = .returned (.bool false) ∧ w = w' := by
  go_enter Try.func47, Try.ntmps47
  go_wp2_with fail
  go_ret
  exact ⟨rfl, rfl⟩
/-- A disk that New did not make. -/
def Unmade (w : World) (v : Value) : Prop := v = .pointer none ∨ ∃ g, v = ptr g ∧ DRow w g (.pointer none) (.map none)
theorem Unmade.later {w w' : World} {v : Value} (h : Unmade w v) (hb : Below w.heap.size w w') : Unmade w' v := h.imp id fun ⟨g, e, r⟩ => ⟨g, e, Row.later r hb⟩
theorem made_no (w : World) (v : Value) (h : Unmade w v) : Calls Try.prog 47 #[v] w fun e w' => e = .returned (.bool false) ∧ w = w' := by
  rcases h with rfl | ⟨g, rfl, h⟩
  · exact made_nil w
  · exact made_zero w g _ h
/-- Names that stand in a row. -/
def NmsAt (w : World) (A : Option Addr) (m : Nat) (ns : List Nm) : Prop := ns.length = m ∧ (0 < m → ∃ b o, A = some ⟨b, o, none⟩ ∧ ∀ i, i < m → w.cell? ⟨b, o + i, none⟩ = some (encStr (ns.getD i [])))
def refE (ns : List Nm) (on : Bool) : Int := if ns.all okN then (if on then 0 else 8) else 1
set_option maxRecDepth 100000 in
theorem refuse_no (w : World) (v : Value) (A : Option Addr) (m c : Nat) (h : Unmade w v) : Calls Try.prog 54 #[v, .slice A m c] w fun e w' => e = .returned (.int .i64 2) ∧ w = w' := by
  go_enter Try.func54, Try.ntmps54
  go_wp2_with fail
  refine (made_no w v h).mono ?_
  rintro e w1 ⟨rfl, rfl⟩
  go_wp2_with fail
  go_ret
  exact ⟨rfl, rfl⟩
set_option maxRecDepth 100000 in
theorem refuse_any (w : World) (gd mb : Nat) (pl : Value) (on : Bool) (fuse : Int) (A : Option Addr) (m c : Nat) (ns : List Nm) (hm : m ≤ 2) (h : DRow w gd pl (.map (some mb))) (hp : PlAt w pl on fuse) (hn : NmsAt w A m ns) :
    Calls Try.prog 54 #[ptr gd, .slice A m c] w fun e w' => e = .returned (.int .i64 (refE ns on)) ∧ w = w' := by
  have HM := made_yes w gd mb pl h
  have HP := livePl_any w pl on fuse hp
  have HN := hide hn
  have c0 := h.cell (j := 0) rfl
  clear h hp hn
  go_enter Try.func54, Try.ntmps54
  go_wp2_with fail
  refine HM.mono ?_
  rintro e w1 ⟨rfl, rfl⟩
  have HM := hide HM
  have HP := hide HP
  go_wp2_with fail
  go_loopw [12] (fun iv wr => ∃ i : Nat, i ≤ m ∧ iv = .int .i64 i ∧ wr = w ∧ ∀ j, j < i → okN (ns.getD j []) = true) (fun iv _ => m - (intOf iv).toNat)
  case atStart => exact ⟨0, by omega, rfl, rfl, fun j hj => absurd hj (by omega)⟩
  case round =>
    obtain ⟨i, him, rfl, rfl, hok⟩ := hrel
    have HO := hide hok
    clear hok
    by_cases hi : i < m
    · obtain ⟨bb, oo, rfl, hcc⟩ := HN.out.2 (by omega)
      have ci := hcc i hi
      clear hcc
      generalize hne : ns.getD i [] = nn at ci
      have HNE := hide hne
      clear hne
      go_wp2_with fail
      refine (named_any _ _).mono ?_
      rintro e w1 ⟨rfl, rfl⟩
      cases hq : okN nn with
      | false =>
        go_wp2_with fail
        go_ret
        have hr : refE ns on = 1 := by
          have : ns.all okN = false := by
            apply Bool.eq_false_iff.2
            intro ha
            rw [List.all_eq_true] at ha
            have hlen := HN.out.1
            have := ha (ns.getD i []) (by rw [List.getD, List.getElem?_eq_getElem (by omega)]; simp)
            rw [HNE.out, hq] at this
            cases this
          simp [refE, this]
        exact ⟨by rw [hr]; rfl, rfl⟩
      | true =>
        go_wp2_with fail
        go_roundw
        case rel => exact ⟨i + 1, by omega, by go_num, by first | rfl | trivial, fun j hj => by
          by_cases hji : j = i
          · rw [hji, HNE.out]; exact hq
          · exact HO.out j (by omega)⟩
        case measure => simp [intOf]; omega
    · obtain rfl : i = m := by omega
      go_wp2_with fail
      refine HP.out.mono ?_
      rintro e w1 ⟨rfl, rfl⟩
      cases on with
      | false =>
        go_wp2_with fail
        go_ret
        have hr : refE ns false = 8 := by
          have : ns.all okN = true := by
            rw [List.all_eq_true]
            intro x hx
            obtain ⟨j, hj, rfl⟩ := List.getElem_of_mem hx
            have := HO.out j (by rw [← HN.out.1]; exact hj)
            rwa [List.getD, List.getElem?_eq_getElem hj] at this
          simp [refE, this]
        exact ⟨by rw [hr]; rfl, rfl⟩
      | true =>
        go_wp2_with fail
        go_ret
        have hr : refE ns true = 0 := by
          have : ns.all okN = true := by
            rw [List.all_eq_true]
            intro x hx
            obtain ⟨j, hj, rfl⟩ := List.getElem_of_mem hx
            have := HO.out j (by rw [← HN.out.1]; exact hj)
            rwa [List.getD, List.getElem?_eq_getElem hj] at this
          simp [refE, this]
        exact ⟨by rw [hr]; rfl, rfl⟩
theorem szFile (f : FV) : (Try.prog.info? 86).map (·.size) = some [Value.slice f.A f.n f.c, Value.int .i64 f.kept].length := by kernel_rfl
theorem zFile : (Try.prog.info? 86).map (fun i => i.zero) = some (some (.agg #[.slice none 0 0, .int .i64 0])) := by kernel_rfl
theorem one_file (f : FV) : ∀ u ∈ [Value.slice f.A f.n f.c, Value.int .i64 f.kept], u.oneCell' = true := by intro u hu; simp at hu; rcases hu with rfl | rfl <;> rfl
set_option maxRecDepth 100000 in
theorem full_any (w : World) (gd mb : Nat) (pl : Value) (fs : Fs) (n : Nm) (hn : n.length ≤ maxLen) (h : DRow w gd pl (.map (some mb))) (hm : FMap w mb fs) :
    Calls Try.prog 55 #[ptr gd, encStr n] w fun e w' => e = .returned (.bool (!(atF fs n).isSome && decide (64 ≤ fs.length))) ∧ Below w.heap.size w w' := by
  have c1 := h.cell (j := 1) rfl
  have hlen := ents_len fs
  obtain ⟨f, hf⟩ : ∃ f, (atF fs n).getD zV = f := ⟨_, rfl⟩
  obtain ⟨t, ht⟩ : ∃ t, (atF fs n).isSome = t := ⟨_, rfl⟩
  have hd : decide ((64 : Int) ≤ ((ents fs).length : Int)) = decide (64 ≤ fs.length) := by rw [hlen]; apply decide_eq_decide.2; omega
  rw [ht, ← hd]
  have HF := hide hf
  have HT := hide ht
  have HM := hide hm
  have HH := hide h
  clear hf ht hm hd hlen
  cases t with
  | true =>
    go_enter Try.func55, Try.ntmps55
    go_wp2_with (first
      | (with_reducible refine wl_look2 rfl (.tmp 11) (.tmp 12) n mb fs f true HF.out HT.out rfl rfl rfl HM.out hn ?_)
      | ((with_reducible refine wl_alloc rfl 86 _ [.slice none 0 0, .int .i64 0] rfl zFile rfl ?_); intro g9 w4 r9 p9 l9 b9)
      | ((with_reducible refine wl_store_row rfl 86 (.tmp 5) (.tmp 14) g9 86 _ [.slice f.A f.n f.c, .int .i64 f.kept] rfl rfl rfl r9 (szFile f) rfl (one_file f) ?_); intro w5 r10 o10))
    go_ret
    exact ⟨rfl, b9.trans (o10.below p9)⟩
  | false =>
    go_enter Try.func55, Try.ntmps55
    go_wp2_with (first
      | (with_reducible refine wl_look2 rfl (.tmp 11) (.tmp 12) n mb fs f false HF.out HT.out rfl rfl rfl HM.out hn ?_)
      | ((with_reducible refine wl_alloc rfl 86 _ [.slice none 0 0, .int .i64 0] rfl zFile rfl ?_); intro g9 w4 r9 p9 l9 b9)
      | ((with_reducible refine wl_store_row rfl 86 (.tmp 5) (.tmp 14) g9 86 _ [.slice f.A f.n f.c, .int .i64 f.kept] rfl rfl rfl r9 (szFile f) rfl (one_file f) ?_); intro w5 r10 o10; have bB := b9.trans (o10.below p9); have m5 := HM.out.later bB; have c5 := (HH.out.later bB).cell (j := 1) rfl)
      | (with_reducible refine wg_mapLen 2 true 18 rfl rfl rfl (.tmp 22) mb (ents fs) rfl rfl m5 ?_))
    go_ret
    exact ⟨rfl, bB⟩
end Go.Proofs.Ytaflmiopaiigbaa
