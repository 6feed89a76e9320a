/-
  A decoder: a command. Contract. Own work.
-/
import Derived.Test.YthjcmgjmdjihnaaDoorRespD
namespace Go.Proofs.YthjcmgjmdjihnaaDoor
open Go.RowKit Go.Shelf
set_option linter.unusedVariables false
set_option linter.unusedSimpArgs false
theorem own_at {w w' : World} {B e size n : Nat} {v : Value} {xs : List Value} (h : w.ownsRow B e size v n xs) (hb : ∀ k, v.ownBlock = some k → w'.heap[k]? = w.heap[k]?) : w'.ownsRow B e size v n xs :=
  ⟨h.1, h.2.imp id fun ⟨g, cap, cur, e1, h1, hg, h2⟩ => ⟨g, cap, cur, e1, h1, (hb g (by rw [e1]; rfl)).trans hg, h2⟩⟩
theorem own_later {w w' : World} {B e size n : Nat} {v : Value} {xs : List Value} (h : w.ownsRow B e size v n xs) (hb : Below w.heap.size w w') : w'.ownsRow B e size v n xs := own_at h fun k hk => hb.block k (h.lt k hk).2
theorem own_but {w w' : World} {B e size n g : Nat} {v : Value} {xs : List Value} (h : w.ownsRow B e size v n xs) (hb : But g w w') (hg : g < B) : w'.ownsRow B e size v n xs := own_at h fun k hk => hb.block k (h.lt k hk).2 (by have := (h.lt k hk).1; omega)
theorem own_grown {w w' : World} {T T' e e' s s' n n' : Nat} {v v' : Value} {xs xs' : List Value} (h : w.ownsRow T e s v n xs) (h' : w.ownsRow T' e' s' v' n' xs') (ht : e ≠ e') (hg : w.grownBy w' v'.ownBlock) : w'.ownsRow T e s v n xs := by
  refine own_at h fun k hk => hg.block k (h.lt k hk).2 fun hk' => ?_
  rcases h.2 with ⟨rfl, _⟩ | ⟨g, cap, cur, rfl, _, hg1, _⟩
  · cases hk
  rcases h'.2 with ⟨rfl, _⟩ | ⟨g', cap', cur', rfl, _, hg2, _⟩
  · cases hk'
  · injection hk with hk
    injection hk' with hk'
    subst hk
    subst hk'
    have := hg1.symm.trans hg2
    simp at this
    exact ht this.2
theorem Row.grownS {w w' : World} {t g T e size n : Nat} {vs : List Value} {v : Value} {xs : List Value} (h : Row w t g vs) (ho : w.ownsRow T e size v n xs) (ht : t ≠ e) (hg : w.grownBy w' v.ownBlock) : Row w' t g vs := by
  refine (hg.block g h.lt (fun hk => ?_)).trans h
  rcases ho.2 with ⟨rfl, _⟩ | ⟨g', cap', cur', rfl, _, hc', _⟩
  · simp [Value.ownBlock] at hk
  · simp [Value.ownBlock] at hk
    subst hk
    have := (show w.heap[g]? = _ from h).symm.trans hc'
    simp at this
    exact ht this.2
theorem But.grown {g : Nat} {w0 w w' : World} {blk : Option Nat} (h : But g w0 w) (gr : w.grownBy w' blk) (hb : ∀ k, blk = some k → w0.heap.size ≤ k) : But g w0 w' :=
  ⟨gr.os.trans h.os, gr.tape.trans h.tape, gr.output.trans h.output, Nat.le_trans h.size gr.size, fun k hk hg => (gr.block k (Nat.lt_of_lt_of_le hk h.size) (fun e => by have := hb k e.symm; omega)).trans (h.block k hk hg)⟩
theorem Below.grownB {B : Nat} {w0 w w' : World} {blk : Option Nat} (h : Below B w0 w) (gr : w.grownBy w' blk) (hb : ∀ k, blk = some k → B ≤ k) (hB : B ≤ w.heap.size) : Below B w0 w' := h.grown gr hB hb
theorem DecAt.grown {w w' : World} {g B : Nat} {s : Wd} {blk : Option Nat} (h : DecAt w g B s) (gr : w.grownBy w' blk) (hb : ∀ k, blk = some k → g < k) : DecAt w' g B s := by
  obtain ⟨A, c, r, h1, h2, h3⟩ := h
  have hlt := r.lt
  exact ⟨A, c, (gr.block g r.lt (fun e => by have := hb g e.symm; omega)).trans r, h1.below ((Below.refl _ _).grown gr (by omega) (fun k hk => by have := hb k hk; omega)), h2, h3⟩
/-- Words of bytes in a row of one's own; the bytes lie below block B. -/
def OwBs (w : World) (T B : Nat) (v : Value) (l : List Wd) : Prop := ∃ vs : List Value, w.ownsRow T 26 1 v l.length vs ∧ ∀ (i : Nat) (u : Value) (a : Wd), vs[i]? = some u → l[i]? = some a → BsV w B u a
theorem OwBs.nil (w : World) (T B : Nat) : OwBs w T B (.slice none 0 0) [] := ⟨[], World.ownsRow_nil _ _ _ _, fun i u a h => by simp at h⟩
theorem OwBs.below {w w' : World} {T B : Nat} {v : Value} {l : List Wd} (h : OwBs w T B v l) (hb : Below w.heap.size w w') (hB : B ≤ w.heap.size) : OwBs w' T B v l := by
  obtain ⟨vs, h1, h2⟩ := h
  exact ⟨vs, own_later h1 hb, fun i u a hu ha => (h2 i u a hu ha).below (hb.mono hB)⟩
theorem OwBs.but {w w' : World} {T B g : Nat} {v : Value} {l : List Wd} (h : OwBs w T B v l) (hb : But g w w') (hg : g < T) (hB : B ≤ g) (hw : B ≤ w.heap.size) : OwBs w' T B v l := by
  obtain ⟨vs, h1, h2⟩ := h
  exact ⟨vs, own_but h1 hb hg, fun i u a hu ha => (h2 i u a hu ha).below (hb.below hB hw)⟩
theorem OwBs.push {w w' : World} {T B : Nat} {v' u : Value} {l : List Wd} {a : Wd} {vs : List Value} (h : ∀ (i : Nat) (u : Value) (a : Wd), vs[i]? = some u → l[i]? = some a → BsV w B u a) (hl : vs.length = l.length) (h2 : w'.ownsRow T 26 1 v' (l.length + 1) (vs ++ [u])) (hu : BsV w B u a) (hb : Below B w w') : OwBs w' T B v' (l ++ [a]) := by
  refine ⟨vs ++ [u], by rw [List.length_append]; exact h2, fun i u' a' hu' ha' => ?_⟩
  rcases Nat.lt_or_ge i l.length with hi | hi
  · rw [List.getElem?_append_left (by omega)] at hu' ha'
    exact (h i u' a' hu' ha').below hb
  · rw [List.getElem?_append_right (by omega)] at hu' ha'
    obtain hi0 : i - l.length = 0 := by
      have := (List.getElem?_eq_some_iff.1 ha').1
      simp at this; omega
    rw [hl, hi0] at hu'
    rw [hi0] at ha'
    simp at hu' ha'
    subst hu'
    subst ha'
    exact hu.below hb
theorem slInfo : ∃ i, Tryd.prog.info? 26 = some i ∧ i.zero = some (.slice none 0 0) ∧ i.size = 1 ∧ i.bytes = 24 := by
  have h : (Tryd.prog.info? 26).map (fun i => (i.zero, i.size, i.bytes)) = some (some (.slice none 0 0), 1, 24) := by kernel_rfl
  cases hq : Tryd.prog.info? 26 with
  | none => rw [hq] at h; cases h
  | some i =>
    rw [hq] at h
    simp only [Option.map_some, Option.some.injEq, Prod.mk.injEq] at h
    exact ⟨i, rfl, h.1, h.2.1, h.2.2⟩
/-- What is read, words ahead. -/
def preR (l : List Wd) (x : Except Nat (List Wd × Wd)) : Except Nat (List Wd × Wd) := match x with
  | .error e => .error e
  | .ok p => .ok (l ++ p.1, p.2)
theorem preR_nil (x : Except Nat (List Wd × Wd)) : preR [] x = x := by cases x <;> rfl
theorem words_step {n : Nat} {q r a : Wd} {l : List Wd} (h : wordL q = .ok (a, r)) : preR l (wordsL (n + 1) q) = preR (l ++ [a]) (wordsL n r) := by
  show preR l (bindE wordL (fun a => bindE (wordsL n) fun l q => .ok (a :: l, q)) q) = _
  rw [bindE_ok h]
  unfold bindE
  cases wordsL n r with
  | error e => rfl
  | ok p => simp [preR]
theorem words_err {n e : Nat} {q : Wd} {l : List Wd} (h : wordL q = .error e) : preR l (wordsL (n + 1) q) = .error e := by
  show preR l (bindE wordL (fun a => bindE (wordsL n) fun l q => .ok (a :: l, q)) q) = _
  rw [bindE_err h]; rfl
def CmdRes (w : World) (g B : Nat) (s : Wd) : Ending → World → Prop := DRes w g B (cmdL s) (fun l v w' => OwBs w' w.heap.size B v l)
set_option maxRecDepth 100000 in
set_option maxHeartbeats 2000000 in
theorem command_dec (g B : Nat) (s : Wd) (w : World) (h : DecAt w g B s) (hs : s.length ≤ 150000000000000) (hT : TabB w B) : Calls Tryd.prog 25 #[.pointer (some ⟨g, 0, none⟩)] w (CmdRes w g B s) := by
  have H1 := count_dec g B 42 40 s w h hs hT (by decide)
  have HC := hide (fun (w2 : World) (q : Wd) (hq : DecAt w2 g B q) (hl : q.length ≤ s.length) (hb : But g w w2) => count_dec g B 36 512 q w2 hq (Nat.le_trans hl hs) (hT.below (hb.bl h)) (by decide))
  have HX := hide (fun (w2 : World) (q : Wd) (k : Nat) (hq : DecAt w2 g B q) (hl : q.length ≤ s.length) (hk : k ≤ 512) => text_dec g B k q w2 hq (Nat.le_trans hl hs) (Nat.le_trans hk (by decide)))
  have hlt := hide h.lt
  have hB := hide h.hB
  obtain ⟨ip, hip, hiz, his, hib⟩ := slInfo
  have h01 : 0 < 1 := by decide
  clear h hs hT
  go_enter Tryd.func25, Tryd.ntmps25
  go_wp2_with fail
  refine H1.mono ?_
  intro e w1 hr
  clear H1
  cases hq : cntL 42 40 s with
  | error er =>
    unfold CntRes at hr
    rw [hq] at hr
    obtain ⟨bu, rfl⟩ := hr
    have hR : cmdL s = .error er := bindE_err hq
    replace hR := hide hR
    clear hq
    go_wp2_with fail
    exact ⟨rfl, DRes.err hR.out bu⟩
  | ok p =>
    obtain ⟨n, q⟩ := p
    unfold CntRes at hr
    rw [hq] at hr
    obtain ⟨bu, ⟨v, rfl, hv⟩, d1⟩ := hr
    simp only at hv
    subst hv
    have hR := hide (show cmdL s = preR [] (wordsL n q) from (bindE_ok hq).trans (preR_nil _).symm)
    have hn40 := (cntL_less hq).2
    have hql := hide (show q.length ≤ s.length by have := (cntL_less hq).1; omega)
    have hn9 : (n : Int) ≤ 40 := by omega
    replace hn40 := hide hn40
    clear hq
    go_wp2_with fail
    go_loopw [3, 6] (fun ov iv wr => ∃ (i : Nat) (l : List Wd) (q : Wd), i ≤ n ∧ l.length = i ∧ iv = .int .i64 (i : Int) ∧ OwBs wr w.heap.size B ov l ∧ DecAt wr g B q ∧ q.length ≤ s.length ∧ But g w wr ∧ cmdL s = preR l (wordsL (n - i) q)) (fun _ iv _ => 200 - (intOf iv).toNat)
    case atStart => exact ⟨0, [], q, by omega, rfl, rfl, OwBs.nil _ _ _, d1, hql.out, bu, by rw [Nat.sub_zero]; exact hR.out⟩
    case round =>
      obtain ⟨i, l, q2, hi, hli, rfl, own, d2, hq2, bu2, hc⟩ := hrel
      clear bu d1 hR hql
      have hwb := bu2.size
      by_cases hin : i < n
      · have hinI : (i : Int) < (n : Int) := by omega
        have HC2 := HC.out wr q2 d2 hq2 bu2
        obtain ⟨k1, hk1⟩ : ∃ k, n - i = k + 1 := ⟨n - i - 1, by omega⟩
        rw [hk1] at hc
        have hk1b := hide hk1
        have hin9 := hide hin
        have hi9 := hide hi
        replace hli := hide hli
        replace hc := hide hc
        replace hq2 := hide hq2
        clear hin hi hk1
        go_wp2_with fail
        refine HC2.mono ?_
        intro e w2 hr
        clear HC2
        cases hq : cntL 36 512 q2 with
        | error er =>
          unfold CntRes at hr
          rw [hq] at hr
          obtain ⟨bu3, rfl⟩ := hr
          have hR := hide (show cmdL s = .error er from hc.out.trans (words_err (bindE_err hq)))
          clear hq
          go_wp2_with fail
          exact ⟨rfl, DRes.err hR.out (bu2.trans bu3)⟩
        | ok p =>
          obtain ⟨k, q3⟩ := p
          unfold CntRes at hr
          rw [hq] at hr
          obtain ⟨bu3, ⟨v, rfl, hv⟩, d3⟩ := hr
          simp only at hv
          subst hv
          have hl3 := cntL_less hq
          have HX2 := HX.out w2 q3 k d3 (by have := hq2.out; omega) hl3.2
          have own3 := own.but bu3 hlt.out.1 hlt.out.2 d2.hB
          replace hq := hide hq
          replace hl3 := hide hl3
          clear own d2
          go_wp2_with fail
          refine HX2.mono ?_
          intro e w4 hr
          clear HX2
          cases ht : textL k q3 with
          | error er =>
            rw [ht] at hr
            obtain ⟨bu4, rfl⟩ := hr
            have hR := hide (show cmdL s = .error er from hc.out.trans (words_err ((bindE_ok hq.out).trans ht)))
            clear ht
            go_wp2_with fail
            exact ⟨rfl, DRes.err hR.out (bu2.trans (bu3.trans bu4))⟩
          | ok p =>
            obtain ⟨a, q4⟩ := p
            rw [ht] at hr
            obtain ⟨bu4, ⟨v, rfl, hv⟩, d4⟩ := hr
            simp only at hv d4
            have hR := hide (show cmdL s = preR (l ++ [a]) (wordsL k1 q4) from hc.out.trans (words_step ((bindE_ok hq.out).trans ht)))
            have hl4 := hide (show q4.length ≤ s.length by have := textL_less ht; have := hl3.out; have := hq2.out; omega)
            have own4 := own3.but bu4 hlt.out.1 hlt.out.2 d3.hB
            have bu5 := bu2.trans (bu3.trans bu4)
            have hw5 := bu5.size
            obtain ⟨vs, ow, hvs⟩ := own4
            have hvl : vs.length = l.length := by have := ow.1; omega
            have hlI : l.length ≤ 1000 := by have := hli.out; have := hi9.out; have := hn40.out; omega
            have hm1 := hide (show l.length + 1 ≤ maxLen by simp only [maxLen]; omega)
            have hm2 := hide (show (l.length + 1) * 24 ≤ 140737488355328 by omega)
            have ho1 : ∀ u ∈ [v], u.oneCell' = true := by
              obtain ⟨A7, c7, rfl, _⟩ := hv
              simp [Value.oneCell']
            have hvc : v.cells = #[v] := by
              obtain ⟨A7, c7, rfl, _⟩ := hv
              rfl
            generalize u3 = ov at *
            replace hvs := hide hvs
            replace hvl := hide hvl
            clear ht hlI own3
            go_wp2_with (first
              | ((with_reducible refine wl_build1 (o := ⟨some 13, _, _, _, _, _⟩) rfl 22 (.tmp 12) rfl 26 ip (.slice none 0 0) v Tryd.underlying22 hip hiz his rfl rfl hvc ?_); intro g6 w6 r6 p6 l6 b6; have own6 := own_later ow b6; have hwb6 := Nat.le_trans hw5 b6.size)
              | ((at_builtin; with_reducible refine wl_append_at (o := ⟨some 14, _, _, _, _, _⟩) rfl (.tmp 8) (.tmp 13) 22 rfl w.heap.size 26 ip _ 1 24 Tryd.underlying22 hip hiz his hib rfl h01 ov _ _ rfl own6 ⟨g6, 0, none⟩ 1 1 [v] rfl rfl (row_src r6) ho1 hm1.out hm2.out hwb6 ?_); intro v7 w7 own7 gr7 at7))
            go_roundw
            case rel =>
              have hown : ∀ k, ov.ownBlock = some k → w.heap.size ≤ k := fun k hk => (own6.lt k hk).1
              have bu6 := bu5.trans (But.of b6 g)
              have d6 := d4.below b6
              have d7 := d6.grown gr7 fun k hk => Nat.lt_of_lt_of_le hlt.out.1 (hown k hk)
              have bu7 := bu6.grown gr7 hown
              refine ⟨i + 1, l ++ [a], q4, by have := hin9.out; omega, by rw [List.length_append, hli.out]; rfl, by go_num, ?_, d7, hl4.out, bu7, ?_⟩
              · refine OwBs.push hvs.out hvl.out own7 hv ?_
                exact (Below.refl B w4).trans ((b6.mono d4.hB).grown gr7 d6.hB (fun k hk => Nat.le_trans hB.out (hown k hk)))
              · rw [show n - (i + 1) = k1 by have := hk1b.out; omega]
                exact hR.out
            case measure => have := hin9.out; have := hn40.out; simp [intOf]; omega
      · obtain rfl : i = n := by omega
        rw [Nat.sub_self] at hc
        have hR := hide (show cmdL s = .ok (l, q2) by rw [hc]; simp [wordsL, preR])
        clear hc
        go_wp2_with fail
        go_ret
        exact DRes.ok hR.out bu2 own d2
end Go.Proofs.YthjcmgjmdjihnaaDoor
