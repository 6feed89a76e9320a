/-
  Poly: what is written: contract. Own work.
-/
import Derived.Test.YtcinhofapkddpaaPolyJ
namespace Go.Proofs.Ytcinhofapkddpaa
open Go.RowKit
set_option linter.unusedVariables false
set_option linter.unusedSimpArgs false
/-- The bytes that are no piece yet. -/
def restL (xs : List Int) : List Int := xs.drop (16 * (xs.length / 16))
/-- These, in sixteen places. -/
def heldL (xs : List Int) : List Int := restL xs ++ List.replicate (16 - xs.length % 16) 0
theorem restL_len (xs : List Int) : (restL xs).length = xs.length % 16 := by simp [restL]; omega
theorem heldL_len (xs : List Int) : (heldL xs).length = 16 := by simp [heldL, restL_len]; omega
theorem heldL_take (xs : List Int) : (heldL xs).take (xs.length % 16) = restL xs := by
  rw [heldL, List.take_append_of_le_length (by rw [restL_len]; omega), List.take_of_length_le (by rw [restL_len]; omega)]
theorem IsBy.rep (n : Nat) : IsBy (List.replicate n 0) := fun x hx => by
  obtain ⟨_, rfl⟩ := List.mem_replicate.1 hx; omega
theorem heldL_by {xs : List Int} (h : IsBy xs) : IsBy (heldL xs) := (h.drop _).app (IsBy.rep _)
theorem filled_eq (xs zs : List Int) (h : xs.length % 16 + zs.length ≤ 16) : (heldL xs).take (xs.length % 16) ++ (zs ++ (heldL xs).drop (xs.length % 16 + zs.length)) = restL xs ++ (zs ++ List.replicate (16 - (xs.length % 16 + zs.length)) 0) := by
  rw [heldL_take]
  congr 2
  rw [heldL, List.drop_append, List.drop_eq_nil_of_le (by rw [restL_len]; omega), restL_len, List.nil_append, List.drop_replicate]
  congr 1
  omega
/-- Memory holds a Mac that has taken in xs. -/
def MacAt (w : World) (g R S : Nat) (xs : List Int) : Prop := Row w 48 g (macL (heldL xs) (xs.length % 16) R S (totI R xs (xs.length / 16)))
theorem fill_short {xs zs : List Int} (h : xs.length % 16 + zs.length < 16) (R S : Nat) :
    macL (restL xs ++ (zs ++ List.replicate (16 - (xs.length % 16 + zs.length)) 0)) (xs.length % 16 + zs.length) R S (totI R xs (xs.length / 16)) = macL (heldL (xs ++ zs)) ((xs ++ zs).length % 16) R S (totI R (xs ++ zs) ((xs ++ zs).length / 16)) := by
  have e1 : (xs ++ zs).length / 16 = xs.length / 16 := by rw [List.length_append]; omega
  have e2 : (xs ++ zs).length % 16 = xs.length % 16 + zs.length := by rw [List.length_append]; omega
  have e3 : restL (xs ++ zs) = restL xs ++ zs := by
    unfold restL
    rw [e1, List.drop_append_of_le_length (by omega)]
  rw [e1, e2, totI_append _ _ _ _ (by omega), heldL, e3, e2, List.append_assoc]
theorem fill_full {xs zs : List Int} (h : xs.length % 16 + zs.length = 16) (R : Nat) :
    stepI R (totI R xs (xs.length / 16)) ((restL xs ++ (zs ++ List.replicate (16 - (xs.length % 16 + zs.length)) 0)).take 16) = totI R (xs ++ zs) ((xs ++ zs).length / 16) ∧ heldL (xs ++ zs) = List.replicate 16 0 ∧ (xs ++ zs).length % 16 = 0 := by
  have e1 : (xs ++ zs).length / 16 = xs.length / 16 + 1 := by rw [List.length_append]; omega
  have e2 : (xs ++ zs).length % 16 = 0 := by rw [List.length_append]; omega
  refine ⟨?_, ?_, e2⟩
  · rw [e1]
    simp only [totI]
    rw [totI_append _ _ _ _ (by omega)]
    congr 1
    rw [List.drop_append_of_le_length (by omega), restL, h]
    simp
  · have : restL (xs ++ zs) = [] := List.eq_nil_of_length_eq_zero (by rw [restL_len, e2])
    rw [heldL, this, e2]
    rfl
def lenOf : Value → Nat
  | .slice _ n _ => n
  | _ => 0
theorem builtPart : Try.prog.built 41 [] = some (bv (List.replicate 16 0) ++ [Value.int .i64 0]).toArray := by kernel_rfl
theorem sizePart : (Try.prog.info? 41).map (·.size) = some (bv (List.replicate 16 0) ++ [Value.int .i64 0]).length := by kernel_rfl
theorem onePart : ∀ u ∈ bv (List.replicate 16 0) ++ [Value.int .i64 0], u.oneCell' = true := by
  intro u hu
  rcases List.mem_append.1 hu with h | h
  · exact bv_one _ u h
  · exact one_int _ _ u h
set_option maxRecDepth 100000 in
set_option maxHeartbeats 2000000 in
theorem write_any (g R S m c B : Nat) (xs ys : List Int) (A : Option Addr) (w : World) (hm : MacAt w g R S xs) (hR : R < 2 ^ 124) (hx : IsBy xs) (hy : IsBy ys) (hb : Bs w B A m ys) (hB : B ≤ g) (hc : m ≤ c) :
    Calls Try.prog 15 #[.pointer (some ⟨g, 0, none⟩), .slice A m c] w fun e w' => e = .returned (.tuple #[]) ∧ MacAt w' g R S (xs ++ ys) ∧ But g w w' := by
  have HR := hide hR
  clear hR
  go_enter Try.func15, Try.ntmps15
  go_wp2_with fail
  go_loopw [1] (fun v wr => ∃ (j c' : Nat) (A' : Option Addr), j ≤ m ∧ v = .slice A' (m - j) c' ∧ m - j ≤ c' ∧ Bs wr B A' (m - j) (ys.drop j) ∧ MacAt wr g R S (xs ++ ys.take j) ∧ But g w wr) (fun v _ => lenOf v)
  case atStart => exact ⟨0, c, A, Nat.zero_le _, rfl, hc, by simpa using hb, by simpa using hm, But.refl _ _⟩
  case round =>
    obtain ⟨j, c', A', hj, rfl, hc', hbs, hma, hbt⟩ := hrel
    by_cases hlt : j < m
    · have hdec : decide ((0 : Int) < ((m - j : Nat) : Int)) = true := by simp; omega
      have hxj : IsBy (xs ++ ys.take j) := hx.app (hy.take j)
      have hzl : ((ys.drop j).take (min (m - j) (16 - (xs ++ ys.take j).length % 16))).length = min (m - j) (16 - (xs ++ ys.take j).length % 16) := by
        rw [List.length_take, List.length_drop, hb.1]; omega
      have hzb : IsBy ((ys.drop j).take (min (m - j) (16 - (xs ++ ys.take j).length % 16))) := (hy.drop j).take _
      have hcat : (xs ++ ys.take j) ++ (ys.drop j).take (min (m - j) (16 - (xs ++ ys.take j).length % 16)) = xs ++ ys.take (j + min (m - j) (16 - (xs ++ ys.take j).length % 16)) := by
        rw [List.append_assoc, List.take_add]
      have hn : (xs ++ ys.take j).length % 16 < 16 := Nat.mod_lt _ (by decide)
      generalize hk0 : min (m - j) (16 - (xs ++ ys.take j).length % 16) = k at *
      have hkp : 0 < k := by omega
      have hkm : k ≤ m - j := by omega
      have hkn : (xs ++ ys.take j).length % 16 + k ≤ 16 := by omega
      have HK := hide hk0.symm
      have hfe := filled_eq (xs ++ ys.take j) ((ys.drop j).take k) (by rw [hzl]; exact hkn)
      have hsh : (xs ++ ys.take j).length % 16 + k < 16 → _ := fun h => fill_short (xs := xs ++ ys.take j) (zs := (ys.drop j).take k) (by rw [hzl]; exact h) R S
      have hfu : (xs ++ ys.take j).length % 16 + k = 16 → _ := fun h => fill_full (xs := xs ++ ys.take j) (zs := (ys.drop j).take k) (by rw [hzl]; exact h) R
      have hFL := fill_any g 48 ((xs ++ ys.take j).length % 16) (m - j) c' B k (heldL (xs ++ ys.take j)) (ys.drop j) (fb R ++ (nb S ++ nb (totI R (xs ++ ys.take j) ((xs ++ ys.take j).length / 16)))) A' wr hma (heldL_len _) hn hbs hB (by omega) HK.out hc'
      have hhb : IsBy (restL (xs ++ ys.take j) ++ ((ys.drop j).take k ++ List.replicate (16 - ((xs ++ ys.take j).length % 16 + k)) 0)) := (hxj.drop _).app (hzb.app (IsBy.rep _))
      have hhl : (restL (xs ++ ys.take j) ++ ((ys.drop j).take k ++ List.replicate (16 - ((xs ++ ys.take j).length % 16 + k)) 0)).length = 16 := by
        rw [List.length_append, List.length_append, restL_len, hzl, List.length_replicate]; omega
      have hTl := totI_lt HR.out hxj ((xs ++ ys.take j).length / 16)
      rw [hzl] at hfe hsh hfu
      rw [hfe] at hFL
      rw [hcat] at hsh hfu
      have hbs' : ∀ w', But g wr w' → Bs w' B (subA A' c' k) (m - (j + k)) (ys.drop (j + k)) := fun w' hw => by
        have h1 := (hbs.keep (w' := w') fun p hp => hw.cellB hB (Nat.le_trans hB (Nat.le_of_lt hma.lt)) hp).sub (I := k) (K := m - j) hkm (Nat.le_refl _) hc'
        rw [List.drop_drop, List.take_of_length_le (by rw [List.length_drop, hb.1]; omega), Nat.sub_sub] at h1
        exact h1
      have HSH := hide hsh
      have HFU := hide hfu
      have hmj := Nat.sub_sub m j k
      have HMJ := hide hmj
      clear hk0 hfe hsh hfu hcat hzl hzb hmj
      generalize (xs ++ ys.take j).length % 16 = n at *
      generalize totI R (xs ++ ys.take j) ((xs ++ ys.take j).length / 16) = T at *
      generalize restL (xs ++ ys.take j) ++ ((ys.drop j).take k ++ List.replicate (16 - (n + k)) 0) = held at *
      go_wp2_with fail
      refine hFL.mono ?_
      rintro e w1 ⟨rfl, r1, b1⟩
      go_wp2_with fail
      refine (full_any g 48 (n + k) _ w1 r1 (mac16 hhl (n + k) R S T)).mono ?_
      rintro e w2 ⟨rfl, rfl⟩
      by_cases h16 : n + k = 16
      · have hbt' : (((n + k : Nat) : Int) == 16) = true := beq_iff_eq.2 (by omega)
        rw [hbt']
        obtain ⟨f1, f2, f3⟩ := HFU.out h16
        have hN := next_any g 16 R S T held w1 (by rw [← h16]; exact r1) hhl hhb (by decide) (by decide) HR.out hTl
        rw [h16] at r1
        rw [show held.take 16 = held from List.take_of_length_le (by omega)] at hN
        have hfin : stepI R T held = totI R (xs ++ ys.take (j + k)) ((xs ++ ys.take (j + k)).length / 16) := by
          rw [← f1, List.take_of_length_le (by omega)]
        have HFI := hide hfin
        clear hfin f1
        generalize stepI R T held = T' at *
        go_wp2_with fail
        refine hN.mono ?_
        rintro e w2 ⟨rfl, b2⟩
        have r2 : Row w2 48 g ((bv held ++ (.int .i64 16 :: (fb R ++ nb S))) ++ (nb T ++ [])) := by
          have := r1.later b2
          simpa using this
        have l22 : (bv held ++ (Value.int .i64 16 :: (fb R ++ nb S))).length = 22 := by simp [bv_len, hhl, fb, nb]
        have hsh : (bv held ++ (Value.int .i64 16 :: (fb R ++ nb S))) ++ (nb T' ++ []) = [] ++ ((bv held ++ [Value.int .i64 16]) ++ (fb R ++ (nb S ++ nb T'))) := by simp
        have l17 : (bv held ++ [Value.int .i64 16]).length = (bv (List.replicate 16 0) ++ [Value.int .i64 0]).length := by simp [bv_len, hhl]
        go_wp2_with (first
          | (with_reducible refine wl_store_part rfl 46 (.tmp 22) (.tmp 20) g 22 48 _ (nb T) [] (nb T') rfl rfl rfl r2 l22 rfl (sizeNb _) (oneNb _) ?_; intro w3 r3 o3; rw [hsh] at r3)
          | ((with_reducible refine wl_build rfl 41 [] rfl [] ?hv _ builtPart ?hk); case hv => rfl)
          | (with_reducible refine wl_store_part rfl 41 (.tmp 26) (.tmp 24) g 0 48 [] (bv held ++ [Value.int .i64 16]) (fb R ++ (nb S ++ nb T')) (bv (List.replicate 16 0) ++ [Value.int .i64 0]) rfl rfl rfl r3 rfl l17 sizePart onePart ?_; intro w4 r4 o4))
        have s2 := b2.size
        simp only [Act.put]
        go_roundw
        case rel =>
          refine ⟨j + k, c' - k, _, by omega, by rw [HMJ.out], by omega, hbs' _ ?_, ?_, ?_⟩
          · exact ((b1.trans (But.of b2 g)).trans (But.only o3)).trans (But.only o4)
          · unfold MacAt
            rw [f2, f3, ← HFI.out]
            simpa [macL] using r4
          · exact hbt.trans (((b1.trans (But.of b2 g)).trans (But.only o3)).trans (But.only o4))
        case measure => simp [lenOf]; omega
      · have hbf : (((n + k : Nat) : Int) == 16) = false := beq_eq_false_iff_ne.2 (by omega)
        have r2 := HSH.out (by omega)
        rw [hbf]
        go_wp2
        refine ⟨⟨j + k, c' - k, _, by omega, by rw [HMJ.out], by omega, hbs' _ b1, ?_, hbt.trans b1⟩, by simp [lenOf]; omega⟩
        unfold MacAt
        rw [← r2]
        exact r1
    · have : j = m := by omega
      subst this
      go_wp2
      go_end0
      refine ⟨rfl, ?_, hbt⟩
      rw [List.take_of_length_le (Nat.le_of_eq hb.1)] at hma
      exact hma
end Go.Proofs.Ytcinhofapkddpaa
