/- Proved: the law ShaPieces (P5.3) answers true and leaves its arguments as they read before. For every list of bytes and every two cuts; no condition but the tie of the two tables of sha to the program's text. -/
import Derived.Test.YtlhgfobhdhddlaaDoorRows
import Derived.Test.YtlhgfobhdhddlaaDoorCards
import Derived.Test.YtlhgfobhdhddlaaDoorTie
import Derived.WalkKit
import Derived.ProofKit
import Derived.OpenShut
import Derived.ShutString
import Derived.ChangeOld
import Derived.Below
import Derived.LaidMore
import Derived.Stop.Joined
import Derived.SevenTiedAt
import Derived.Test.YtlhgfobhdhddlaaDoorGD
import Derived.Test.YtlhgfobhdhddlaaDoorGC
set_option linter.unusedVariables false
set_option linter.unusedSimpArgs false
/-
  The law ShaPieces: contract. Own work.
-/
namespace Go.Proofs.YtlhgfobhdhddlaaDoor
open Go.RowKit
theorem run_lenS {P : Program} {o : Oper} {a : Act} {w : World} (t : TypeId) (x : Operand) (e : TypeId) (A : Option Addr) (n c : Nat) (ho : o.op = .call { callee := .builtin .len, args := #[x], argTypes := #[t] }) (ht : P.underlying t = some (.slice e)) (hx : a.eval x = .slice A n c) :
    (execOp a.eval o).run P w = .ok (.value (.int .i64 (n : Int))) w := by
  unfold execOp
  simp only [ho, resolve, invoke, builtin, Sem.run_bind, Sem.run_pure, Result.andThen_ok, List.map_toArray, List.map_cons, List.map_nil, hx]
  simp [Builtin.len_, underlying, ht]
  rfl
theorem two_of {zs : List Int} (h : zs.length = 2) : ∃ a b, zs = [a, b] := by
  match zs, h with
  | [a, b], _ => exact ⟨a, b, rfl⟩
theorem HashAt.only {w w' : World} {g g' : Nat} {xs : List Int} (h : HashAt w g xs) (ho : Only g' w w') (hne : g ≠ g') : HashAt w' g xs := by
  obtain ⟨held, h1, h2, h3, h4⟩ := h
  exact ⟨held, h1, h2, h3, h4.only ho hne⟩
def SPc (FI FS : List Int) (A : Option Addr) (g9 gm m c I : Nat) (opn : Nat) (v : Value) : Prop :=
  match opn with
  | 0 | 4 => v = .agg (bv FI).toArray
  | 1 | 9 | 16 => v = .slice A m c
  | 2 => v = .int .i64 (I : Int)
  | 3 => v = .slice A I c
  | 5 | 6 | 11 | 12 | 13 | 18 | 19 | 20 | 21 | 22 | 23 => v = .bool true
  | 7 | 14 => v = .pointer (some ⟨gm, 0, none⟩)
  | 8 | 10 => v = .agg (bv FS).toArray
  | 15 | 17 => v = .int .i64 (m : Int)
  | _ => True

set_option maxRecDepth 100000 in
set_option maxHeartbeats 2000000 in
theorem shaPieces_any (xs : List Int) (cu cv : Int) (A : Option Addr) (m c : Nat) (w : World) (hT : Tabs w) (hbs : Bs w w.heap.size A m xs) (hby : IsBy xs) (hc : m ≤ c) (u0 : 0 ≤ cu) (u1 : cu < 65536) (v0 : 0 ≤ cv) (v1 : cv < 65536) :
    Calls Tryd.prog 6 #[.slice A m c, .agg (vk .u16 [cu, cv]).toArray] w fun e w' => e = .returned (.bool true) ∧ Below w.heap.size w w' := by
  by_cases hlong : (3000 : Int) < (m : Int)
  · have hd : decide ((3000 : Int) < (m : Int)) = true := by simp; omega
    go_enter Tryd.func6, Tryd.ntmps6
    go_wp2_with (first
      | (with_reducible refine wl_box rfl 39 (.tmp 1) _ (vk .u16 [cu, cv]) rfl rfl rfl ?_; intro g1 w1 r1 p1 l1 b1))
    refine (awake_any _ (hT.later b1)).mono ?_
    rintro e w2 ⟨rfl, b2⟩
    go_wp2
    go_ret
    exact ⟨rfl, b1.trans (b2.mono b1.size)⟩
  · have hd : decide ((3000 : Int) < (m : Int)) = false := by simp; omega
    obtain ⟨I, hI, hIe⟩ : ∃ I : Nat, I ≤ m ∧ Hid (cu % ((m : Int) + 1) = (I : Int)) := by
      have p1 := Int.emod_nonneg cu (show (m : Int) + 1 ≠ 0 by omega)
      have p2 := Int.emod_lt_of_pos cu (show (0 : Int) < (m : Int) + 1 by omega)
      exact ⟨(cu % ((m : Int) + 1)).toNat, by omega, hide (by omega)⟩
    obtain ⟨K, hIK, hKm, hDe⟩ : ∃ K : Nat, I ≤ K ∧ K ≤ m ∧ Hid (cv % ((m : Int) - (I : Int) + 1) = (K : Int) - (I : Int)) := by
      have p1 := Int.emod_nonneg cv (show (m : Int) - (I : Int) + 1 ≠ 0 by omega)
      have p2 := Int.emod_lt_of_pos cv (show (0 : Int) < (m : Int) - (I : Int) + 1 by omega)
      exact ⟨I + (cv % ((m : Int) - (I : Int) + 1)).toNat, by omega, by omega, hide (by omega)⟩
    have p1 := Int.emod_nonneg cu (show (m : Int) + 1 ≠ 0 by omega)
    have p2 := Int.emod_lt_of_pos cu (show (0 : Int) < (m : Int) + 1 by omega)
    have p3 := Int.emod_nonneg cv (show (m : Int) - cu % ((m : Int) + 1) + 1 ≠ 0 by omega)
    have p4 := Int.emod_lt_of_pos cv (show (0 : Int) < (m : Int) - cu % ((m : Int) + 1) + 1 by omega)
    have hIc : I ≤ c := by omega
    have hKI : (I : Int) + ((K : Int) - (I : Int)) = (K : Int) := by omega
    have HKI := hide hKI
    have hS1 := fun w => run_sliceTo (P := Tryd.prog) w 22 5 1 Tryd.underlying22 Tryd.sizeOf5 A m c .i64 (I : Int) I rfl hIc
    have hS2 := fun w => run_sliceMid (P := Tryd.prog) w 22 5 Tryd.underlying22 Tryd.sizeOf5 A m c .i64 .i64 I K hIK (by omega)
    have hS3 := fun w => run_sliceFrom (P := Tryd.prog) w 22 5 Tryd.underlying22 Tryd.sizeOf5 A m c .i64 K hKm
    have hlen := hbs.1
    have hxm : xs.length ≤ 4611686018427387904 := by omega
    have PI := fun w hT hb => sum_any (xs.take I) A I c w hT hb (hby.take I) hIc (by omega)
    have PS := fun w hT hb => sum_any xs A m c w hT hb hby hc (by omega)
    have HSI := fun g w hT hh => hsum_any (xs.take I) g w hT hh (hby.take I) (by rw [List.length_take]; omega)
    have HSK := fun g w hT hh => hsum_any (xs.take K) g w hT hh (hby.take K) (by rw [List.length_take]; omega)
    have HSS := fun g w hT hh => hsum_any xs g w hT hh hby hxm
    have W1 := fun g w hT hg hh hb ho => write_any [] (xs.take I) g I c A w hT hg hh (fun _ h => by simp at h) (hby.take I) hb ho hIc (by simp; omega)
    have W2 := fun g w hT hg hh hb ho => write_any (xs.take I) ((xs.drop I).take (K - I)) g (K - I) (c - I) (subA A c I) w hT hg hh (hby.take I) ((hby.drop I).take _) hb ho (by omega) (by rw [List.length_take, List.length_take]; omega)
    have W3 := fun g w hT hg hh hb ho => write_any (xs.take K) (xs.drop K) g (m - K) (c - K) (subA A c K) w hT hg hh (hby.take K) (hby.drop K) hb ho (by omega) (by rw [List.length_take, List.length_drop]; omega)
    rw [List.nil_append] at W1
    rw [show xs.take I ++ (xs.drop I).take (K - I) = xs.take K by rw [← List.take_add, show I + (K - I) = K by omega]] at W2
    rw [List.take_append_drop] at W3
    have HLA := fun g w hh => len_any w g xs hh
    rw [hlen] at HLA
    have X1 : ∀ w', Below w.heap.size w w' → Bs w' w.heap.size A I (xs.take I) := fun w' hb => (hbs.below hb).take hI
    have X2 : ∀ w', Below w.heap.size w w' → Bs w' w.heap.size (subA A c I) (K - I) ((xs.drop I).take (K - I)) := fun w' hb => (hbs.below hb).sub (I := I) (K := K) hIK hKm hc
    have X3 : ∀ w', Below w.heap.size w w' → Bs w' w.heap.size (subA A c K) (m - K) (xs.drop K) := fun w' hb => by
      have := (hbs.below hb).sub (I := K) (K := m) hKm (Nat.le_refl _) hc
      rwa [List.take_of_length_le (by rw [List.length_drop, hlen]; exact Nat.le_refl _)] at this
    have lFI := hide (sumS_len (xs.take I))
    have lFS := hide (sumS_len xs)
    have zI := hide (size32b lFI.out)
    have lz := hide (show (bv (List.replicate 32 0)).length = (bv (sumS (xs.take I))).length by rw [bv_len, bv_len, lFI.out, List.length_replicate])
    clear hlen hKI
    generalize sumS (xs.take I) = FI at *
    generalize sumS (xs.take K) = FK at *
    generalize sumS xs = FS at *
    go_enter Tryd.func6, Tryd.ntmps6
    go_wp2_with (first
      | (with_reducible refine wl_box rfl 39 (.tmp 1) _ (vk .u16 [cu, cv]) rfl rfl rfl ?_; intro g3 w1 r1 p1 l1 b1; have c0 := r1.cell (j := 0) (v := .int .u16 cu) rfl; have c1 := r1.cell (j := 1) (v := .int .u16 cv) rfl))
    rw [hIe.out, hDe.out, HKI.out]
    clear c0 c1 r1
    refine (hnew_any w1 (hT.later b1)).mono ?_
    rintro e w2 ⟨gm, rfl, pm, mm, b2⟩
    have B2 := b1.trans (b2.mono b1.size)
    have hgm : w.heap.size ≤ gm := Nat.le_trans b1.size pm
    have hgm2 : 2 ≤ gm := Nat.le_trans hT.1 hgm
    clear b1 b2
    go_wp2_with fail
    refine (W1 gm w2 (hT.later B2) hgm2 mm ((X1 w2 B2).up B2.size) (Off.of (X1 w2 B2) hgm)).mono ?_
    rintro e w3 ⟨rfl, m3, b3⟩
    have B3 := B2.trans (b3.below hgm B2.size)
    clear mm b3 B2
    go_wp2_with fail
    refine (HSI gm w3 (hT.later B3) m3).mono ?_
    rintro e w4 ⟨rfl, b4⟩
    have B4 := B3.trans (b4.mono B3.size)
    have m4 := m3.later b4
    clear m3 b4
    go_wp2_with (first
      | (with_reducible refine wl_alloc rfl 25 _ (bv (List.replicate 32 0)) rfl zero32b rfl ?_; intro g9 w5 r5 p5 l5 b5)
      | (with_reducible refine wl_store_row rfl 25 (.tmp 8) (.tmp 38) g9 25 _ (bv FI) rfl rfl rfl r5 zI.out lz.out (bv_one _) ?_; intro w6 r6 o6))
    have h9 : gm ≠ g9 := by have := m4.lt; omega
    have q9 : w.heap.size ≤ g9 := Nat.le_trans B4.size p5
    have B6 := (B4.trans (b5.mono B4.size)).trans (o6.below q9)
    have m6 := (m4.later b5).only o6 h9
    clear m4 b5 o6 r5
    refine (W2 gm w6 (hT.later B6) hgm2 m6 ((X2 w6 B6).up B6.size) (Off.of (X2 w6 B6) hgm)).mono ?_
    rintro e w7 ⟨rfl, m7, b7⟩
    have B7 := B6.trans (b7.below hgm B6.size)
    have r7 := r6.but b7 (Ne.symm h9)
    clear m6 b7 r6
    go_wp2_with fail
    refine (HSK gm w7 (hT.later B7) m7).mono ?_
    rintro e w8 ⟨rfl, b8⟩
    have B8 := B7.trans (b8.mono B7.size)
    have m8 := m7.later b8
    have r8 := r7.later b8
    clear m7 b8 r7
    go_wp2_with fail
    refine (W3 gm w8 (hT.later B8) hgm2 m8 ((X3 w8 B8).up B8.size) (Off.of (X3 w8 B8) hgm)).mono ?_
    rintro e wS ⟨rfl, rM, bS⟩
    have BS := B8.trans (bS.below hgm B8.size)
    have r9 := r8.but bS (Ne.symm h9)
    have HS := HSS gm
    have HL := HLA gm
    have hT0 := hT.later BS
    have hxS : Bs wS wS.heap.size A m xs := (hbs.below BS).up BS.size
    have hxI := hxS.take hI
    clear m8 bS r8 W1 W2 W3 HSI HSK HSS HLA X1 X2 X3 hS2 hS3 hT hbs
    have hT := hT0
    clear hT0
    go_wp2_with fail
    rename_i K1 hK1
    refine wp_region_valsG [4, 8, 10, 15, 21] (SPc FI FS A g9 gm m c I) (JR wS) (by kernel_rfl) (by kernel_rfl) (by kernel_rfl) (by kernel_rfl) (Below.refl _ _).drew ?obs ?he
    case obs =>
      refine ⟨?_, ?_, ?_, ?_, ?_, ?_, ?_, ?_, ?_, ?_, ?_, ?_, ?_, ?_, ?_, ?_, ?_, ?_, ?_, ?_, ?_, ?_, ?_, ?_, trivial⟩
      · refine ⟨.inl rfl, ?_⟩
        exact .inl ⟨by kernel_rfl, fun L a1 w1 n' h => ⟨_, rfl, run_loadRow 25 (.tmp 8) g9 25 _ _ rfl (h.var n' 8 (by kernel_rfl)) (r9.later h.inv) Tryd.underlying25 rfl (zI.out)⟩⟩
      · refine ⟨.inl rfl, ?_⟩
        exact .inl ⟨by kernel_rfl, fun L a1 w1 n' h => ⟨_, rfl, run_move (.tmp 0) rfl (h.var n' 0 (by kernel_rfl))⟩⟩
      · refine ⟨.inl rfl, ?_⟩
        exact .inl ⟨by kernel_rfl, fun L a1 w1 n' h => ⟨_, rfl, run_move (.tmp 5) rfl (h.var n' 5 (by kernel_rfl))⟩⟩
      · refine ⟨.inl rfl, ?_⟩
        refine .inl ⟨by kernel_rfl, fun L a1 w1 n' h => ⟨.slice A I c, rfl, ?_⟩⟩
        have e0 : a1.eval (.tmp 53) = _ := h.dep n' 1 53 (by kernel_rfl) rfl
        have e1 : a1.eval (.tmp 54) = _ := h.dep n' 2 54 (by kernel_rfl) rfl
        unfold execOp
        simp only [e0, e1, Option.map_some, Option.map_none, Sem.run_bind, hS1, Result.andThen_ok, Sem.run_pure]
      · refine ⟨.inl rfl, ?_⟩
        refine .inr fun L a1 w1 n' h K hK => ?_
        have e0 : a1.eval (.tmp 55) = .slice A I c := h.dep n' 3 55 (by kernel_rfl) rfl
        refine st_call 15 _ _ #[.slice A I c] rfl Tryd.call15 ?_ (PI w1 (hT.later h.inv) (hxI.later h.inv)) ?_
        · simp only [List.map_toArray, List.map_cons, List.map_nil, e0]
        · rintro e w3 ⟨rfl, b9⟩
          exact ⟨_, rfl, hK _ w3 rfl (JR.call h.inv b9)⟩
      · refine ⟨.inl rfl, ?_⟩
        exact .inl ⟨by kernel_rfl, fun L a1 w1 n' h => ⟨_, rfl, run_eqlT (.tmp 52) (.tmp 56) rfl Tryd.underlying25 (Classical.choose_spec u8_info).1 (by kernel_rfl) Tryd.underlying5 Tryd.isAgg5 FI (h.dep n' 0 52 (by kernel_rfl) rfl) (h.dep n' 4 56 (by kernel_rfl) rfl) (lFI.out) (by kernel_rfl)⟩⟩
      · refine ⟨.inl rfl, ?_⟩
        exact .inl ⟨by kernel_rfl, fun L a1 w1 n' h => ⟨_, rfl, run_move (.tmp 57) rfl (h.dep n' 5 57 (by kernel_rfl) rfl)⟩⟩
      · refine ⟨.inr ⟨6, true, 58, rfl, by kernel_rfl, rfl, by simp, fun v h => h⟩, ?_⟩
        exact .inl ⟨by kernel_rfl, fun L a1 w1 n' h => ⟨_, rfl, run_move (.tmp 7) rfl (h.var n' 7 (by kernel_rfl))⟩⟩
      · refine ⟨.inr ⟨6, true, 58, rfl, by kernel_rfl, rfl, by simp, fun v h => h⟩, ?_⟩
        refine .inr fun L a1 w1 n' h K hK => ?_
        have e0 : a1.eval (.tmp 59) = .pointer (some ⟨gm, 0, none⟩) := h.dep n' 7 59 (by kernel_rfl) rfl
        refine st_call 22 _ _ #[.pointer (some ⟨gm, 0, none⟩)] rfl Tryd.call22 ?_ (HS w1 (hT.later h.inv) (rM.later h.inv)) ?_
        · simp only [List.map_toArray, List.map_cons, List.map_nil, e0]
        · rintro e w3 ⟨rfl, b9⟩
          exact ⟨_, rfl, hK _ w3 rfl (JR.call h.inv b9)⟩
      · refine ⟨.inr ⟨6, true, 58, rfl, by kernel_rfl, rfl, by simp, fun v h => h⟩, ?_⟩
        exact .inl ⟨by kernel_rfl, fun L a1 w1 n' h => ⟨_, rfl, run_move (.tmp 0) rfl (h.var n' 0 (by kernel_rfl))⟩⟩
      · refine ⟨.inr ⟨6, true, 58, rfl, by kernel_rfl, rfl, by simp, fun v h => h⟩, ?_⟩
        refine .inr fun L a1 w1 n' h K hK => ?_
        have e0 : a1.eval (.tmp 61) = .slice A m c := h.dep n' 9 61 (by kernel_rfl) rfl
        refine st_call 15 _ _ #[.slice A m c] rfl Tryd.call15 ?_ (PS w1 (hT.later h.inv) (hxS.later h.inv)) ?_
        · simp only [List.map_toArray, List.map_cons, List.map_nil, e0]
        · rintro e w3 ⟨rfl, b9⟩
          exact ⟨_, rfl, hK _ w3 rfl (JR.call h.inv b9)⟩
      · refine ⟨.inr ⟨6, true, 58, rfl, by kernel_rfl, rfl, by simp, fun v h => h⟩, ?_⟩
        exact .inl ⟨by kernel_rfl, fun L a1 w1 n' h => ⟨_, rfl, run_eqlT (.tmp 60) (.tmp 62) rfl Tryd.underlying25 (Classical.choose_spec u8_info).1 (by kernel_rfl) Tryd.underlying5 Tryd.isAgg5 FS (h.dep n' 8 60 (by kernel_rfl) rfl) (h.dep n' 10 62 (by kernel_rfl) rfl) (lFS.out) (by kernel_rfl)⟩⟩
      · refine ⟨.inl rfl, ?_⟩
        exact .inl ⟨by kernel_rfl, fun L a1 w1 n' h => ⟨_, rfl, run_pickT (.tmp 58) _ _ rfl (h.dep n' 6 58 (by kernel_rfl) rfl) (h.dep n' 11 63 (by kernel_rfl) rfl)⟩⟩
      · refine ⟨.inl rfl, ?_⟩
        exact .inl ⟨by kernel_rfl, fun L a1 w1 n' h => ⟨_, rfl, run_move (.tmp 64) rfl (h.dep n' 12 64 (by kernel_rfl) rfl)⟩⟩
      · refine ⟨.inr ⟨13, true, 65, rfl, by kernel_rfl, rfl, by simp, fun v h => h⟩, ?_⟩
        exact .inl ⟨by kernel_rfl, fun L a1 w1 n' h => ⟨_, rfl, run_move (.tmp 7) rfl (h.var n' 7 (by kernel_rfl))⟩⟩
      · refine ⟨.inr ⟨13, true, 65, rfl, by kernel_rfl, rfl, by simp, fun v h => h⟩, ?_⟩
        refine .inr fun L a1 w1 n' h K hK => ?_
        have e0 : a1.eval (.tmp 66) = .pointer (some ⟨gm, 0, none⟩) := h.dep n' 14 66 (by kernel_rfl) rfl
        refine st_call 23 _ _ #[.pointer (some ⟨gm, 0, none⟩)] rfl Tryd.call23 ?_ (pureB (HL w1 (rM.later h.inv))) ?_
        · simp only [List.map_toArray, List.map_cons, List.map_nil, e0]
        · rintro e w3 ⟨rfl, b9⟩
          exact ⟨_, rfl, hK _ w3 rfl (JR.call h.inv b9)⟩
      · refine ⟨.inr ⟨13, true, 65, rfl, by kernel_rfl, rfl, by simp, fun v h => h⟩, ?_⟩
        exact .inl ⟨by kernel_rfl, fun L a1 w1 n' h => ⟨_, rfl, run_move (.tmp 0) rfl (h.var n' 0 (by kernel_rfl))⟩⟩
      · refine ⟨.inr ⟨13, true, 65, rfl, by kernel_rfl, rfl, by simp, fun v h => h⟩, ?_⟩
        exact .inl ⟨by kernel_rfl, fun L a1 w1 n' h => ⟨_, rfl, run_lenS 22 (.tmp 68) 5 _ _ _ rfl Tryd.underlying22 (h.dep n' 16 68 (by kernel_rfl) rfl)⟩⟩
      · refine ⟨.inr ⟨13, true, 65, rfl, by kernel_rfl, rfl, by simp, fun v h => h⟩, ?_⟩
        refine .inl ⟨by kernel_rfl, fun L a1 w1 n' h => ⟨.bool true, rfl, ?_⟩⟩
        have e0 : a1.eval (.tmp 67) = _ := h.dep n' 15 67 (by kernel_rfl) rfl
        have e1 : a1.eval (.tmp 69) = _ := h.dep n' 17 69 (by kernel_rfl) rfl
        unfold execOp
        simp only [e0, e1]
        go_simp
      · refine ⟨.inl rfl, ?_⟩
        exact .inl ⟨by kernel_rfl, fun L a1 w1 n' h => ⟨_, rfl, run_pickT (.tmp 65) _ _ rfl (h.dep n' 13 65 (by kernel_rfl) rfl) (h.dep n' 18 70 (by kernel_rfl) rfl)⟩⟩
      · refine ⟨.inl rfl, ?_⟩
        exact .inl ⟨by kernel_rfl, fun L a1 w1 n' h => ⟨_, rfl, run_move (.tmp 71) rfl (h.dep n' 19 71 (by kernel_rfl) rfl)⟩⟩
      · refine ⟨.inr ⟨20, true, 72, rfl, by kernel_rfl, rfl, by simp, fun v h => h⟩, ?_⟩
        refine .inr fun L a1 w1 n' h K hK => ?_
        refine st_call 13 _ _ #[] rfl Tryd.call13 ?_ (awake_any w1 (hT.later h.inv)) ?_
        · simp
        · rintro e w3 ⟨rfl, b9⟩
          exact ⟨_, rfl, hK _ w3 rfl (JR.call h.inv b9)⟩
      · refine ⟨.inl rfl, ?_⟩
        exact .inl ⟨by kernel_rfl, fun L a1 w1 n' h => ⟨_, rfl, run_pickT (.tmp 72) _ _ rfl (h.dep n' 20 72 (by kernel_rfl) rfl) (h.dep n' 21 73 (by kernel_rfl) rfl)⟩⟩
      · refine ⟨.inl rfl, ?_⟩
        exact .inl ⟨by kernel_rfl, fun L a1 w1 n' h => ⟨_, rfl, run_assign (.tmp 74) rfl (h.dep n' 22 74 (by kernel_rfl) rfl)⟩⟩
    case he =>
      intro V w5 hV hJ
      have h23 : V 23 = .bool true := hV 23 4 rfl
      have hB : Below wS.heap.size wS w5 := hJ
      clear hV hJ
      simp only [putOps, List.setIfInBounds_toArray, List.set_cons_succ, List.set_cons_zero]
      refine hK1 _ _ ?_
      go_wp2
      go_ret
      exact ⟨congrArg Ending.returned h23, BS.trans (hB.mono BS.size)⟩
end Go.Proofs.YtlhgfobhdhddlaaDoor

/- Proved: the law ShaPieces (P5.3) answers true and leaves its arguments as they read before. For every list of bytes and every two cuts; no condition but the tie of the two tables of sha to the program's text. -/
namespace Go.Proofs.YtlhgfobhdhddlaaDoor.shaPieces
open Go.ChangeShapes Go.WideShapes Go.ChangeAt Go.WideMaps Go.WideElems Go.RowKit

theorem own : ownKnob Tryd.prog.godebug = none := by kernel_rfl
theorem laidOut : laidOutB Tryd.prog = true := by kernel_rfl
theorem door_met (os : Os) (args : Array Value) : laidMetH Tryd.prog laid2 ((World.doorLaid Tryd.prog 400 os).forCall (fun _ _ => 0) ⟨#[], args, []⟩).memory :=
  laidMetH_of_parts3 (fuel := 8) (laidMet_of_run' 8 (by kernel_rfl) (by kernel_rfl)) (by kernel_rfl) (by kernel_rfl)

set_option maxRecDepth 100000 in
theorem lifted (os : Os) (started : os.Started) (H : Type) (enc : TypeId × Value → H) :
    ReturnsInHanded {} Tryd.checked os 6 .any (fun w args => (Rows.shaPiecesSpec.pre enc Tryd.prog Tryd.f6 [] false w args ∧ laidMetH Tryd.prog laid2 w) ∧ sizedMet enc Tryd.prog Tryd.f6 (OpenSpec.ofChange Rows.shaPiecesSpec) false w args)
      (Rows.shaPiecesSpec.post enc Tryd.prog Tryd.f6 false true false false) := by
  refine returnsInHanded_of_change_and (C := Tryd.checked) (X := fun w _ => laidMetH Tryd.prog laid2 w) (fun _ _ _ hh h => h.of_heap hh) own started (by kernel_rfl) Tryd.func6
    (ChangeSpec.witness_shaped (enc := enc) (C := Tryd.checked) (os := os) (X := fun w _ => laidMetH Tryd.prog laid2 w) false (World.doorLaid Tryd.prog 400 os) #[.slice none 0 0, .agg #[.int .u16 0, .int .u16 0]] 8 rfl (World.shaped_of_RefB (by kernel_rfl) (by kernel_rfl)) (by kernel_rfl) (by kernel_rfl) (by kernel_rfl) (door_met os _)) ?_
  intro W base args ds gs before hval0 hW _ _ hL _
  have hval : ∀ (j : Nat) t v, Tryd.f6.params[j]? = some t → args[j]? = some v → Value.okWide Tryd.prog W .any base t v := hval0
  have hW' := hW
  obtain ⟨p, q, hA0, hV, rfl, hfz, hnd⟩ := hW
  have hA : DataW.TrodAll enc Tryd.prog W 0 (fun _ => true) true Tryd.f6.params.toList args.toList ds p := hA0
  rw [Tryd.params6] at hA hval
  obtain ⟨v0, vs0, d0, ds0, p0, q0, hargs, rfl, rfl, h0, r0⟩ := trodAll_cons hA
  obtain ⟨v1, vs1, d1, ds1, p1, q1, rfl, rfl, rfl, h1, r1⟩ := trodAll_cons r0
  obtain ⟨rfl, rfl, rfl⟩ := trodAll_nil r1
  obtain rfl : args = #[v0, v1] := by cases args; simp_all
  obtain ⟨rfl, rfl⟩ := trodVars_none hV
  obtain ⟨a0, len0, cap0, rfl⟩ := okWide_slice Tryd.underlying22 (hval 0 22 v0 rfl rfl)
  have k0 := h0
  have lt0 : ∀ x ∈ p0, x.block < W.heap.size := by obtain ⟨m, hm⟩ := k0; exact DataW.trod_lt m _ _ _ hm
  have k1 := h1
  have lt1 : ∀ x ∈ p1, x.block < W.heap.size := by obtain ⟨m, hm⟩ := k1; exact DataW.trod_lt m _ _ _ hm
  clear hA0 hval0
  have hT : Tabs W := tabs_of_laid hL
  obtain ⟨x0, b0, by0, m0⟩ : ∃ xs, Bs W W.heap.size a0 len0 xs ∧ IsBy xs ∧ len0 ≤ cap0 := by
    obtain ⟨fuel, hf⟩ := k0
    obtain ⟨A', n', c', xs, hv, hb, hby, h1, h2⟩ := trod_bs Tryd.underlying22 Tryd.underlying5 (by kernel_rfl) hf
    simp at hv
    obtain ⟨rfl, rfl, rfl⟩ := hv
    exact ⟨xs, hb, hby, h1⟩
  obtain ⟨cs, rfl⟩ : ∃ cs : List Value, v1 = .agg cs.toArray := by
    have := hval 1 39 v1 rfl rfl
    obtain ⟨cs, rfl, _⟩ : ∃ cs, v1 = .agg cs ∧ cs.size = Tryd.prog.cellsOf 39 ∧ Row.okWide Tryd.prog W .any base 39 cs := by
      simpa [Value.okWide, Tryd.underlying39] using this
    exact ⟨cs.toList, by simp⟩
  have kk := k1
  obtain ⟨fuel, hf⟩ := kk
  obtain ⟨zs, hcs, lz, wz⟩ := trod_nums Tryd.underlying39 Tryd.underlying38 (by kernel_rfl) (by kernel_rfl) hf
  obtain rfl : cs = zs.map (Value.int .u16) := hcs
  clear hf
  obtain ⟨cu, cv, rfl⟩ := two_of lz
  have q0 := wf_u16 (wz cu (by simp))
  have q1 := wf_u16 (wz cv (by simp))
  refine (shaPieces_any x0 cu cv a0 len0 cap0 W hT b0 by0 m0 q0.1 q0.2 q1.1 q1.2).mono fun e W' ⟨he, bel⟩ => ?_
  subst he
  exact ⟨_, rfl, _, _, _, [], _, [], hW', trodAll_mk1 (shut_bool Tryd.underlying4 _), (trodAll_cons_mk (Below.trod laidOut (by kernel_rfl) (of_decide_eq_true (by kernel_rfl)) k0 bel lt0) (trodAll_cons_mk (Below.trod laidOut (by kernel_rfl) (of_decide_eq_true (by kernel_rfl)) k1 bel lt1) trodAll_mk0)), rfl, bel.frame _, fun h => by cases h⟩

theorem over : Rows.ShaPiecesSaid :=
  OpenClaim.holds_of_wide 6 Tryd.f6 rfl rfl rfl rfl rfl rfl rfl ⟨rfl, rfl, rfl, rfl, rfl⟩ rfl rfl rfl rfl rfl (by kernel_rfl) Tryd.func6 (by kernel_rfl)
    (of_decide_eq_true (by kernel_rfl)) (by unfold Func.isWrapper; first | (rw [if_pos (by decide +kernel)]; kernel_rfl) | (rw [if_neg (by decide +kernel)]; exact ⟨rfl, rfl⟩))
    (fun os started H enc _ => lifted os started H enc)

/-- The given statement. -/
theorem proved : Rows.ShaPiecesCardSaid :=
  Claim7.holds_tied_plain_at .later [] [.data, .data] true (true, "2a1334606687450c169f9de7db10f82ff4b51d6d76a28dc4fa85fcd7173bb2ba") false
    over (fun _ h => by cases h) (by kernel_rfl) (fun _ h => by cases h) shaPieces_row_tie rfl ⟨rfl, rfl⟩ (by kernel_rfl) rfl
    (fun f fn hf hfn => by
      obtain rfl : f = 6 := Option.some.inj ((show Tryd.prog.funcNamed "intaglio/intagliolaw05.ShaPieces" = some 6 by kernel_rfl).symm.trans hf) |>.symm
      obtain rfl : fn = Tryd.f6 := (Option.some.inj (Tryd.func6.symm.trans hfn)).symm
      exact ⟨by kernel_rfl, fun j t ht => by
        rw [Tryd.params6] at ht
        have hm : t ∈ [22, 39] := by simpa using Array.mem_of_getElem? ht
        have hall : ([22, 39].all fun u => !Tryd.prog.wantsStandIn u) = true := by kernel_rfl
        exact (show Tryd.prog.wantsStandIn t = false by simpa using List.all_eq_true.1 hall t hm)⟩)
    (by kernel_rfl)
#print axioms proved
end Go.Proofs.YtlhgfobhdhddlaaDoor.shaPieces
