/-
  Poly: bytes that fill a part; the part's number: contracts. Own work.
-/
import Derived.Test.YtcinhofapkddpaaPolyH
namespace Go.Proofs.Ytcinhofapkddpaa
open Go.RowKit
set_option linter.unusedVariables false
set_option linter.unusedSimpArgs false
theorem Bs.take {w : World} {B n : Nat} {A : Option Addr} {xs : List Int} (h : Bs w B A n xs) {k : Nat} (hk : k ≤ n) : Bs w B A k (xs.take k) := by
  have hl := h.1
  refine ⟨by rw [List.length_take]; omega, fun hp => ?_⟩
  obtain ⟨b, o, rfl, hb, hc⟩ := h.2 (by omega)
  refine ⟨b, o, rfl, hb, fun j hj => ?_⟩
  rw [hc j (by omega)]
  simp [List.getD, List.getElem?_take, hj]
/-- 'copy(dst, src)' into a block of the call's own; as many as fit. -/
theorem st_copy_take {P : Program} {o : Oper} {a : Act} {w : World} {K : Act → World → Prop} {Q : Exit → Act → World → Prop} (d s : Operand) (dT sT : TypeId) (ho : o.op = .call { callee := .builtin .copy, args := #[d, s], argTypes := #[dT, sT] }) (elem : TypeId) (hu : P.underlying dT = some (.slice elem)) (hsz : (P.info? elem).map (·.size) = some 1)
    (g off dLen dCap n c t B : Nat) (A : Option Addr) (hd : a.eval d = .slice (some ⟨g, off, none⟩) dLen dCap) (hs : a.eval s = .slice A n c) (cur : List Value) (xs : List Int) (k : Nat) (h : Row w t g cur) (hx : Bs w B A n xs) (hk0 : k = min n dLen) (hpos : 0 < k) (hfit : off + k ≤ cur.length)
    (hk : ∀ w', Row w' t g (cur.take off ++ (bv (xs.take k) ++ cur.drop (off + k))) → Only g w w' → K (a.put o.dst (goInt k)) w') : o.wp P a w K Q := by
  have hx' := hx.take (k := k) (by omega)
  obtain ⟨b, o', rfl, _, _⟩ := hx'.2 hpos
  have hl : (bv (xs.take k)).length = Nat.min n dLen := by rw [bv_len, hx'.1]; exact hk0
  have hrun := run_copy_row (P := P) w dT sT o.type elem g off dLen dCap ⟨b, o', none⟩ n c cur.toArray t (bv (xs.take k)) hu hsz h hl (hx'.cells rfl) (by rw [bv_len, hx'.1]; simpa using hfit) (bv_one _)
  rw [bv_len, hx'.1] at hrun
  unfold Oper.wp
  simp [execOp, ho, resolve, invoke, builtin, hd, hs, hrun, Result.andThen]
  refine hk _ ?_ (only_setRow _ _ _)
  have := setRow_heap w g _ (cur.take off ++ (bv (xs.take k) ++ cur.drop (off + k))).toArray t _ h
  exact this
def SFi (g n m c k : Nat) (A : Option Addr) (opn : Nat) (v : Value) : Prop :=
  match opn with
  | 0 | 1 | 2 | 3 | 4 => v = .pointer (some ⟨g, 0, none⟩)
  | 5 => v = .pointer (some ⟨g, 16, none⟩)
  | 6 => v = .int .i64 (n : Int)
  | 7 => v = .slice (some ⟨g, n, none⟩) (16 - n) (16 - n)
  | 8 => v = .slice A m c
  | 9 | 10 => v = .int .i64 (k : Int)
  | _ => True

theorem But.cellB {g B : Nat} {w w' : World} {p : Addr} (h : But g w w') (hB : B ≤ g) (hw : B ≤ w.heap.size) (hp : p.block < B) : w'.cell? p = w.cell? p := (h.below hB hw).cell hp
set_option maxRecDepth 100000 in
set_option maxHeartbeats 1000000 in
theorem fill_any (g t n m c B k : Nat) (held xs : List Int) (rest : List Value) (A : Option Addr) (w : World) (hr : Row w t g (bv held ++ (.int .i64 (n : Int) :: rest))) (hh : held.length = 16) (hn : n < 16) (hx : Bs w B A m xs) (hB : B ≤ g) (hm : 0 < m) (hk : k = min m (16 - n)) (hc : m ≤ c) :
    Calls Try.prog 25 #[.pointer (some ⟨g, 0, none⟩), .slice A m c] w fun e w' => e = .returned (.slice (subA A c k) (m - k) (c - k)) ∧ Row w' t g (bv (held.take n ++ (xs.take k ++ held.drop (n + k))) ++ (.int .i64 ((n + k : Nat) : Int) :: rest)) ∧ But g w w' := by
  have hpos : 0 < k := by omega
  have hnk : n + k ≤ 16 := by omega
  have hkm : k ≤ m := by omega
  have hlen : (bv held).length = 16 := by rw [bv_len, hh]
  have hS := fun w => run_sliceFrom (P := Try.prog) w 23 5 Try.underlying23 Try.sizeOf5 A m c .i64 k hkm
  have c16 : (bv held ++ (.int .i64 (n : Int) :: rest))[16]? = some (.int .i64 (n : Int)) := by rw [List.getElem?_append_right (by omega), hlen]; rfl
  have hnew : (bv held ++ (.int .i64 (n : Int) :: rest)).take n ++ (bv (xs.take k) ++ (bv held ++ (.int .i64 (n : Int) :: rest)).drop (n + k)) = bv (held.take n ++ (xs.take k ++ held.drop (n + k))) ++ (.int .i64 (n : Int) :: rest) := by
    rw [List.take_append_of_le_length (by omega), List.drop_append_of_le_length (by omega)]
    simp [bv]
  have hset : (bv (held.take n ++ (xs.take k ++ held.drop (n + k))) ++ (.int .i64 (n : Int) :: rest)).set 16 (.int .i64 ((n + k : Nat) : Int)) = bv (held.take n ++ (xs.take k ++ held.drop (n + k))) ++ (.int .i64 ((n + k : Nat) : Int) :: rest) := by
    have hl : (bv (held.take n ++ (xs.take k ++ held.drop (n + k)))).length = 16 := by
      have := hx.1
      simp [bv_len, hh]
      omega
    rw [List.set_append_right _ _ (by omega), hl]
    rfl
  have c16' : (bv (held.take n ++ (xs.take k ++ held.drop (n + k))) ++ (.int .i64 (n : Int) :: rest))[16]? = some (.int .i64 (n : Int)) := by
    have hl : (bv (held.take n ++ (xs.take k ++ held.drop (n + k)))).length = 16 := by
      have := hx.1
      simp [bv_len, hh]
      omega
    rw [List.getElem?_append_right (by omega), hl]; rfl
  have hBw : B ≤ w.heap.size := Nat.le_trans hB (Nat.le_of_lt hr.lt)
  have hfit : n + k ≤ (bv held ++ (.int .i64 (n : Int) :: rest)).length := by rw [List.length_append, hlen]; omega
  have hl16 : 16 < (bv (held.take n ++ (xs.take k ++ held.drop (n + k))) ++ (.int .i64 (n : Int) :: rest)).length := by
    have := (List.getElem?_eq_some_iff.1 c16').1
    exact this
  generalize bv held ++ (.int .i64 (n : Int) :: rest) = cur at *
  generalize bv (held.take n ++ (xs.take k ++ held.drop (n + k))) ++ (.int .i64 (n : Int) :: rest) = mid at *
  generalize bv (held.take n ++ (xs.take k ++ held.drop (n + k))) ++ (.int .i64 ((n + k : Nat) : Int) :: rest) = fin at *
  have HN := hide hnew
  have HS := hide hset
  have HK := hide hk
  clear hnew hset hlen hh hk
  go_enter Try.func25, Try.ntmps25
  go_wp2_with fail
  rename_i K1 hK1
  refine wp_region_vals [9] (SFi g n m c k A) (JB g t w 0 cur mid) (by kernel_rfl) (by kernel_rfl) (by kernel_rfl) (by kernel_rfl) (by kernel_rfl) (JB.start hr rfl) ?obs ?he
  case obs =>
    refine ⟨?_, ?_, ?_, ?_, ?_, ?_, ?_, ?_, ?_, ?_, ?_, trivial⟩
    · exact .inl ⟨by kernel_rfl, fun L a1 w1 n' h => ⟨_, rfl, run_move (.tmp 0) rfl (h.var n' 0 (by kernel_rfl))⟩⟩
    · refine .inl ⟨by kernel_rfl, fun L a1 w1 n' h => ⟨.pointer (some ⟨g, 0, none⟩), rfl, ?_⟩⟩
      have e0 : a1.eval (.tmp 6) = _ := h.dep n' 0 6 (by kernel_rfl) rfl
      unfold execOp
      simp only [e0]
      go_simp
    · refine .inl ⟨by kernel_rfl, fun L a1 w1 n' h => ⟨.pointer (some ⟨g, 0, none⟩), rfl, ?_⟩⟩
      have e0 : a1.eval (.tmp 7) = _ := h.dep n' 1 7 (by kernel_rfl) rfl
      unfold execOp
      simp only [e0]
      go_simp
    · exact .inl ⟨by kernel_rfl, fun L a1 w1 n' h => ⟨_, rfl, run_move (.tmp 0) rfl (h.var n' 0 (by kernel_rfl))⟩⟩
    · refine .inl ⟨by kernel_rfl, fun L a1 w1 n' h => ⟨.pointer (some ⟨g, 0, none⟩), rfl, ?_⟩⟩
      have e0 : a1.eval (.tmp 9) = _ := h.dep n' 3 9 (by kernel_rfl) rfl
      unfold execOp
      simp only [e0]
      go_simp
    · refine .inl ⟨by kernel_rfl, fun L a1 w1 n' h => ⟨.pointer (some ⟨g, 16, none⟩), rfl, ?_⟩⟩
      have e0 : a1.eval (.tmp 10) = _ := h.dep n' 4 10 (by kernel_rfl) rfl
      unfold execOp
      simp only [e0]
      go_simp
    · exact .inl ⟨by kernel_rfl, fun L a1 w1 n' h => ⟨_, rfl, run_loadA 3 (.tmp 11) ⟨g, 16, none⟩ rfl Try.isAgg3 (h.dep n' 5 11 (by kernel_rfl) rfl) ((h.inv.1 (n'.later (by kernel_rfl))).cell c16)⟩⟩
    · exact .inl ⟨by kernel_rfl, fun L a1 w1 n' h => ⟨_, rfl, run_sliceLo 26 (.tmp 8) (.tmp 12) 16 5 g n rfl Try.underlying26 Try.sizeOf5 (h.dep n' 2 8 (by kernel_rfl) rfl) (h.dep n' 6 12 (by kernel_rfl) rfl) hn⟩⟩
    · exact .inl ⟨by kernel_rfl, fun L a1 w1 n' h => ⟨_, rfl, run_move (.tmp 1) rfl (h.var n' 1 (by kernel_rfl))⟩⟩
    · refine .inr fun L a1 w1 n' h K hK => ?_
      have no : L.getD 9 false = false := n'.not_yet
      refine st_copy_take (.tmp 13) (.tmp 14) _ _ rfl 5 Try.underlying23 u8_size g n (16 - n) (16 - n) m c t B A (h.dep n' 7 13 (by kernel_rfl) rfl) (h.dep n' 8 14 (by kernel_rfl) rfl) cur xs k (h.inv.1 no) (hx.keep fun p hp => h.inv.2.2.cellB hB (hBw) hp) HK.out hpos hfit ?_
      intro w3 r3 o3
      exact hK _ w3 rfl (h.inv.store (us := []) o3 (by rw [← HN.out]; exact r3) rfl)
    · exact .inl ⟨by kernel_rfl, fun L a1 w1 n' h => ⟨_, rfl, run_assign (.tmp 15) rfl (h.dep n' 9 15 (by kernel_rfl) rfl)⟩⟩
  case he =>
    intro V w5 hV hJ
    have r5 := hJ.2.1 rfl
    have bx := hJ.2.2
    have h10 : V 10 = .int .i64 (k : Int) := hV 10 5 rfl
    clear hV hJ
    simp only [putOps, List.setIfInBounds_toArray, List.set_cons_succ, List.set_cons_zero]
    rw [h10]
    refine hK1 _ _ ?_
    have c5 := r5.cell c16'
    go_wp2_with (first
      | (with_reducible refine wl_store rfl 3 (.tmp 23) (.tmp 21) g 16 t _ (.int .i64 ((n : Int) + (k : Int))) rfl (by kernel_rfl) rfl rfl r5 hl16 rfl ?_; intro w7 r7 o7)
      | rw [hS])
    go_ret
    rw [show ((n : Int) + (k : Int)) = ((n + k : Nat) : Int) from by omega, HS.out] at r7
    exact ⟨rfl, r7, bx.trans (But.only o7)⟩
end Go.Proofs.Ytcinhofapkddpaa
