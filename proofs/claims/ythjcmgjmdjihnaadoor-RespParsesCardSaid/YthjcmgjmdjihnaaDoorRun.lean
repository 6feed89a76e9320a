/-
  Plain operations as steps of a walk; strings by their lists of bytes. Own work.
-/
import Derived.Test.YthjcmgjmdjihnaaDoorFacts2
import Derived.Test.YthjcmgjmdjihnaaDoorSkip
import Derived.Test.YthjcmgjmdjihnaaDoorCmp
import Derived.Test.YthjcmgjmdjihnaaDoorApp
import Derived.Sort.EncStr
import Derived.StringKeys
namespace Go.Proofs.YthjcmgjmdjihnaaDoor
open Go.RowKit
set_option linter.unusedVariables false
set_option linter.unusedSimpArgs false
theorem wl_run {P : Program} {ops : Array Oper} {rest : List Oper} {o : Oper} {a : Act} {w : World} {Q : Exit → Act → World → Prop} (hgd : o.guard = none) (v : Value) (hr : (execOp a.eval o).run P w = .ok (.value v) w) (hk : wpList P ops Q rest (a.put o.dst v) w) : wpList P ops Q (o :: rest) a w :=
  wpList_plain hgd fun K hK => by
    unfold Oper.wp
    rw [hr]
    exact hK _ _ hk
theorem wg_run {P : Program} {ops : Array Oper} {rest : List Oper} {o : Oper} {a : Act} {w : World} {Q : Exit → Act → World → Prop} (g' : Nat) (b : Bool) (d' : Nat) (hg : o.guard = some (g', b)) (hd' : (ops[g']?).bind (·.dst) = some d') (hv : a.tmps[d']? = some (.bool b)) (v : Value) (hr : (execOp a.eval o).run P w = .ok (.value v) w) (hk : wpList P ops Q rest (a.put o.dst v) w) : wpList P ops Q (o :: rest) a w :=
  wpList_guarded g' b d' hg hd' hv fun K hK => by
    unfold Oper.wp
    rw [hr]
    exact hK _ _ hk
theorem str_len (l : List UInt8) : (⟨l.toArray⟩ : ByteArray).size = l.length := by show l.toArray.size = _; simp
theorem str_list (l : List UInt8) : (⟨l.toArray⟩ : ByteArray).toList = l := by rw [Lib.toList_data]
theorem str_inj {a b : List UInt8} (h : (⟨a.toArray⟩ : ByteArray) = ⟨b.toArray⟩) : a = b := by
  have := congrArg ByteArray.toList h
  rwa [str_list, str_list] at this
theorem str_extract (l : List UInt8) (i j : Nat) : (⟨l.toArray⟩ : ByteArray).extract i j = ⟨((l.take j).drop i).toArray⟩ := by
  apply ByteArray.ext
  rw [ByteArray.data_extract]
  simp [List.extract_eq_take_drop, List.drop_take]
theorem run_idxStr {P : Program} {w : World} {a : Act} {o : Oper} (t : TypeId) (x y : Operand) (l : List UInt8) (i : Nat) (c : UInt8)
    (ho : o.op = .index t x y) (hu : P.underlying t = some .string) (hx : a.eval x = encStr l) (hy : a.eval y = .int .i64 i) (hc : l[i]? = some c) :
    (execOp a.eval o).run P w = .ok (.value (.int .u8 c.toNat)) w := by
  have hi : i < l.length := by
    rcases Nat.lt_or_ge i l.length with h1 | h1
    · exact h1
    · rw [List.getElem?_eq_none h1] at hc; cases hc
  have hg : l[i] = c := by rw [List.getElem?_eq_getElem hi] at hc; exact Option.some.inj hc
  have hs := str_len l
  unfold execOp
  simp only [ho, hx, hy, encStr]
  go_simp
  rw [← hg]
  rfl
theorem run_sliceStr {P : Program} {w : World} {a : Act} {o : Oper} (t : TypeId) (x y z : Operand) (l : List UInt8) (i j : Nat)
    (ho : o.op = .slice t x (some y) (some z) none) (hu : P.underlying t = some .string) (hx : a.eval x = encStr l) (hy : a.eval y = .int .i64 i) (hz : a.eval z = .int .i64 j) (hij : i ≤ j) (hj : j ≤ l.length) :
    (execOp a.eval o).run P w = .ok (.value (encStr ((l.take j).drop i))) w := by
  have hs := str_len l
  unfold execOp
  simp only [ho, Option.map_some, Option.map_none, hx, hy, hz, encStr]
  go_simp
  rw [str_extract]
theorem run_sliceStrL {P : Program} {w : World} {a : Act} {o : Oper} (t : TypeId) (x y : Operand) (l : List UInt8) (i : Nat)
    (ho : o.op = .slice t x (some y) none none) (hu : P.underlying t = some .string) (hx : a.eval x = encStr l) (hy : a.eval y = .int .i64 i) (hj : i ≤ l.length) :
    (execOp a.eval o).run P w = .ok (.value (encStr (l.drop i))) w := by
  have hs := str_len l
  unfold execOp
  simp only [ho, Option.map_some, Option.map_none, hx, hy, encStr]
  go_simp
  rw [str_extract, List.take_length]
theorem run_sliceStrR {P : Program} {w : World} {a : Act} {o : Oper} (t : TypeId) (x z : Operand) (l : List UInt8) (j : Nat)
    (ho : o.op = .slice t x none (some z) none) (hu : P.underlying t = some .string) (hx : a.eval x = encStr l) (hz : a.eval z = .int .i64 j) (hj : j ≤ l.length) :
    (execOp a.eval o).run P w = .ok (.value (encStr (l.take j))) w := by
  have hs := str_len l
  unfold execOp
  simp only [ho, Option.map_some, Option.map_none, hx, hz, encStr]
  go_simp
  rw [str_extract]
  rfl
theorem run_eqStr {P : Program} {w : World} {a : Act} {o : Oper} {t s : Nat} {l m : List UInt8} {b : Bool} (x y : Operand) (ho : o.op = .binOp .eql t x y s) (hx : a.eval x = encStr l) (hy : a.eval y = encStr m) (hb : decide (l = m) = b) :
    (execOp a.eval o).run P w = .ok (.value (.bool b)) w := by
  subst hb
  unfold execOp
  simp only [ho, hx, hy, encStr]
  go_simp
  rw [Bool.eq_iff_iff]; simp
theorem run_neStr {P : Program} {w : World} {a : Act} {o : Oper} {t s : Nat} {l m : List UInt8} {b : Bool} (x y : Operand) (ho : o.op = .binOp .neq t x y s) (hx : a.eval x = encStr l) (hy : a.eval y = encStr m) (hb : (!decide (l = m)) = b) :
    (execOp a.eval o).run P w = .ok (.value (.bool b)) w := by
  subst hb
  unfold execOp
  simp only [ho, hx, hy, encStr]
  go_simp
  rw [Bool.eq_iff_iff]; simp
theorem run_addStr {P : Program} {w : World} {a : Act} {o : Oper} {t s : Nat} {l m : List UInt8} (x y : Operand) (ho : o.op = .binOp .add t x y s) (hx : a.eval x = encStr l) (hy : a.eval y = encStr m) (h1 : l.length + m.length ≤ 9223372036854775807) :
    (execOp a.eval o).run P w = .ok (.value (encStr (l ++ m))) w := by
  unfold execOp
  simp only [ho, hx, hy, encStr]
  go_simp
  rw [if_neg (by omega), ByteArray.mk_append_mk]
theorem run_addZ {P : Program} {w : World} {a : Act} {o : Oper} {t s : Nat} {u v z : Int} (x y : Operand) (ho : o.op = .binOp .add t x y s) (hx : a.eval x = .int .i64 u) (hy : a.eval y = .int .i64 v) (hz : IntKind.i64.wrap (u + v) = z) : (execOp a.eval o).run P w = .ok (.value (.int .i64 z)) w := by
  subst hz
  unfold execOp
  simp only [ho, hx, hy]
  go_simp
  try rfl
theorem run_subZ {P : Program} {w : World} {a : Act} {o : Oper} {t s : Nat} {u v z : Int} (x y : Operand) (ho : o.op = .binOp .sub t x y s) (hx : a.eval x = .int .i64 u) (hy : a.eval y = .int .i64 v) (hz : IntKind.i64.wrap (u - v) = z) : (execOp a.eval o).run P w = .ok (.value (.int .i64 z)) w := by
  subst hz
  unfold execOp
  simp only [ho, hx, hy]
  go_simp
  try rfl
theorem wrap_id {x z : Int} (h : x = z) (h0 : -9223372036854775808 ≤ z) (h1 : z ≤ 9223372036854775807) : IntKind.i64.wrap x = z := by
  subst h
  simp [IntKind.wrap, IntKind.bits, IntKind.signed]
  omega
theorem results_rt2 {P : Program} {fn : Func} {p u : Tmp} {ty : TypeId} (h : fn.results = #[.cell p ty, .tmp u]) (tmps : Array Value) (w : World) (g : Nat) (t : TypeId) (cs : List Value) (d : TypeDesc) (v : Value)
    (hp : tmps.getD p undef = .pointer (some ⟨g, 0, none⟩)) (hg : Row w t g cs)
    (hu : P.underlying ty = some d) (hd : (match d with | .struct _ | .array _ _ => true | _ => false) = true) (hi : (P.info? ty).map (·.size) = some cs.length) (hv : tmps.getD u undef = v) :
    (results fn tmps).run P w = .ok (.tuple #[.agg cs.toArray, v]) w := by
  rw [results_cell_tmp h, hp, hv]
  simp [asAddr, run_loadVar_row w g t ty cs.toArray (0, 0) d hg hu hd (by simpa using hi)]
theorem results_rt3 {P : Program} {fn : Func} {p u u' : Tmp} {ty : TypeId} (h : fn.results = #[.cell p ty, .tmp u, .tmp u']) (tmps : Array Value) (w : World) (g : Nat) (t : TypeId) (cs : List Value) (d : TypeDesc) (v v' : Value)
    (hp : tmps.getD p undef = .pointer (some ⟨g, 0, none⟩)) (hg : Row w t g cs)
    (hu : P.underlying ty = some d) (hd : (match d with | .struct _ | .array _ _ => true | _ => false) = true) (hi : (P.info? ty).map (·.size) = some cs.length) (hv : tmps.getD u undef = v) (hv' : tmps.getD u' undef = v') :
    (results fn tmps).run P w = .ok (.tuple #[.agg cs.toArray, v, v']) w := by
  have e : (results fn tmps).run P w = ((asAddr (tmps.getD p undef)).run P w).andThen fun a w₁ => ((loadVar ty a).run P w₁).andThen fun v w₂ => .ok (.tuple #[v, tmps.getD u undef, tmps.getD u' undef]) w₂ := by
    simp only [results, h]
    simp [Sem.run_bind, Result.andThen]
  rw [e, hp, hv, hv']
  simp [asAddr, run_loadVar_row w g t ty cs.toArray (0, 0) d hg hu hd (by simpa using hi)]
theorem run_idxSl0 {P : Program} {w : World} {a : Act} {o : Oper} (t : TypeId) (x y : Operand) (e : TypeId) (z : Nat) (b len cap i : Nat)
    (ho : o.op = .indexAddr t x y) (hu : P.underlying t = some (.slice e)) (hs : ∀ w, (sizeOf e).run P w = .ok z w) (hx : a.eval x = .slice (some ⟨b, 0, none⟩) len cap) (hy : a.eval y = .int .i64 i) (hi : i < len) :
    (execOp a.eval o).run P w = .ok (.value (.pointer (some ⟨b, i * z, none⟩))) w := by
  unfold execOp
  simp only [ho, hx, hy]
  go_simp
theorem run_lenSl {P : Program} {w : World} {a : Act} {o : Oper} (t : TypeId) (x : Operand) (A : Option Addr) (n c : Nat) (ho : o.op = .call { callee := .builtin .len, args := #[x], argTypes := #[t] }) (hu : ∃ e, P.underlying t = some (.slice e)) (hx : a.eval x = .slice A n c) : (execOp a.eval o).run P w = .ok (.value (.int .i64 n)) w := by
  obtain ⟨e, hu⟩ := hu
  unfold execOp
  simp only [ho, resolve, invoke, List.map_toArray, List.map_cons, List.map_nil, hx]
  go_simp
theorem run_lenStr {P : Program} {w : World} {a : Act} {o : Oper} (t : TypeId) (x : Operand) (l : List UInt8) (ho : o.op = .call { callee := .builtin .len, args := #[x], argTypes := #[t] }) (hu : P.underlying t = some .string) (hx : a.eval x = encStr l) : (execOp a.eval o).run P w = .ok (.value (.int .i64 l.length)) w := by
  have hs := str_len l
  unfold execOp
  simp only [ho, resolve, invoke, List.map_toArray, List.map_cons, List.map_nil, hx, encStr]
  go_simp
theorem run_loadC {P : Program} {w : World} {a : Act} {o : Oper} (ty : TypeId) (x : Operand) (g off : Nat) (M : List Value) (d : TypeDesc) (ho : o.op = .load ty x) (hx : a.eval x = .pointer (some ⟨g, off, none⟩)) (h : ∀ j v, M[j]? = some v → w.cell? ⟨g, off + j, none⟩ = some v)
    (hu : P.underlying ty = some d) (hd : (match d with | .struct _ | .array _ _ => true | _ => false) = true) (hi : (P.info? ty).map (·.size) = some M.length) : (execOp a.eval o).run P w = .ok (.value (.agg M.toArray)) w := by
  unfold execOp
  simp only [ho, hx, Instr.loadAt, Instr.sureAddr, Sem.run_bind, Sem.run_pure, Result.andThen_ok, run_loadVar_cells ty g off M d h hu hd hi]
theorem run_load1 {P : Program} {w : World} {a : Act} {o : Oper} (ty : TypeId) (x : Operand) (g off : Nat) (v : Value) (ho : o.op = .load ty x) (hagg : ∀ w, (isAgg ty).run P w = .ok false w) (hx : a.eval x = .pointer (some ⟨g, off, none⟩)) (h : w.cell? ⟨g, off, none⟩ = some v) : (execOp a.eval o).run P w = .ok (.value v) w := by
  unfold execOp
  simp only [ho, hx]
  go_simp
theorem run_toStr {P : Program} {w : World} {a : Act} {o : Oper} (src dst e : TypeId) (x : Operand) {B n c : Nat} {A : Option Addr} {xs : List Int} (ho : o.op = .convert src dst x) (hx : a.eval x = .slice A n c) (h : Bs w B A n xs) (hs : P.underlying src = some (.slice e)) (he : P.underlying e = some (.int .u8)) (hd : P.underlying dst = some .string) :
    (execOp a.eval o).run P w = .ok (.value (.string (strOfNums xs))) w := by
  unfold execOp
  simp only [ho, hx, Sem.run_bind, Bs.convert h c src e dst hs he hd, Result.andThen_ok, Sem.run_pure]
theorem u8_one (n : Int) (h0 : 0 ≤ n) (h1 : n < 256) : strOfNums [n] = ⟨#[UInt8.ofNat n.toNat]⟩ := rfl
theorem run_quoZ {P : Program} {w : World} {a : Act} {o : Oper} {t s : Nat} {u v z : Int} (x y : Operand) (ho : o.op = .binOp .quo t x y s) (hx : a.eval x = .int .i64 u) (hy : a.eval y = .int .i64 v) (hv : v ≠ 0) (hz : IntKind.i64.wrap (u.tdiv v) = z) : (execOp a.eval o).run P w = .ok (.value (.int .i64 z)) w := by
  subst hz
  unfold execOp
  simp only [ho, hx, hy]
  go_simp
theorem run_mulZ {P : Program} {w : World} {a : Act} {o : Oper} {t s : Nat} {u v z : Int} (x y : Operand) (ho : o.op = .binOp .mul t x y s) (hx : a.eval x = .int .i64 u) (hy : a.eval y = .int .i64 v) (hz : IntKind.i64.wrap (u * v) = z) : (execOp a.eval o).run P w = .ok (.value (.int .i64 z)) w := by
  subst hz
  unfold execOp
  simp only [ho, hx, hy]
  go_simp
  try rfl
theorem run_negZ {P : Program} {w : World} {a : Act} {o : Oper} {t : Nat} {u z : Int} (x : Operand) (ho : o.op = .unOp .neg t x) (hx : a.eval x = .int .i64 u) (hz : IntKind.i64.wrap (-u) = z) : (execOp a.eval o).run P w = .ok (.value (.int .i64 z)) w := by
  subst hz
  unfold execOp
  simp only [ho, hx]
  go_simp
  try rfl
end Go.Proofs.YthjcmgjmdjihnaaDoor
