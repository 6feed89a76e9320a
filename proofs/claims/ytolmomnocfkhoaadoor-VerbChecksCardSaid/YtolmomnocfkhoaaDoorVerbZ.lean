/-
  Commands: the spec of any name; the program's Find. Contracts. Own work.
-/
import Derived.Test.YtolmomnocfkhoaaDoorVerbY
import Derived.Test.YtolmomnocfkhoaaDoorVerbO
namespace Go.Proofs.YtolmomnocfkhoaaDoor
open Go.RowKit
set_option linter.unusedVariables false
set_option linter.unusedSimpArgs false
set_option maxRecDepth 100000 in
set_option maxHeartbeats 4000000 in
theorem spec_any (w : World) (nm : List UInt8) : Calls Tryd.prog 27 #[encStr nm] w fun e w' => e = .returned (Sp.val (specL nm)) ∧ Below w.heap.size w w' := by
  cases hn : isName nm with
  | false => rw [specL_no hn]; exact sp_none w nm hn
  | true =>
    obtain ⟨x, hx, he⟩ := List.any_eq_true.1 hn
    obtain rfl := of_decide_eq_true he
    clear hn he
    simp only [spT, List.mem_cons, List.not_mem_nil, or_false] at hx
    rcases hx with rfl | rfl | rfl | rfl | rfl | rfl | rfl | rfl | rfl | rfl | rfl | rfl | rfl | rfl | rfl | rfl | rfl | rfl | rfl | rfl | rfl | rfl | rfl | rfl | rfl | rfl | rfl | rfl | rfl | rfl | rfl | rfl | rfl | rfl | rfl | rfl | rfl | rfl | rfl | rfl | rfl | rfl | rfl | rfl | rfl | rfl | rfl | rfl | rfl | rfl | rfl | rfl | rfl | rfl | rfl | rfl | rfl | rfl | rfl | rfl | rfl | rfl | rfl | rfl | rfl | rfl | rfl | rfl | rfl | rfl | rfl | rfl | rfl | rfl | rfl | rfl | rfl | rfl | rfl
    · rw [show specL [80, 73, 78, 71] = ({ (rdS [80, 73, 78, 71] 1 2) with f := 0, l := 0, s := 0 } : Sp) by decide]; exact sp_PING w
    · rw [show specL [69, 67, 72, 79] = ({ (rdS [69, 67, 72, 79] 2 2) with f := 0, l := 0, s := 0 } : Sp) by decide]; exact sp_ECHO w
    · rw [show specL [75, 69, 89, 83] = ({ (rdS [75, 69, 89, 83] 2 2) with f := 0, l := 0, s := 0 } : Sp) by decide]; exact sp_KEYS w
    · rw [show specL [68, 66, 83, 73, 90, 69] = ({ (rdS [68, 66, 83, 73, 90, 69] 1 1) with f := 0, l := 0, s := 0 } : Sp) by decide]; exact sp_DBSIZE w
    · rw [show specL [77, 85, 76, 84, 73] = ({ (rdS [77, 85, 76, 84, 73] 1 1) with f := 0, l := 0, s := 0 } : Sp) by decide]; exact sp_MULTI w
    · rw [show specL [69, 88, 69, 67] = ({ (rdS [69, 88, 69, 67] 1 1) with f := 0, l := 0, s := 0 } : Sp) by decide]; exact sp_EXEC w
    · rw [show specL [68, 73, 83, 67, 65, 82, 68] = ({ (rdS [68, 73, 83, 67, 65, 82, 68] 1 1) with f := 0, l := 0, s := 0 } : Sp) by decide]; exact sp_DISCARD w
    · rw [show specL [85, 78, 87, 65, 84, 67, 72] = ({ (rdS [85, 78, 87, 65, 84, 67, 72] 1 1) with f := 0, l := 0, s := 0 } : Sp) by decide]; exact sp_UNWATCH w
    · rw [show specL [70, 76, 85, 83, 72, 65, 76, 76] = ({ (wrS [70, 76, 85, 83, 72, 65, 76, 76] 1 1) with f := 0, l := 0, s := 0 } : Sp) by decide]; exact sp_FLUSHALL w
    · rw [show specL [87, 65, 84, 67, 72] = ({ (rdS [87, 65, 84, 67, 72] 2 40) with l := -1, s := 1 } : Sp) by decide]; exact sp_WATCH w
    · rw [show specL [69, 88, 73, 83, 84, 83] = ({ (rdS [69, 88, 73, 83, 84, 83] 2 40) with l := -1, s := 1 } : Sp) by decide]; exact sp_EXISTS w
    · rw [show specL [77, 71, 69, 84] = ({ (rdS [77, 71, 69, 84] 2 40) with l := -1, s := 1 } : Sp) by decide]; exact sp_MGET w
    · rw [show specL [83, 73, 78, 84, 69, 82] = ({ (rdS [83, 73, 78, 84, 69, 82] 2 40) with l := -1, s := 1 } : Sp) by decide]; exact sp_SINTER w
    · rw [show specL [83, 85, 78, 73, 79, 78] = ({ (rdS [83, 85, 78, 73, 79, 78] 2 40) with l := -1, s := 1 } : Sp) by decide]; exact sp_SUNION w
    · rw [show specL [83, 68, 73, 70, 70] = ({ (rdS [83, 68, 73, 70, 70] 2 40) with l := -1, s := 1 } : Sp) by decide]; exact sp_SDIFF w
    · rw [show specL [68, 69, 76] = ({ (wrS [68, 69, 76] 2 40) with l := -1, s := 1 } : Sp) by decide]; exact sp_DEL w
    · rw [show specL [71, 69, 84] = (rdS [71, 69, 84] 2 2) by decide]; exact sp_GET w
    · rw [show specL [83, 84, 82, 76, 69, 78] = (rdS [83, 84, 82, 76, 69, 78] 2 2) by decide]; exact sp_STRLEN w
    · rw [show specL [84, 89, 80, 69] = (rdS [84, 89, 80, 69] 2 2) by decide]; exact sp_TYPE w
    · rw [show specL [84, 84, 76] = (rdS [84, 84, 76] 2 2) by decide]; exact sp_TTL w
    · rw [show specL [80, 84, 84, 76] = (rdS [80, 84, 84, 76] 2 2) by decide]; exact sp_PTTL w
    · rw [show specL [72, 76, 69, 78] = (rdS [72, 76, 69, 78] 2 2) by decide]; exact sp_HLEN w
    · rw [show specL [72, 71, 69, 84, 65, 76, 76] = (rdS [72, 71, 69, 84, 65, 76, 76] 2 2) by decide]; exact sp_HGETALL w
    · rw [show specL [72, 75, 69, 89, 83] = (rdS [72, 75, 69, 89, 83] 2 2) by decide]; exact sp_HKEYS w
    · rw [show specL [72, 86, 65, 76, 83] = (rdS [72, 86, 65, 76, 83] 2 2) by decide]; exact sp_HVALS w
    · rw [show specL [76, 76, 69, 78] = (rdS [76, 76, 69, 78] 2 2) by decide]; exact sp_LLEN w
    · rw [show specL [83, 67, 65, 82, 68] = (rdS [83, 67, 65, 82, 68] 2 2) by decide]; exact sp_SCARD w
    · rw [show specL [83, 77, 69, 77, 66, 69, 82, 83] = (rdS [83, 77, 69, 77, 66, 69, 82, 83] 2 2) by decide]; exact sp_SMEMBERS w
    · rw [show specL [83, 82, 65, 78, 68, 77, 69, 77, 66, 69, 82] = (rdS [83, 82, 65, 78, 68, 77, 69, 77, 66, 69, 82] 2 2) by decide]; exact sp_SRANDMEMBER w
    · rw [show specL [90, 67, 65, 82, 68] = (rdS [90, 67, 65, 82, 68] 2 2) by decide]; exact sp_ZCARD w
    · rw [show specL [73, 78, 67, 82] = (wrS [73, 78, 67, 82] 2 2) by decide]; exact sp_INCR w
    · rw [show specL [68, 69, 67, 82] = (wrS [68, 69, 67, 82] 2 2) by decide]; exact sp_DECR w
    · rw [show specL [80, 69, 82, 83, 73, 83, 84] = (wrS [80, 69, 82, 83, 73, 83, 84] 2 2) by decide]; exact sp_PERSIST w
    · rw [show specL [76, 80, 79, 80] = (wrS [76, 80, 79, 80] 2 2) by decide]; exact sp_LPOP w
    · rw [show specL [82, 80, 79, 80] = (wrS [82, 80, 79, 80] 2 2) by decide]; exact sp_RPOP w
    · rw [show specL [83, 80, 79, 80] = (wrS [83, 80, 79, 80] 2 2) by decide]; exact sp_SPOP w
    · rw [show specL [83, 69, 84] = (wrS [83, 69, 84] 3 7) by decide]; exact sp_SET w
    · rw [show specL [71, 69, 84, 83, 69, 84] = (wrS [71, 69, 84, 83, 69, 84] 3 3) by decide]; exact sp_GETSET w
    · rw [show specL [83, 69, 84, 78, 88] = (wrS [83, 69, 84, 78, 88] 3 3) by decide]; exact sp_SETNX w
    · rw [show specL [65, 80, 80, 69, 78, 68] = (wrS [65, 80, 80, 69, 78, 68] 3 3) by decide]; exact sp_APPEND w
    · rw [show specL [73, 78, 67, 82, 66, 89] = (wrS [73, 78, 67, 82, 66, 89] 3 3) by decide]; exact sp_INCRBY w
    · rw [show specL [68, 69, 67, 82, 66, 89] = (wrS [68, 69, 67, 82, 66, 89] 3 3) by decide]; exact sp_DECRBY w
    · rw [show specL [69, 88, 80, 73, 82, 69] = (wrS [69, 88, 80, 73, 82, 69] 3 3) by decide]; exact sp_EXPIRE w
    · rw [show specL [80, 69, 88, 80, 73, 82, 69] = (wrS [80, 69, 88, 80, 73, 82, 69] 3 3) by decide]; exact sp_PEXPIRE w
    · rw [show specL [80, 69, 88, 80, 73, 82, 69, 65, 84] = (wrS [80, 69, 88, 80, 73, 82, 69, 65, 84] 3 3) by decide]; exact sp_PEXPIREAT w
    · rw [show specL [82, 69, 78, 65, 77, 69] = ({ (wrS [82, 69, 78, 65, 77, 69] 3 3) with l := 2, s := 1 } : Sp) by decide]; exact sp_RENAME w
    · rw [show specL [82, 80, 79, 80, 76, 80, 85, 83, 72] = ({ (wrS [82, 80, 79, 80, 76, 80, 85, 83, 72] 3 3) with l := 2, s := 1 } : Sp) by decide]; exact sp_RPOPLPUSH w
    · rw [show specL [77, 83, 69, 84] = ({ ({ (wrS [77, 83, 69, 84] 3 40) with l := -1, s := 2 } : Sp) with od := true } : Sp) by decide]; exact sp_MSET w
    · rw [show specL [72, 71, 69, 84] = (rdS [72, 71, 69, 84] 3 3) by decide]; exact sp_HGET w
    · rw [show specL [72, 69, 88, 73, 83, 84, 83] = (rdS [72, 69, 88, 73, 83, 84, 83] 3 3) by decide]; exact sp_HEXISTS w
    · rw [show specL [76, 73, 78, 68, 69, 88] = (rdS [76, 73, 78, 68, 69, 88] 3 3) by decide]; exact sp_LINDEX w
    · rw [show specL [83, 73, 83, 77, 69, 77, 66, 69, 82] = (rdS [83, 73, 83, 77, 69, 77, 66, 69, 82] 3 3) by decide]; exact sp_SISMEMBER w
    · rw [show specL [90, 83, 67, 79, 82, 69] = (rdS [90, 83, 67, 79, 82, 69] 3 3) by decide]; exact sp_ZSCORE w
    · rw [show specL [90, 82, 65, 78, 75] = (rdS [90, 82, 65, 78, 75] 3 3) by decide]; exact sp_ZRANK w
    · rw [show specL [90, 82, 69, 86, 82, 65, 78, 75] = (rdS [90, 82, 69, 86, 82, 65, 78, 75] 3 3) by decide]; exact sp_ZREVRANK w
    · rw [show specL [72, 77, 71, 69, 84] = (rdS [72, 77, 71, 69, 84] 3 40) by decide]; exact sp_HMGET w
    · rw [show specL [72, 68, 69, 76] = (wrS [72, 68, 69, 76] 3 40) by decide]; exact sp_HDEL w
    · rw [show specL [76, 80, 85, 83, 72] = (wrS [76, 80, 85, 83, 72] 3 40) by decide]; exact sp_LPUSH w
    · rw [show specL [82, 80, 85, 83, 72] = (wrS [82, 80, 85, 83, 72] 3 40) by decide]; exact sp_RPUSH w
    · rw [show specL [83, 65, 68, 68] = (wrS [83, 65, 68, 68] 3 40) by decide]; exact sp_SADD w
    · rw [show specL [83, 82, 69, 77] = (wrS [83, 82, 69, 77] 3 40) by decide]; exact sp_SREM w
    · rw [show specL [90, 82, 69, 77] = (wrS [90, 82, 69, 77] 3 40) by decide]; exact sp_ZREM w
    · rw [show specL [71, 69, 84, 82, 65, 78, 71, 69] = (rdS [71, 69, 84, 82, 65, 78, 71, 69] 4 4) by decide]; exact sp_GETRANGE w
    · rw [show specL [76, 82, 65, 78, 71, 69] = (rdS [76, 82, 65, 78, 71, 69] 4 4) by decide]; exact sp_LRANGE w
    · rw [show specL [90, 82, 69, 86, 82, 65, 78, 71, 69] = (rdS [90, 82, 69, 86, 82, 65, 78, 71, 69] 4 4) by decide]; exact sp_ZREVRANGE w
    · rw [show specL [90, 82, 65, 78, 71, 69, 66, 89, 83, 67, 79, 82, 69] = (rdS [90, 82, 65, 78, 71, 69, 66, 89, 83, 67, 79, 82, 69] 4 4) by decide]; exact sp_ZRANGEBYSCORE w
    · rw [show specL [90, 67, 79, 85, 78, 84] = (rdS [90, 67, 79, 85, 78, 84] 4 4) by decide]; exact sp_ZCOUNT w
    · rw [show specL [83, 69, 84, 82, 65, 78, 71, 69] = (wrS [83, 69, 84, 82, 65, 78, 71, 69] 4 4) by decide]; exact sp_SETRANGE w
    · rw [show specL [72, 83, 69, 84, 78, 88] = (wrS [72, 83, 69, 84, 78, 88] 4 4) by decide]; exact sp_HSETNX w
    · rw [show specL [72, 73, 78, 67, 82, 66, 89] = (wrS [72, 73, 78, 67, 82, 66, 89] 4 4) by decide]; exact sp_HINCRBY w
    · rw [show specL [76, 83, 69, 84] = (wrS [76, 83, 69, 84] 4 4) by decide]; exact sp_LSET w
    · rw [show specL [76, 84, 82, 73, 77] = (wrS [76, 84, 82, 73, 77] 4 4) by decide]; exact sp_LTRIM w
    · rw [show specL [76, 82, 69, 77] = (wrS [76, 82, 69, 77] 4 4) by decide]; exact sp_LREM w
    · rw [show specL [90, 73, 78, 67, 82, 66, 89] = (wrS [90, 73, 78, 67, 82, 66, 89] 4 4) by decide]; exact sp_ZINCRBY w
    · rw [show specL [90, 82, 69, 77, 82, 65, 78, 71, 69, 66, 89, 83, 67, 79, 82, 69] = (wrS [90, 82, 69, 77, 82, 65, 78, 71, 69, 66, 89, 83, 67, 79, 82, 69] 4 4) by decide]; exact sp_ZREMRANGEBYSCORE w
    · rw [show specL [83, 77, 79, 86, 69] = ({ (wrS [83, 77, 79, 86, 69] 4 4) with l := 2, s := 1 } : Sp) by decide]; exact sp_SMOVE w
    · rw [show specL [90, 82, 65, 78, 71, 69] = (rdS [90, 82, 65, 78, 71, 69] 4 5) by decide]; exact sp_ZRANGE w
    · rw [show specL [72, 83, 69, 84] = ({ (wrS [72, 83, 69, 84] 4 40) with ev := true } : Sp) by decide]; exact sp_HSET w
    · rw [show specL [90, 65, 68, 68] = ({ (wrS [90, 65, 68, 68] 4 40) with ev := true } : Sp) by decide]; exact sp_ZADD w
theorem specL_yes {nm : List UInt8} (h : isName nm = true) : ∃ x ∈ spT, x.1 = nm ∧ specL nm = x.2 := by
  unfold specL
  cases hf : spT.find? (fun x => decide (x.1 = nm)) with
  | none =>
    obtain ⟨x, hx, he⟩ := List.any_eq_true.1 h
    rw [List.find?_eq_none] at hf
    exact absurd he (hf x hx)
  | some x => exact ⟨x, List.mem_of_find?_eq_some hf, of_decide_eq_true (List.find?_some (p := fun x : List UInt8 × Sp => decide (x.1 = nm)) hf), rfl⟩
set_option maxRecDepth 100000 in
theorem spT_ok : (spT.all fun x => decide (x.2.nm = x.1) && decide (x.1 ≠ [])) = true := by decide
theorem specL_nm (nm : List UInt8) : (!decide ((specL nm).nm = [])) = isName nm := by
  cases h : isName nm with
  | false => rw [specL_no h]; rfl
  | true =>
    obtain ⟨x, hx, h1, h2⟩ := specL_yes h
    have := List.all_eq_true.1 spT_ok x hx
    simp only [Bool.and_eq_true, decide_eq_true_eq] at this
    rw [h2, this.1]
    simpa using this.2
theorem vfind_any (w : World) (name : List UInt8) (hl : name.length ≤ 1000000) : Calls Tryd.prog 10 #[encStr name] w fun e w' => e = .returned (.tuple #[Sp.val (specL (upL name)), .bool (isName (upL name))]) ∧ Below w.heap.size w w' := by
  have H := find_of w name hl (specL (upL name)) (fun w => spec_any w _)
  rwa [specL_nm] at H
end Go.Proofs.YtolmomnocfkhoaaDoor
