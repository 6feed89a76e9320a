/-
  The disk's laws: their acts; few. Own work.
-/
import Derived.Test.YtaflmiopaiigbaaDiskT
namespace Go.Proofs.Ytaflmiopaiigbaa
open Go.RowKit Go.Maps Go.ChangeMaps
set_option linter.unusedVariables false
set_option linter.unusedSimpArgs false
/-- One act. -/
structure DAct where
  k : Int
  n : Nm
  t : Nm
  A : Option Addr
  m : Nat
  c : Nat
  xs : List Int
  q : Int
  CA : Option Addr
  cm : Nat
  cc : Nat
  cs : List Int
abbrev DAct.cells (a : DAct) : List Value := [.int .u8 a.k, encStr a.n, encStr a.t, .slice a.A a.m a.c, .int .i64 a.q, .slice a.CA a.cm a.cc]
/-- Acts that came in. -/
def DActs (w : World) (B : Nat) (A : Option Addr) (n : Nat) (f : Nat → DAct) : Prop :=
  0 < n → ∃ b o, A = some ⟨b, o, none⟩ ∧ b < B ∧ ∀ j, j < n → (∀ i v, (f j).cells[i]? = some v → w.cell? ⟨b, o + j * 6 + i, none⟩ = some v) ∧ Bs w B (f j).A (f j).m (f j).xs ∧ IsAt w B (f j).CA (f j).cm (f j).cs
def DAct.few (a : DAct) : Prop := a.n.length ≤ 60 ∧ a.t.length ≤ 60 ∧ a.m ≤ 300 ∧ a.cm ≤ 80
def FewRes (m : Nat) (f : Nat → DAct) (nn : Int) (e : Ending) : Prop := ∃ b : Bool, e = .returned (.bool b) ∧ (b = true → (m : Int) ≤ nn ∧ ∀ j, j < m → (f j).few)
set_option maxRecDepth 100000 in
set_option maxHeartbeats 1000000 in
theorem few9_any (w : World) (A : Option Addr) (m c : Nat) (f : Nat → DAct) (B : Nat) (nn : Int) (h : DActs w B A m f) (hnn : nn ≤ 60) : Calls Try.prog 9 #[.slice A m c, .int .i64 nn] w fun e w' => FewRes m f nn e ∧ w = w' := by
  by_cases hlong : nn < (m : Int)
  · have hd : decide (nn < (m : Int)) = true := by simp; omega
    go_enter Try.func9, Try.ntmps9
    go_wp2_with fail
    go_ret
    exact ⟨⟨false, rfl, fun h => by cases h⟩, rfl⟩
  · have hd : decide (nn < (m : Int)) = false := by simp; omega
    have hm : m ≤ 60 := by omega
    have hm2 : (m : Int) ≤ nn := by omega
    have HM := hide hm2
    have H := hide h
    clear h hlong hm2
    go_enter Try.func9, Try.ntmps9
    go_wp2_with fail
    clear hnn
    go_loopw [5] (fun iv wr => ∃ (i : Nat), i ≤ m ∧ iv = .int .i64 i ∧ wr = w ∧ ∀ j, j < i → (f j).few) (fun iv _ => m - (intOf iv).toNat)
    case atStart => exact ⟨0, by omega, rfl, rfl, fun j hj => absurd hj (by omega)⟩
    case round =>
      obtain ⟨i, him, rfl, rfl, hs⟩ := hrel
      have HS := hide hs
      clear hs
      by_cases hi : i < m
      · obtain ⟨bb, oo, rfl, hbb, hcc⟩ := H.out (by omega)
        obtain ⟨hcell, _, _⟩ := hcc i hi
        clear hcc
        have c1 := hcell 1 _ rfl
        have c2 := hcell 2 _ rfl
        have c3 := hcell 3 _ rfl
        have c5 := hcell 5 _ rfl
        clear hcell
        generalize hq : f i = q at c1 c2 c3 c5
        have HQ := hide hq
        clear hq
        have s1 := enc_size q.n
        have s2 := enc_size q.t
        by_cases h1 : (60 : Int) < (q.n.length : Int)
        · have d1 : decide ((60 : Int) < (q.n.length : Int)) = true := by simp; omega
          go_wp2_with fail
          go_ret
          exact ⟨⟨false, rfl, fun h => by cases h⟩, rfl⟩
        · have d1 : decide ((60 : Int) < (q.n.length : Int)) = false := by simp; omega
          by_cases h2 : (60 : Int) < (q.t.length : Int)
          · have d2 : decide ((60 : Int) < (q.t.length : Int)) = true := by simp; omega
            go_wp2_with fail
            go_ret
            exact ⟨⟨false, rfl, fun h => by cases h⟩, rfl⟩
          · have d2 : decide ((60 : Int) < (q.t.length : Int)) = false := by simp; omega
            by_cases h3 : (300 : Int) < (q.m : Int)
            · have d3 : decide ((300 : Int) < (q.m : Int)) = true := by simp; omega
              go_wp2_with fail
              go_ret
              exact ⟨⟨false, rfl, fun h => by cases h⟩, rfl⟩
            · have d3 : decide ((300 : Int) < (q.m : Int)) = false := by simp; omega
              by_cases h5 : (80 : Int) < (q.cm : Int)
              · have d5 : decide ((80 : Int) < (q.cm : Int)) = true := by simp; omega
                go_wp2_with fail
                go_ret
                exact ⟨⟨false, rfl, fun h => by cases h⟩, rfl⟩
              · have d5 : decide ((80 : Int) < (q.cm : Int)) = false := by simp; omega
                go_wp2_with fail
                go_roundw
                case rel => exact ⟨i + 1, by omega, by go_num, by first | rfl | trivial, fun j hj => by
                  by_cases hji : j = i
                  · rw [hji, HQ.out]; exact ⟨by omega, by omega, by omega, by omega⟩
                  · exact HS.out j (by omega)⟩
                case measure => simp [intOf]; omega
      · obtain rfl : i = m := by omega
        go_wp2_with fail
        go_ret
        exact ⟨⟨true, rfl, fun _ => ⟨HM.out, HS.out⟩⟩, rfl⟩
end Go.Proofs.Ytaflmiopaiigbaa
