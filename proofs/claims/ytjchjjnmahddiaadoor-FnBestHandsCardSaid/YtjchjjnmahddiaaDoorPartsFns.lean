/-
  ValueParts: what it answers, and the program's walk.
-/
import Derived.Test.YtjchjjnmahddiaaDoorBase
namespace Go.Proofs.YtjchjjnmahddiaaDoor
open Go.RowKit
set_option linter.unusedVariables false

/-- What a call leaves that returns a number, a list and a code. -/
def NewRT (a : Int) (xs : List Int) (code : Int) (w : World) (e : Ending) (w' : World) : Prop := ∃ A c, e = .returned (.tuple #[.int .i64 a, .slice A xs.length c, .int .i64 code]) ∧ Row w' w.heap.size A xs ∧ Below w.heap.size w w'
def digs5 (r : Int) : List Int := [r / 28561, r / 2197 % 13, r / 169 % 13, r / 13 % 13, r % 13]
def vpA (n : Int) : Int := if inB n 0 3341636 = true then n / 371293 else 0
def vpL (n : Int) : List Int := if inB n 0 3341636 = true then digs5 (n % 371293) else []
def vpC (n : Int) : Int := if inB n 0 3341636 = true then 0 else 2
theorem vpA_yes {n : Int} (h : inB n 0 3341636 = true) : vpA n = n / 371293 := by unfold vpA; rw [if_pos h]
theorem vpA_no {n : Int} (h : inB n 0 3341636 = false) : vpA n = 0 := by unfold vpA; rw [h]; rfl
theorem vpL_yes {n : Int} (h : inB n 0 3341636 = true) : vpL n = digs5 (n % 371293) := by unfold vpL; rw [if_pos h]
theorem vpL_no {n : Int} (h : inB n 0 3341636 = false) : vpL n = [] := by unfold vpL; rw [h]; rfl
theorem vpC_yes {n : Int} (h : inB n 0 3341636 = true) : vpC n = 0 := by unfold vpC; rw [if_pos h]
theorem vpC_no {n : Int} (h : inB n 0 3341636 = false) : vpC n = 2 := by unfold vpC; rw [h]; rfl
theorem vpL_len (n : Int) : (vpL n).length ≤ 5 := by unfold vpL; split <;> simp [digs5]
theorem inV {n : Int} : (inB n 0 3341636 = true ∧ 0 ≤ n ∧ n ≤ 3341636) ∨ (inB n 0 3341636 = false ∧ outB n 0 3341636) := by
  by_cases h : 0 ≤ n ∧ n ≤ 3341636
  · exact .inl ⟨inB_yes n _ _ h.1 h.2, h⟩
  · have ho : outB n 0 3341636 := by unfold outB; omega
    exact .inr ⟨outB_inB _ _ _ ho, ho⟩
def rs (r : Int) : Nat → Int
  | 0 => r
  | t + 1 => rs r t / 13
def pt (r : Int) : Nat → List Int
  | 0 => [0, 0, 0, 0, 0]
  | t + 1 => (pt r t).set (4 - t) (rs r t % 13)
theorem rs_bd (r : Int) (h0 : 0 ≤ r) (h1 : r < 371293) : ∀ t, 0 ≤ rs r t ∧ rs r t < 371293
  | 0 => ⟨h0, h1⟩
  | t + 1 => by have := rs_bd r h0 h1 t; unfold rs; omega
theorem pt_len (r : Int) : ∀ t, (pt r t).length = 5
  | 0 => rfl
  | t + 1 => by unfold pt; rw [List.length_set]; exact pt_len r t
theorem pt_all (r : Int) (h0 : 0 ≤ r) (h1 : r < 371293) : pt r 5 = digs5 r := by
  have e : rs r 4 % 13 = r / 28561 := by simp only [rs]; omega
  have e3 : rs r 3 % 13 = r / 2197 % 13 := by simp only [rs]; omega
  have e2 : rs r 2 % 13 = r / 169 % 13 := by simp only [rs]; omega
  have e1 : rs r 1 % 13 = r / 13 % 13 := by simp only [rs]
  have e0 : rs r 0 % 13 = r % 13 := rfl
  show (((((([0, 0, 0, 0, 0] : List Int).set 4 (rs r 0 % 13)).set 3 (rs r 1 % 13)).set 2 (rs r 2 % 13)).set 1 (rs r 3 % 13)).set 0 (rs r 4 % 13)) = digs5 r
  rw [e, e3, e2, e1, e0]
  rfl
end Go.Proofs.YtjchjjnmahddiaaDoor
