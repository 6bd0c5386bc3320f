/-
  The law FnExactIsEightOrBetter returns true for every number: IsEightOrBetter answers as its model.
  No condition.
-/
import Derived.Test.YthgcgkkanmnfdabIn
import Derived.Test.YthgcgkkanmnfdabFrame
import Derived.Lib.SmallJoins
import Derived.OpenShut
namespace Go.Proofs.Ythgcgkkanmnfdab
open Go.ChangeShapes Go.WideShapes Go.ChangeAt Go.RowKit Go.Joins
set_option linter.unusedVariables false

theorem inE {n : Int} : (inB n 0 228487 = true ∧ 0 ≤ n ∧ n ≤ 228487) ∨ (inB n 0 228487 = false ∧ outB n 0 228487) := by
  by_cases h : 0 ≤ n ∧ n ≤ 228487
  · exact .inl ⟨inB_yes n _ _ h.1 h.2, h⟩
  · have ho : outB n 0 228487 := by unfold outB; omega
    exact .inr ⟨outB_inB _ _ _ ho, ho⟩
set_option maxRecDepth 100000 in
set_option maxHeartbeats 1000000 in
theorem specEight_any (n : Int) (w : World) : Calls Try.prog 5 #[.int .i64 n] w (Same (.bool (inB n 0 228487)) w) := by
  have K := Lib.hid (specIn_any n 0 228487)
  go_enter Try.func5, Try.ntmps5
  go_wp2_with (go_at_call 9; refine (K.out _).mono ?_; rintro e w1 ⟨rfl, rfl⟩)
  go_ret
  exact ⟨rfl, rfl⟩
set_option maxRecDepth 100000 in
set_option maxHeartbeats 1000000 in
theorem implEight_any (n : Int) (w : World) : Calls Try.prog 6 #[.int .i64 n] w (Same (.bool (inB n 0 228487)) w) := by
  rcases inE (n := n) with ⟨hd, h0, h1⟩ | ⟨hd, ho⟩
  · rw [hd]
    clear hd
    go_enter Try.func6, Try.ntmps6
    go_wp2_with fail
    go_ret
    exact ⟨ret_bool (by simp; omega), rfl⟩
  · rw [hd]
    clear hd
    unfold outB at ho
    by_cases h0 : 0 ≤ n
    · go_enter Try.func6, Try.ntmps6
      go_wp2_with fail
      go_ret
      exact ⟨ret_bool (by simp; omega), rfl⟩
    · go_enter Try.func6, Try.ntmps6
      go_wp2_with fail
      go_ret
      exact ⟨ret_bool (by first | rfl | (simp; omega)), rfl⟩
set_option maxRecDepth 100000 in
set_option maxHeartbeats 1000000 in
theorem walkEight (n : Int) (w : World) : Calls Try.prog 3 #[.int .i64 n] w (Fresh (.bool true) w) := by
  have K1 := Lib.hid (fun W : World => specEight_any n W)
  have K2 := Lib.hid (fun W : World => implEight_any n W)
  generalize inB n 0 228487 = r at *
  go_enter Try.func3, Try.ntmps3
  go_wp2_with (go_at_call 5; ((with_reducible refine (K1.out _).mono ?_); rintro e w1 ⟨rfl, rfl⟩))
  go_wp2_with (go_at_call 6; ((with_reducible refine (K2.out _).mono ?_); rintro e w2 ⟨rfl, rfl⟩))
  go_ret
  exact ⟨ret_bool (by simp), bl_refl _⟩

set_option maxRecDepth 100000 in
theorem fnExactIsEightOrBetter_lifted (os : Os) (started : os.Started) (H : Type) (enc : TypeId × Value → H) :
    ReturnsInHanded {} Try.checked os 3 .any (Rows.fnExactIsEightOrBetterSpec.pre6 enc Try.prog Try.f3 Rows.fnExactIsEightOrBetterRow.domain false) (Rows.fnExactIsEightOrBetterSpec.post enc Try.prog Try.f3 false true false false) := by
  refine law_lifted started (by kernel_rfl) Try.func3 (by kernel_rfl) rfl (fun ds h => ?_) ?_
    (ChangeSpec.witness6 (enc := enc) (C := Try.checked) false ⟨#[], #[.int .i64 0], []⟩ 8 (by kernel_rfl) (by kernel_rfl) (by kernel_rfl) (by kernel_rfl)) ?_
  · match ds, h with
    | [d0], _ => rfl
  · rw [Try.params3]
    intro t ht
    obtain rfl : t = 2 := by simpa using ht
    exact ⟨by kernel_rfl, of_decide_eq_true (by kernel_rfl)⟩
  · intro W base args ds ps hval hA
    rw [Try.params3] at hA hval
    obtain ⟨v0, d0, rfl, rfl, h0⟩ := trodAll_one hA
    obtain ⟨n0, rfl, rfl, rfl, wa0⟩ := open_int Try.underlying2 (hval 0 2 v0 rfl rfl) h0
    exact walkEight n0 W

/-- IsEightOrBetter answers as its model, for every number. -/
theorem fnExactIsEightOrBetter_holds : Rows.FnExactIsEightOrBetterSaid :=
  OpenClaim.holds_of_wide 3 Try.f3 rfl rfl rfl rfl rfl rfl rfl ⟨rfl, rfl, rfl, rfl, rfl⟩ rfl rfl rfl rfl rfl (by kernel_rfl) Try.func3 (by kernel_rfl)
    (of_decide_eq_true (by kernel_rfl)) (by unfold Func.isWrapper; first | (rw [if_pos (by decide +kernel)]; kernel_rfl) | (rw [if_neg (by decide +kernel)]; exact ⟨rfl, rfl⟩))
    (fun os started H enc _ => fnExactIsEightOrBetter_lifted os started H enc)

end Go.Proofs.Ythgcgkkanmnfdab
