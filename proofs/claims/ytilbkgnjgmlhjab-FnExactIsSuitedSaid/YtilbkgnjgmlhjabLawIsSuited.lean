/-
  The law FnExactIsSuited returns true for every number, and leaves it as it was: IsSuited answers as its model.
  No condition.
-/
import Derived.Test.YtilbkgnjgmlhjabSuitedFns
import Derived.Lib.SmallJoins
namespace Go.Proofs.Ytilbkgnjgmlhjab
open Go.ChangeShapes Go.WideShapes Go.ChangeAt Go.RowKit Go.Joins
set_option linter.unusedVariables false

set_option maxHeartbeats 1000000 in
theorem walkIsSuited (k : Int) (w : World) : Calls Try.prog 3 #[.int .i64 k] w (Fresh (.bool true) w) := by
  obtain ⟨a, b, c, K1, K2⟩ : ∃ (a b : Bool) (c : Int), Hid (∀ W, Calls Try.prog 4 #[.int .i64 k] W (Same (isuV a b c) W)) ∧ Hid (∀ W, Calls Try.prog 5 #[.int .i64 k] W (Same (isuV a b c) W)) :=
    ⟨_, _, _, Lib.hid (fun W => specIsSuited_any k W), Lib.hid (fun W => implIsSuited_any k W)⟩
  have q1 : (a != a) = false := by simp
  have q2 : (b != b) = false := by simp
  go_enter Try.func3, Try.ntmps3
  go_wp2_with (first | (go_at_call 4; refine (K1.out _).mono ?_; rintro e w1 ⟨rfl, rfl⟩) | (go_at_call 5; refine (K2.out _).mono ?_; rintro e w2 ⟨rfl, rfl⟩))
  go_ret
  exact ⟨rfl, bl_refl _⟩

set_option maxRecDepth 100000 in
theorem fnExactIsSuited_lifted (os : Os) (started : os.Started) (H : Type) (enc : TypeId × Value → H) :
    ReturnsInHanded {} Try.checked os 3 .any (Rows.fnExactIsSuitedSpec.pre6 enc Try.prog Try.f3 Rows.fnExactIsSuitedRow.domain false) (Rows.fnExactIsSuitedSpec.post enc Try.prog Try.f3 false true false false) := by
  refine law_lifted started (by kernel_rfl) Try.func3 (by kernel_rfl) rfl (fun ds h => ?_) ?_
    (ChangeSpec.witness6 (enc := enc) (C := Try.checked) false ⟨#[], #[.int .i64 0], []⟩ 8 (by kernel_rfl) (by kernel_rfl) (by kernel_rfl) (by kernel_rfl)) ?_
  · match ds, h with
    | [d0], _ => rfl
  · rw [Try.params3]
    intro t ht
    obtain rfl : t = 2 := by simpa using ht
    exact ⟨by kernel_rfl, of_decide_eq_true (by kernel_rfl)⟩
  · intro W base args ds ps hval hA
    rw [Try.params3] at hA hval
    obtain ⟨v0, d0, rfl, rfl, h0⟩ := trodAll_one hA
    obtain ⟨n0, rfl, rfl, rfl, wa0⟩ := open_int Try.underlying2 (hval 0 2 v0 rfl rfl) h0
    exact walkIsSuited n0 W

/-- IsSuited answers as its model, for every number. -/
theorem fnExactIsSuited_holds : Rows.FnExactIsSuitedSaid :=
  OpenClaim.holds_of_wide 3 Try.f3 rfl rfl rfl rfl rfl rfl rfl ⟨rfl, rfl, rfl, rfl, rfl⟩ rfl rfl rfl rfl rfl (by kernel_rfl) Try.func3 (by kernel_rfl)
    (of_decide_eq_true (by kernel_rfl)) (by unfold Func.isWrapper; first | (rw [if_pos (by decide +kernel)]; kernel_rfl) | (rw [if_neg (by decide +kernel)]; exact ⟨rfl, rfl⟩))
    (fun os started H enc _ => fnExactIsSuited_lifted os started H enc)

end Go.Proofs.Ytilbkgnjgmlhjab
