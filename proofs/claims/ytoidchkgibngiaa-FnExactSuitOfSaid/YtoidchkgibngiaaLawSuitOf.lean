/-
  The law FnExactSuitOf returns true for every number, and leaves it as it was: SuitOf answers as its model.
  No condition.
-/
import Derived.Test.YtoidchkgibngiaaSuitOf
import Derived.Lib.SmallJoins
namespace Go.Proofs.Ytoidchkgibngiaa
open Go.ChangeShapes Go.WideShapes Go.ChangeAt Go.RowKit Go.Joins
set_option linter.unusedVariables false

set_option maxHeartbeats 400000 in
theorem walkSuitOf (a : Int) (w : World) : Calls Try.prog 5 #[.int .i64 a] w (Fresh (.bool true) w) := by
  obtain ⟨x, y, K1, K2⟩ : ∃ x y : Int, Hid (∀ W, Calls Try.prog 22 #[.int .i64 a] W (Same (pairV x y) W)) ∧ Hid (∀ W, Calls Try.prog 21 #[.int .i64 a] W (Same (pairV x y) W)) :=
    ⟨_, _, Lib.hid (fun W => specSuitOf_any a W), Lib.hid (fun W => implSuitOf_any a W)⟩
  go_enter Try.func5, Try.ntmps5
  go_wp2_with (first | (go_at_call 22; refine (K1.out _).mono ?_; rintro e w1 ⟨rfl, rfl⟩) | (go_at_call 21; refine (K2.out _).mono ?_; rintro e w2 ⟨rfl, rfl⟩))
  go_ret
  exact ⟨rfl, bl_refl _⟩

set_option maxRecDepth 100000 in
theorem fnExactSuitOf_lifted (os : Os) (started : os.Started) (H : Type) (enc : TypeId × Value → H) :
    ReturnsInHanded {} Try.checked os 5 .any (Rows.fnExactSuitOfSpec.pre6 enc Try.prog Try.f5 Rows.fnExactSuitOfRow.domain false) (Rows.fnExactSuitOfSpec.post enc Try.prog Try.f5 false true false false) := by
  refine law_lifted started (by kernel_rfl) Try.func5 (by kernel_rfl) rfl (fun ds h => ?_) ?_
    (ChangeSpec.witness6 (enc := enc) (C := Try.checked) false ⟨#[], #[.int .i64 0], []⟩ 8 (by kernel_rfl) (by kernel_rfl) (by kernel_rfl) (by kernel_rfl)) ?_
  · match ds, h with
    | [d0], _ => rfl
  · rw [Try.params5]
    intro t ht
    obtain rfl : t = 2 := by simpa using ht
    exact ⟨by kernel_rfl, of_decide_eq_true (by kernel_rfl)⟩
  · intro W base args ds ps hval hA
    rw [Try.params5] at hA hval
    obtain ⟨v0, d0, rfl, rfl, h0⟩ := trodAll_one hA
    obtain ⟨n0, rfl, rfl, rfl, wa0⟩ := open_int Try.underlying2 (hval 0 2 v0 rfl rfl) h0
    exact walkSuitOf n0 W

/-- SuitOf answers as its model, for every number. -/
theorem fnExactSuitOf_holds : Rows.FnExactSuitOfSaid :=
  OpenClaim.holds_of_wide 5 Try.f5 rfl rfl rfl rfl rfl rfl rfl ⟨rfl, rfl, rfl, rfl, rfl⟩ rfl rfl rfl rfl rfl (by kernel_rfl) Try.func5 (by kernel_rfl)
    (of_decide_eq_true (by kernel_rfl)) (by unfold Func.isWrapper; first | (rw [if_pos (by decide +kernel)]; kernel_rfl) | (rw [if_neg (by decide +kernel)]; exact ⟨rfl, rfl⟩))
    (fun os started H enc _ => fnExactSuitOf_lifted os started H enc)

end Go.Proofs.Ytoidchkgibngiaa
