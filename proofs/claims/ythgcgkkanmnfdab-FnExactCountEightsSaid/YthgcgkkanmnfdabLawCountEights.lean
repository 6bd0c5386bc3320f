/-
  The law FnExactCountEights returns true: CountEights answers as its model.
  No condition.
-/
import Derived.Test.YthgcgkkanmnfdabIn
import Derived.Test.YthgcgkkanmnfdabFrame
import Derived.Lib.SmallJoins
import Derived.OpenShut
namespace Go.Proofs.Ythgcgkkanmnfdab
open Go.ChangeShapes Go.WideShapes Go.ChangeAt Go.RowKit Go.Joins
set_option linter.unusedVariables false

set_option maxRecDepth 100000 in
set_option maxHeartbeats 1000000 in
theorem walkCountEights (w : World) : Calls Try.prog 4 #[] w (Fresh (.bool true) w) := by
  have K1 : Hid (∀ W : World, Calls Try.prog 7 #[] W (Same (.int .i64 57344) W)) := Lib.hid (fun W => by
    go_enter Try.func7, Try.ntmps7
    go_wp2_with fail
    go_ret
    exact ⟨rfl, rfl⟩)
  have K2 : Hid (∀ W : World, Calls Try.prog 8 #[] W (Same (.int .i64 57344) W)) := Lib.hid (fun W => by
    go_enter Try.func8, Try.ntmps8
    go_wp2_with fail
    go_ret
    exact ⟨rfl, rfl⟩)
  go_enter Try.func4, Try.ntmps4
  go_wp2_with (go_at_call 7; ((with_reducible refine (K1.out _).mono ?_); rintro e w1 ⟨rfl, rfl⟩))
  go_wp2_with (go_at_call 8; ((with_reducible refine (K2.out _).mono ?_); rintro e w2 ⟨rfl, rfl⟩))
  go_ret
  exact ⟨ret_bool (by simp), bl_refl _⟩

set_option maxRecDepth 100000 in
theorem fnExactCountEights_lifted (os : Os) (started : os.Started) (H : Type) (enc : TypeId × Value → H) :
    ReturnsInHanded {} Try.checked os 4 .any (Rows.fnExactCountEightsSpec.pre6 enc Try.prog Try.f4 Rows.fnExactCountEightsRow.domain false) (Rows.fnExactCountEightsSpec.post enc Try.prog Try.f4 false true false false) := by
  refine law_lifted started (by kernel_rfl) Try.func4 (by kernel_rfl) rfl (fun ds h => ?_) ?_
    (ChangeSpec.witness6 (enc := enc) (C := Try.checked) false ⟨#[], #[], []⟩ 8 (by kernel_rfl) (by kernel_rfl) (by kernel_rfl) (by kernel_rfl)) ?_
  · match ds, h with
    | [], _ => rfl
  · rw [Try.params4]
    intro t ht
    simp at ht
  · intro W base args ds ps hval hA
    rw [Try.params4] at hA hval
    have ha : args = #[] := by
      apply Array.toList_inj.1
      show args.toList = []
      rcases h : args.toList with _ | ⟨v, vs⟩
      · rfl
      · exfalso
        rw [h] at hA
        cases ds <;> exact hA
    subst ha
    exact walkCountEights W

/-- CountEights answers as its model. -/
theorem fnExactCountEights_holds : Rows.FnExactCountEightsSaid :=
  OpenClaim.holds_of_wide 4 Try.f4 rfl rfl rfl rfl rfl rfl rfl ⟨rfl, rfl, rfl, rfl, rfl⟩ rfl rfl rfl rfl rfl (by kernel_rfl) Try.func4 (by kernel_rfl)
    (of_decide_eq_true (by kernel_rfl)) (by unfold Func.isWrapper; first | (rw [if_pos (by decide +kernel)]; kernel_rfl) | (rw [if_neg (by decide +kernel)]; exact ⟨rfl, rfl⟩))
    (fun os started H enc _ => fnExactCountEights_lifted os started H enc)

end Go.Proofs.Ythgcgkkanmnfdab
