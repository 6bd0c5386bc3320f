/-
  The law FnExactCardOf returns true for every two numbers, and leaves them as they were: CardOf answers as its model.
  No condition.
-/
import Derived.Test.YtoidchkgibngiaaCardOf
import Derived.Lib.SmallJoins
namespace Go.Proofs.Ytoidchkgibngiaa
open Go.ChangeShapes Go.WideShapes Go.ChangeAt Go.RowKit Go.Joins
set_option linter.unusedVariables false

set_option maxHeartbeats 400000 in
theorem walkCardOf (a b : Int) (w : World) : Calls Try.prog 6 #[.int .i64 a, .int .i64 b] w (Fresh (.bool true) w) := by
  obtain ⟨x, y, K1, K2⟩ : ∃ x y : Int, Hid (∀ W, Calls Try.prog 25 #[.int .i64 a, .int .i64 b] W (Same (pairV x y) W)) ∧ Hid (∀ W, Calls Try.prog 24 #[.int .i64 a, .int .i64 b] W (Same (pairV x y) W)) :=
    ⟨_, _, Lib.hid (fun W => specCardOf_any a b W), Lib.hid (fun W => implCardOf_any a b W)⟩
  go_enter Try.func6, Try.ntmps6
  go_wp2_with (first | (go_at_call 25; refine (K1.out _).mono ?_; rintro e w1 ⟨rfl, rfl⟩) | (go_at_call 24; refine (K2.out _).mono ?_; rintro e w2 ⟨rfl, rfl⟩))
  go_ret
  exact ⟨rfl, bl_refl _⟩

set_option maxRecDepth 100000 in
theorem fnExactCardOf_lifted (os : Os) (started : os.Started) (H : Type) (enc : TypeId × Value → H) :
    ReturnsInHanded {} Try.checked os 6 .any (Rows.fnExactCardOfSpec.pre6 enc Try.prog Try.f6 Rows.fnExactCardOfRow.domain false) (Rows.fnExactCardOfSpec.post enc Try.prog Try.f6 false true false false) := by
  refine law_lifted started (by kernel_rfl) Try.func6 (by kernel_rfl) rfl (fun ds h => ?_) ?_
    (ChangeSpec.witness6 (enc := enc) (C := Try.checked) false ⟨#[], #[.int .i64 0, .int .i64 0], []⟩ 8 (by kernel_rfl) (by kernel_rfl) (by kernel_rfl) (by kernel_rfl)) ?_
  · match ds, h with
    | [d0, d1], _ => rfl
  · rw [Try.params6]
    intro t ht
    obtain rfl : t = 2 := by simpa using ht
    exact ⟨by kernel_rfl, of_decide_eq_true (by kernel_rfl)⟩
  · intro W base args ds ps hval hA
    rw [Try.params6] at hA hval
    obtain ⟨v0, v1, d0, d1, p0, p1, rfl, rfl, rfl, h0, h1⟩ := trodAll_two hA
    obtain ⟨n0, rfl, rfl, rfl, wa0⟩ := open_int Try.underlying2 (hval 0 2 v0 rfl rfl) h0
    obtain ⟨n1, rfl, rfl, rfl, wa1⟩ := open_int Try.underlying2 (hval 1 2 v1 rfl rfl) h1
    exact walkCardOf n0 n1 W

/-- CardOf answers as its model, for every two numbers. -/
theorem fnExactCardOf_holds : Rows.FnExactCardOfSaid :=
  OpenClaim.holds_of_wide 6 Try.f6 rfl rfl rfl rfl rfl rfl rfl ⟨rfl, rfl, rfl, rfl, rfl⟩ rfl rfl rfl rfl rfl (by kernel_rfl) Try.func6 (by kernel_rfl)
    (of_decide_eq_true (by kernel_rfl)) (by unfold Func.isWrapper; first | (rw [if_pos (by decide +kernel)]; kernel_rfl) | (rw [if_neg (by decide +kernel)]; exact ⟨rfl, rfl⟩))
    (fun os started H enc _ => fnExactCardOf_lifted os started H enc)

end Go.Proofs.Ytoidchkgibngiaa
