/-
  The law FnExactMakeRatio returns true for every two numbers, and leaves them as they were: MakeRatio answers as its model.
  No condition.
-/
import Derived.Test.YtohhjcnkbifdbaaTwo
namespace Go.Proofs.Ytohhjcnkbifdbaa
open Go.ChangeShapes Go.WideShapes Go.ChangeAt Go.RowKit Go.Joins
set_option linter.unusedVariables false

set_option maxHeartbeats 400000 in
theorem walkMk (a b : Int) (w : World) : Calls Try.prog 7 #[.int .i64 a, .int .i64 b] w (Fresh (.bool true) w) := by
  obtain ⟨T, K1, K2⟩ : ∃ T : Int × Int × Int, Hid (∀ W, Calls Try.prog 33 #[.int .i64 a, .int .i64 b] W (Fresh (tripV T) W)) ∧ Hid (∀ W, Calls Try.prog 34 #[.int .i64 a, .int .i64 b] W (Fresh (tripV T) W)) :=
    ⟨_, Lib.hid (fun W => specMk_any a b W), Lib.hid (fun W => implMk_any a b W)⟩
  go_enter Try.func7, Try.ntmps7
  go_wp2_with (go_at_call 33; refine (K1.out _).mono ?_; rintro e w1 ⟨rfl, hb1⟩)
  go_wp2_with (go_at_call 34; refine (K2.out _).mono ?_; rintro e w2 ⟨rfl, hb2⟩; obtain ⟨hc2, hf2⟩ := bcell hb2; have hz2 := sz_new hb2)
  go_wp2_with (go_at_call 35; refine (eqRatio_same _ _ _).mono ?_; rintro e w3 ⟨rfl, hb3⟩)
  go_ret
  exact ⟨rfl, bl_trans (bl_alloc (bl_trans (bl_alloc hb1 _) hb2) _) hb3⟩

set_option maxRecDepth 100000 in
theorem fnExactMakeRatio_lifted (os : Os) (started : os.Started) (H : Type) (enc : TypeId × Value → H) :
    ReturnsInHanded {} Try.checked os 7 .any (Rows.fnExactMakeRatioSpec.pre6 enc Try.prog Try.f7 Rows.fnExactMakeRatioRow.domain false) (Rows.fnExactMakeRatioSpec.post enc Try.prog Try.f7 false true false false) := by
  refine law_lifted started (by kernel_rfl) Try.func7 (by kernel_rfl) rfl (fun ds h => ?_) ?_
    (ChangeSpec.witness6 (enc := enc) (C := Try.checked) false ⟨#[], #[.int .i64 0, .int .i64 0], []⟩ 8 (by kernel_rfl) (by kernel_rfl) (by kernel_rfl) (by kernel_rfl)) ?_
  · match ds, h with
    | [d0, d1], _ => rfl
  · rw [Try.params7]
    intro t ht
    obtain rfl : t = 2 := by simpa using ht
    exact ⟨by kernel_rfl, of_decide_eq_true (by kernel_rfl)⟩
  · intro W base args ds ps hval hA
    rw [Try.params7] at hA hval
    obtain ⟨v0, v1, d0, d1, p0, p1, rfl, rfl, rfl, h0, h1⟩ := trodAll_two hA
    obtain ⟨a, rfl, rfl, rfl, wa⟩ := open_int Try.underlying2 (hval 0 2 v0 rfl rfl) h0
    obtain ⟨b, rfl, rfl, rfl, wb⟩ := open_int Try.underlying2 (hval 1 2 v1 rfl rfl) h1
    exact walkMk a b W

/-- MakeRatio answers as its model, for every two numbers. -/
theorem fnExactMakeRatio_holds : Rows.FnExactMakeRatioSaid :=
  OpenClaim.holds_of_wide 7 Try.f7 rfl rfl rfl rfl rfl rfl rfl ⟨rfl, rfl, rfl, rfl, rfl⟩ rfl rfl rfl rfl rfl (by kernel_rfl) Try.func7 (by kernel_rfl)
    (of_decide_eq_true (by kernel_rfl)) (by unfold Func.isWrapper; first | (rw [if_pos (by decide +kernel)]; kernel_rfl) | (rw [if_neg (by decide +kernel)]; exact ⟨rfl, rfl⟩))
    (fun os started H enc _ => fnExactMakeRatio_lifted os started H enc)

end Go.Proofs.Ytohhjcnkbifdbaa
