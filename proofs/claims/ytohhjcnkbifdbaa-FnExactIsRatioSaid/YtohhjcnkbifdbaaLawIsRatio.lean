/-
  The law FnExactIsRatio returns true for every ratio, and leaves it as it was: IsRatio answers as its model.
  No condition.
-/
import Derived.Test.YtohhjcnkbifdbaaRatioArg
namespace Go.Proofs.Ytohhjcnkbifdbaa
open Go.ChangeShapes Go.WideShapes Go.ChangeAt Go.RowKit Go.Joins

set_option maxHeartbeats 400000 in
theorem walkIsRatio (n d : Int) (w : World) :
    Calls Try.prog 5 #[.agg #[.int .i64 n, .int .i64 d]] w (Fresh (.bool true) w) := by
  go_enter Try.func5, Try.ntmps5
  go_wp2_with (go_at_call 30; refine (toRatio_any _ _ _).mono ?_; rintro e w1 ⟨rfl, hb1⟩; obtain ⟨hc1, hf1⟩ := bcell hb1; have hz1 := sz_new hb1)
  go_wp2_with (go_at_call 21; refine (specIs_any _ _ _).mono ?_; rintro e w2 ⟨rfl, hb2⟩; obtain ⟨hc2, hf2⟩ := bcell hb2; have hz2 := sz_old hz1 hb2)
  go_wp2_with (go_at_call 30; refine (toRatio_any _ _ _).mono ?_; rintro e w3 ⟨rfl, hb3⟩; obtain ⟨hc3, hf3⟩ := bcell hb3; have hz3 := sz_old hz2 hb3)
  go_wp2_with (go_at_call 20; refine (implIs_any _ _ _).mono ?_; rintro e w4 ⟨rfl, hb4⟩; obtain ⟨hc4, hf4⟩ := bcell hb4; have hz4 := sz_old hz3 hb4)
  go_ret
  exact ⟨rfl, bl_trans (bl_trans (bl_trans (bl_trans (bl_alloc (bl_refl _) _) hb1) hb2) hb3) hb4⟩

set_option maxRecDepth 100000 in
theorem isRatio_lifted (os : Os) (started : os.Started) (H : Type) (enc : TypeId × Value → H) :
    ReturnsInHanded {} Try.checked os 5 .any (Rows.fnExactIsRatioSpec.pre6 enc Try.prog Try.f5 Rows.fnExactIsRatioRow.domain false) (Rows.fnExactIsRatioSpec.post enc Try.prog Try.f5 false true false false) := by
  refine law_lifted started (by kernel_rfl) Try.func5 (by kernel_rfl) rfl (fun ds h => ?_) ?_
    (ChangeSpec.witness6 (enc := enc) (C := Try.checked) false ⟨#[], #[.agg #[.int .i64 0, .int .i64 0]], []⟩ 8 (by kernel_rfl) (by kernel_rfl) (by kernel_rfl) (by kernel_rfl)) ?_
  · match ds, h with
    | [d], _ => rfl
  · rw [Try.params5]
    intro t ht
    obtain rfl : t = 33 := by simpa using ht
    exact ⟨by kernel_rfl, of_decide_eq_true (by kernel_rfl)⟩
  · intro W base args ds ps hval hA
    rw [Try.params5] at hA hval
    obtain ⟨v0, d0, rfl, rfl, h0⟩ := trodAll_one hA
    obtain ⟨n, m, rfl, wn, wm⟩ := open_ratio (hval 0 33 v0 rfl rfl) h0
    exact walkIsRatio n m W

/-- IsRatio answers as its model, for every ratio. -/
theorem isRatio_holds : Rows.FnExactIsRatioSaid :=
  OpenClaim.holds_of_wide 5 Try.f5 rfl rfl rfl rfl rfl rfl rfl ⟨rfl, rfl, rfl, rfl, rfl⟩ rfl rfl rfl rfl rfl (by kernel_rfl) Try.func5 (by kernel_rfl)
    (of_decide_eq_true (by kernel_rfl)) (by unfold Func.isWrapper; first | (rw [if_pos (by decide +kernel)]; kernel_rfl) | (rw [if_neg (by decide +kernel)]; exact ⟨rfl, rfl⟩))
    (fun os started H enc _ => isRatio_lifted os started H enc)

end Go.Proofs.Ytohhjcnkbifdbaa
