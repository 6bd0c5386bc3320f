/-
  The law FnExactCompareRatios returns true for every two ratios, and leaves them as they were: CompareRatios answers as its model.
  No condition.
-/
import Derived.Test.YtohhjcnkbifdbaaTwo
namespace Go.Proofs.Ytohhjcnkbifdbaa
open Go.ChangeShapes Go.WideShapes Go.ChangeAt Go.RowKit Go.Joins
set_option linter.unusedVariables false

set_option maxHeartbeats 1000000 in
theorem walkCmp (n d m e : Int) (w : World) : Calls Try.prog 12 #[.agg #[.int .i64 n, .int .i64 d], .agg #[.int .i64 m, .int .i64 e]] w (Fresh (.bool true) w) := by
  obtain ⟨x, y, K1, K2⟩ : ∃ x y : Int, Hid (∀ W, Calls Try.prog 29 #[.agg #[.int .i64 n, .int .i64 d], .agg #[.int .i64 m, .int .i64 e]] W (Fresh (pairV x y) W)) ∧ Hid (∀ W, Calls Try.prog 28 #[.agg #[.int .i64 n, .int .i64 d], .agg #[.int .i64 m, .int .i64 e]] W (Fresh (pairV x y) W)) :=
    ⟨_, _, Lib.hid (fun W => specCmp_any n d m e W), Lib.hid (fun W => implCmp_any n d m e W)⟩
  go_enter Try.func12, Try.ntmps12
  go_wp2_with fail
  go_region_held3 (fun w' => w'.cell? ⟨w.heap.size, 0, none⟩ = some (.int .i64 n) ∧ w'.cell? ⟨w.heap.size, 1, none⟩ = some (.int .i64 d) ∧ w'.cell? ⟨w.heap.size + 1, 0, none⟩ = some (.int .i64 m) ∧ w'.cell? ⟨w.heap.size + 1, 1, none⟩ = some (.int .i64 e) ∧ Below w.heap.size w w' ∧ w.heap.size + 1 < w'.heap.size)
    (first | exact two_drew (two_start _ _ _ _ _ _) | exact two_drew (by assumption) | exact two_call (by assumption) hb)
    (first
      | (go_at_call 30; first | ((with_reducible refine (toRatio_any n d _).mono ?_); rintro e' wa ⟨rfl, hb⟩) | ((with_reducible refine (toRatio_any m e _).mono ?_); rintro e' wa ⟨rfl, hb⟩))
      | (go_at_call 29; refine (K1.out _).mono ?_; rintro e' wd ⟨rfl, hb⟩))
  go_wp2_with fail
  go_region_held3 (fun w' => w'.cell? ⟨w.heap.size, 0, none⟩ = some (.int .i64 n) ∧ w'.cell? ⟨w.heap.size, 1, none⟩ = some (.int .i64 d) ∧ w'.cell? ⟨w.heap.size + 1, 0, none⟩ = some (.int .i64 m) ∧ w'.cell? ⟨w.heap.size + 1, 1, none⟩ = some (.int .i64 e) ∧ Below w.heap.size w w' ∧ w.heap.size + 1 < w'.heap.size)
    (first | exact two_drew (two_start _ _ _ _ _ _) | exact two_drew (by assumption) | exact two_call (by assumption) hb)
    (first
      | (go_at_call 30; first | ((with_reducible refine (toRatio_any n d _).mono ?_); rintro e' wa ⟨rfl, hb⟩) | ((with_reducible refine (toRatio_any m e _).mono ?_); rintro e' wa ⟨rfl, hb⟩))
      | (go_at_call 28; refine (K2.out _).mono ?_; rintro e' wd ⟨rfl, hb⟩))
  go_wp2_with fail
  go_ret
  exact ⟨rfl, two_fin (by assumption) (bl_refl _)⟩

set_option maxRecDepth 100000 in
theorem fnExactCompareRatios_lifted (os : Os) (started : os.Started) (H : Type) (enc : TypeId × Value → H) :
    ReturnsInHanded {} Try.checked os 12 .any (Rows.fnExactCompareRatiosSpec.pre6 enc Try.prog Try.f12 Rows.fnExactCompareRatiosRow.domain false) (Rows.fnExactCompareRatiosSpec.post enc Try.prog Try.f12 false true false false) := by
  refine law_lifted started (by kernel_rfl) Try.func12 (by kernel_rfl) rfl (fun ds h => ?_) ?_
    (ChangeSpec.witness6 (enc := enc) (C := Try.checked) false ⟨#[], #[.agg #[.int .i64 0, .int .i64 0], .agg #[.int .i64 0, .int .i64 0]], []⟩ 8 (by kernel_rfl) (by kernel_rfl) (by kernel_rfl) (by kernel_rfl)) ?_
  · match ds, h with
    | [d0, d1], _ => rfl
  · rw [Try.params12]
    intro t ht
    obtain rfl : t = 33 := by simpa using ht
    exact ⟨by kernel_rfl, of_decide_eq_true (by kernel_rfl)⟩
  · intro W base args ds ps hval hA
    rw [Try.params12] at hA hval
    obtain ⟨v0, v1, d0, d1, p0, p1, rfl, rfl, rfl, h0, h1⟩ := trodAll_two hA
    obtain ⟨n, d, rfl, wn, wd⟩ := open_ratio (hval 0 33 v0 rfl rfl) h0
    obtain ⟨m, e, rfl, we, wf⟩ := open_ratio (hval 1 33 v1 rfl rfl) h1
    exact walkCmp n d m e W

/-- CompareRatios answers as its model, for every two ratios. -/
theorem fnExactCompareRatios_holds : Rows.FnExactCompareRatiosSaid :=
  OpenClaim.holds_of_wide 12 Try.f12 rfl rfl rfl rfl rfl rfl rfl ⟨rfl, rfl, rfl, rfl, rfl⟩ rfl rfl rfl rfl rfl (by kernel_rfl) Try.func12 (by kernel_rfl)
    (of_decide_eq_true (by kernel_rfl)) (by unfold Func.isWrapper; first | (rw [if_pos (by decide +kernel)]; kernel_rfl) | (rw [if_neg (by decide +kernel)]; exact ⟨rfl, rfl⟩))
    (fun os started H enc _ => fnExactCompareRatios_lifted os started H enc)

end Go.Proofs.Ytohhjcnkbifdbaa
