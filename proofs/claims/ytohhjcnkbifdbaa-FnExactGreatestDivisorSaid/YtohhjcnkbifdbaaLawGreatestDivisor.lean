/-
  The law FnExactGreatestDivisor returns true for every two numbers, and leaves them as they were: GreatestDivisor answers as its model.
  No condition.
-/
import Derived.Test.YtohhjcnkbifdbaaTwo
namespace Go.Proofs.Ytohhjcnkbifdbaa
open Go.ChangeShapes Go.WideShapes Go.ChangeAt Go.RowKit Go.Joins
set_option linter.unusedVariables false

/-- GreatestDivisor's answer. -/
def gdR (a b : Int) : Int × Int := if inB a 0 1000000000 && inB b 0 1000000000 then (gcdI a b, 0) else (0, 2)
theorem gdR_yes (a b : Int) (h1 : 0 ≤ a) (h2 : a ≤ 1000000000) (h3 : 0 ≤ b) (h4 : b ≤ 1000000000) : gdR a b = (gcdI a b, 0) := by
  unfold gdR; rw [inB_yes _ _ _ h1 h2, inB_yes _ _ _ h3 h4]; rfl
theorem gdR_a (a b : Int) (h : outB a 0 1000000000) : gdR a b = (0, 2) := by unfold gdR; rw [outB_inB _ _ _ h]; rfl
theorem gdR_b (a b : Int) (h : outB b 0 1000000000) : gdR a b = (0, 2) := by unfold gdR; rw [outB_inB _ _ _ h, Bool.and_false]; rfl

set_option maxHeartbeats 400000 in
theorem specGd_a (a b : Int) (w : World) (H : Hid (outB a 0 1000000000)) :
    Calls Try.prog 31 #[.int .i64 a, .int .i64 b] w (Fresh (pairV 0 2) w) := by
  go_enter Try.func31, Try.ntmps31
  go_wp2_with (go_at_call 44; ((with_reducible refine (specIn_no _ _ _ _ H.out).mono ?_); rintro e w1 ⟨rfl, rfl⟩))
  go_ret2
  exact ⟨rfl, by
    repeat (first | exact bl_refl _ | (refine bl_trans ?_ (by assumption)) | apply bl_alloc | apply bl_drewN | apply bl_drew | (refine bl_set ?_ (by first | exact Nat.le_refl _ | (simp; done) | (simp; omega)) _))⟩

set_option maxHeartbeats 400000 in
theorem specGd_b (a b : Int) (w : World) (h1 : 0 ≤ a) (h2 : a ≤ 1000000000) (H : Hid (outB b 0 1000000000)) :
    Calls Try.prog 31 #[.int .i64 a, .int .i64 b] w (Fresh (pairV 0 2) w) := by
  go_enter Try.func31, Try.ntmps31
  go_wp2_with (go_at_call 44; ((with_reducible refine (specIn_yes _ _ _ _ h1 h2).mono ?_); rintro e w1 ⟨rfl, rfl⟩))
  go_wp2_with (go_at_call 44; ((with_reducible refine (specIn_no _ _ _ _ H.out).mono ?_); rintro e w1 ⟨rfl, rfl⟩))
  go_ret2
  exact ⟨rfl, by
    repeat (first | exact bl_refl _ | (refine bl_trans ?_ (by assumption)) | apply bl_alloc | apply bl_drewN | apply bl_drew | (refine bl_set ?_ (by first | exact Nat.le_refl _ | (simp; done) | (simp; omega)) _))⟩

set_option maxHeartbeats 400000 in
theorem specGd_ok (a b : Int) (w : World) (h1 : 0 ≤ a) (h2 : a ≤ 1000000000) (h3 : 0 ≤ b) (h4 : b ≤ 1000000000) :
    Calls Try.prog 31 #[.int .i64 a, .int .i64 b] w (Fresh (pairV (gcdI a b) 0) w) := by
  go_enter Try.func31, Try.ntmps31
  go_wp2_with (go_at_call 44; ((with_reducible refine (specIn_yes _ _ _ _ h1 h2).mono ?_); rintro e w1 ⟨rfl, rfl⟩))
  go_wp2_with (go_at_call 44; ((with_reducible refine (specIn_yes _ _ _ _ h3 h4).mono ?_); rintro e w1 ⟨rfl, rfl⟩))
  go_wp2_with (go_at_call 45; refine (specGcd_any b.toNat _ _ _ (by omega) (by omega) (by omega) (by omega) (by omega)).mono ?_; rintro e w2 ⟨rfl, rfl⟩)
  go_ret2
  exact ⟨rfl, by
    repeat (first | exact bl_refl _ | (refine bl_trans ?_ (by assumption)) | apply bl_alloc | apply bl_drewN | apply bl_drew | (refine bl_set ?_ (by first | exact Nat.le_refl _ | (simp; done) | (simp; omega)) _))⟩

set_option maxHeartbeats 400000 in
theorem implGd_a0 (a b : Int) (w : World) (h : a < 0) :
    Calls Try.prog 32 #[.int .i64 a, .int .i64 b] w (Fresh (pairV 0 2) w) := by
  go_enter Try.func32, Try.ntmps32
  go_wp2
  all_goals
    go_ret2
    exact ⟨rfl, bl_refl _⟩

set_option maxHeartbeats 400000 in
theorem implGd_b0 (a b : Int) (w : World) (h0 : 0 ≤ a) (h : b < 0) :
    Calls Try.prog 32 #[.int .i64 a, .int .i64 b] w (Fresh (pairV 0 2) w) := by
  go_enter Try.func32, Try.ntmps32
  go_wp2
  all_goals
    go_ret2
    exact ⟨rfl, bl_refl _⟩

set_option maxHeartbeats 400000 in
theorem implGd_a1 (a b : Int) (w : World) (h0 : 0 ≤ a) (h1 : 0 ≤ b) (h : 1000000000 < a) :
    Calls Try.prog 32 #[.int .i64 a, .int .i64 b] w (Fresh (pairV 0 2) w) := by
  go_enter Try.func32, Try.ntmps32
  go_wp2
  all_goals
    go_ret2
    exact ⟨rfl, bl_refl _⟩

set_option maxHeartbeats 400000 in
theorem implGd_b1 (a b : Int) (w : World) (h0 : 0 ≤ a) (h1 : 0 ≤ b) (h2 : a ≤ 1000000000) (h : 1000000000 < b) :
    Calls Try.prog 32 #[.int .i64 a, .int .i64 b] w (Fresh (pairV 0 2) w) := by
  go_enter Try.func32, Try.ntmps32
  go_wp2
  all_goals
    go_ret2
    exact ⟨rfl, bl_refl _⟩

set_option maxHeartbeats 400000 in
theorem implGd_ok (a b : Int) (w : World) (h1 : 0 ≤ a) (h2 : a ≤ 1000000000) (h3 : 0 ≤ b) (h4 : b ≤ 1000000000) :
    Calls Try.prog 32 #[.int .i64 a, .int .i64 b] w (Fresh (pairV (gcdI a b) 0) w) := by
  have K := Lib.hid (fun W : World => implGcd_any a b W (by omega) (by omega) (by omega) (by omega))
  by_cases hab : a < b
  all_goals
    by_cases hba : b < a
  all_goals
    first
      | omega
      | (go_enter Try.func32, Try.ntmps32
         go_wp2_with (first | (go_at_call 42; refine (K.out _).mono ?_; rintro e w2 ⟨rfl, m, rfl⟩) | go_in)
         go_ret2
         exact ⟨rfl, bl_drewN (bl_refl _) _⟩)

theorem specGd_any (a b : Int) (w : World) : Calls Try.prog 31 #[.int .i64 a, .int .i64 b] w (Fresh (pairV (gdR a b).1 (gdR a b).2) w) := by
  rcases in_or_out a 0 1000000000 with ⟨h1, h2⟩ | h
  · rcases in_or_out b 0 1000000000 with ⟨h3, h4⟩ | h
    · rw [← pair_eq (gdR_yes a b h1 h2 h3 h4)]; exact specGd_ok a b w h1 h2 h3 h4
    · rw [← pair_eq (gdR_b a b h)]; exact specGd_b a b w h1 h2 (Lib.hid h)
  · rw [← pair_eq (gdR_a a b h)]; exact specGd_a a b w (Lib.hid h)
theorem implGd_any (a b : Int) (w : World) : Calls Try.prog 32 #[.int .i64 a, .int .i64 b] w (Fresh (pairV (gdR a b).1 (gdR a b).2) w) := by
  by_cases ha : a < 0
  · rw [← pair_eq (gdR_a a b (by unfold outB; omega))]; exact implGd_a0 a b w ha
  · by_cases hb : b < 0
    · rw [← pair_eq (gdR_b a b (by unfold outB; omega))]; exact implGd_b0 a b w (by omega) hb
    · by_cases ha1 : 1000000000 < a
      · rw [← pair_eq (gdR_a a b (by unfold outB; omega))]; exact implGd_a1 a b w (by omega) (by omega) ha1
      · by_cases hb1 : 1000000000 < b
        · rw [← pair_eq (gdR_b a b (by unfold outB; omega))]; exact implGd_b1 a b w (by omega) (by omega) (by omega) hb1
        · rw [← pair_eq (gdR_yes a b (by omega) (by omega) (by omega) (by omega))]; exact implGd_ok a b w (by omega) (by omega) (by omega) (by omega)

set_option maxHeartbeats 400000 in
theorem walkGd (a b : Int) (w : World) : Calls Try.prog 6 #[.int .i64 a, .int .i64 b] w (Fresh (.bool true) w) := by
  obtain ⟨x, y, K1, K2⟩ : ∃ x y : Int, Hid (∀ W, Calls Try.prog 31 #[.int .i64 a, .int .i64 b] W (Fresh (pairV x y) W)) ∧ Hid (∀ W, Calls Try.prog 32 #[.int .i64 a, .int .i64 b] W (Fresh (pairV x y) W)) :=
    ⟨_, _, Lib.hid (fun W => specGd_any a b W), Lib.hid (fun W => implGd_any a b W)⟩
  go_enter Try.func6, Try.ntmps6
  go_wp2_with (first | (go_at_call 31; refine (K1.out _).mono ?_; rintro e w1 ⟨rfl, hb1⟩) | (go_at_call 32; refine (K2.out _).mono ?_; rintro e w2 ⟨rfl, hb2⟩))
  go_ret
  exact ⟨rfl, bl_trans hb1 hb2⟩

set_option maxRecDepth 100000 in
theorem fnExactGreatestDivisor_lifted (os : Os) (started : os.Started) (H : Type) (enc : TypeId × Value → H) :
    ReturnsInHanded {} Try.checked os 6 .any (Rows.fnExactGreatestDivisorSpec.pre6 enc Try.prog Try.f6 Rows.fnExactGreatestDivisorRow.domain false) (Rows.fnExactGreatestDivisorSpec.post enc Try.prog Try.f6 false true false false) := by
  refine law_lifted started (by kernel_rfl) Try.func6 (by kernel_rfl) rfl (fun ds h => ?_) ?_
    (ChangeSpec.witness6 (enc := enc) (C := Try.checked) false ⟨#[], #[.int .i64 0, .int .i64 0], []⟩ 8 (by kernel_rfl) (by kernel_rfl) (by kernel_rfl) (by kernel_rfl)) ?_
  · match ds, h with
    | [d0, d1], _ => rfl
  · rw [Try.params6]
    intro t ht
    obtain rfl : t = 2 := by simpa using ht
    exact ⟨by kernel_rfl, of_decide_eq_true (by kernel_rfl)⟩
  · intro W base args ds ps hval hA
    rw [Try.params6] at hA hval
    obtain ⟨v0, v1, d0, d1, p0, p1, rfl, rfl, rfl, h0, h1⟩ := trodAll_two hA
    obtain ⟨a, rfl, rfl, rfl, wa⟩ := open_int Try.underlying2 (hval 0 2 v0 rfl rfl) h0
    obtain ⟨b, rfl, rfl, rfl, wb⟩ := open_int Try.underlying2 (hval 1 2 v1 rfl rfl) h1
    exact walkGd a b W

/-- GreatestDivisor answers as its model, for every two numbers. -/
theorem fnExactGreatestDivisor_holds : Rows.FnExactGreatestDivisorSaid :=
  OpenClaim.holds_of_wide 6 Try.f6 rfl rfl rfl rfl rfl rfl rfl ⟨rfl, rfl, rfl, rfl, rfl⟩ rfl rfl rfl rfl rfl (by kernel_rfl) Try.func6 (by kernel_rfl)
    (of_decide_eq_true (by kernel_rfl)) (by unfold Func.isWrapper; first | (rw [if_pos (by decide +kernel)]; kernel_rfl) | (rw [if_neg (by decide +kernel)]; exact ⟨rfl, rfl⟩))
    (fun os started H enc _ => fnExactGreatestDivisor_lifted os started H enc)

end Go.Proofs.Ytohhjcnkbifdbaa
