/-
  GreatestDivisor: the walks of the model's and of the program's function.
-/
import Derived.Test.YtohhjcnkbifdbaaDoorGcd
import Derived.Test.YtohhjcnkbifdbaaDoorRatio
import Derived.Test.YtohhjcnkbifdbaaDoorFrame
import Derived.WalkLawsBesides
namespace Go.Proofs.YtohhjcnkbifdbaaDoor
open Go.RowKit
set_option linter.unusedVariables false

abbrev pairV (a b : Int) : Value := .tuple #[.int .i64 a, .int .i64 b]
theorem pair_eq {t : Int × Int} {a b : Int} (h : t = (a, b)) : pairV a b = pairV t.1 t.2 := by rw [h]
/-- GreatestDivisor's answer. -/
def gdR (a b : Int) : Int × Int := if inB a 0 1000000000 && inB b 0 1000000000 then (gcdI a b, 0) else (0, 2)
theorem gdR_yes (a b : Int) (h1 : 0 ≤ a) (h2 : a ≤ 1000000000) (h3 : 0 ≤ b) (h4 : b ≤ 1000000000) : gdR a b = (gcdI a b, 0) := by
  unfold gdR; rw [inB_yes _ _ _ h1 h2, inB_yes _ _ _ h3 h4]; rfl
theorem gdR_a (a b : Int) (h : outB a 0 1000000000) : gdR a b = (0, 2) := by unfold gdR; rw [outB_inB _ _ _ h]; rfl
theorem gdR_b (a b : Int) (h : outB b 0 1000000000) : gdR a b = (0, 2) := by unfold gdR; rw [outB_inB _ _ _ h, Bool.and_false]; rfl

set_option maxHeartbeats 400000 in
theorem specGd_a (a b : Int) (w : World) (H : Hid (outB a 0 1000000000)) :
    Calls Tryd.prog 17 #[.int .i64 a, .int .i64 b] w (Fresh (pairV 0 2) w) := by
  go_enter Tryd.func17, Tryd.ntmps17
  go_wp2_with (go_at_call 36; ((with_reducible refine (specIn_no _ _ _ _ H.out).mono ?_); rintro e w1 ⟨rfl, rfl⟩))
  go_ret2
  exact ⟨rfl, by
    repeat (first | exact bl_refl _ | (refine bl_trans ?_ (by assumption)) | apply bl_alloc | apply bl_drewN | apply bl_drew | (refine bl_set ?_ (by first | exact Nat.le_refl _ | (simp; done) | (simp; omega)) _))⟩

set_option maxHeartbeats 400000 in
theorem specGd_b (a b : Int) (w : World) (h1 : 0 ≤ a) (h2 : a ≤ 1000000000) (H : Hid (outB b 0 1000000000)) :
    Calls Tryd.prog 17 #[.int .i64 a, .int .i64 b] w (Fresh (pairV 0 2) w) := by
  go_enter Tryd.func17, Tryd.ntmps17
  go_wp2_with (go_at_call 36; ((with_reducible refine (specIn_yes _ _ _ _ h1 h2).mono ?_); rintro e w1 ⟨rfl, rfl⟩))
  go_wp2_with (go_at_call 36; ((with_reducible refine (specIn_no _ _ _ _ H.out).mono ?_); rintro e w1 ⟨rfl, rfl⟩))
  go_ret2
  exact ⟨rfl, by
    repeat (first | exact bl_refl _ | (refine bl_trans ?_ (by assumption)) | apply bl_alloc | apply bl_drewN | apply bl_drew | (refine bl_set ?_ (by first | exact Nat.le_refl _ | (simp; done) | (simp; omega)) _))⟩

set_option maxHeartbeats 400000 in
theorem specGd_ok (a b : Int) (w : World) (h1 : 0 ≤ a) (h2 : a ≤ 1000000000) (h3 : 0 ≤ b) (h4 : b ≤ 1000000000) :
    Calls Tryd.prog 17 #[.int .i64 a, .int .i64 b] w (Fresh (pairV (gcdI a b) 0) w) := by
  go_enter Tryd.func17, Tryd.ntmps17
  go_wp2_with (go_at_call 36; ((with_reducible refine (specIn_yes _ _ _ _ h1 h2).mono ?_); rintro e w1 ⟨rfl, rfl⟩))
  go_wp2_with (go_at_call 36; ((with_reducible refine (specIn_yes _ _ _ _ h3 h4).mono ?_); rintro e w1 ⟨rfl, rfl⟩))
  go_wp2_with (go_at_call 41; refine (specGcd_any b.toNat _ _ _ (by omega) (by omega) (by omega) (by omega) (by omega)).mono ?_; rintro e w2 ⟨rfl, rfl⟩)
  go_ret2
  exact ⟨rfl, by
    repeat (first | exact bl_refl _ | (refine bl_trans ?_ (by assumption)) | apply bl_alloc | apply bl_drewN | apply bl_drew | (refine bl_set ?_ (by first | exact Nat.le_refl _ | (simp; done) | (simp; omega)) _))⟩

set_option maxHeartbeats 400000 in
theorem implGd_a0 (a b : Int) (w : World) (h : a < 0) :
    Calls Tryd.prog 16 #[.int .i64 a, .int .i64 b] w (Fresh (pairV 0 2) w) := by
  go_enter Tryd.func16, Tryd.ntmps16
  go_wp2
  all_goals
    go_ret2
    exact ⟨rfl, bl_refl _⟩

set_option maxHeartbeats 400000 in
theorem implGd_b0 (a b : Int) (w : World) (h0 : 0 ≤ a) (h : b < 0) :
    Calls Tryd.prog 16 #[.int .i64 a, .int .i64 b] w (Fresh (pairV 0 2) w) := by
  go_enter Tryd.func16, Tryd.ntmps16
  go_wp2
  all_goals
    go_ret2
    exact ⟨rfl, bl_refl _⟩

set_option maxHeartbeats 400000 in
theorem implGd_a1 (a b : Int) (w : World) (h0 : 0 ≤ a) (h1 : 0 ≤ b) (h : 1000000000 < a) :
    Calls Tryd.prog 16 #[.int .i64 a, .int .i64 b] w (Fresh (pairV 0 2) w) := by
  go_enter Tryd.func16, Tryd.ntmps16
  go_wp2
  all_goals
    go_ret2
    exact ⟨rfl, bl_refl _⟩

set_option maxHeartbeats 400000 in
theorem implGd_b1 (a b : Int) (w : World) (h0 : 0 ≤ a) (h1 : 0 ≤ b) (h2 : a ≤ 1000000000) (h : 1000000000 < b) :
    Calls Tryd.prog 16 #[.int .i64 a, .int .i64 b] w (Fresh (pairV 0 2) w) := by
  go_enter Tryd.func16, Tryd.ntmps16
  go_wp2
  all_goals
    go_ret2
    exact ⟨rfl, bl_refl _⟩

set_option maxHeartbeats 400000 in
theorem implGd_ok (a b : Int) (w : World) (h1 : 0 ≤ a) (h2 : a ≤ 1000000000) (h3 : 0 ≤ b) (h4 : b ≤ 1000000000) :
    Calls Tryd.prog 16 #[.int .i64 a, .int .i64 b] w (Fresh (pairV (gcdI a b) 0) w) := by
  have K := Lib.hid (fun W : World => implGcd_any a b W (by omega) (by omega) (by omega) (by omega))
  by_cases hab : a < b
  all_goals
    by_cases hba : b < a
  all_goals
    first
      | omega
      | (go_enter Tryd.func16, Tryd.ntmps16
         go_wp2_with (first | (go_at_call 40; refine (K.out _).mono ?_; rintro e w2 ⟨rfl, m, rfl⟩) | go_in)
         go_ret2
         exact ⟨rfl, bl_drewN (bl_refl _) _⟩)

theorem specGd_any (a b : Int) (w : World) : Calls Tryd.prog 17 #[.int .i64 a, .int .i64 b] w (Fresh (pairV (gdR a b).1 (gdR a b).2) w) := by
  rcases in_or_out a 0 1000000000 with ⟨h1, h2⟩ | h
  · rcases in_or_out b 0 1000000000 with ⟨h3, h4⟩ | h
    · rw [← pair_eq (gdR_yes a b h1 h2 h3 h4)]; exact specGd_ok a b w h1 h2 h3 h4
    · rw [← pair_eq (gdR_b a b h)]; exact specGd_b a b w h1 h2 (Lib.hid h)
  · rw [← pair_eq (gdR_a a b h)]; exact specGd_a a b w (Lib.hid h)
theorem implGd_any (a b : Int) (w : World) : Calls Tryd.prog 16 #[.int .i64 a, .int .i64 b] w (Fresh (pairV (gdR a b).1 (gdR a b).2) w) := by
  by_cases ha : a < 0
  · rw [← pair_eq (gdR_a a b (by unfold outB; omega))]; exact implGd_a0 a b w ha
  · by_cases hb : b < 0
    · rw [← pair_eq (gdR_b a b (by unfold outB; omega))]; exact implGd_b0 a b w (by omega) hb
    · by_cases ha1 : 1000000000 < a
      · rw [← pair_eq (gdR_a a b (by unfold outB; omega))]; exact implGd_a1 a b w (by omega) (by omega) ha1
      · by_cases hb1 : 1000000000 < b
        · rw [← pair_eq (gdR_b a b (by unfold outB; omega))]; exact implGd_b1 a b w (by omega) (by omega) (by omega) hb1
        · rw [← pair_eq (gdR_yes a b (by omega) (by omega) (by omega) (by omega))]; exact implGd_ok a b w (by omega) (by omega) (by omega) (by omega)

end Go.Proofs.YtohhjcnkbifdbaaDoor
