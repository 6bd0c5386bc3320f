/-
  The comparisons of ratios: their walks.
-/
import Derived.Test.YtohhjcnkbifdbaaOps
import Derived.RegionTactic
namespace Go.Proofs.Ytohhjcnkbifdbaa
open Go.RowKit
set_option linter.unusedVariables false

abbrev pairV (a b : Int) : Value := .tuple #[.int .i64 a, .int .i64 b]
theorem pair_eq {t : Int × Int} {a b : Int} (h : t = (a, b)) : pairV a b = pairV t.1 t.2 := by rw [h]

set_option maxHeartbeats 400000 in
theorem implSign_any (x : Int) (w : World) :
    Calls Try.prog 47 #[.int .i64 x] w fun e w' => e = .returned (.int .i64 (sgn x)) ∧ w = w' := by
  rcases Int.lt_trichotomy x 0 with h | h | h
  · have H := Lib.hid (sgn_neg x h)
    go_enter Try.func47, Try.ntmps47
    go_wp2
    all_goals
      go_ret
      exact ⟨ret_int (by rw [H.out]; try omega), rfl⟩
  · subst h
    go_enter Try.func47, Try.ntmps47
    go_wp2
    go_ret
    exact ⟨ret_int sgn_zero.symm, rfl⟩
  · have H := Lib.hid (sgn_pos x h)
    go_enter Try.func47, Try.ntmps47
    go_wp2
    all_goals
      go_ret
      exact ⟨ret_int (by rw [H.out]; try omega), rfl⟩

set_option maxHeartbeats 400000 in
theorem specCmp0_lt (n d m e : Int) (w : World) (p1 : -1000000000000000000 ≤ n * e) (p1' : n * e ≤ 1000000000000000000) (p2 : -1000000000000000000 ≤ m * d) (p2' : m * d ≤ 1000000000000000000) (h : n * e < m * d) :
    Calls Try.prog 48 #[.agg #[.int .i64 n, .int .i64 d], .agg #[.int .i64 m, .int .i64 e]] w (Fresh (.int .i64 (-1)) w) := by
  go_enter Try.func48, Try.ntmps48
  go_wp2_with fail
  go_quiet (fail)
  go_wp2_with fail
  go_ret
  exact ⟨rfl, by
    repeat (first | exact bl_refl _ | (refine bl_trans ?_ (by assumption)) | apply bl_alloc | apply bl_drewN | apply bl_drew | (refine bl_set ?_ (by first | exact Nat.le_refl _ | (simp; done) | (simp; omega)) _))⟩

set_option maxHeartbeats 400000 in
theorem specCmp0_gt (n d m e : Int) (w : World) (p1 : -1000000000000000000 ≤ n * e) (p1' : n * e ≤ 1000000000000000000) (p2 : -1000000000000000000 ≤ m * d) (p2' : m * d ≤ 1000000000000000000) (h : m * d < n * e) :
    Calls Try.prog 48 #[.agg #[.int .i64 n, .int .i64 d], .agg #[.int .i64 m, .int .i64 e]] w (Fresh (.int .i64 (1)) w) := by
  go_enter Try.func48, Try.ntmps48
  go_wp2_with fail
  go_quiet (fail)
  go_wp2_with fail
  go_ret
  exact ⟨rfl, by
    repeat (first | exact bl_refl _ | (refine bl_trans ?_ (by assumption)) | apply bl_alloc | apply bl_drewN | apply bl_drew | (refine bl_set ?_ (by first | exact Nat.le_refl _ | (simp; done) | (simp; omega)) _))⟩

set_option maxHeartbeats 400000 in
theorem specCmp0_eq (n d m e : Int) (w : World) (p1 : -1000000000000000000 ≤ n * e) (p1' : n * e ≤ 1000000000000000000) (p2 : -1000000000000000000 ≤ m * d) (p2' : m * d ≤ 1000000000000000000) (h : Hid (n * e = m * d)) :
    Calls Try.prog 48 #[.agg #[.int .i64 n, .int .i64 d], .agg #[.int .i64 m, .int .i64 e]] w (Fresh (.int .i64 (0)) w) := by
  have l1 : ¬ n * e < m * d := by have := h.out; omega
  have l2 : ¬ m * d < n * e := by have := h.out; omega
  go_enter Try.func48, Try.ntmps48
  go_wp2_with fail
  go_quiet (fail)
  go_wp2_with fail
  go_ret
  exact ⟨rfl, by
    repeat (first | exact bl_refl _ | (refine bl_trans ?_ (by assumption)) | apply bl_alloc | apply bl_drewN | apply bl_drew | (refine bl_set ?_ (by first | exact Nat.le_refl _ | (simp; done) | (simp; omega)) _))⟩

theorem specCmp0_any (n d m e : Int) (w : World) (p1 : -1000000000000000000 ≤ n * e) (p1' : n * e ≤ 1000000000000000000) (p2 : -1000000000000000000 ≤ m * d) (p2' : m * d ≤ 1000000000000000000) :
    Calls Try.prog 48 #[.agg #[.int .i64 n, .int .i64 d], .agg #[.int .i64 m, .int .i64 e]] w (Fresh (.int .i64 (sgn (n * e - m * d))) w) := by
  rcases Int.lt_trichotomy (n * e) (m * d) with h | h | h
  · rw [sgn_lt _ _ h]; exact specCmp0_lt n d m e w p1 p1' p2 p2' h
  · rw [sgn_eq _ _ h]; exact specCmp0_eq n d m e w p1 p1' p2 p2' (Lib.hid h)
  · rw [sgn_gt _ _ h]; exact specCmp0_gt n d m e w p1 p1' p2 p2' h

set_option maxHeartbeats 400000 in
theorem specCmp_bad1 (n d m e : Int) (w : World) (H1 : Hid (isR n d = false)) :
    Calls Try.prog 29 #[.agg #[.int .i64 n, .int .i64 d], .agg #[.int .i64 m, .int .i64 e]] w (Fresh (pairV 0 1) w) := by
  go_enter Try.func29, Try.ntmps29
  go_wp2_with (go_at_call 21; ((with_reducible refine (specIs_no _ _ _ H1.out).mono ?_); rintro e w2 ⟨rfl, hb2⟩; obtain ⟨hc2, hf2⟩ := bcell hb2; obtain ⟨z0, z1⟩ := sz_two2 hb2))
  go_ret2
  exact ⟨rfl, by
    repeat (first | exact bl_refl _ | (refine bl_trans ?_ (by assumption)) | apply bl_alloc | apply bl_drewN | apply bl_drew | (refine bl_set ?_ (by first | exact Nat.le_refl _ | (simp; done) | (simp; omega)) _))⟩

set_option maxHeartbeats 400000 in
theorem specCmp_bad2 (n d m e : Int) (w : World) (H1 : Hid (isR n d = true)) (H2 : Hid (isR m e = false)) :
    Calls Try.prog 29 #[.agg #[.int .i64 n, .int .i64 d], .agg #[.int .i64 m, .int .i64 e]] w (Fresh (pairV 0 1) w) := by
  go_enter Try.func29, Try.ntmps29
  go_wp2_with (go_at_call 21; ((with_reducible refine (specIs_yes _ _ _ H1.out).mono ?_); rintro e w2 ⟨rfl, hb2⟩; obtain ⟨hc2, hf2⟩ := bcell hb2; obtain ⟨z0, z1⟩ := sz_two2 hb2))
  go_wp2_with (go_at_call 21; ((with_reducible refine (specIs_no _ _ _ H2.out).mono ?_); rintro e w3 ⟨rfl, hb3⟩; obtain ⟨hc3, hf3⟩ := bcell hb3; obtain ⟨y0, y1⟩ := sz_on2 ⟨z0, z1⟩ hb3))
  go_ret2
  exact ⟨rfl, by
    repeat (first | exact bl_refl _ | (refine bl_trans ?_ (by assumption)) | apply bl_alloc | apply bl_drewN | apply bl_drew | (refine bl_set ?_ (by first | exact Nat.le_refl _ | (simp; done) | (simp; omega)) _))⟩

set_option maxHeartbeats 1000000 in
theorem specCmp_ok (n d m e : Int) (w : World) (H1 : Hid (isR n d = true)) (H2 : Hid (isR m e = true)) (hn : -1000000000 ≤ n) (hn' : n ≤ 1000000000) (hd : 1 ≤ d) (hd' : d ≤ 1000000000) (hm : -1000000000 ≤ m) (hm' : m ≤ 1000000000) (he : 1 ≤ e) (he' : e ≤ 1000000000)
    (p1 : -1000000000000000000 ≤ n * e) (p1' : n * e ≤ 1000000000000000000) (p2 : -1000000000000000000 ≤ m * d) (p2' : m * d ≤ 1000000000000000000) :
    Calls Try.prog 29 #[.agg #[.int .i64 n, .int .i64 d], .agg #[.int .i64 m, .int .i64 e]] w (Fresh (pairV (sgn (n * e - m * d)) 0) w) := by
  go_enter Try.func29, Try.ntmps29
  go_wp2_with (go_at_call 21; ((with_reducible refine (specIs_yes _ _ _ H1.out).mono ?_); rintro e w2 ⟨rfl, hb2⟩; obtain ⟨hc2, hf2⟩ := bcell hb2; obtain ⟨z0, z1⟩ := sz_two2 hb2))
  go_wp2_with (go_at_call 21; ((with_reducible refine (specIs_yes _ _ _ H2.out).mono ?_); rintro e w3 ⟨rfl, hb3⟩; obtain ⟨hc3, hf3⟩ := bcell hb3; obtain ⟨y0, y1⟩ := sz_on2 ⟨z0, z1⟩ hb3))
  go_wp2_with (go_at_call 48; refine (specCmp0_any _ _ _ _ _ p1 p1' p2 p2').mono ?_; rintro e w4 ⟨rfl, hb4⟩)
  go_ret2
  exact ⟨rfl, by
    repeat (first | exact bl_refl _ | (refine bl_trans ?_ (by assumption)) | apply bl_alloc | apply bl_drewN | apply bl_drew | (refine bl_set ?_ (by first | exact Nat.le_refl _ | (simp; done) | (simp; omega)) _))⟩

theorem specCmp_any (n d m e : Int) (w : World) :
    Calls Try.prog 29 #[.agg #[.int .i64 n, .int .i64 d], .agg #[.int .i64 m, .int .i64 e]] w (Fresh (pairV (cmpR n d m e).1 (cmpR n d m e).2) w) := by
  rcases h1 : isR n d with _ | _
  · rw [← pair_eq (cmpR_no1 n d m e h1)]
    exact specCmp_bad1 n d m e w (Lib.hid h1)
  · rcases h2 : isR m e with _ | _
    · rw [← pair_eq (cmpR_no2 n d m e h2)]
      exact specCmp_bad2 n d m e w (Lib.hid h1) (Lib.hid h2)
    · obtain ⟨a1, a2, a3, a4⟩ := isR_bd n d h1
      obtain ⟨b1, b2, b3, b4⟩ := isR_bd m e h2
      rw [← pair_eq (cmpR_yes n d m e h1 h2)]
      exact specCmp_ok n d m e w (Lib.hid h1) (Lib.hid h2) a1 a2 a3 a4 b1 b2 b3 b4 (mul_bd n e a1 a2 b3 b4).1 (mul_bd n e a1 a2 b3 b4).2 (mul_bd m d b1 b2 a3 a4).1 (mul_bd m d b1 b2 a3 a4).2

set_option maxHeartbeats 400000 in
theorem implCmp_bad1 (n d m e : Int) (w : World) (H1 : Hid (isR n d = false)) :
    Calls Try.prog 28 #[.agg #[.int .i64 n, .int .i64 d], .agg #[.int .i64 m, .int .i64 e]] w (Fresh (pairV 0 1) w) := by
  go_enter Try.func28, Try.ntmps28
  go_wp2_with (go_at_call 20; ((with_reducible refine (implIs_no _ _ _ H1.out).mono ?_); rintro e w2 ⟨rfl, hb2⟩; obtain ⟨hc2, hf2⟩ := bcell hb2; obtain ⟨z0, z1⟩ := sz_two2 hb2))
  go_ret2
  exact ⟨rfl, by
    repeat (first | exact bl_refl _ | (refine bl_trans ?_ (by assumption)) | apply bl_alloc | apply bl_drewN | apply bl_drew | (refine bl_set ?_ (by first | exact Nat.le_refl _ | (simp; done) | (simp; omega)) _))⟩

set_option maxHeartbeats 400000 in
theorem implCmp_bad2 (n d m e : Int) (w : World) (H1 : Hid (isR n d = true)) (H2 : Hid (isR m e = false)) :
    Calls Try.prog 28 #[.agg #[.int .i64 n, .int .i64 d], .agg #[.int .i64 m, .int .i64 e]] w (Fresh (pairV 0 1) w) := by
  go_enter Try.func28, Try.ntmps28
  go_wp2_with (go_at_call 20; ((with_reducible refine (implIs_yes _ _ _ H1.out).mono ?_); rintro e w2 ⟨rfl, hb2⟩; obtain ⟨hc2, hf2⟩ := bcell hb2; obtain ⟨z0, z1⟩ := sz_two2 hb2))
  go_wp2_with (go_at_call 20; ((with_reducible refine (implIs_no _ _ _ H2.out).mono ?_); rintro e w3 ⟨rfl, hb3⟩; obtain ⟨hc3, hf3⟩ := bcell hb3; obtain ⟨y0, y1⟩ := sz_on2 ⟨z0, z1⟩ hb3))
  go_ret2
  exact ⟨rfl, by
    repeat (first | exact bl_refl _ | (refine bl_trans ?_ (by assumption)) | apply bl_alloc | apply bl_drewN | apply bl_drew | (refine bl_set ?_ (by first | exact Nat.le_refl _ | (simp; done) | (simp; omega)) _))⟩

set_option maxHeartbeats 1000000 in
theorem implCmp_ok (n d m e : Int) (w : World) (H1 : Hid (isR n d = true)) (H2 : Hid (isR m e = true)) (hn : -1000000000 ≤ n) (hn' : n ≤ 1000000000) (hd : 1 ≤ d) (hd' : d ≤ 1000000000) (hm : -1000000000 ≤ m) (hm' : m ≤ 1000000000) (he : 1 ≤ e) (he' : e ≤ 1000000000)
    (p1 : -1000000000000000000 ≤ n * e) (p1' : n * e ≤ 1000000000000000000) (p2 : -1000000000000000000 ≤ m * d) (p2' : m * d ≤ 1000000000000000000) :
    Calls Try.prog 28 #[.agg #[.int .i64 n, .int .i64 d], .agg #[.int .i64 m, .int .i64 e]] w (Fresh (pairV (sgn (n * e - m * d)) 0) w) := by
  go_enter Try.func28, Try.ntmps28
  go_wp2_with (go_at_call 20; ((with_reducible refine (implIs_yes _ _ _ H1.out).mono ?_); rintro e w2 ⟨rfl, hb2⟩; obtain ⟨hc2, hf2⟩ := bcell hb2; obtain ⟨z0, z1⟩ := sz_two2 hb2))
  go_wp2_with (go_at_call 20; ((with_reducible refine (implIs_yes _ _ _ H2.out).mono ?_); rintro e w3 ⟨rfl, hb3⟩; obtain ⟨hc3, hf3⟩ := bcell hb3; obtain ⟨y0, y1⟩ := sz_on2 ⟨z0, z1⟩ hb3))
  go_wp2_with (go_at_call 47; refine (implSign_any _ _).mono ?_; rintro e w4 ⟨rfl, rfl⟩)
  go_ret2
  exact ⟨rfl, by
    repeat (first | exact bl_refl _ | (refine bl_trans ?_ (by assumption)) | apply bl_alloc | apply bl_drewN | apply bl_drew | (refine bl_set ?_ (by first | exact Nat.le_refl _ | (simp; done) | (simp; omega)) _))⟩

theorem implCmp_any (n d m e : Int) (w : World) :
    Calls Try.prog 28 #[.agg #[.int .i64 n, .int .i64 d], .agg #[.int .i64 m, .int .i64 e]] w (Fresh (pairV (cmpR n d m e).1 (cmpR n d m e).2) w) := by
  rcases h1 : isR n d with _ | _
  · rw [← pair_eq (cmpR_no1 n d m e h1)]
    exact implCmp_bad1 n d m e w (Lib.hid h1)
  · rcases h2 : isR m e with _ | _
    · rw [← pair_eq (cmpR_no2 n d m e h2)]
      exact implCmp_bad2 n d m e w (Lib.hid h1) (Lib.hid h2)
    · obtain ⟨a1, a2, a3, a4⟩ := isR_bd n d h1
      obtain ⟨b1, b2, b3, b4⟩ := isR_bd m e h2
      rw [← pair_eq (cmpR_yes n d m e h1 h2)]
      exact implCmp_ok n d m e w (Lib.hid h1) (Lib.hid h2) a1 a2 a3 a4 b1 b2 b3 b4 (mul_bd n e a1 a2 b3 b4).1 (mul_bd n e a1 a2 b3 b4).2 (mul_bd m d b1 b2 a3 a4).1 (mul_bd m d b1 b2 a3 a4).2

end Go.Proofs.Ytohhjcnkbifdbaa
