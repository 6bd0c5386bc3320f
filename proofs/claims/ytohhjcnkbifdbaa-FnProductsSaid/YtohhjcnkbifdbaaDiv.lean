/-
  SubtractRatios of the model, the divisions and the comparisons: their walks.
-/
import Derived.Test.YtohhjcnkbifdbaaOps
import Derived.RegionTactic
namespace Go.Proofs.Ytohhjcnkbifdbaa
open Go.RowKit
set_option linter.unusedVariables false

theorem mul_neg (d m : Int) (h1 : 1 ≤ d) (h2 : d ≤ 1000000000) (h3 : -1000000000 ≤ m) (h4 : m < 0) : -1000000000000000000 ≤ d * m ∧ d * m ≤ -1 := by
  have := mul_pos d (-m) h1 h2 (by omega) (by omega)
  rw [Int.mul_neg] at this
  omega
theorem neg_out (m : Int) (hw : -9223372036854775808 ≤ m ∧ m ≤ 9223372036854775807) (h : outB m (-1000000000) 1000000000) : outB (wrap64 (-m)) (-1000000000) 1000000000 := by
  unfold outB at *; unfold wrap64; omega
theorem absI_negI (m : Int) : absI (-m) = absI m := by unfold absI; split <;> split <;> omega
theorem isR_negI (m e : Int) : isR (-m) e = isR m e := by
  unfold isR; rw [absI_negI]; congr 1; apply propext; constructor <;> intro h <;> exact ⟨by omega, by omega, h.2.2⟩
theorem sub_add (n d m e : Int) : opR (rat (n * e + -m * d) (d * e)) n d (-m) e = opR (rat (n * e - m * d) (d * e)) n d m e := by
  unfold opR; rw [isR_negI, Int.neg_mul, ← Int.sub_eq_add_neg]
theorem isR_out (m e : Int) (h : outB m (-1000000000) 1000000000) : isR m e = false := isR_n m e h
theorem specAdd_out (n d m e : Int) (w : World) (h : outB m (-1000000000) 1000000000) :
    Calls Try.prog 16 #[.agg #[.int .i64 n, .int .i64 d], .agg #[.int .i64 m, .int .i64 e]] w (Fresh (resV 0 0 1) w) := by
  have := specAdd_any n d m e w
  rw [opR_no2 _ n d m e (isR_n m e h)] at this
  exact this

set_option maxHeartbeats 1000000 in
theorem specSub_in (n d m e : Int) (w : World) (hm : -1000000000 ≤ m) (hm' : m ≤ 1000000000) :
    Calls Try.prog 19 #[.agg #[.int .i64 n, .int .i64 d], .agg #[.int .i64 m, .int .i64 e]] w (Fresh (tripV (opR (rat (n * e + -m * d) (d * e)) n d (-m) e)) w) := by
  go_enter Try.func19, Try.ntmps19
  go_wp2_with (go_at_call 16; refine (specAdd_any _ _ _ _ _).mono ?_; rintro e w2 ⟨rfl, hb2⟩; obtain ⟨hc2, hf2⟩ := bcell hb2; have q0 : w2.cell? ⟨w.heap.size + 1 + 1, 0, none⟩ = some (.int .i64 0) := (hc2 _ _ (by simp <;> omega)).trans (by simp [go_sem]); have q1 : w2.cell? ⟨w.heap.size + 1 + 1, 1, none⟩ = some (.int .i64 0) := (hc2 _ _ (by simp <;> omega)).trans (by simp [go_sem]))
  exact bodyPost_ret (v := tripV (opR (rat (n * e + -m * d) (d * e)) n d (-m) e)) (by simp [results, Try.results19, go_sem, q0, q1]) rfl ⟨rfl, by
    repeat (first | exact bl_refl _ | (refine bl_trans ?_ (by assumption)) | apply bl_alloc | apply bl_drewN | apply bl_drew | (refine bl_set ?_ (by first | exact Nat.le_refl _ | (simp; done) | (simp; omega)) _))⟩

set_option maxHeartbeats 1000000 in
theorem specSub_out (n d m e : Int) (w : World) (hw : Hid (-9223372036854775808 ≤ m ∧ m ≤ 9223372036854775807)) (hm : Hid (outB m (-1000000000) 1000000000)) :
    Calls Try.prog 19 #[.agg #[.int .i64 n, .int .i64 d], .agg #[.int .i64 m, .int .i64 e]] w (Fresh (resV 0 0 1) w) := by
  go_enter Try.func19, Try.ntmps19
  go_wp2_with (go_at_call 16; refine (specAdd_out _ _ _ _ _ (neg_out m hw.out hm.out)).mono ?_; rintro e w2 ⟨rfl, hb2⟩; obtain ⟨hc2, hf2⟩ := bcell hb2; have q0 : w2.cell? ⟨w.heap.size + 1 + 1, 0, none⟩ = some (.int .i64 0) := (hc2 _ _ (by simp <;> omega)).trans (by simp [go_sem]); have q1 : w2.cell? ⟨w.heap.size + 1 + 1, 1, none⟩ = some (.int .i64 0) := (hc2 _ _ (by simp <;> omega)).trans (by simp [go_sem]))
  exact bodyPost_ret (v := resV 0 0 1) (by simp [results, Try.results19, go_sem, q0, q1]) rfl ⟨rfl, by
    repeat (first | exact bl_refl _ | (refine bl_trans ?_ (by assumption)) | apply bl_alloc | apply bl_drewN | apply bl_drew | (refine bl_set ?_ (by first | exact Nat.le_refl _ | (simp; done) | (simp; omega)) _))⟩

theorem specSub_any (n d m e : Int) (w : World) (hw : -9223372036854775808 ≤ m ∧ m ≤ 9223372036854775807) :
    Calls Try.prog 19 #[.agg #[.int .i64 n, .int .i64 d], .agg #[.int .i64 m, .int .i64 e]] w (Fresh (tripV (opR (rat (n * e - m * d) (d * e)) n d m e)) w) := by
  rcases in_or_out m (-1000000000) 1000000000 with ⟨h1, h2⟩ | h
  · rw [← sub_add]; exact specSub_in n d m e w h1 h2
  · rw [← trip_eq (opR_no2 _ n d m e (isR_n m e h))]; exact specSub_out n d m e w (Lib.hid hw) (Lib.hid h)

set_option maxHeartbeats 400000 in
theorem specDiv_bad1 (n d m e : Int) (w : World) (H1 : Hid (isR n d = false)) :
    Calls Try.prog 27 #[.agg #[.int .i64 n, .int .i64 d], .agg #[.int .i64 m, .int .i64 e]] w (Fresh (resV 0 0 1) w) := by
  go_enter Try.func27, Try.ntmps27
  go_wp2_with (go_at_call 21; ((with_reducible refine (specIs_no _ _ _ H1.out).mono ?_); rintro e w2 ⟨rfl, hb2⟩; obtain ⟨hc2, hf2⟩ := bcell hb2; obtain ⟨z0, z1, z2⟩ := sz_three hb2))
  have q0 : w2.cell? ⟨w.heap.size + 1 + 1, 0, none⟩ = some (.int .i64 0) := (hc2 _ _ (by simp <;> omega)).trans (by simp [go_sem])
  have q1 : w2.cell? ⟨w.heap.size + 1 + 1, 1, none⟩ = some (.int .i64 0) := (hc2 _ _ (by simp <;> omega)).trans (by simp [go_sem])
  exact bodyPost_ret (v := resV 0 0 1) (by simp [results, Try.results27, go_sem, q0, q1]) rfl ⟨rfl, by
    repeat (first | exact bl_refl _ | (refine bl_trans ?_ (by assumption)) | apply bl_alloc | apply bl_drewN | apply bl_drew | (refine bl_set ?_ (by first | exact Nat.le_refl _ | (simp; done) | (simp; omega)) _))⟩

set_option maxHeartbeats 400000 in
theorem specDiv_bad2 (n d m e : Int) (w : World) (H1 : Hid (isR n d = true)) (H2 : Hid (isR m e = false)) :
    Calls Try.prog 27 #[.agg #[.int .i64 n, .int .i64 d], .agg #[.int .i64 m, .int .i64 e]] w (Fresh (resV 0 0 1) w) := by
  go_enter Try.func27, Try.ntmps27
  go_wp2_with (go_at_call 21; ((with_reducible refine (specIs_yes _ _ _ H1.out).mono ?_); rintro e w2 ⟨rfl, hb2⟩; obtain ⟨hc2, hf2⟩ := bcell hb2; obtain ⟨z0, z1, z2⟩ := sz_three hb2))
  go_wp2_with (go_at_call 21; ((with_reducible refine (specIs_no _ _ _ H2.out).mono ?_); rintro e w3 ⟨rfl, hb3⟩; obtain ⟨hc3, hf3⟩ := bcell hb3; obtain ⟨y0, y1, y2⟩ := sz_on3 ⟨z0, z1, z2⟩ hb3))
  have q0 : w3.cell? ⟨w.heap.size + 1 + 1, 0, none⟩ = some (.int .i64 0) := (hc3 _ _ z2).trans ((hc2 _ _ (by simp <;> omega)).trans (by simp [go_sem]))
  have q1 : w3.cell? ⟨w.heap.size + 1 + 1, 1, none⟩ = some (.int .i64 0) := (hc3 _ _ z2).trans ((hc2 _ _ (by simp <;> omega)).trans (by simp [go_sem]))
  exact bodyPost_ret (v := resV 0 0 1) (by simp [results, Try.results27, go_sem, q0, q1]) rfl ⟨rfl, by
    repeat (first | exact bl_refl _ | (refine bl_trans ?_ (by assumption)) | apply bl_alloc | apply bl_drewN | apply bl_drew | (refine bl_set ?_ (by first | exact Nat.le_refl _ | (simp; done) | (simp; omega)) _))⟩

set_option maxHeartbeats 1000000 in
theorem specDiv_zero (n d e : Int) (w : World) (H1 : Hid (isR n d = true)) (H2 : Hid (isR 0 e = true)) :
    Calls Try.prog 27 #[.agg #[.int .i64 n, .int .i64 d], .agg #[.int .i64 0, .int .i64 e]] w (Fresh (resV 0 0 5) w) := by
  go_enter Try.func27, Try.ntmps27
  go_wp2_with (go_at_call 21; ((with_reducible refine (specIs_yes _ _ _ H1.out).mono ?_); rintro e w2 ⟨rfl, hb2⟩; obtain ⟨hc2, hf2⟩ := bcell hb2; obtain ⟨z0, z1, z2⟩ := sz_three hb2))
  go_wp2_with (go_at_call 21; ((with_reducible refine (specIs_yes _ _ _ H2.out).mono ?_); rintro e w3 ⟨rfl, hb3⟩; obtain ⟨hc3, hf3⟩ := bcell hb3; obtain ⟨y0, y1, y2⟩ := sz_on3 ⟨z0, z1, z2⟩ hb3))
  have q0 : w3.cell? ⟨w.heap.size + 1 + 1, 0, none⟩ = some (.int .i64 0) := (hc3 _ _ z2).trans ((hc2 _ _ (by simp <;> omega)).trans (by simp [go_sem]))
  have q1 : w3.cell? ⟨w.heap.size + 1 + 1, 1, none⟩ = some (.int .i64 0) := (hc3 _ _ z2).trans ((hc2 _ _ (by simp <;> omega)).trans (by simp [go_sem]))
  exact bodyPost_ret (v := resV 0 0 5) (by simp [results, Try.results27, go_sem, q0, q1]) rfl ⟨rfl, by
    repeat (first | exact bl_refl _ | (refine bl_trans ?_ (by assumption)) | apply bl_alloc | apply bl_drewN | apply bl_drew | (refine bl_set ?_ (by first | exact Nat.le_refl _ | (simp; done) | (simp; omega)) _))⟩

set_option maxHeartbeats 1000000 in
theorem specDiv_neg (n d m e : Int) (w : World) (H1 : Hid (isR n d = true)) (H2 : Hid (isR m e = true)) (hn : -1000000000 ≤ n) (hn' : n ≤ 1000000000) (hd : 1 ≤ d) (hd' : d ≤ 1000000000) (hm : -1000000000 ≤ m) (hm' : m ≤ 1000000000) (he : 1 ≤ e) (he' : e ≤ 1000000000) (hs : m < 0)
    (p1 : -1000000000000000000 ≤ -n * e) (p1' : -n * e ≤ 1000000000000000000) (p2 : 1 ≤ -d * m) (p2' : -d * m ≤ 1000000000000000000) :
    Calls Try.prog 27 #[.agg #[.int .i64 n, .int .i64 d], .agg #[.int .i64 m, .int .i64 e]] w (Fresh (tripV (rat (-n * e) (-d * m))) w) := by
  go_enter Try.func27, Try.ntmps27
  go_wp2_with (go_at_call 21; ((with_reducible refine (specIs_yes _ _ _ H1.out).mono ?_); rintro e w2 ⟨rfl, hb2⟩; obtain ⟨hc2, hf2⟩ := bcell hb2; obtain ⟨z0, z1, z2⟩ := sz_three hb2))
  go_wp2_with (go_at_call 21; ((with_reducible refine (specIs_yes _ _ _ H2.out).mono ?_); rintro e w3 ⟨rfl, hb3⟩; obtain ⟨hc3, hf3⟩ := bcell hb3; obtain ⟨y0, y1, y2⟩ := sz_on3 ⟨z0, z1, z2⟩ hb3))
  go_wp2_with (go_at_call 39; refine (specRat_any _ _ _ (by omega) (by omega) (by omega) (by omega)).mono ?_; rintro e w4 ⟨rfl, hb4⟩; obtain ⟨hc4, hf4⟩ := bcell hb4; have q0 : w4.cell? ⟨w.heap.size + 1 + 1, 0, none⟩ = some (.int .i64 0) := (hc4 _ _ y2).trans ((hc3 _ _ z2).trans ((hc2 _ _ (by simp <;> omega)).trans (by simp [go_sem]))); have q1 : w4.cell? ⟨w.heap.size + 1 + 1, 1, none⟩ = some (.int .i64 0) := (hc4 _ _ y2).trans ((hc3 _ _ z2).trans ((hc2 _ _ (by simp <;> omega)).trans (by simp [go_sem]))))
  exact bodyPost_ret (v := tripV (rat (-n * e) (-d * m))) (by simp [results, Try.results27, go_sem, q0, q1]) rfl ⟨rfl, by
    repeat (first | exact bl_refl _ | (refine bl_trans ?_ (by assumption)) | apply bl_alloc | apply bl_drewN | apply bl_drew | (refine bl_set ?_ (by first | exact Nat.le_refl _ | (simp; done) | (simp; omega)) _))⟩

set_option maxHeartbeats 1000000 in
theorem specDiv_pos (n d m e : Int) (w : World) (H1 : Hid (isR n d = true)) (H2 : Hid (isR m e = true)) (hn : -1000000000 ≤ n) (hn' : n ≤ 1000000000) (hd : 1 ≤ d) (hd' : d ≤ 1000000000) (hm : -1000000000 ≤ m) (hm' : m ≤ 1000000000) (he : 1 ≤ e) (he' : e ≤ 1000000000) (hs : 0 < m)
    (p1 : -1000000000000000000 ≤ n * e) (p1' : n * e ≤ 1000000000000000000) (p2 : 1 ≤ d * m) (p2' : d * m ≤ 1000000000000000000) :
    Calls Try.prog 27 #[.agg #[.int .i64 n, .int .i64 d], .agg #[.int .i64 m, .int .i64 e]] w (Fresh (tripV (rat (n * e) (d * m))) w) := by
  go_enter Try.func27, Try.ntmps27
  go_wp2_with (go_at_call 21; ((with_reducible refine (specIs_yes _ _ _ H1.out).mono ?_); rintro e w2 ⟨rfl, hb2⟩; obtain ⟨hc2, hf2⟩ := bcell hb2; obtain ⟨z0, z1, z2⟩ := sz_three hb2))
  go_wp2_with (go_at_call 21; ((with_reducible refine (specIs_yes _ _ _ H2.out).mono ?_); rintro e w3 ⟨rfl, hb3⟩; obtain ⟨hc3, hf3⟩ := bcell hb3; obtain ⟨y0, y1, y2⟩ := sz_on3 ⟨z0, z1, z2⟩ hb3))
  go_wp2_with (go_at_call 39; refine (specRat_any _ _ _ (by omega) (by omega) (by omega) (by omega)).mono ?_; rintro e w4 ⟨rfl, hb4⟩; obtain ⟨hc4, hf4⟩ := bcell hb4; have q0 : w4.cell? ⟨w.heap.size + 1 + 1, 0, none⟩ = some (.int .i64 0) := (hc4 _ _ y2).trans ((hc3 _ _ z2).trans ((hc2 _ _ (by simp <;> omega)).trans (by simp [go_sem]))); have q1 : w4.cell? ⟨w.heap.size + 1 + 1, 1, none⟩ = some (.int .i64 0) := (hc4 _ _ y2).trans ((hc3 _ _ z2).trans ((hc2 _ _ (by simp <;> omega)).trans (by simp [go_sem]))))
  exact bodyPost_ret (v := tripV (rat (n * e) (d * m))) (by simp [results, Try.results27, go_sem, q0, q1]) rfl ⟨rfl, by
    repeat (first | exact bl_refl _ | (refine bl_trans ?_ (by assumption)) | apply bl_alloc | apply bl_drewN | apply bl_drew | (refine bl_set ?_ (by first | exact Nat.le_refl _ | (simp; done) | (simp; omega)) _))⟩

theorem specDiv_any (n d m e : Int) (w : World) :
    Calls Try.prog 27 #[.agg #[.int .i64 n, .int .i64 d], .agg #[.int .i64 m, .int .i64 e]] w (Fresh (tripV (opR (divQ n d m e) n d m e)) w) := by
  rcases h1 : isR n d with _ | _
  · rw [← trip_eq (opR_no1 (divQ n d m e) n d m e h1)]
    exact specDiv_bad1 n d m e w (Lib.hid h1)
  · rcases h2 : isR m e with _ | _
    · rw [← trip_eq (opR_no2 (divQ n d m e) n d m e h2)]
      exact specDiv_bad2 n d m e w (Lib.hid h1) (Lib.hid h2)
    · obtain ⟨a1, a2, a3, a4⟩ := isR_bd n d h1
      obtain ⟨b1, b2, b3, b4⟩ := isR_bd m e h2
      rw [← opR_yes (divQ n d m e) n d m e h1 h2]
      rcases Int.lt_trichotomy m 0 with hs | hs | hs
      · rw [divQ_neg n d m e hs]
        have k1 := mul_bd (-n) e (by omega) (by omega) b3 b4
        have k2 := mul_neg d m a3 a4 b1 hs
        exact specDiv_neg n d m e w (Lib.hid h1) (Lib.hid h2) a1 a2 a3 a4 b1 b2 b3 b4 hs k1.1 k1.2 (by rw [Int.neg_mul]; omega) (by rw [Int.neg_mul]; omega)
      · subst hs
        rw [← trip_eq (divQ_zero n d e)]
        exact specDiv_zero n d e w (Lib.hid h1) (Lib.hid h2)
      · rw [divQ_pos n d m e hs]
        have k1 := mul_bd n e a1 a2 b3 b4
        have k2 := mul_pos d m a3 a4 (by omega) b2
        exact specDiv_pos n d m e w (Lib.hid h1) (Lib.hid h2) a1 a2 a3 a4 b1 b2 b3 b4 hs k1.1 k1.2 k2.1 k2.2

set_option maxHeartbeats 400000 in
theorem implDiv_bad1 (n d m e : Int) (w : World) (H1 : Hid (isR n d = false)) :
    Calls Try.prog 26 #[.agg #[.int .i64 n, .int .i64 d], .agg #[.int .i64 m, .int .i64 e]] w (Fresh (resV 0 0 1) w) := by
  go_enter Try.func26, Try.ntmps26
  go_wp2_with (go_at_call 20; ((with_reducible refine (implIs_no _ _ _ H1.out).mono ?_); rintro e w2 ⟨rfl, hb2⟩; obtain ⟨hc2, hf2⟩ := bcell hb2; obtain ⟨z0, z1, z2⟩ := sz_three hb2))
  have q0 : w2.cell? ⟨w.heap.size + 1 + 1, 0, none⟩ = some (.int .i64 0) := (hc2 _ _ (by simp <;> omega)).trans (by simp [go_sem])
  have q1 : w2.cell? ⟨w.heap.size + 1 + 1, 1, none⟩ = some (.int .i64 0) := (hc2 _ _ (by simp <;> omega)).trans (by simp [go_sem])
  exact bodyPost_ret (v := resV 0 0 1) (by simp [results, Try.results26, go_sem, q0, q1]) rfl ⟨rfl, by
    repeat (first | exact bl_refl _ | (refine bl_trans ?_ (by assumption)) | apply bl_alloc | apply bl_drewN | apply bl_drew | (refine bl_set ?_ (by first | exact Nat.le_refl _ | (simp; done) | (simp; omega)) _))⟩

set_option maxHeartbeats 400000 in
theorem implDiv_bad2 (n d m e : Int) (w : World) (H1 : Hid (isR n d = true)) (H2 : Hid (isR m e = false)) :
    Calls Try.prog 26 #[.agg #[.int .i64 n, .int .i64 d], .agg #[.int .i64 m, .int .i64 e]] w (Fresh (resV 0 0 1) w) := by
  go_enter Try.func26, Try.ntmps26
  go_wp2_with (go_at_call 20; ((with_reducible refine (implIs_yes _ _ _ H1.out).mono ?_); rintro e w2 ⟨rfl, hb2⟩; obtain ⟨hc2, hf2⟩ := bcell hb2; obtain ⟨z0, z1, z2⟩ := sz_three hb2))
  go_wp2_with (go_at_call 20; ((with_reducible refine (implIs_no _ _ _ H2.out).mono ?_); rintro e w3 ⟨rfl, hb3⟩; obtain ⟨hc3, hf3⟩ := bcell hb3; obtain ⟨y0, y1, y2⟩ := sz_on3 ⟨z0, z1, z2⟩ hb3))
  have q0 : w3.cell? ⟨w.heap.size + 1 + 1, 0, none⟩ = some (.int .i64 0) := (hc3 _ _ z2).trans ((hc2 _ _ (by simp <;> omega)).trans (by simp [go_sem]))
  have q1 : w3.cell? ⟨w.heap.size + 1 + 1, 1, none⟩ = some (.int .i64 0) := (hc3 _ _ z2).trans ((hc2 _ _ (by simp <;> omega)).trans (by simp [go_sem]))
  exact bodyPost_ret (v := resV 0 0 1) (by simp [results, Try.results26, go_sem, q0, q1]) rfl ⟨rfl, by
    repeat (first | exact bl_refl _ | (refine bl_trans ?_ (by assumption)) | apply bl_alloc | apply bl_drewN | apply bl_drew | (refine bl_set ?_ (by first | exact Nat.le_refl _ | (simp; done) | (simp; omega)) _))⟩

set_option maxHeartbeats 1000000 in
theorem implDiv_zero (n d e : Int) (w : World) (H1 : Hid (isR n d = true)) (H2 : Hid (isR 0 e = true)) :
    Calls Try.prog 26 #[.agg #[.int .i64 n, .int .i64 d], .agg #[.int .i64 0, .int .i64 e]] w (Fresh (resV 0 0 5) w) := by
  go_enter Try.func26, Try.ntmps26
  go_wp2_with (go_at_call 20; ((with_reducible refine (implIs_yes _ _ _ H1.out).mono ?_); rintro e w2 ⟨rfl, hb2⟩; obtain ⟨hc2, hf2⟩ := bcell hb2; obtain ⟨z0, z1, z2⟩ := sz_three hb2))
  go_wp2_with (go_at_call 20; ((with_reducible refine (implIs_yes _ _ _ H2.out).mono ?_); rintro e w3 ⟨rfl, hb3⟩; obtain ⟨hc3, hf3⟩ := bcell hb3; obtain ⟨y0, y1, y2⟩ := sz_on3 ⟨z0, z1, z2⟩ hb3))
  have q0 : w3.cell? ⟨w.heap.size + 1 + 1, 0, none⟩ = some (.int .i64 0) := (hc3 _ _ z2).trans ((hc2 _ _ (by simp <;> omega)).trans (by simp [go_sem]))
  have q1 : w3.cell? ⟨w.heap.size + 1 + 1, 1, none⟩ = some (.int .i64 0) := (hc3 _ _ z2).trans ((hc2 _ _ (by simp <;> omega)).trans (by simp [go_sem]))
  exact bodyPost_ret (v := resV 0 0 5) (by simp [results, Try.results26, go_sem, q0, q1]) rfl ⟨rfl, by
    repeat (first | exact bl_refl _ | (refine bl_trans ?_ (by assumption)) | apply bl_alloc | apply bl_drewN | apply bl_drew | (refine bl_set ?_ (by first | exact Nat.le_refl _ | (simp; done) | (simp; omega)) _))⟩

set_option maxHeartbeats 1000000 in
theorem implDiv_neg (n d m e : Int) (w : World) (H1 : Hid (isR n d = true)) (H2 : Hid (isR m e = true)) (hn : -1000000000 ≤ n) (hn' : n ≤ 1000000000) (hd : 1 ≤ d) (hd' : d ≤ 1000000000) (hm : -1000000000 ≤ m) (hm' : m ≤ 1000000000) (he : 1 ≤ e) (he' : e ≤ 1000000000) (hs : m < 0)
    (p1 : -1000000000000000000 ≤ n * e) (p1' : n * e ≤ 1000000000000000000) (p2 : -1000000000000000000 ≤ d * m) (p2' : d * m ≤ -1) :
    Calls Try.prog 26 #[.agg #[.int .i64 n, .int .i64 d], .agg #[.int .i64 m, .int .i64 e]] w (Fresh (tripV (rat (-(n * e)) (-(d * m)))) w) := by
  go_enter Try.func26, Try.ntmps26
  go_wp2_with (go_at_call 20; ((with_reducible refine (implIs_yes _ _ _ H1.out).mono ?_); rintro e w2 ⟨rfl, hb2⟩; obtain ⟨hc2, hf2⟩ := bcell hb2; obtain ⟨z0, z1, z2⟩ := sz_three hb2))
  go_wp2_with (go_at_call 20; ((with_reducible refine (implIs_yes _ _ _ H2.out).mono ?_); rintro e w3 ⟨rfl, hb3⟩; obtain ⟨hc3, hf3⟩ := bcell hb3; obtain ⟨y0, y1, y2⟩ := sz_on3 ⟨z0, z1, z2⟩ hb3))
  go_quiet (fail)
  go_wp2_with (go_at_call 38; refine (implRat_any _ _ _ (by omega) (by omega) (by omega) (by omega)).mono ?_; rintro e w4 ⟨rfl, hb4⟩; obtain ⟨hc4, hf4⟩ := bcell hb4; have q0 : w4.cell? ⟨w.heap.size + 1 + 1, 0, none⟩ = some (.int .i64 0) := (hc4 _ _ y2).trans ((hc3 _ _ z2).trans ((hc2 _ _ (by simp <;> omega)).trans (by simp [go_sem]))); have q1 : w4.cell? ⟨w.heap.size + 1 + 1, 1, none⟩ = some (.int .i64 0) := (hc4 _ _ y2).trans ((hc3 _ _ z2).trans ((hc2 _ _ (by simp <;> omega)).trans (by simp [go_sem]))); have f0 : w4.frozen? ⟨w.heap.size + 1 + 1, 0, none⟩ = false := (hf4 _ _ y2).trans ((hf3 _ _ z2).trans ((hf2 _ _ (by simp <;> omega)).trans (by simp [go_sem]))); have f1 : w4.frozen? ⟨w.heap.size + 1 + 1, 1, none⟩ = false := (hf4 _ _ y2).trans ((hf3 _ _ z2).trans ((hf2 _ _ (by simp <;> omega)).trans (by simp [go_sem]))))
  exact bodyPost_ret (v := tripV (rat (-(n * e)) (-(d * m)))) (by simp [results, Try.results26, go_sem, q0, q1]) rfl ⟨rfl, by
    repeat (first | exact bl_refl _ | (refine bl_trans ?_ (by assumption)) | apply bl_alloc | apply bl_drewN | apply bl_drew | (refine bl_set ?_ (by first | exact Nat.le_refl _ | (simp; done) | (simp; omega)) _))⟩

set_option maxHeartbeats 1000000 in
theorem implDiv_pos (n d m e : Int) (w : World) (H1 : Hid (isR n d = true)) (H2 : Hid (isR m e = true)) (hn : -1000000000 ≤ n) (hn' : n ≤ 1000000000) (hd : 1 ≤ d) (hd' : d ≤ 1000000000) (hm : -1000000000 ≤ m) (hm' : m ≤ 1000000000) (he : 1 ≤ e) (he' : e ≤ 1000000000) (hs : 0 < m)
    (p1 : -1000000000000000000 ≤ n * e) (p1' : n * e ≤ 1000000000000000000) (p2 : 1 ≤ d * m) (p2' : d * m ≤ 1000000000000000000) :
    Calls Try.prog 26 #[.agg #[.int .i64 n, .int .i64 d], .agg #[.int .i64 m, .int .i64 e]] w (Fresh (tripV (rat (n * e) (d * m))) w) := by
  go_enter Try.func26, Try.ntmps26
  go_wp2_with (go_at_call 20; ((with_reducible refine (implIs_yes _ _ _ H1.out).mono ?_); rintro e w2 ⟨rfl, hb2⟩; obtain ⟨hc2, hf2⟩ := bcell hb2; obtain ⟨z0, z1, z2⟩ := sz_three hb2))
  go_wp2_with (go_at_call 20; ((with_reducible refine (implIs_yes _ _ _ H2.out).mono ?_); rintro e w3 ⟨rfl, hb3⟩; obtain ⟨hc3, hf3⟩ := bcell hb3; obtain ⟨y0, y1, y2⟩ := sz_on3 ⟨z0, z1, z2⟩ hb3))
  go_quiet (fail)
  go_wp2_with (go_at_call 38; refine (implRat_any _ _ _ (by omega) (by omega) (by omega) (by omega)).mono ?_; rintro e w4 ⟨rfl, hb4⟩; obtain ⟨hc4, hf4⟩ := bcell hb4; have q0 : w4.cell? ⟨w.heap.size + 1 + 1, 0, none⟩ = some (.int .i64 0) := (hc4 _ _ y2).trans ((hc3 _ _ z2).trans ((hc2 _ _ (by simp <;> omega)).trans (by simp [go_sem]))); have q1 : w4.cell? ⟨w.heap.size + 1 + 1, 1, none⟩ = some (.int .i64 0) := (hc4 _ _ y2).trans ((hc3 _ _ z2).trans ((hc2 _ _ (by simp <;> omega)).trans (by simp [go_sem]))); have f0 : w4.frozen? ⟨w.heap.size + 1 + 1, 0, none⟩ = false := (hf4 _ _ y2).trans ((hf3 _ _ z2).trans ((hf2 _ _ (by simp <;> omega)).trans (by simp [go_sem]))); have f1 : w4.frozen? ⟨w.heap.size + 1 + 1, 1, none⟩ = false := (hf4 _ _ y2).trans ((hf3 _ _ z2).trans ((hf2 _ _ (by simp <;> omega)).trans (by simp [go_sem]))))
  exact bodyPost_ret (v := tripV (rat (n * e) (d * m))) (by simp [results, Try.results26, go_sem, q0, q1]) rfl ⟨rfl, by
    repeat (first | exact bl_refl _ | (refine bl_trans ?_ (by assumption)) | apply bl_alloc | apply bl_drewN | apply bl_drew | (refine bl_set ?_ (by first | exact Nat.le_refl _ | (simp; done) | (simp; omega)) _))⟩

theorem implDiv_any (n d m e : Int) (w : World) :
    Calls Try.prog 26 #[.agg #[.int .i64 n, .int .i64 d], .agg #[.int .i64 m, .int .i64 e]] w (Fresh (tripV (opR (divQ n d m e) n d m e)) w) := by
  rcases h1 : isR n d with _ | _
  · rw [← trip_eq (opR_no1 (divQ n d m e) n d m e h1)]
    exact implDiv_bad1 n d m e w (Lib.hid h1)
  · rcases h2 : isR m e with _ | _
    · rw [← trip_eq (opR_no2 (divQ n d m e) n d m e h2)]
      exact implDiv_bad2 n d m e w (Lib.hid h1) (Lib.hid h2)
    · obtain ⟨a1, a2, a3, a4⟩ := isR_bd n d h1
      obtain ⟨b1, b2, b3, b4⟩ := isR_bd m e h2
      rw [← opR_yes (divQ n d m e) n d m e h1 h2]
      rcases Int.lt_trichotomy m 0 with hs | hs | hs
      · rw [divQ_neg' n d m e hs]
        have k1 := mul_bd n e a1 a2 b3 b4
        have k2 := mul_neg d m a3 a4 b1 hs
        exact implDiv_neg n d m e w (Lib.hid h1) (Lib.hid h2) a1 a2 a3 a4 b1 b2 b3 b4 hs k1.1 k1.2 k2.1 k2.2
      · subst hs
        rw [← trip_eq (divQ_zero n d e)]
        exact implDiv_zero n d e w (Lib.hid h1) (Lib.hid h2)
      · rw [divQ_pos n d m e hs]
        have k1 := mul_bd n e a1 a2 b3 b4
        have k2 := mul_pos d m a3 a4 (by omega) b2
        exact implDiv_pos n d m e w (Lib.hid h1) (Lib.hid h2) a1 a2 a3 a4 b1 b2 b3 b4 hs k1.1 k1.2 k2.1 k2.2

end Go.Proofs.Ytohhjcnkbifdbaa
