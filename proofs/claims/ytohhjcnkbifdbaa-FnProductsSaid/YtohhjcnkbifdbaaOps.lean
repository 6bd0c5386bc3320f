/-
  The operations on two ratios: the walks of the model and of the program.
-/
import Derived.Test.YtohhjcnkbifdbaaMake
import Derived.RegionTactic
namespace Go.Proofs.Ytohhjcnkbifdbaa
open Go.RowKit
set_option linter.unusedVariables false

theorem mul_bd2 (a b : Int) (h1 : -1000000000 ≤ a) (h2 : a ≤ 1000000000) (h3 : -1000000000 ≤ b) (h4 : b ≤ 1000000000) : -1000000000000000000 ≤ a * b ∧ a * b ≤ 1000000000000000000 := by
  have := prod_bd a b 1000000000 1000000000 h1 h2 h3 h4
  omega
theorem mul_bd (a b : Int) (h1 : -1000000000 ≤ a) (h2 : a ≤ 1000000000) (h3 : 1 ≤ b) (h4 : b ≤ 1000000000) : -1000000000000000000 ≤ a * b ∧ a * b ≤ 1000000000000000000 := mul_bd2 a b h1 h2 (by omega) h4
theorem mul_pos (a b : Int) (h1 : 1 ≤ a) (h2 : a ≤ 1000000000) (h3 : 1 ≤ b) (h4 : b ≤ 1000000000) : 1 ≤ a * b ∧ a * b ≤ 1000000000000000000 := by
  have := prod_bd a b 1000000000 1000000000 (by omega) h2 (by omega) h4
  have := Int.mul_pos (a := a) (b := b) (by omega) (by omega)
  omega
theorem isR_bd (n d : Int) (h : isR n d = true) : -1000000000 ≤ n ∧ n ≤ 1000000000 ∧ 1 ≤ d ∧ d ≤ 1000000000 := by
  unfold isR at h; simp only [decide_eq_true_eq] at h; exact ⟨h.1, h.2.1, h.2.2.1, h.2.2.2.1⟩
/-- The answers of the operations on two ratios n/d and m/e. -/
def opR (ok : Int × Int × Int) (n d m e : Int) : Int × Int × Int := if isR n d && isR m e then ok else (0, 0, 1)
theorem opR_yes (ok : Int × Int × Int) (n d m e : Int) (h : isR n d = true) (h' : isR m e = true) : ok = opR ok n d m e := by unfold opR; rw [h, h']; rfl
theorem opR_no1 (ok : Int × Int × Int) (n d m e : Int) (h : isR n d = false) : opR ok n d m e = (0, 0, 1) := by unfold opR; rw [h]; rfl
theorem opR_no2 (ok : Int × Int × Int) (n d m e : Int) (h' : isR m e = false) : opR ok n d m e = (0, 0, 1) := by unfold opR; rw [h', Bool.and_false]; rfl
def divQ (n d m e : Int) : Int × Int × Int := if m = 0 then (0, 0, 5) else if m < 0 then rat (-n * e) (-d * m) else rat (n * e) (d * m)
theorem divQ_zero (n d e : Int) : divQ n d 0 e = (0, 0, 5) := by unfold divQ; rw [if_pos rfl]
theorem divQ_neg (n d m e : Int) (h : m < 0) : divQ n d m e = rat (-n * e) (-d * m) := by unfold divQ; rw [if_neg (by omega), if_pos h]
theorem divQ_neg' (n d m e : Int) (h : m < 0) : divQ n d m e = rat (-(n * e)) (-(d * m)) := by rw [divQ_neg n d m e h, Int.neg_mul, Int.neg_mul]
theorem divQ_pos (n d m e : Int) (h : 0 < m) : divQ n d m e = rat (n * e) (d * m) := by unfold divQ; rw [if_neg (by omega), if_neg (by omega)]
def sgn (x : Int) : Int := if x < 0 then -1 else if 0 < x then 1 else 0
theorem sgn_neg (x : Int) (h : x < 0) : sgn x = -1 := by unfold sgn; rw [if_pos h]
theorem sgn_pos (x : Int) (h : 0 < x) : sgn x = 1 := by unfold sgn; rw [if_neg (by omega), if_pos h]
theorem sgn_zero : sgn 0 = 0 := rfl
theorem sgn_lt (x y : Int) (h : x < y) : sgn (x - y) = -1 := sgn_neg _ (by omega)
theorem sgn_gt (x y : Int) (h : y < x) : sgn (x - y) = 1 := sgn_pos _ (by omega)
theorem sgn_eq (x y : Int) (h : x = y) : sgn (x - y) = 0 := by subst h; rw [Int.sub_self]; rfl
/-- CompareRatios' answer. -/
def cmpR (n d m e : Int) : Int × Int := if isR n d && isR m e then (sgn (n * e - m * d), 0) else (0, 1)
theorem cmpR_yes (n d m e : Int) (h : isR n d = true) (h' : isR m e = true) : cmpR n d m e = (sgn (n * e - m * d), 0) := by unfold cmpR; rw [h, h']; rfl
theorem cmpR_no1 (n d m e : Int) (h : isR n d = false) : cmpR n d m e = (0, 1) := by unfold cmpR; rw [h]; rfl
theorem cmpR_no2 (n d m e : Int) (h' : isR m e = false) : cmpR n d m e = (0, 1) := by unfold cmpR; rw [h', Bool.and_false]; rfl

theorem sz_three {w w1 : World} {a b c : Obj} (hb : Below (((w.alloc a).alloc b).alloc c).heap.size (((w.alloc a).alloc b).alloc c) w1) : w.heap.size < w1.heap.size ∧ w.heap.size + 1 < w1.heap.size ∧ w.heap.size + 1 + 1 < w1.heap.size := by
  have := hb.size
  simp at this
  omega
theorem sz_on3 {k : Nat} {w w1 : World} (h : k < w.heap.size ∧ k + 1 < w.heap.size ∧ k + 1 + 1 < w.heap.size) (hb : Below w.heap.size w w1) : k < w1.heap.size ∧ k + 1 < w1.heap.size ∧ k + 1 + 1 < w1.heap.size := by
  have := hb.size
  omega
theorem sz_on2 {k : Nat} {w w1 : World} (h : k < w.heap.size ∧ k + 1 < w.heap.size) (hb : Below w.heap.size w w1) : k < w1.heap.size ∧ k + 1 < w1.heap.size := by
  have := hb.size
  omega
theorem sz_two2 {w w1 : World} {a b : Obj} (hb : Below ((w.alloc a).alloc b).heap.size ((w.alloc a).alloc b) w1) : w.heap.size < w1.heap.size ∧ w.heap.size + 1 < w1.heap.size := by
  have := hb.size
  simp at this
  omega

set_option maxHeartbeats 400000 in
theorem specAdd_bad1 (n d m e : Int) (w : World) (H1 : Hid (isR n d = false)) :
    Calls Try.prog 16 #[.agg #[.int .i64 n, .int .i64 d], .agg #[.int .i64 m, .int .i64 e]] w (Fresh (resV 0 0 1) w) := by
  go_enter Try.func16, Try.ntmps16
  go_wp2_with (go_at_call 21; ((with_reducible refine (specIs_no _ _ _ H1.out).mono ?_); rintro e w2 ⟨rfl, hb2⟩; obtain ⟨hc2, hf2⟩ := bcell hb2; obtain ⟨z0, z1, z2⟩ := sz_three hb2))
  have q0 : w2.cell? ⟨w.heap.size + 1 + 1, 0, none⟩ = some (.int .i64 0) := (hc2 _ _ (by simp <;> omega)).trans (by simp [go_sem])
  have q1 : w2.cell? ⟨w.heap.size + 1 + 1, 1, none⟩ = some (.int .i64 0) := (hc2 _ _ (by simp <;> omega)).trans (by simp [go_sem])
  exact bodyPost_ret (v := resV 0 0 1) (by simp [results, Try.results16, go_sem, q0, q1]) rfl ⟨rfl, by
    repeat (first | exact bl_refl _ | (refine bl_trans ?_ (by assumption)) | apply bl_alloc | apply bl_drewN | apply bl_drew | (refine bl_set ?_ (by first | exact Nat.le_refl _ | (simp; done) | (simp; omega)) _))⟩

set_option maxHeartbeats 400000 in
theorem specAdd_bad2 (n d m e : Int) (w : World) (H1 : Hid (isR n d = true)) (H2 : Hid (isR m e = false)) :
    Calls Try.prog 16 #[.agg #[.int .i64 n, .int .i64 d], .agg #[.int .i64 m, .int .i64 e]] w (Fresh (resV 0 0 1) w) := by
  go_enter Try.func16, Try.ntmps16
  go_wp2_with (go_at_call 21; ((with_reducible refine (specIs_yes _ _ _ H1.out).mono ?_); rintro e w2 ⟨rfl, hb2⟩; obtain ⟨hc2, hf2⟩ := bcell hb2; obtain ⟨z0, z1, z2⟩ := sz_three hb2))
  go_wp2_with (go_at_call 21; ((with_reducible refine (specIs_no _ _ _ H2.out).mono ?_); rintro e w3 ⟨rfl, hb3⟩; obtain ⟨hc3, hf3⟩ := bcell hb3; obtain ⟨y0, y1, y2⟩ := sz_on3 ⟨z0, z1, z2⟩ hb3))
  have q0 : w3.cell? ⟨w.heap.size + 1 + 1, 0, none⟩ = some (.int .i64 0) := (hc3 _ _ z2).trans ((hc2 _ _ (by simp <;> omega)).trans (by simp [go_sem]))
  have q1 : w3.cell? ⟨w.heap.size + 1 + 1, 1, none⟩ = some (.int .i64 0) := (hc3 _ _ z2).trans ((hc2 _ _ (by simp <;> omega)).trans (by simp [go_sem]))
  exact bodyPost_ret (v := resV 0 0 1) (by simp [results, Try.results16, go_sem, q0, q1]) rfl ⟨rfl, by
    repeat (first | exact bl_refl _ | (refine bl_trans ?_ (by assumption)) | apply bl_alloc | apply bl_drewN | apply bl_drew | (refine bl_set ?_ (by first | exact Nat.le_refl _ | (simp; done) | (simp; omega)) _))⟩

set_option maxHeartbeats 1000000 in
theorem specAdd_ok (n d m e : Int) (w : World) (H1 : Hid (isR n d = true)) (H2 : Hid (isR m e = true)) (hn : -1000000000 ≤ n) (hn' : n ≤ 1000000000) (hd : 1 ≤ d) (hd' : d ≤ 1000000000) (hm : -1000000000 ≤ m) (hm' : m ≤ 1000000000) (he : 1 ≤ e) (he' : e ≤ 1000000000)
    (p1 : -1000000000000000000 ≤ n * e) (p1' : n * e ≤ 1000000000000000000) (p2 : -1000000000000000000 ≤ m * d) (p2' : m * d ≤ 1000000000000000000) (p3 : 1 ≤ d * e) (p3' : d * e ≤ 1000000000000000000) :
    Calls Try.prog 16 #[.agg #[.int .i64 n, .int .i64 d], .agg #[.int .i64 m, .int .i64 e]] w (Fresh (tripV (rat (n * e + m * d) (d * e))) w) := by
  go_enter Try.func16, Try.ntmps16
  go_wp2_with (go_at_call 21; ((with_reducible refine (specIs_yes _ _ _ H1.out).mono ?_); rintro e w2 ⟨rfl, hb2⟩; obtain ⟨hc2, hf2⟩ := bcell hb2; obtain ⟨z0, z1, z2⟩ := sz_three hb2))
  go_wp2_with (go_at_call 21; ((with_reducible refine (specIs_yes _ _ _ H2.out).mono ?_); rintro e w3 ⟨rfl, hb3⟩; obtain ⟨hc3, hf3⟩ := bcell hb3; obtain ⟨y0, y1, y2⟩ := sz_on3 ⟨z0, z1, z2⟩ hb3))
  go_wp2_with (go_at_call 39; refine (specRat_any _ _ _ (by omega) (by omega) (by omega) (by omega)).mono ?_; rintro e w4 ⟨rfl, hb4⟩; obtain ⟨hc4, hf4⟩ := bcell hb4; have q0 : w4.cell? ⟨w.heap.size + 1 + 1, 0, none⟩ = some (.int .i64 0) := (hc4 _ _ y2).trans ((hc3 _ _ z2).trans ((hc2 _ _ (by simp <;> omega)).trans (by simp [go_sem]))); have q1 : w4.cell? ⟨w.heap.size + 1 + 1, 1, none⟩ = some (.int .i64 0) := (hc4 _ _ y2).trans ((hc3 _ _ z2).trans ((hc2 _ _ (by simp <;> omega)).trans (by simp [go_sem]))))
  exact bodyPost_ret (v := tripV (rat (n * e + m * d) (d * e))) (by simp [results, Try.results16, go_sem, q0, q1]) rfl ⟨rfl, by
    repeat (first | exact bl_refl _ | (refine bl_trans ?_ (by assumption)) | apply bl_alloc | apply bl_drewN | apply bl_drew | (refine bl_set ?_ (by first | exact Nat.le_refl _ | (simp; done) | (simp; omega)) _))⟩

theorem specAdd_any (n d m e : Int) (w : World) :
    Calls Try.prog 16 #[.agg #[.int .i64 n, .int .i64 d], .agg #[.int .i64 m, .int .i64 e]] w (Fresh (tripV (opR (rat (n * e + m * d) (d * e)) n d m e)) w) := by
  rcases h1 : isR n d with _ | _
  · rw [← trip_eq (opR_no1 (rat (n * e + m * d) (d * e)) n d m e h1)]
    exact specAdd_bad1 n d m e w (Lib.hid h1)
  · rcases h2 : isR m e with _ | _
    · rw [← trip_eq (opR_no2 (rat (n * e + m * d) (d * e)) n d m e h2)]
      exact specAdd_bad2 n d m e w (Lib.hid h1) (Lib.hid h2)
    · obtain ⟨a1, a2, a3, a4⟩ := isR_bd n d h1
      obtain ⟨b1, b2, b3, b4⟩ := isR_bd m e h2
      rw [← opR_yes (rat (n * e + m * d) (d * e)) n d m e h1 h2]
      exact specAdd_ok n d m e w (Lib.hid h1) (Lib.hid h2) a1 a2 a3 a4 b1 b2 b3 b4 (mul_bd n e a1 a2 b3 b4).1 (mul_bd n e a1 a2 b3 b4).2 (mul_bd m d b1 b2 a3 a4).1 (mul_bd m d b1 b2 a3 a4).2 (mul_pos d e a3 a4 b3 b4).1 (mul_pos d e a3 a4 b3 b4).2

set_option maxHeartbeats 400000 in
theorem specMul_bad1 (n d m e : Int) (w : World) (H1 : Hid (isR n d = false)) :
    Calls Try.prog 24 #[.agg #[.int .i64 n, .int .i64 d], .agg #[.int .i64 m, .int .i64 e]] w (Fresh (resV 0 0 1) w) := by
  go_enter Try.func24, Try.ntmps24
  go_wp2_with (go_at_call 21; ((with_reducible refine (specIs_no _ _ _ H1.out).mono ?_); rintro e w2 ⟨rfl, hb2⟩; obtain ⟨hc2, hf2⟩ := bcell hb2; obtain ⟨z0, z1, z2⟩ := sz_three hb2))
  have q0 : w2.cell? ⟨w.heap.size + 1 + 1, 0, none⟩ = some (.int .i64 0) := (hc2 _ _ (by simp <;> omega)).trans (by simp [go_sem])
  have q1 : w2.cell? ⟨w.heap.size + 1 + 1, 1, none⟩ = some (.int .i64 0) := (hc2 _ _ (by simp <;> omega)).trans (by simp [go_sem])
  exact bodyPost_ret (v := resV 0 0 1) (by simp [results, Try.results24, go_sem, q0, q1]) rfl ⟨rfl, by
    repeat (first | exact bl_refl _ | (refine bl_trans ?_ (by assumption)) | apply bl_alloc | apply bl_drewN | apply bl_drew | (refine bl_set ?_ (by first | exact Nat.le_refl _ | (simp; done) | (simp; omega)) _))⟩

set_option maxHeartbeats 400000 in
theorem specMul_bad2 (n d m e : Int) (w : World) (H1 : Hid (isR n d = true)) (H2 : Hid (isR m e = false)) :
    Calls Try.prog 24 #[.agg #[.int .i64 n, .int .i64 d], .agg #[.int .i64 m, .int .i64 e]] w (Fresh (resV 0 0 1) w) := by
  go_enter Try.func24, Try.ntmps24
  go_wp2_with (go_at_call 21; ((with_reducible refine (specIs_yes _ _ _ H1.out).mono ?_); rintro e w2 ⟨rfl, hb2⟩; obtain ⟨hc2, hf2⟩ := bcell hb2; obtain ⟨z0, z1, z2⟩ := sz_three hb2))
  go_wp2_with (go_at_call 21; ((with_reducible refine (specIs_no _ _ _ H2.out).mono ?_); rintro e w3 ⟨rfl, hb3⟩; obtain ⟨hc3, hf3⟩ := bcell hb3; obtain ⟨y0, y1, y2⟩ := sz_on3 ⟨z0, z1, z2⟩ hb3))
  have q0 : w3.cell? ⟨w.heap.size + 1 + 1, 0, none⟩ = some (.int .i64 0) := (hc3 _ _ z2).trans ((hc2 _ _ (by simp <;> omega)).trans (by simp [go_sem]))
  have q1 : w3.cell? ⟨w.heap.size + 1 + 1, 1, none⟩ = some (.int .i64 0) := (hc3 _ _ z2).trans ((hc2 _ _ (by simp <;> omega)).trans (by simp [go_sem]))
  exact bodyPost_ret (v := resV 0 0 1) (by simp [results, Try.results24, go_sem, q0, q1]) rfl ⟨rfl, by
    repeat (first | exact bl_refl _ | (refine bl_trans ?_ (by assumption)) | apply bl_alloc | apply bl_drewN | apply bl_drew | (refine bl_set ?_ (by first | exact Nat.le_refl _ | (simp; done) | (simp; omega)) _))⟩

set_option maxHeartbeats 1000000 in
theorem specMul_ok (n d m e : Int) (w : World) (H1 : Hid (isR n d = true)) (H2 : Hid (isR m e = true)) (hn : -1000000000 ≤ n) (hn' : n ≤ 1000000000) (hd : 1 ≤ d) (hd' : d ≤ 1000000000) (hm : -1000000000 ≤ m) (hm' : m ≤ 1000000000) (he : 1 ≤ e) (he' : e ≤ 1000000000)
    (p1 : -1000000000000000000 ≤ n * m) (p1' : n * m ≤ 1000000000000000000) (p3 : 1 ≤ d * e) (p3' : d * e ≤ 1000000000000000000) :
    Calls Try.prog 24 #[.agg #[.int .i64 n, .int .i64 d], .agg #[.int .i64 m, .int .i64 e]] w (Fresh (tripV (rat (n * m) (d * e))) w) := by
  go_enter Try.func24, Try.ntmps24
  go_wp2_with (go_at_call 21; ((with_reducible refine (specIs_yes _ _ _ H1.out).mono ?_); rintro e w2 ⟨rfl, hb2⟩; obtain ⟨hc2, hf2⟩ := bcell hb2; obtain ⟨z0, z1, z2⟩ := sz_three hb2))
  go_wp2_with (go_at_call 21; ((with_reducible refine (specIs_yes _ _ _ H2.out).mono ?_); rintro e w3 ⟨rfl, hb3⟩; obtain ⟨hc3, hf3⟩ := bcell hb3; obtain ⟨y0, y1, y2⟩ := sz_on3 ⟨z0, z1, z2⟩ hb3))
  go_wp2_with (go_at_call 39; refine (specRat_any _ _ _ (by omega) (by omega) (by omega) (by omega)).mono ?_; rintro e w4 ⟨rfl, hb4⟩; obtain ⟨hc4, hf4⟩ := bcell hb4; have q0 : w4.cell? ⟨w.heap.size + 1 + 1, 0, none⟩ = some (.int .i64 0) := (hc4 _ _ y2).trans ((hc3 _ _ z2).trans ((hc2 _ _ (by simp <;> omega)).trans (by simp [go_sem]))); have q1 : w4.cell? ⟨w.heap.size + 1 + 1, 1, none⟩ = some (.int .i64 0) := (hc4 _ _ y2).trans ((hc3 _ _ z2).trans ((hc2 _ _ (by simp <;> omega)).trans (by simp [go_sem]))))
  exact bodyPost_ret (v := tripV (rat (n * m) (d * e))) (by simp [results, Try.results24, go_sem, q0, q1]) rfl ⟨rfl, by
    repeat (first | exact bl_refl _ | (refine bl_trans ?_ (by assumption)) | apply bl_alloc | apply bl_drewN | apply bl_drew | (refine bl_set ?_ (by first | exact Nat.le_refl _ | (simp; done) | (simp; omega)) _))⟩

theorem specMul_any (n d m e : Int) (w : World) :
    Calls Try.prog 24 #[.agg #[.int .i64 n, .int .i64 d], .agg #[.int .i64 m, .int .i64 e]] w (Fresh (tripV (opR (rat (n * m) (d * e)) n d m e)) w) := by
  rcases h1 : isR n d with _ | _
  · rw [← trip_eq (opR_no1 (rat (n * m) (d * e)) n d m e h1)]
    exact specMul_bad1 n d m e w (Lib.hid h1)
  · rcases h2 : isR m e with _ | _
    · rw [← trip_eq (opR_no2 (rat (n * m) (d * e)) n d m e h2)]
      exact specMul_bad2 n d m e w (Lib.hid h1) (Lib.hid h2)
    · obtain ⟨a1, a2, a3, a4⟩ := isR_bd n d h1
      obtain ⟨b1, b2, b3, b4⟩ := isR_bd m e h2
      rw [← opR_yes (rat (n * m) (d * e)) n d m e h1 h2]
      exact specMul_ok n d m e w (Lib.hid h1) (Lib.hid h2) a1 a2 a3 a4 b1 b2 b3 b4 (mul_bd2 n m a1 a2 b1 b2).1 (mul_bd2 n m a1 a2 b1 b2).2 (mul_pos d e a3 a4 b3 b4).1 (mul_pos d e a3 a4 b3 b4).2

set_option maxHeartbeats 400000 in
theorem implAdd_bad1 (n d m e : Int) (w : World) (H1 : Hid (isR n d = false)) :
    Calls Try.prog 15 #[.agg #[.int .i64 n, .int .i64 d], .agg #[.int .i64 m, .int .i64 e]] w (Fresh (resV 0 0 1) w) := by
  go_enter Try.func15, Try.ntmps15
  go_wp2_with (go_at_call 20; ((with_reducible refine (implIs_no _ _ _ H1.out).mono ?_); rintro e w2 ⟨rfl, hb2⟩; obtain ⟨hc2, hf2⟩ := bcell hb2; obtain ⟨z0, z1, z2⟩ := sz_three hb2))
  have q0 : w2.cell? ⟨w.heap.size + 1 + 1, 0, none⟩ = some (.int .i64 0) := (hc2 _ _ (by simp <;> omega)).trans (by simp [go_sem])
  have q1 : w2.cell? ⟨w.heap.size + 1 + 1, 1, none⟩ = some (.int .i64 0) := (hc2 _ _ (by simp <;> omega)).trans (by simp [go_sem])
  exact bodyPost_ret (v := resV 0 0 1) (by simp [results, Try.results15, go_sem, q0, q1]) rfl ⟨rfl, by
    repeat (first | exact bl_refl _ | (refine bl_trans ?_ (by assumption)) | apply bl_alloc | apply bl_drewN | apply bl_drew | (refine bl_set ?_ (by first | exact Nat.le_refl _ | (simp; done) | (simp; omega)) _))⟩

set_option maxHeartbeats 400000 in
theorem implAdd_bad2 (n d m e : Int) (w : World) (H1 : Hid (isR n d = true)) (H2 : Hid (isR m e = false)) :
    Calls Try.prog 15 #[.agg #[.int .i64 n, .int .i64 d], .agg #[.int .i64 m, .int .i64 e]] w (Fresh (resV 0 0 1) w) := by
  go_enter Try.func15, Try.ntmps15
  go_wp2_with (go_at_call 20; ((with_reducible refine (implIs_yes _ _ _ H1.out).mono ?_); rintro e w2 ⟨rfl, hb2⟩; obtain ⟨hc2, hf2⟩ := bcell hb2; obtain ⟨z0, z1, z2⟩ := sz_three hb2))
  go_wp2_with (go_at_call 20; ((with_reducible refine (implIs_no _ _ _ H2.out).mono ?_); rintro e w3 ⟨rfl, hb3⟩; obtain ⟨hc3, hf3⟩ := bcell hb3; obtain ⟨y0, y1, y2⟩ := sz_on3 ⟨z0, z1, z2⟩ hb3))
  have q0 : w3.cell? ⟨w.heap.size + 1 + 1, 0, none⟩ = some (.int .i64 0) := (hc3 _ _ z2).trans ((hc2 _ _ (by simp <;> omega)).trans (by simp [go_sem]))
  have q1 : w3.cell? ⟨w.heap.size + 1 + 1, 1, none⟩ = some (.int .i64 0) := (hc3 _ _ z2).trans ((hc2 _ _ (by simp <;> omega)).trans (by simp [go_sem]))
  exact bodyPost_ret (v := resV 0 0 1) (by simp [results, Try.results15, go_sem, q0, q1]) rfl ⟨rfl, by
    repeat (first | exact bl_refl _ | (refine bl_trans ?_ (by assumption)) | apply bl_alloc | apply bl_drewN | apply bl_drew | (refine bl_set ?_ (by first | exact Nat.le_refl _ | (simp; done) | (simp; omega)) _))⟩

set_option maxHeartbeats 1000000 in
theorem implAdd_ok (n d m e : Int) (w : World) (H1 : Hid (isR n d = true)) (H2 : Hid (isR m e = true)) (hn : -1000000000 ≤ n) (hn' : n ≤ 1000000000) (hd : 1 ≤ d) (hd' : d ≤ 1000000000) (hm : -1000000000 ≤ m) (hm' : m ≤ 1000000000) (he : 1 ≤ e) (he' : e ≤ 1000000000)
    (p1 : -1000000000000000000 ≤ n * e) (p1' : n * e ≤ 1000000000000000000) (p2 : -1000000000000000000 ≤ m * d) (p2' : m * d ≤ 1000000000000000000) (p3 : 1 ≤ d * e) (p3' : d * e ≤ 1000000000000000000) :
    Calls Try.prog 15 #[.agg #[.int .i64 n, .int .i64 d], .agg #[.int .i64 m, .int .i64 e]] w (Fresh (tripV (rat (n * e + m * d) (d * e))) w) := by
  go_enter Try.func15, Try.ntmps15
  go_wp2_with (go_at_call 20; ((with_reducible refine (implIs_yes _ _ _ H1.out).mono ?_); rintro e w2 ⟨rfl, hb2⟩; obtain ⟨hc2, hf2⟩ := bcell hb2; obtain ⟨z0, z1, z2⟩ := sz_three hb2))
  go_wp2_with (go_at_call 20; ((with_reducible refine (implIs_yes _ _ _ H2.out).mono ?_); rintro e w3 ⟨rfl, hb3⟩; obtain ⟨hc3, hf3⟩ := bcell hb3; obtain ⟨y0, y1, y2⟩ := sz_on3 ⟨z0, z1, z2⟩ hb3))
  go_wp2_with (go_at_call 38; refine (implRat_any _ _ _ (by omega) (by omega) (by omega) (by omega)).mono ?_; rintro e w4 ⟨rfl, hb4⟩; obtain ⟨hc4, hf4⟩ := bcell hb4; have q0 : w4.cell? ⟨w.heap.size + 1 + 1, 0, none⟩ = some (.int .i64 0) := (hc4 _ _ y2).trans ((hc3 _ _ z2).trans ((hc2 _ _ (by simp <;> omega)).trans (by simp [go_sem]))); have q1 : w4.cell? ⟨w.heap.size + 1 + 1, 1, none⟩ = some (.int .i64 0) := (hc4 _ _ y2).trans ((hc3 _ _ z2).trans ((hc2 _ _ (by simp <;> omega)).trans (by simp [go_sem]))))
  exact bodyPost_ret (v := tripV (rat (n * e + m * d) (d * e))) (by simp [results, Try.results15, go_sem, q0, q1]) rfl ⟨rfl, by
    repeat (first | exact bl_refl _ | (refine bl_trans ?_ (by assumption)) | apply bl_alloc | apply bl_drewN | apply bl_drew | (refine bl_set ?_ (by first | exact Nat.le_refl _ | (simp; done) | (simp; omega)) _))⟩

theorem implAdd_any (n d m e : Int) (w : World) :
    Calls Try.prog 15 #[.agg #[.int .i64 n, .int .i64 d], .agg #[.int .i64 m, .int .i64 e]] w (Fresh (tripV (opR (rat (n * e + m * d) (d * e)) n d m e)) w) := by
  rcases h1 : isR n d with _ | _
  · rw [← trip_eq (opR_no1 (rat (n * e + m * d) (d * e)) n d m e h1)]
    exact implAdd_bad1 n d m e w (Lib.hid h1)
  · rcases h2 : isR m e with _ | _
    · rw [← trip_eq (opR_no2 (rat (n * e + m * d) (d * e)) n d m e h2)]
      exact implAdd_bad2 n d m e w (Lib.hid h1) (Lib.hid h2)
    · obtain ⟨a1, a2, a3, a4⟩ := isR_bd n d h1
      obtain ⟨b1, b2, b3, b4⟩ := isR_bd m e h2
      rw [← opR_yes (rat (n * e + m * d) (d * e)) n d m e h1 h2]
      exact implAdd_ok n d m e w (Lib.hid h1) (Lib.hid h2) a1 a2 a3 a4 b1 b2 b3 b4 (mul_bd n e a1 a2 b3 b4).1 (mul_bd n e a1 a2 b3 b4).2 (mul_bd m d b1 b2 a3 a4).1 (mul_bd m d b1 b2 a3 a4).2 (mul_pos d e a3 a4 b3 b4).1 (mul_pos d e a3 a4 b3 b4).2

set_option maxHeartbeats 400000 in
theorem implMul_bad1 (n d m e : Int) (w : World) (H1 : Hid (isR n d = false)) :
    Calls Try.prog 23 #[.agg #[.int .i64 n, .int .i64 d], .agg #[.int .i64 m, .int .i64 e]] w (Fresh (resV 0 0 1) w) := by
  go_enter Try.func23, Try.ntmps23
  go_wp2_with (go_at_call 20; ((with_reducible refine (implIs_no _ _ _ H1.out).mono ?_); rintro e w2 ⟨rfl, hb2⟩; obtain ⟨hc2, hf2⟩ := bcell hb2; obtain ⟨z0, z1, z2⟩ := sz_three hb2))
  have q0 : w2.cell? ⟨w.heap.size + 1 + 1, 0, none⟩ = some (.int .i64 0) := (hc2 _ _ (by simp <;> omega)).trans (by simp [go_sem])
  have q1 : w2.cell? ⟨w.heap.size + 1 + 1, 1, none⟩ = some (.int .i64 0) := (hc2 _ _ (by simp <;> omega)).trans (by simp [go_sem])
  exact bodyPost_ret (v := resV 0 0 1) (by simp [results, Try.results23, go_sem, q0, q1]) rfl ⟨rfl, by
    repeat (first | exact bl_refl _ | (refine bl_trans ?_ (by assumption)) | apply bl_alloc | apply bl_drewN | apply bl_drew | (refine bl_set ?_ (by first | exact Nat.le_refl _ | (simp; done) | (simp; omega)) _))⟩

set_option maxHeartbeats 400000 in
theorem implMul_bad2 (n d m e : Int) (w : World) (H1 : Hid (isR n d = true)) (H2 : Hid (isR m e = false)) :
    Calls Try.prog 23 #[.agg #[.int .i64 n, .int .i64 d], .agg #[.int .i64 m, .int .i64 e]] w (Fresh (resV 0 0 1) w) := by
  go_enter Try.func23, Try.ntmps23
  go_wp2_with (go_at_call 20; ((with_reducible refine (implIs_yes _ _ _ H1.out).mono ?_); rintro e w2 ⟨rfl, hb2⟩; obtain ⟨hc2, hf2⟩ := bcell hb2; obtain ⟨z0, z1, z2⟩ := sz_three hb2))
  go_wp2_with (go_at_call 20; ((with_reducible refine (implIs_no _ _ _ H2.out).mono ?_); rintro e w3 ⟨rfl, hb3⟩; obtain ⟨hc3, hf3⟩ := bcell hb3; obtain ⟨y0, y1, y2⟩ := sz_on3 ⟨z0, z1, z2⟩ hb3))
  have q0 : w3.cell? ⟨w.heap.size + 1 + 1, 0, none⟩ = some (.int .i64 0) := (hc3 _ _ z2).trans ((hc2 _ _ (by simp <;> omega)).trans (by simp [go_sem]))
  have q1 : w3.cell? ⟨w.heap.size + 1 + 1, 1, none⟩ = some (.int .i64 0) := (hc3 _ _ z2).trans ((hc2 _ _ (by simp <;> omega)).trans (by simp [go_sem]))
  exact bodyPost_ret (v := resV 0 0 1) (by simp [results, Try.results23, go_sem, q0, q1]) rfl ⟨rfl, by
    repeat (first | exact bl_refl _ | (refine bl_trans ?_ (by assumption)) | apply bl_alloc | apply bl_drewN | apply bl_drew | (refine bl_set ?_ (by first | exact Nat.le_refl _ | (simp; done) | (simp; omega)) _))⟩

set_option maxHeartbeats 1000000 in
theorem implMul_ok (n d m e : Int) (w : World) (H1 : Hid (isR n d = true)) (H2 : Hid (isR m e = true)) (hn : -1000000000 ≤ n) (hn' : n ≤ 1000000000) (hd : 1 ≤ d) (hd' : d ≤ 1000000000) (hm : -1000000000 ≤ m) (hm' : m ≤ 1000000000) (he : 1 ≤ e) (he' : e ≤ 1000000000)
    (p1 : -1000000000000000000 ≤ n * m) (p1' : n * m ≤ 1000000000000000000) (p3 : 1 ≤ d * e) (p3' : d * e ≤ 1000000000000000000) :
    Calls Try.prog 23 #[.agg #[.int .i64 n, .int .i64 d], .agg #[.int .i64 m, .int .i64 e]] w (Fresh (tripV (rat (n * m) (d * e))) w) := by
  go_enter Try.func23, Try.ntmps23
  go_wp2_with (go_at_call 20; ((with_reducible refine (implIs_yes _ _ _ H1.out).mono ?_); rintro e w2 ⟨rfl, hb2⟩; obtain ⟨hc2, hf2⟩ := bcell hb2; obtain ⟨z0, z1, z2⟩ := sz_three hb2))
  go_wp2_with (go_at_call 20; ((with_reducible refine (implIs_yes _ _ _ H2.out).mono ?_); rintro e w3 ⟨rfl, hb3⟩; obtain ⟨hc3, hf3⟩ := bcell hb3; obtain ⟨y0, y1, y2⟩ := sz_on3 ⟨z0, z1, z2⟩ hb3))
  go_wp2_with (go_at_call 38; refine (implRat_any _ _ _ (by omega) (by omega) (by omega) (by omega)).mono ?_; rintro e w4 ⟨rfl, hb4⟩; obtain ⟨hc4, hf4⟩ := bcell hb4; have q0 : w4.cell? ⟨w.heap.size + 1 + 1, 0, none⟩ = some (.int .i64 0) := (hc4 _ _ y2).trans ((hc3 _ _ z2).trans ((hc2 _ _ (by simp <;> omega)).trans (by simp [go_sem]))); have q1 : w4.cell? ⟨w.heap.size + 1 + 1, 1, none⟩ = some (.int .i64 0) := (hc4 _ _ y2).trans ((hc3 _ _ z2).trans ((hc2 _ _ (by simp <;> omega)).trans (by simp [go_sem]))))
  exact bodyPost_ret (v := tripV (rat (n * m) (d * e))) (by simp [results, Try.results23, go_sem, q0, q1]) rfl ⟨rfl, by
    repeat (first | exact bl_refl _ | (refine bl_trans ?_ (by assumption)) | apply bl_alloc | apply bl_drewN | apply bl_drew | (refine bl_set ?_ (by first | exact Nat.le_refl _ | (simp; done) | (simp; omega)) _))⟩

theorem implMul_any (n d m e : Int) (w : World) :
    Calls Try.prog 23 #[.agg #[.int .i64 n, .int .i64 d], .agg #[.int .i64 m, .int .i64 e]] w (Fresh (tripV (opR (rat (n * m) (d * e)) n d m e)) w) := by
  rcases h1 : isR n d with _ | _
  · rw [← trip_eq (opR_no1 (rat (n * m) (d * e)) n d m e h1)]
    exact implMul_bad1 n d m e w (Lib.hid h1)
  · rcases h2 : isR m e with _ | _
    · rw [← trip_eq (opR_no2 (rat (n * m) (d * e)) n d m e h2)]
      exact implMul_bad2 n d m e w (Lib.hid h1) (Lib.hid h2)
    · obtain ⟨a1, a2, a3, a4⟩ := isR_bd n d h1
      obtain ⟨b1, b2, b3, b4⟩ := isR_bd m e h2
      rw [← opR_yes (rat (n * m) (d * e)) n d m e h1 h2]
      exact implMul_ok n d m e w (Lib.hid h1) (Lib.hid h2) a1 a2 a3 a4 b1 b2 b3 b4 (mul_bd2 n m a1 a2 b1 b2).1 (mul_bd2 n m a1 a2 b1 b2).2 (mul_pos d e a3 a4 b3 b4).1 (mul_pos d e a3 a4 b3 b4).2

set_option maxHeartbeats 400000 in
theorem implSub_bad1 (n d m e : Int) (w : World) (H1 : Hid (isR n d = false)) :
    Calls Try.prog 18 #[.agg #[.int .i64 n, .int .i64 d], .agg #[.int .i64 m, .int .i64 e]] w (Fresh (resV 0 0 1) w) := by
  go_enter Try.func18, Try.ntmps18
  go_wp2_with (go_at_call 20; ((with_reducible refine (implIs_no _ _ _ H1.out).mono ?_); rintro e w2 ⟨rfl, hb2⟩; obtain ⟨hc2, hf2⟩ := bcell hb2; obtain ⟨z0, z1, z2⟩ := sz_three hb2))
  have q0 : w2.cell? ⟨w.heap.size + 1 + 1, 0, none⟩ = some (.int .i64 0) := (hc2 _ _ (by simp <;> omega)).trans (by simp [go_sem])
  have q1 : w2.cell? ⟨w.heap.size + 1 + 1, 1, none⟩ = some (.int .i64 0) := (hc2 _ _ (by simp <;> omega)).trans (by simp [go_sem])
  exact bodyPost_ret (v := resV 0 0 1) (by simp [results, Try.results18, go_sem, q0, q1]) rfl ⟨rfl, by
    repeat (first | exact bl_refl _ | (refine bl_trans ?_ (by assumption)) | apply bl_alloc | apply bl_drewN | apply bl_drew | (refine bl_set ?_ (by first | exact Nat.le_refl _ | (simp; done) | (simp; omega)) _))⟩

set_option maxHeartbeats 400000 in
theorem implSub_bad2 (n d m e : Int) (w : World) (H1 : Hid (isR n d = true)) (H2 : Hid (isR m e = false)) :
    Calls Try.prog 18 #[.agg #[.int .i64 n, .int .i64 d], .agg #[.int .i64 m, .int .i64 e]] w (Fresh (resV 0 0 1) w) := by
  go_enter Try.func18, Try.ntmps18
  go_wp2_with (go_at_call 20; ((with_reducible refine (implIs_yes _ _ _ H1.out).mono ?_); rintro e w2 ⟨rfl, hb2⟩; obtain ⟨hc2, hf2⟩ := bcell hb2; obtain ⟨z0, z1, z2⟩ := sz_three hb2))
  go_wp2_with (go_at_call 20; ((with_reducible refine (implIs_no _ _ _ H2.out).mono ?_); rintro e w3 ⟨rfl, hb3⟩; obtain ⟨hc3, hf3⟩ := bcell hb3; obtain ⟨y0, y1, y2⟩ := sz_on3 ⟨z0, z1, z2⟩ hb3))
  have q0 : w3.cell? ⟨w.heap.size + 1 + 1, 0, none⟩ = some (.int .i64 0) := (hc3 _ _ z2).trans ((hc2 _ _ (by simp <;> omega)).trans (by simp [go_sem]))
  have q1 : w3.cell? ⟨w.heap.size + 1 + 1, 1, none⟩ = some (.int .i64 0) := (hc3 _ _ z2).trans ((hc2 _ _ (by simp <;> omega)).trans (by simp [go_sem]))
  exact bodyPost_ret (v := resV 0 0 1) (by simp [results, Try.results18, go_sem, q0, q1]) rfl ⟨rfl, by
    repeat (first | exact bl_refl _ | (refine bl_trans ?_ (by assumption)) | apply bl_alloc | apply bl_drewN | apply bl_drew | (refine bl_set ?_ (by first | exact Nat.le_refl _ | (simp; done) | (simp; omega)) _))⟩

set_option maxHeartbeats 1000000 in
theorem implSub_ok (n d m e : Int) (w : World) (H1 : Hid (isR n d = true)) (H2 : Hid (isR m e = true)) (hn : -1000000000 ≤ n) (hn' : n ≤ 1000000000) (hd : 1 ≤ d) (hd' : d ≤ 1000000000) (hm : -1000000000 ≤ m) (hm' : m ≤ 1000000000) (he : 1 ≤ e) (he' : e ≤ 1000000000)
    (p1 : -1000000000000000000 ≤ n * e) (p1' : n * e ≤ 1000000000000000000) (p2 : -1000000000000000000 ≤ m * d) (p2' : m * d ≤ 1000000000000000000) (p3 : 1 ≤ d * e) (p3' : d * e ≤ 1000000000000000000) :
    Calls Try.prog 18 #[.agg #[.int .i64 n, .int .i64 d], .agg #[.int .i64 m, .int .i64 e]] w (Fresh (tripV (rat (n * e - m * d) (d * e))) w) := by
  go_enter Try.func18, Try.ntmps18
  go_wp2_with (go_at_call 20; ((with_reducible refine (implIs_yes _ _ _ H1.out).mono ?_); rintro e w2 ⟨rfl, hb2⟩; obtain ⟨hc2, hf2⟩ := bcell hb2; obtain ⟨z0, z1, z2⟩ := sz_three hb2))
  go_wp2_with (go_at_call 20; ((with_reducible refine (implIs_yes _ _ _ H2.out).mono ?_); rintro e w3 ⟨rfl, hb3⟩; obtain ⟨hc3, hf3⟩ := bcell hb3; obtain ⟨y0, y1, y2⟩ := sz_on3 ⟨z0, z1, z2⟩ hb3))
  go_wp2_with (go_at_call 38; refine (implRat_any _ _ _ (by omega) (by omega) (by omega) (by omega)).mono ?_; rintro e w4 ⟨rfl, hb4⟩; obtain ⟨hc4, hf4⟩ := bcell hb4; have q0 : w4.cell? ⟨w.heap.size + 1 + 1, 0, none⟩ = some (.int .i64 0) := (hc4 _ _ y2).trans ((hc3 _ _ z2).trans ((hc2 _ _ (by simp <;> omega)).trans (by simp [go_sem]))); have q1 : w4.cell? ⟨w.heap.size + 1 + 1, 1, none⟩ = some (.int .i64 0) := (hc4 _ _ y2).trans ((hc3 _ _ z2).trans ((hc2 _ _ (by simp <;> omega)).trans (by simp [go_sem]))))
  exact bodyPost_ret (v := tripV (rat (n * e - m * d) (d * e))) (by simp [results, Try.results18, go_sem, q0, q1]) rfl ⟨rfl, by
    repeat (first | exact bl_refl _ | (refine bl_trans ?_ (by assumption)) | apply bl_alloc | apply bl_drewN | apply bl_drew | (refine bl_set ?_ (by first | exact Nat.le_refl _ | (simp; done) | (simp; omega)) _))⟩

theorem implSub_any (n d m e : Int) (w : World) :
    Calls Try.prog 18 #[.agg #[.int .i64 n, .int .i64 d], .agg #[.int .i64 m, .int .i64 e]] w (Fresh (tripV (opR (rat (n * e - m * d) (d * e)) n d m e)) w) := by
  rcases h1 : isR n d with _ | _
  · rw [← trip_eq (opR_no1 (rat (n * e - m * d) (d * e)) n d m e h1)]
    exact implSub_bad1 n d m e w (Lib.hid h1)
  · rcases h2 : isR m e with _ | _
    · rw [← trip_eq (opR_no2 (rat (n * e - m * d) (d * e)) n d m e h2)]
      exact implSub_bad2 n d m e w (Lib.hid h1) (Lib.hid h2)
    · obtain ⟨a1, a2, a3, a4⟩ := isR_bd n d h1
      obtain ⟨b1, b2, b3, b4⟩ := isR_bd m e h2
      rw [← opR_yes (rat (n * e - m * d) (d * e)) n d m e h1 h2]
      exact implSub_ok n d m e w (Lib.hid h1) (Lib.hid h2) a1 a2 a3 a4 b1 b2 b3 b4 (mul_bd n e a1 a2 b3 b4).1 (mul_bd n e a1 a2 b3 b4).2 (mul_bd m d b1 b2 a3 a4).1 (mul_bd m d b1 b2 a3 a4).2 (mul_pos d e a3 a4 b3 b4).1 (mul_pos d e a3 a4 b3 b4).2

end Go.Proofs.Ytohhjcnkbifdbaa
