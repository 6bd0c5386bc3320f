/-
  The ratio of two integers: the walks of the model's l01Ratio and of the program's ratioOf.
-/
import Derived.Test.YtjmfecjgomkofabDoorRatio
import Derived.Test.YtjmfecjgomkofabDoorBase
import Derived.RegionTactic
namespace Go.Proofs.YtjmfecjgomkofabDoor
open Go.RowKit
set_option linter.unusedVariables false

theorem specIs_yes (n d : Int) (w : World) (h : isR n d = true) :
    Calls Tryd.prog 102 #[.agg #[.int .i64 n, .int .i64 d]] w (Fresh (.bool true) w) := h ▸ specIs_any n d w
theorem specIs_no (n d : Int) (w : World) (h : isR n d = false) :
    Calls Tryd.prog 102 #[.agg #[.int .i64 n, .int .i64 d]] w (Fresh (.bool false) w) := h ▸ specIs_any n d w

/-- A ratio and a code, as a result. -/
abbrev resV (n d c : Int) : Value := .tuple #[.agg #[.int .i64 n, .int .i64 d], .int .i64 c]

set_option maxHeartbeats 1000000 in
theorem specRat_yes_core (n d g : Int) (w : World) (hn : -4000000000000000000 ≤ n) (hn' : n ≤ 4000000000000000000) (hd : 0 < d) (hd' : d ≤ 4000000000000000000) (hg : 0 < g)
    (hq : -4000000000000000000 ≤ n.tdiv g) (hq' : n.tdiv g ≤ 4000000000000000000) (hr : 0 < d / g) (hr' : d / g ≤ d) (K : Hid (∀ W : World, Calls Tryd.prog 100 #[.int .i64 (absI n), .int .i64 d] W fun e w' => e = .returned (.int .i64 g) ∧ W = w'))
    (hok : Hid (isR (n.tdiv g) (d / g) = true)) :
    Calls Tryd.prog 68 #[.int .i64 n, .int .i64 d] w (Fresh (resV (n.tdiv g) (d / g) 0) w) := by
  go_enter Tryd.func68, Tryd.ntmps68
  go_wp2_with (go_at_call 101; refine (specAbs_any _ _ (by omega) (by omega)).mono ?_; rintro e w1 ⟨rfl, rfl⟩)
  go_wp2_with (go_at_call 100; refine (K.out _).mono ?_; rintro e w1 ⟨rfl, rfl⟩)
  go_region
  go_wp2_with (go_at_call 102; refine (specIs_yes _ _ _ hok.out).mono ?_; rintro e w2 ⟨rfl, hb2⟩; obtain ⟨hc2, hf2⟩ := bcell hb2; have q0 : w2.cell? ⟨w.heap.size, 0, none⟩ = some (.int .i64 0) := (hc2 _ _ (by simp; omega)).trans (by simp [go_sem]); have q1 : w2.cell? ⟨w.heap.size, 1, none⟩ = some (.int .i64 0) := (hc2 _ _ (by simp; omega)).trans (by simp [go_sem]))
  exact bodyPost_ret (v := resV (n.tdiv g) (d / g) 0) (by simp [results, Tryd.results68, go_sem, q0, q1]) rfl ⟨rfl, by
    repeat (first | exact bl_refl _ | (refine bl_trans ?_ (by assumption)) | apply bl_alloc | apply bl_drewN | apply bl_drew | (refine bl_set ?_ (by first | exact Nat.le_refl _ | (simp; done) | (simp; omega)) _))⟩

set_option maxHeartbeats 1000000 in
theorem specRat_no_core (n d g : Int) (w : World) (hn : -4000000000000000000 ≤ n) (hn' : n ≤ 4000000000000000000) (hd : 0 < d) (hd' : d ≤ 4000000000000000000) (hg : 0 < g)
    (hq : -4000000000000000000 ≤ n.tdiv g) (hq' : n.tdiv g ≤ 4000000000000000000) (hr : 0 < d / g) (hr' : d / g ≤ d) (K : Hid (∀ W : World, Calls Tryd.prog 100 #[.int .i64 (absI n), .int .i64 d] W fun e w' => e = .returned (.int .i64 g) ∧ W = w'))
    (hok : Hid (isR (n.tdiv g) (d / g) = false)) :
    Calls Tryd.prog 68 #[.int .i64 n, .int .i64 d] w (Fresh (resV 0 0 3) w) := by
  go_enter Tryd.func68, Tryd.ntmps68
  go_wp2_with (go_at_call 101; refine (specAbs_any _ _ (by omega) (by omega)).mono ?_; rintro e w1 ⟨rfl, rfl⟩)
  go_wp2_with (go_at_call 100; refine (K.out _).mono ?_; rintro e w1 ⟨rfl, rfl⟩)
  go_region
  go_wp2_with (go_at_call 102; refine (specIs_no _ _ _ hok.out).mono ?_; rintro e w2 ⟨rfl, hb2⟩; obtain ⟨hc2, hf2⟩ := bcell hb2; have q0 : w2.cell? ⟨w.heap.size, 0, none⟩ = some (.int .i64 0) := (hc2 _ _ (by simp; omega)).trans (by simp [go_sem]); have q1 : w2.cell? ⟨w.heap.size, 1, none⟩ = some (.int .i64 0) := (hc2 _ _ (by simp; omega)).trans (by simp [go_sem]))
  exact bodyPost_ret (v := resV 0 0 3) (by simp [results, Tryd.results68, go_sem, q0, q1]) rfl ⟨rfl, by
    repeat (first | exact bl_refl _ | (refine bl_trans ?_ (by assumption)) | apply bl_alloc | apply bl_drewN | apply bl_drew | (refine bl_set ?_ (by first | exact Nat.le_refl _ | (simp; done) | (simp; omega)) _))⟩

set_option maxHeartbeats 1000000 in
theorem implRat_yes_core (n d g : Int) (w : World) (hn : -4000000000000000000 ≤ n) (hn' : n ≤ 4000000000000000000) (hd : 0 < d) (hd' : d ≤ 4000000000000000000) (hg : 0 < g)
    (hq : -4000000000000000000 ≤ n.tdiv g) (hq' : n.tdiv g ≤ 4000000000000000000) (hr : 0 < d / g) (hr' : d / g ≤ d) (K : Hid (∀ W : World, Calls Tryd.prog 103 #[.int .i64 (absI n), .int .i64 d] W (Drawn (.int .i64 g) W)))
    (h1 : -1000000000 ≤ n.tdiv g) (h2 : n.tdiv g ≤ 1000000000) (h3 : 1 ≤ d / g) (h4 : d / g ≤ 1000000000) :
    Calls Tryd.prog 69 #[.int .i64 n, .int .i64 d] w (Fresh (resV (n.tdiv g) (d / g) 0) w) := by
  go_enter Tryd.func69, Tryd.ntmps69
  go_wp2_with (go_at_call 104; refine (implMag_any _ _ (by omega) (by omega)).mono ?_; rintro e w1 ⟨rfl, rfl⟩)
  go_wp2_with (go_at_call 103; refine (K.out _).mono ?_; rintro e w1 ⟨rfl, m, rfl⟩)
  go_region
  go_wp2_with (go_at_call 105; refine (implNum_yes _ _ h1 h2).mono ?_; rintro e w2 ⟨rfl, rfl⟩)
  go_wp2_with (go_at_call 106; refine (implDen_yes _ _ h3 h4).mono ?_; rintro e w2 ⟨rfl, rfl⟩)
  exact bodyPost_ret (v := resV (n.tdiv g) (d / g) 0) (by simp [results, Tryd.results69, go_sem]) rfl ⟨rfl, by
    repeat (first | exact bl_refl _ | (refine bl_trans ?_ (by assumption)) | apply bl_alloc | apply bl_drewN | apply bl_drew | (refine bl_set ?_ (by first | exact Nat.le_refl _ | (simp; done) | (simp; omega)) _))⟩

set_option maxHeartbeats 1000000 in
theorem implRat_no_core (n d g : Int) (w : World) (hn : -4000000000000000000 ≤ n) (hn' : n ≤ 4000000000000000000) (hd : 0 < d) (hd' : d ≤ 4000000000000000000) (hg : 0 < g)
    (hq : -4000000000000000000 ≤ n.tdiv g) (hq' : n.tdiv g ≤ 4000000000000000000) (hr : 0 < d / g) (hr' : d / g ≤ d) (K : Hid (∀ W : World, Calls Tryd.prog 103 #[.int .i64 (absI n), .int .i64 d] W (Drawn (.int .i64 g) W)))
    (h : Hid (outB (n.tdiv g) (-1000000000) 1000000000)) :
    Calls Tryd.prog 69 #[.int .i64 n, .int .i64 d] w (Fresh (resV 0 0 3) w) := by
  go_enter Tryd.func69, Tryd.ntmps69
  go_wp2_with (go_at_call 104; refine (implMag_any _ _ (by omega) (by omega)).mono ?_; rintro e w1 ⟨rfl, rfl⟩)
  go_wp2_with (go_at_call 103; refine (K.out _).mono ?_; rintro e w1 ⟨rfl, m, rfl⟩)
  go_region
  go_wp2_with (go_at_call 105; refine (implNum_no _ _ h.out).mono ?_; rintro e w2 ⟨rfl, rfl⟩)
  exact bodyPost_ret (v := resV 0 0 3) (by simp [results, Tryd.results69, go_sem]) rfl ⟨rfl, by
    repeat (first | exact bl_refl _ | (refine bl_trans ?_ (by assumption)) | apply bl_alloc | apply bl_drewN | apply bl_drew | (refine bl_set ?_ (by first | exact Nat.le_refl _ | (simp; done) | (simp; omega)) _))⟩

set_option maxHeartbeats 1000000 in
theorem implRat_den_core (n d g : Int) (w : World) (hn : -4000000000000000000 ≤ n) (hn' : n ≤ 4000000000000000000) (hd : 0 < d) (hd' : d ≤ 4000000000000000000) (hg : 0 < g)
    (hq : -4000000000000000000 ≤ n.tdiv g) (hq' : n.tdiv g ≤ 4000000000000000000) (hr : 0 < d / g) (hr' : d / g ≤ d) (K : Hid (∀ W : World, Calls Tryd.prog 103 #[.int .i64 (absI n), .int .i64 d] W (Drawn (.int .i64 g) W)))
    (h1 : -1000000000 ≤ n.tdiv g) (h2 : n.tdiv g ≤ 1000000000) (h : Hid (outB (d / g) 1 1000000000)) :
    Calls Tryd.prog 69 #[.int .i64 n, .int .i64 d] w (Fresh (resV 0 0 3) w) := by
  go_enter Tryd.func69, Tryd.ntmps69
  go_wp2_with (go_at_call 104; refine (implMag_any _ _ (by omega) (by omega)).mono ?_; rintro e w1 ⟨rfl, rfl⟩)
  go_wp2_with (go_at_call 103; refine (K.out _).mono ?_; rintro e w1 ⟨rfl, m, rfl⟩)
  go_region
  go_wp2_with (go_at_call 105; refine (implNum_yes _ _ h1 h2).mono ?_; rintro e w2 ⟨rfl, rfl⟩)
  go_wp2_with (go_at_call 106; refine (implDen_no _ _ h.out).mono ?_; rintro e w2 ⟨rfl, rfl⟩)
  exact bodyPost_ret (v := resV 0 0 3) (by simp [results, Tryd.results69, go_sem]) rfl ⟨rfl, by
    repeat (first | exact bl_refl _ | (refine bl_trans ?_ (by assumption)) | apply bl_alloc | apply bl_drewN | apply bl_drew | (refine bl_set ?_ (by first | exact Nat.le_refl _ | (simp; done) | (simp; omega)) _))⟩

end Go.Proofs.YtjmfecjgomkofabDoor
