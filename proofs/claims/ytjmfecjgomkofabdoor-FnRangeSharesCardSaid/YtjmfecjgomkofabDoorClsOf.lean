/-
  The class of two cards: the walks of the program's and of the model's function; ClassOf.
-/
import Derived.Test.YtjmfecjgomkofabDoorClsText
import Derived.Test.YtjmfecjgomkofabDoorBase
import Derived.BigQuiet
import Derived.Deep.QuietTactic
namespace Go.Proofs.YtjmfecjgomkofabDoor
open Go.RowKit
set_option linter.unusedVariables false

theorem cls_same {x y : Int} (h : x % 4 = y % 4) : clsI x y = 13 * hiR x y + loR x y := if_pos (.inl h)
theorem cls_rank {x y : Int} (h : x / 4 = y / 4) : clsI x y = 13 * hiR x y + loR x y := if_pos (.inr h)
theorem cls_diff {x y : Int} (h : x % 4 ≠ y % 4) : clsI x y = 13 * loR x y + hiR x y := by
  unfold clsI
  by_cases e : x / 4 = y / 4
  · rw [if_pos (.inr e)]; unfold hiR loR; rw [e]
  · rw [if_neg (by intro h'; rcases h' with h' | h'; exact h h'; exact e h')]
theorem hi_max (x y : Int) : maxI' (x / 4) (y / 4) = hiR x y := by unfold maxI' hiR; split <;> split <;> omega
theorem lo_min (x y : Int) : minI' (x / 4) (y / 4) = loR x y := by unfold minI' loR; split <;> split <;> omega
set_option maxHeartbeats 400000 in
theorem classAt_any (p q : Int) (w : World) (h0 : 0 ≤ p) (h1 : p ≤ 12) (g0 : 0 ≤ q) (g1 : q ≤ 12) :
    Calls Tryd.prog 117 #[.int .i64 p, .int .i64 q] w (Same (.int .i64 (p * 13 + q)) w) := by
  go_enter Tryd.func117, Tryd.ntmps117
  go_wp2_with fail
  go_ret
  exact ⟨rfl, rfl⟩
set_option maxRecDepth 100000 in
set_option maxHeartbeats 1000000 in
theorem class_any (x y : Int) (w : World) (hx : 0 ≤ x) (hx' : x < 52) (hy : 0 ≤ y) (hy' : y < 52) :
    Calls Tryd.prog 80 #[.agg #[.int .i64 x, .int .i64 y]] w (Fresh (.int .i64 (clsI x y)) w) := by
  have KX := Lib.hid (fun W => rank_any x W hx hx')
  have KY := Lib.hid (fun W => rank_any y W hy hy')
  have SX := Lib.hid (fun W => suit_any x W hx hx')
  have SY := Lib.hid (fun W => suit_any y W hy hy')
  have KM := Lib.hid (fun W => max_two (x / 4) (y / 4) W)
  have KN := Lib.hid (fun W => min_two (x / 4) (y / 4) W)
  rw [hi_max] at KM
  rw [lo_min] at KN
  have hb := hi_lo x y hx hx' hy hy'
  have E1 := Lib.hid (fun h => @cls_same x y h)
  have E2 := Lib.hid (fun h => @cls_diff x y h)
  generalize clsI x y = r at *
  generalize hiR x y = p at *
  generalize loR x y = q at *
  generalize x / 4 = a at *
  generalize y / 4 = b at *
  generalize x % 4 = s at *
  generalize y % 4 = t at *
  by_cases h : s = t
  · have q1 : (s != t) = false := by simpa using h
    have HE := Lib.hid (E1.out h)
    clear h hx hx' hy hy'
    go_enter Tryd.func80, Tryd.ntmps80
    go_wp2_with fail
    go_quiet (fail)
    go_wp2_with (first
      | (go_at_call 114; ((with_reducible refine (KX.out _).mono ?_); rintro e w1 ⟨rfl, rfl⟩))
      | (go_at_call 114; ((with_reducible refine (KY.out _).mono ?_); rintro e w1 ⟨rfl, rfl⟩))
      | (go_at_call 116; ((with_reducible refine (SX.out _).mono ?_); rintro e w1 ⟨rfl, rfl⟩))
      | (go_at_call 116; ((with_reducible refine (SY.out _).mono ?_); rintro e w1 ⟨rfl, rfl⟩))
      | (go_at_call 94; ((with_reducible refine (KM.out _).mono ?_); rintro e w1 ⟨rfl, rfl⟩))
      | (go_at_call 115; ((with_reducible refine (KN.out _).mono ?_); rintro e w1 ⟨rfl, rfl⟩))
      | (go_at_call 117; refine (classAt_any _ _ _ (by omega) (by omega) (by omega) (by omega)).mono ?_; rintro e w1 ⟨rfl, rfl⟩))
    go_ret
    exact ⟨ret_int (by rw [HE.out]; omega), by repeat (first | exact bl_refl _ | apply bl_alloc | apply bl_drewN | apply bl_drew)⟩
  · have q1 : (s != t) = true := by simpa using h
    have HE := Lib.hid (E2.out h)
    clear h hx hx' hy hy'
    go_enter Tryd.func80, Tryd.ntmps80
    go_wp2_with fail
    go_quiet (fail)
    go_wp2_with (first
      | (go_at_call 114; ((with_reducible refine (KX.out _).mono ?_); rintro e w1 ⟨rfl, rfl⟩))
      | (go_at_call 114; ((with_reducible refine (KY.out _).mono ?_); rintro e w1 ⟨rfl, rfl⟩))
      | (go_at_call 116; ((with_reducible refine (SX.out _).mono ?_); rintro e w1 ⟨rfl, rfl⟩))
      | (go_at_call 116; ((with_reducible refine (SY.out _).mono ?_); rintro e w1 ⟨rfl, rfl⟩))
      | (go_at_call 94; ((with_reducible refine (KM.out _).mono ?_); rintro e w1 ⟨rfl, rfl⟩))
      | (go_at_call 115; ((with_reducible refine (KN.out _).mono ?_); rintro e w1 ⟨rfl, rfl⟩))
      | (go_at_call 117; refine (classAt_any _ _ _ (by omega) (by omega) (by omega) (by omega)).mono ?_; rintro e w1 ⟨rfl, rfl⟩))
    go_ret
    exact ⟨ret_int (by rw [HE.out]; omega), by repeat (first | exact bl_refl _ | apply bl_alloc | apply bl_drewN | apply bl_drew)⟩

set_option maxRecDepth 100000 in
set_option maxHeartbeats 1000000 in
theorem l07Class_any (x y : Int) (w : World) (hx : 0 ≤ x) (hx' : x < 52) (hy : 0 ≤ y) (hy' : y < 52) :
    Calls Tryd.prog 83 #[.int .i64 x, .int .i64 y] w (Same (.int .i64 (clsI x y)) w) := by
  go_enter Tryd.func83, Tryd.ntmps83
  go_wp2_with fail
  all_goals
    go_ret
    refine ⟨ret_int ?_, rfl⟩
    try simp only [beq_iff_eq, beq_eq_false_iff_ne, ne_eq] at *
    unfold clsI hiR loR
    repeat' split
    all_goals omega

theorem list_two (xs : List Int) (h : xs.length = 2) : ∃ x y, xs = [x, y] := by
  match xs, h with
  | [x, y], _ => exact ⟨x, y, rfl⟩
/-- What ClassOf answers. -/
def clsR (xs : List Int) : Int := if sizedB xs 2 2 = true then clsI (nth xs 0) (nth xs 1) else 0
theorem clsR_yes {xs : List Int} (h : sizedB xs 2 2 = true) : clsR xs = clsI (nth xs 0) (nth xs 1) := by unfold clsR; rw [if_pos h]
theorem clsR_no {xs : List Int} (h : sizedB xs 2 2 = false) : clsR xs = 0 := by unfold clsR; rw [h]; rfl
theorem run_arrayAt2 (b off c : Nat) (w : World) : (Instr.arrayAt 107 (.slice (some ⟨b, off, none⟩) 2 c)).run Tryd.prog w = .ok (.pointer (some ⟨b, off, none⟩)) w := by
  kernel_rfl
end Go.Proofs.YtjmfecjgomkofabDoor
