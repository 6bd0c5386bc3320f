/-
  The ace below the two, and the tests of the categories.
-/
import Derived.Test.YtcbfmfkahgfjkaaDoorHandImpl
import Derived.Test.YtcbfmfkahgfjkaaDoorVarsFrame
import Derived.Test.YtcbfmfkahgfjkaaDoorEq5
namespace Go.Proofs.YtcbfmfkahgfjkaaDoor
open Go.RowKit
set_option linter.unusedVariables false

/-- A shape by value, literally. -/
abbrev shp (k0 k1 k2 k3 k4 m n : Int) (o : Bool) : Value := .agg #[.int .i64 k0, .int .i64 k1, .int .i64 k2, .int .i64 k3, .int .i64 k4, .int .i64 m, .int .i64 n, .bool o]
theorem bl_alloc' {B : Nat} {a w : World} (h : Below B a w) (hl : B ≤ w.heap.size) (o : Obj) : Below B a (w.alloc o) := h.alloc hl o
theorem low_lit {B : Nat} {w W : World} (h : Low B w) (hb : Below B w W) : W.cell? ⟨0, 0, none⟩ = some (.int .i64 3) ∧ W.cell? ⟨0, 1, none⟩ = some (.int .i64 2) ∧
    W.cell? ⟨0, 2, none⟩ = some (.int .i64 1) ∧ W.cell? ⟨0, 3, none⟩ = some (.int .i64 0) ∧ W.cell? ⟨0, 4, none⟩ = some (.int .i64 12) :=
  ⟨low_cell h hb 0 (by omega), low_cell h hb 1 (by omega), low_cell h hb 2 (by omega), low_cell h hb 3 (by omega), low_cell h hb 4 (by omega)⟩

theorem lowK_wheel : lowK [12, 3, 2, 1, 0] = [3, 2, 1, 0, 12] := by unfold lowK; rw [if_pos rfl]
set_option maxRecDepth 100000 in
set_option maxHeartbeats 4000000 in
theorem below_any (k0 k1 k2 k3 k4 m n : Int) (o : Bool) (B : Nat) (wt w : World) (ht : Hid (Low B wt)) (hB : Hid (Below B wt w)) (hBw : Hid (B ≤ w.heap.size)) :
    Calls Tryd.prog 79 #[shp k0 k1 k2 k3 k4 m n o] w (ShapeOf (lowK [k0, k1, k2, k3, k4]) m n o w) := by
  have HQ := fun W => run_eq53 k0 k1 k2 k3 k4 12 3 2 1 0 W
  by_cases hw : [k0, k1, k2, k3, k4] = [12, 3, 2, 1, 0]
  · injection hw with q0 hw; injection hw with q1 hw; injection hw with q2 hw; injection hw with q3 hw; injection hw with q4 hw
    subst q0 q1 q2 q3 q4
    have E := Lib.hid lowK_wheel
    generalize lowK [12, 3, 2, 1, 0] = K at *
    have hd : decide (([12, 3, 2, 1, 0] : List Int) = [12, 3, 2, 1, 0]) = true := by decide
    rw [hd] at HQ
    obtain ⟨g0, g1, g2, g3, g4⟩ := low_lit ht.out (bl_alloc' (bl_alloc' hB.out hBw.out (.cells #[.int .i64 12, .int .i64 3, .int .i64 2, .int .i64 1, .int .i64 0, .int .i64 m, .int .i64 n, .bool o] 55)) (by have := hBw.out; simp; omega) (.cells #[.int .i64 0, .int .i64 0, .int .i64 0, .int .i64 0, .int .i64 0, .int .i64 0, .int .i64 0, .bool false] 55))
    clear hw hd
    go_enter Tryd.func79, Tryd.ntmps79
    go_wp2_with fail
    rw [E.out]
    exact bodyPost_ret (v := shp 3 2 1 0 12 m n o) (by simp [results, Tryd.results79, go_sem]) rfl ⟨rfl, bl_alloc (bl_alloc (bl_refl w) _) _⟩
  · have E : Hid (lowK [k0, k1, k2, k3, k4] = [k0, k1, k2, k3, k4]) := Lib.hid (by unfold lowK; rw [if_neg hw])
    have hd : decide ([k0, k1, k2, k3, k4] = [12, 3, 2, 1, 0]) = false := decide_eq_false hw
    rw [hd] at HQ
    rw [E.out]
    clear E hw hd
    go_enter Tryd.func79, Tryd.ntmps79
    go_wp2_with fail
    exact bodyPost_ret (v := shp k0 k1 k2 k3 k4 m n o) (by simp [results, Tryd.results79, go_sem]) rfl ⟨rfl, bl_alloc (bl_alloc (bl_refl w) _) _⟩

/-! The tests of the categories. -/
theorem strI_lit (k0 k1 k2 k3 k4 : Int) (m : Nat) : strI [k0, k1, k2, k3, k4] m = (((m : Int) == 1 && k0 - k4 == 4) || decide ([k0, k1, k2, k3, k4] = [3, 2, 1, 0, 12])) := by
  unfold strI
  rw [Bool.eq_iff_iff]
  simp
  omega
set_option maxRecDepth 100000 in
set_option maxHeartbeats 4000000 in
theorem isStraight_any (k0 k1 k2 k3 k4 : Int) (m n : Nat) (o : Bool) (B : Nat) (wt w : World) (ht : Hid (Low B wt)) (hB : Hid (Below B wt w)) (hBw : Hid (B ≤ w.heap.size)) (h0 : 0 ≤ k0) (h1 : k0 < 13) (h2 : 0 ≤ k4) (h3 : k4 < 13) :
    Calls Tryd.prog 88 #[shp k0 k1 k2 k3 k4 m n o] w (Fresh (.bool (strI [k0, k1, k2, k3, k4] m)) w) := by
  have HQ := fun W => run_eq53 k0 k1 k2 k3 k4 3 2 1 0 12 W
  have E := Lib.hid (strI_lit k0 k1 k2 k3 k4 m)
  obtain ⟨g0, g1, g2, g3, g4⟩ := low_lit ht.out (bl_alloc' hB.out hBw.out (.cells #[.int .i64 k0, .int .i64 k1, .int .i64 k2, .int .i64 k3, .int .i64 k4, .int .i64 m, .int .i64 n, .bool o] 55))
  generalize decide ([k0, k1, k2, k3, k4] = [3, 2, 1, 0, 12]) = lw at *
  generalize strI [k0, k1, k2, k3, k4] m = r at *
  have hm : ((m : Int) == 1) = true ∨ ((m : Int) == 1) = false := by cases ((m : Int) == 1) <;> simp
  have hd : (k0 - k4 == 4) = true ∨ (k0 - k4 == 4) = false := by cases (k0 - k4 == 4) <;> simp
  rcases hm with hm | hm
  · rcases hd with hd | hd
    · have E2 : Hid (r = true) := Lib.hid (by rw [E.out, hm, hd]; rfl)
      go_enter Tryd.func88, Tryd.ntmps88
      go_wp2_with fail
      go_ret
      exact ⟨ret_bool E2.out.symm, bl_alloc (bl_refl w) _⟩
    · have E2 : Hid (r = lw) := Lib.hid (by rw [E.out, hm, hd]; simp)
      go_enter Tryd.func88, Tryd.ntmps88
      go_wp2_with fail
      go_ret
      exact ⟨ret_bool E2.out.symm, bl_alloc (bl_refl w) _⟩
  · have E2 : Hid (r = lw) := Lib.hid (by rw [E.out, hm]; simp)
    go_enter Tryd.func88, Tryd.ntmps88
    go_wp2_with fail
    go_ret
    exact ⟨ret_bool E2.out.symm, bl_alloc (bl_refl w) _⟩
end Go.Proofs.YtcbfmfkahgfjkaaDoor
