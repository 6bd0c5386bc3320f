/-
  StandardVariant, VariantNamed: the program's walks and the model's.
-/
import Derived.Test.YtjchjjnmahddiaaDoorStdVars
namespace Go.Proofs.YtjchjjnmahddiaaDoor
open Go.RowKit
set_option linter.unusedVariables false

/-- What StandardVariant answers. -/
def stdV (n : Int) : Value := if inB n 0 7 = true then vV (sH n.toNat) (sL n.toNat) (sM n.toNat) (sB n.toNat) (sI n.toNat) (sO n.toNat) else vV 0 0 0 0 false 0
def stdC (n : Int) : Int := if inB n 0 7 = true then 0 else 4
theorem std_cases (n : Int) : (inB n 0 7 = false ∧ outB n 0 7) ∨ n = 0 ∨ n = 1 ∨ n = 2 ∨ n = 3 ∨ n = 4 ∨ n = 5 ∨ n = 6 ∨ n = 7 := by
  by_cases h : 0 ≤ n ∧ n ≤ 7
  · right; omega
  · have ho : outB n 0 7 := by unfold outB; omega
    exact .inl ⟨outB_inB _ _ _ ho, ho⟩
set_option maxRecDepth 100000 in
set_option maxHeartbeats 4000000 in
theorem implStd_any (n : Int) (B : Nat) (wt w : World) (ht : Hid (Std B wt)) (hB : Hid (Below B wt w)) (hBw : Hid (B ≤ w.heap.size)) :
    Calls Tryd.prog 10 #[.int .i64 n] w (Fresh (.tuple #[stdV n, .int .i64 (stdC n)]) w) := by
  have hb0 := (hB.out).trans ((bl_alloc (bl_refl w) (.cells #[.int .i64 0, .int .i64 0, .int .i64 0, .int .i64 0, .bool false, .int .i64 0] 23)).mono hBw.out)
  rcases std_cases n with ⟨h, ho⟩ | rfl | rfl | rfl | rfl | rfl | rfl | rfl | rfl
  · have e1 : Hid (stdV n = vV 0 0 0 0 false 0 ∧ stdC n = 4) := Lib.hid (by unfold stdV stdC; rw [h]; exact ⟨rfl, rfl⟩)
    rw [e1.out.1, e1.out.2]
    unfold vV
    unfold outB at ho
    clear h hb0
    by_cases h0 : n < 0
    · go_enter Tryd.func10, Tryd.ntmps10
      go_wp2_with fail
      exact bodyPost_ret (v := .tuple #[.agg #[.int .i64 0, .int .i64 0, .int .i64 0, .int .i64 0, .bool false, .int .i64 0], .int .i64 4]) (by simp [results, Tryd.results10, go_sem]) rfl ⟨rfl, bl_alloc (bl_refl _) _⟩
    · have h7 : ¬ n < 8 := by omega
      go_enter Tryd.func10, Tryd.ntmps10
      go_wp2_with fail
      exact bodyPost_ret (v := .tuple #[.agg #[.int .i64 0, .int .i64 0, .int .i64 0, .int .i64 0, .bool false, .int .i64 0], .int .i64 4]) (by simp [results, Tryd.results10, go_sem]) rfl ⟨rfl, bl_alloc (bl_refl _) _⟩
  · rw [show stdV 0 = vV 2 0 2 5 true 0 from rfl, show stdC 0 = 0 from rfl]
    unfold vV
    have q0 : (w.alloc (.cells #[.int .i64 0, .int .i64 0, .int .i64 0, .int .i64 0, .bool false, .int .i64 0] 23)).cell? ⟨0, 1, none⟩ = some (.int .i64 2) := std_row ht.out hb0 0 1 (by omega) (by omega) _ rfl
    have q1 : (w.alloc (.cells #[.int .i64 0, .int .i64 0, .int .i64 0, .int .i64 0, .bool false, .int .i64 0] 23)).cell? ⟨0, 2, none⟩ = some (.int .i64 0) := std_row ht.out hb0 0 2 (by omega) (by omega) _ rfl
    have q2 : (w.alloc (.cells #[.int .i64 0, .int .i64 0, .int .i64 0, .int .i64 0, .bool false, .int .i64 0] 23)).cell? ⟨0, 3, none⟩ = some (.int .i64 2) := std_row ht.out hb0 0 3 (by omega) (by omega) _ rfl
    have q3 : (w.alloc (.cells #[.int .i64 0, .int .i64 0, .int .i64 0, .int .i64 0, .bool false, .int .i64 0] 23)).cell? ⟨0, 4, none⟩ = some (.int .i64 5) := std_row ht.out hb0 0 4 (by omega) (by omega) _ rfl
    have q4 : (w.alloc (.cells #[.int .i64 0, .int .i64 0, .int .i64 0, .int .i64 0, .bool false, .int .i64 0] 23)).cell? ⟨0, 5, none⟩ = some (.bool true) := std_row ht.out hb0 0 5 (by omega) (by omega) _ rfl
    have q5 : (w.alloc (.cells #[.int .i64 0, .int .i64 0, .int .i64 0, .int .i64 0, .bool false, .int .i64 0] 23)).cell? ⟨0, 6, none⟩ = some (.int .i64 0) := std_row ht.out hb0 0 6 (by omega) (by omega) _ rfl
    clear hb0
    go_enter Tryd.func10, Tryd.ntmps10
    go_wp2_with fail
    exact bodyPost_ret (v := .tuple #[.agg #[.int .i64 2, .int .i64 0, .int .i64 2, .int .i64 5, .bool true, .int .i64 0], .int .i64 0]) (by simp [results, Tryd.results10, go_sem]) rfl ⟨rfl, bl_alloc (bl_refl _) _⟩
  · rw [show stdV 1 = vV 4 2 2 5 true 0 from rfl, show stdC 1 = 0 from rfl]
    unfold vV
    have q0 : (w.alloc (.cells #[.int .i64 0, .int .i64 0, .int .i64 0, .int .i64 0, .bool false, .int .i64 0] 23)).cell? ⟨0, 8, none⟩ = some (.int .i64 4) := std_row ht.out hb0 1 1 (by omega) (by omega) _ rfl
    have q1 : (w.alloc (.cells #[.int .i64 0, .int .i64 0, .int .i64 0, .int .i64 0, .bool false, .int .i64 0] 23)).cell? ⟨0, 9, none⟩ = some (.int .i64 2) := std_row ht.out hb0 1 2 (by omega) (by omega) _ rfl
    have q2 : (w.alloc (.cells #[.int .i64 0, .int .i64 0, .int .i64 0, .int .i64 0, .bool false, .int .i64 0] 23)).cell? ⟨0, 10, none⟩ = some (.int .i64 2) := std_row ht.out hb0 1 3 (by omega) (by omega) _ rfl
    have q3 : (w.alloc (.cells #[.int .i64 0, .int .i64 0, .int .i64 0, .int .i64 0, .bool false, .int .i64 0] 23)).cell? ⟨0, 11, none⟩ = some (.int .i64 5) := std_row ht.out hb0 1 4 (by omega) (by omega) _ rfl
    have q4 : (w.alloc (.cells #[.int .i64 0, .int .i64 0, .int .i64 0, .int .i64 0, .bool false, .int .i64 0] 23)).cell? ⟨0, 12, none⟩ = some (.bool true) := std_row ht.out hb0 1 5 (by omega) (by omega) _ rfl
    have q5 : (w.alloc (.cells #[.int .i64 0, .int .i64 0, .int .i64 0, .int .i64 0, .bool false, .int .i64 0] 23)).cell? ⟨0, 13, none⟩ = some (.int .i64 0) := std_row ht.out hb0 1 6 (by omega) (by omega) _ rfl
    clear hb0
    go_enter Tryd.func10, Tryd.ntmps10
    go_wp2_with fail
    exact bodyPost_ret (v := .tuple #[.agg #[.int .i64 4, .int .i64 2, .int .i64 2, .int .i64 5, .bool true, .int .i64 0], .int .i64 0]) (by simp [results, Tryd.results10, go_sem]) rfl ⟨rfl, bl_alloc (bl_refl _) _⟩
  · rw [show stdV 2 = vV 4 2 2 5 true 1 from rfl, show stdC 2 = 0 from rfl]
    unfold vV
    have q0 : (w.alloc (.cells #[.int .i64 0, .int .i64 0, .int .i64 0, .int .i64 0, .bool false, .int .i64 0] 23)).cell? ⟨0, 15, none⟩ = some (.int .i64 4) := std_row ht.out hb0 2 1 (by omega) (by omega) _ rfl
    have q1 : (w.alloc (.cells #[.int .i64 0, .int .i64 0, .int .i64 0, .int .i64 0, .bool false, .int .i64 0] 23)).cell? ⟨0, 16, none⟩ = some (.int .i64 2) := std_row ht.out hb0 2 2 (by omega) (by omega) _ rfl
    have q2 : (w.alloc (.cells #[.int .i64 0, .int .i64 0, .int .i64 0, .int .i64 0, .bool false, .int .i64 0] 23)).cell? ⟨0, 17, none⟩ = some (.int .i64 2) := std_row ht.out hb0 2 3 (by omega) (by omega) _ rfl
    have q3 : (w.alloc (.cells #[.int .i64 0, .int .i64 0, .int .i64 0, .int .i64 0, .bool false, .int .i64 0] 23)).cell? ⟨0, 18, none⟩ = some (.int .i64 5) := std_row ht.out hb0 2 4 (by omega) (by omega) _ rfl
    have q4 : (w.alloc (.cells #[.int .i64 0, .int .i64 0, .int .i64 0, .int .i64 0, .bool false, .int .i64 0] 23)).cell? ⟨0, 19, none⟩ = some (.bool true) := std_row ht.out hb0 2 5 (by omega) (by omega) _ rfl
    have q5 : (w.alloc (.cells #[.int .i64 0, .int .i64 0, .int .i64 0, .int .i64 0, .bool false, .int .i64 0] 23)).cell? ⟨0, 20, none⟩ = some (.int .i64 1) := std_row ht.out hb0 2 6 (by omega) (by omega) _ rfl
    clear hb0
    go_enter Tryd.func10, Tryd.ntmps10
    go_wp2_with fail
    exact bodyPost_ret (v := .tuple #[.agg #[.int .i64 4, .int .i64 2, .int .i64 2, .int .i64 5, .bool true, .int .i64 1], .int .i64 0]) (by simp [results, Tryd.results10, go_sem]) rfl ⟨rfl, bl_alloc (bl_refl _) _⟩
  · rw [show stdV 3 = vV 7 5 5 0 true 0 from rfl, show stdC 3 = 0 from rfl]
    unfold vV
    have q0 : (w.alloc (.cells #[.int .i64 0, .int .i64 0, .int .i64 0, .int .i64 0, .bool false, .int .i64 0] 23)).cell? ⟨0, 22, none⟩ = some (.int .i64 7) := std_row ht.out hb0 3 1 (by omega) (by omega) _ rfl
    have q1 : (w.alloc (.cells #[.int .i64 0, .int .i64 0, .int .i64 0, .int .i64 0, .bool false, .int .i64 0] 23)).cell? ⟨0, 23, none⟩ = some (.int .i64 5) := std_row ht.out hb0 3 2 (by omega) (by omega) _ rfl
    have q2 : (w.alloc (.cells #[.int .i64 0, .int .i64 0, .int .i64 0, .int .i64 0, .bool false, .int .i64 0] 23)).cell? ⟨0, 24, none⟩ = some (.int .i64 5) := std_row ht.out hb0 3 3 (by omega) (by omega) _ rfl
    have q3 : (w.alloc (.cells #[.int .i64 0, .int .i64 0, .int .i64 0, .int .i64 0, .bool false, .int .i64 0] 23)).cell? ⟨0, 25, none⟩ = some (.int .i64 0) := std_row ht.out hb0 3 4 (by omega) (by omega) _ rfl
    have q4 : (w.alloc (.cells #[.int .i64 0, .int .i64 0, .int .i64 0, .int .i64 0, .bool false, .int .i64 0] 23)).cell? ⟨0, 26, none⟩ = some (.bool true) := std_row ht.out hb0 3 5 (by omega) (by omega) _ rfl
    have q5 : (w.alloc (.cells #[.int .i64 0, .int .i64 0, .int .i64 0, .int .i64 0, .bool false, .int .i64 0] 23)).cell? ⟨0, 27, none⟩ = some (.int .i64 0) := std_row ht.out hb0 3 6 (by omega) (by omega) _ rfl
    clear hb0
    go_enter Tryd.func10, Tryd.ntmps10
    go_wp2_with fail
    exact bodyPost_ret (v := .tuple #[.agg #[.int .i64 7, .int .i64 5, .int .i64 5, .int .i64 0, .bool true, .int .i64 0], .int .i64 0]) (by simp [results, Tryd.results10, go_sem]) rfl ⟨rfl, bl_alloc (bl_refl _) _⟩
  · rw [show stdV 4 = vV 7 5 5 0 true 1 from rfl, show stdC 4 = 0 from rfl]
    unfold vV
    have q0 : (w.alloc (.cells #[.int .i64 0, .int .i64 0, .int .i64 0, .int .i64 0, .bool false, .int .i64 0] 23)).cell? ⟨0, 29, none⟩ = some (.int .i64 7) := std_row ht.out hb0 4 1 (by omega) (by omega) _ rfl
    have q1 : (w.alloc (.cells #[.int .i64 0, .int .i64 0, .int .i64 0, .int .i64 0, .bool false, .int .i64 0] 23)).cell? ⟨0, 30, none⟩ = some (.int .i64 5) := std_row ht.out hb0 4 2 (by omega) (by omega) _ rfl
    have q2 : (w.alloc (.cells #[.int .i64 0, .int .i64 0, .int .i64 0, .int .i64 0, .bool false, .int .i64 0] 23)).cell? ⟨0, 31, none⟩ = some (.int .i64 5) := std_row ht.out hb0 4 3 (by omega) (by omega) _ rfl
    have q3 : (w.alloc (.cells #[.int .i64 0, .int .i64 0, .int .i64 0, .int .i64 0, .bool false, .int .i64 0] 23)).cell? ⟨0, 32, none⟩ = some (.int .i64 0) := std_row ht.out hb0 4 4 (by omega) (by omega) _ rfl
    have q4 : (w.alloc (.cells #[.int .i64 0, .int .i64 0, .int .i64 0, .int .i64 0, .bool false, .int .i64 0] 23)).cell? ⟨0, 33, none⟩ = some (.bool true) := std_row ht.out hb0 4 5 (by omega) (by omega) _ rfl
    have q5 : (w.alloc (.cells #[.int .i64 0, .int .i64 0, .int .i64 0, .int .i64 0, .bool false, .int .i64 0] 23)).cell? ⟨0, 34, none⟩ = some (.int .i64 1) := std_row ht.out hb0 4 6 (by omega) (by omega) _ rfl
    clear hb0
    go_enter Tryd.func10, Tryd.ntmps10
    go_wp2_with fail
    exact bodyPost_ret (v := .tuple #[.agg #[.int .i64 7, .int .i64 5, .int .i64 5, .int .i64 0, .bool true, .int .i64 1], .int .i64 0]) (by simp [results, Tryd.results10, go_sem]) rfl ⟨rfl, bl_alloc (bl_refl _) _⟩
  · rw [show stdV 5 = vV 7 5 5 0 false 2 from rfl, show stdC 5 = 0 from rfl]
    unfold vV
    have q0 : (w.alloc (.cells #[.int .i64 0, .int .i64 0, .int .i64 0, .int .i64 0, .bool false, .int .i64 0] 23)).cell? ⟨0, 36, none⟩ = some (.int .i64 7) := std_row ht.out hb0 5 1 (by omega) (by omega) _ rfl
    have q1 : (w.alloc (.cells #[.int .i64 0, .int .i64 0, .int .i64 0, .int .i64 0, .bool false, .int .i64 0] 23)).cell? ⟨0, 37, none⟩ = some (.int .i64 5) := std_row ht.out hb0 5 2 (by omega) (by omega) _ rfl
    have q2 : (w.alloc (.cells #[.int .i64 0, .int .i64 0, .int .i64 0, .int .i64 0, .bool false, .int .i64 0] 23)).cell? ⟨0, 38, none⟩ = some (.int .i64 5) := std_row ht.out hb0 5 3 (by omega) (by omega) _ rfl
    have q3 : (w.alloc (.cells #[.int .i64 0, .int .i64 0, .int .i64 0, .int .i64 0, .bool false, .int .i64 0] 23)).cell? ⟨0, 39, none⟩ = some (.int .i64 0) := std_row ht.out hb0 5 4 (by omega) (by omega) _ rfl
    have q4 : (w.alloc (.cells #[.int .i64 0, .int .i64 0, .int .i64 0, .int .i64 0, .bool false, .int .i64 0] 23)).cell? ⟨0, 40, none⟩ = some (.bool false) := std_row ht.out hb0 5 5 (by omega) (by omega) _ rfl
    have q5 : (w.alloc (.cells #[.int .i64 0, .int .i64 0, .int .i64 0, .int .i64 0, .bool false, .int .i64 0] 23)).cell? ⟨0, 41, none⟩ = some (.int .i64 2) := std_row ht.out hb0 5 6 (by omega) (by omega) _ rfl
    clear hb0
    go_enter Tryd.func10, Tryd.ntmps10
    go_wp2_with fail
    exact bodyPost_ret (v := .tuple #[.agg #[.int .i64 7, .int .i64 5, .int .i64 5, .int .i64 0, .bool false, .int .i64 2], .int .i64 0]) (by simp [results, Tryd.results10, go_sem]) rfl ⟨rfl, bl_alloc (bl_refl _) _⟩
  · rw [show stdV 6 = vV 5 5 5 0 true 0 from rfl, show stdC 6 = 0 from rfl]
    unfold vV
    have q0 : (w.alloc (.cells #[.int .i64 0, .int .i64 0, .int .i64 0, .int .i64 0, .bool false, .int .i64 0] 23)).cell? ⟨0, 43, none⟩ = some (.int .i64 5) := std_row ht.out hb0 6 1 (by omega) (by omega) _ rfl
    have q1 : (w.alloc (.cells #[.int .i64 0, .int .i64 0, .int .i64 0, .int .i64 0, .bool false, .int .i64 0] 23)).cell? ⟨0, 44, none⟩ = some (.int .i64 5) := std_row ht.out hb0 6 2 (by omega) (by omega) _ rfl
    have q2 : (w.alloc (.cells #[.int .i64 0, .int .i64 0, .int .i64 0, .int .i64 0, .bool false, .int .i64 0] 23)).cell? ⟨0, 45, none⟩ = some (.int .i64 5) := std_row ht.out hb0 6 3 (by omega) (by omega) _ rfl
    have q3 : (w.alloc (.cells #[.int .i64 0, .int .i64 0, .int .i64 0, .int .i64 0, .bool false, .int .i64 0] 23)).cell? ⟨0, 46, none⟩ = some (.int .i64 0) := std_row ht.out hb0 6 4 (by omega) (by omega) _ rfl
    have q4 : (w.alloc (.cells #[.int .i64 0, .int .i64 0, .int .i64 0, .int .i64 0, .bool false, .int .i64 0] 23)).cell? ⟨0, 47, none⟩ = some (.bool true) := std_row ht.out hb0 6 5 (by omega) (by omega) _ rfl
    have q5 : (w.alloc (.cells #[.int .i64 0, .int .i64 0, .int .i64 0, .int .i64 0, .bool false, .int .i64 0] 23)).cell? ⟨0, 48, none⟩ = some (.int .i64 0) := std_row ht.out hb0 6 6 (by omega) (by omega) _ rfl
    clear hb0
    go_enter Tryd.func10, Tryd.ntmps10
    go_wp2_with fail
    exact bodyPost_ret (v := .tuple #[.agg #[.int .i64 5, .int .i64 5, .int .i64 5, .int .i64 0, .bool true, .int .i64 0], .int .i64 0]) (by simp [results, Tryd.results10, go_sem]) rfl ⟨rfl, bl_alloc (bl_refl _) _⟩
  · rw [show stdV 7 = vV 5 5 5 0 false 3 from rfl, show stdC 7 = 0 from rfl]
    unfold vV
    have q0 : (w.alloc (.cells #[.int .i64 0, .int .i64 0, .int .i64 0, .int .i64 0, .bool false, .int .i64 0] 23)).cell? ⟨0, 50, none⟩ = some (.int .i64 5) := std_row ht.out hb0 7 1 (by omega) (by omega) _ rfl
    have q1 : (w.alloc (.cells #[.int .i64 0, .int .i64 0, .int .i64 0, .int .i64 0, .bool false, .int .i64 0] 23)).cell? ⟨0, 51, none⟩ = some (.int .i64 5) := std_row ht.out hb0 7 2 (by omega) (by omega) _ rfl
    have q2 : (w.alloc (.cells #[.int .i64 0, .int .i64 0, .int .i64 0, .int .i64 0, .bool false, .int .i64 0] 23)).cell? ⟨0, 52, none⟩ = some (.int .i64 5) := std_row ht.out hb0 7 3 (by omega) (by omega) _ rfl
    have q3 : (w.alloc (.cells #[.int .i64 0, .int .i64 0, .int .i64 0, .int .i64 0, .bool false, .int .i64 0] 23)).cell? ⟨0, 53, none⟩ = some (.int .i64 0) := std_row ht.out hb0 7 4 (by omega) (by omega) _ rfl
    have q4 : (w.alloc (.cells #[.int .i64 0, .int .i64 0, .int .i64 0, .int .i64 0, .bool false, .int .i64 0] 23)).cell? ⟨0, 54, none⟩ = some (.bool false) := std_row ht.out hb0 7 5 (by omega) (by omega) _ rfl
    have q5 : (w.alloc (.cells #[.int .i64 0, .int .i64 0, .int .i64 0, .int .i64 0, .bool false, .int .i64 0] 23)).cell? ⟨0, 55, none⟩ = some (.int .i64 3) := std_row ht.out hb0 7 6 (by omega) (by omega) _ rfl
    clear hb0
    go_enter Tryd.func10, Tryd.ntmps10
    go_wp2_with fail
    exact bodyPost_ret (v := .tuple #[.agg #[.int .i64 5, .int .i64 5, .int .i64 5, .int .i64 0, .bool false, .int .i64 3], .int .i64 0]) (by simp [results, Tryd.results10, go_sem]) rfl ⟨rfl, bl_alloc (bl_refl _) _⟩
/-- The model's table of variants in memory. -/
def stdRows : List Value := [.int .i64 2, .int .i64 0, .int .i64 2, .int .i64 5, .bool true, .int .i64 0, .int .i64 4, .int .i64 2, .int .i64 2, .int .i64 5, .bool true, .int .i64 0, .int .i64 4, .int .i64 2, .int .i64 2, .int .i64 5, .bool true, .int .i64 1, .int .i64 7, .int .i64 5, .int .i64 5, .int .i64 0, .bool true, .int .i64 0, .int .i64 7, .int .i64 5, .int .i64 5, .int .i64 0, .bool true, .int .i64 1, .int .i64 7, .int .i64 5, .int .i64 5, .int .i64 0, .bool false, .int .i64 2, .int .i64 5, .int .i64 5, .int .i64 5, .int .i64 0, .bool true, .int .i64 0, .int .i64 5, .int .i64 5, .int .i64 5, .int .i64 0, .bool false, .int .i64 3]
theorem stdRows_at (k i : Nat) (hk : k < 8) (hi : i < 6) : stdRows[6 * k + i]? = (sRow k)[i + 1]? := by
  have h1 : k = 0 ∨ k = 1 ∨ k = 2 ∨ k = 3 ∨ k = 4 ∨ k = 5 ∨ k = 6 ∨ k = 7 := by omega
  have h2 : i = 0 ∨ i = 1 ∨ i = 2 ∨ i = 3 ∨ i = 4 ∨ i = 5 := by omega
  rcases h1 with rfl | rfl | rfl | rfl | rfl | rfl | rfl | rfl <;> rcases h2 with rfl | rfl | rfl | rfl | rfl | rfl <;> rfl
set_option maxRecDepth 100000 in
set_option maxHeartbeats 4000000 in
theorem specStdTab_any (w : World) : Calls Tryd.prog 36 #[] w fun e w' => e = .returned (.slice (some ⟨w.heap.size, 0, none⟩) 8 8) ∧ w' = w.alloc (.cells #[.int .i64 2, .int .i64 0, .int .i64 2, .int .i64 5, .bool true, .int .i64 0, .int .i64 4, .int .i64 2, .int .i64 2, .int .i64 5, .bool true, .int .i64 0, .int .i64 4, .int .i64 2, .int .i64 2, .int .i64 5, .bool true, .int .i64 1, .int .i64 7, .int .i64 5, .int .i64 5, .int .i64 0, .bool true, .int .i64 0, .int .i64 7, .int .i64 5, .int .i64 5, .int .i64 0, .bool true, .int .i64 1, .int .i64 7, .int .i64 5, .int .i64 5, .int .i64 0, .bool false, .int .i64 2, .int .i64 5, .int .i64 5, .int .i64 5, .int .i64 0, .bool true, .int .i64 0, .int .i64 5, .int .i64 5, .int .i64 5, .int .i64 0, .bool false, .int .i64 3] 23) := by
  go_enter Tryd.func36, Tryd.ntmps36
  go_wp2_with fail
  go_ret
  exact ⟨rfl, rfl⟩
set_option maxRecDepth 100000 in
set_option maxHeartbeats 4000000 in
theorem specStd_any (n : Int) (w : World) :
    Calls Tryd.prog 9 #[.int .i64 n] w (Fresh (.tuple #[stdV n, .int .i64 (stdC n)]) w) := by
  have KT := Lib.hid specStdTab_any
  rcases std_cases n with ⟨h, ho⟩ | rfl | rfl | rfl | rfl | rfl | rfl | rfl | rfl
  · have e1 : Hid (stdV n = vV 0 0 0 0 false 0 ∧ stdC n = 4) := Lib.hid (by unfold stdV stdC; rw [h]; exact ⟨rfl, rfl⟩)
    have KI := Lib.hid (fun W : World => specIn_no n 0 7 W ho)
    rw [e1.out.1, e1.out.2]
    unfold vV
    clear h ho
    go_enter Tryd.func9, Tryd.ntmps9
    go_wp2_with (first
      | (go_at_call 36; refine (KT.out _).mono ?_; rintro e w1 ⟨rfl, rfl⟩)
      | (go_at_call 37; refine (KI.out _).mono ?_; rintro e w1 ⟨rfl, rfl⟩))
    exact bodyPost_ret (v := .tuple #[.agg #[.int .i64 0, .int .i64 0, .int .i64 0, .int .i64 0, .bool false, .int .i64 0], .int .i64 4]) (by simp [results, Tryd.results9, go_sem]) rfl ⟨rfl, bl_alloc (bl_alloc (bl_refl _) _) _⟩
  · rw [show stdV 0 = vV 2 0 2 5 true 0 from rfl, show stdC 0 = 0 from rfl]
    unfold vV
    have KI := Lib.hid (fun W : World => specIn_yes 0 0 7 W (by omega) (by omega))
    go_enter Tryd.func9, Tryd.ntmps9
    go_wp2_with (first
      | (go_at_call 36; refine (KT.out _).mono ?_; rintro e w1 ⟨rfl, rfl⟩)
      | (go_at_call 37; refine (KI.out _).mono ?_; rintro e w1 ⟨rfl, rfl⟩))
    exact bodyPost_ret (v := .tuple #[.agg #[.int .i64 2, .int .i64 0, .int .i64 2, .int .i64 5, .bool true, .int .i64 0], .int .i64 0]) (by simp [results, Tryd.results9, go_sem]) rfl ⟨rfl, bl_alloc (bl_alloc (bl_refl _) _) _⟩
  · rw [show stdV 1 = vV 4 2 2 5 true 0 from rfl, show stdC 1 = 0 from rfl]
    unfold vV
    have KI := Lib.hid (fun W : World => specIn_yes 1 0 7 W (by omega) (by omega))
    go_enter Tryd.func9, Tryd.ntmps9
    go_wp2_with (first
      | (go_at_call 36; refine (KT.out _).mono ?_; rintro e w1 ⟨rfl, rfl⟩)
      | (go_at_call 37; refine (KI.out _).mono ?_; rintro e w1 ⟨rfl, rfl⟩))
    exact bodyPost_ret (v := .tuple #[.agg #[.int .i64 4, .int .i64 2, .int .i64 2, .int .i64 5, .bool true, .int .i64 0], .int .i64 0]) (by simp [results, Tryd.results9, go_sem]) rfl ⟨rfl, bl_alloc (bl_alloc (bl_refl _) _) _⟩
  · rw [show stdV 2 = vV 4 2 2 5 true 1 from rfl, show stdC 2 = 0 from rfl]
    unfold vV
    have KI := Lib.hid (fun W : World => specIn_yes 2 0 7 W (by omega) (by omega))
    go_enter Tryd.func9, Tryd.ntmps9
    go_wp2_with (first
      | (go_at_call 36; refine (KT.out _).mono ?_; rintro e w1 ⟨rfl, rfl⟩)
      | (go_at_call 37; refine (KI.out _).mono ?_; rintro e w1 ⟨rfl, rfl⟩))
    exact bodyPost_ret (v := .tuple #[.agg #[.int .i64 4, .int .i64 2, .int .i64 2, .int .i64 5, .bool true, .int .i64 1], .int .i64 0]) (by simp [results, Tryd.results9, go_sem]) rfl ⟨rfl, bl_alloc (bl_alloc (bl_refl _) _) _⟩
  · rw [show stdV 3 = vV 7 5 5 0 true 0 from rfl, show stdC 3 = 0 from rfl]
    unfold vV
    have KI := Lib.hid (fun W : World => specIn_yes 3 0 7 W (by omega) (by omega))
    go_enter Tryd.func9, Tryd.ntmps9
    go_wp2_with (first
      | (go_at_call 36; refine (KT.out _).mono ?_; rintro e w1 ⟨rfl, rfl⟩)
      | (go_at_call 37; refine (KI.out _).mono ?_; rintro e w1 ⟨rfl, rfl⟩))
    exact bodyPost_ret (v := .tuple #[.agg #[.int .i64 7, .int .i64 5, .int .i64 5, .int .i64 0, .bool true, .int .i64 0], .int .i64 0]) (by simp [results, Tryd.results9, go_sem]) rfl ⟨rfl, bl_alloc (bl_alloc (bl_refl _) _) _⟩
  · rw [show stdV 4 = vV 7 5 5 0 true 1 from rfl, show stdC 4 = 0 from rfl]
    unfold vV
    have KI := Lib.hid (fun W : World => specIn_yes 4 0 7 W (by omega) (by omega))
    go_enter Tryd.func9, Tryd.ntmps9
    go_wp2_with (first
      | (go_at_call 36; refine (KT.out _).mono ?_; rintro e w1 ⟨rfl, rfl⟩)
      | (go_at_call 37; refine (KI.out _).mono ?_; rintro e w1 ⟨rfl, rfl⟩))
    exact bodyPost_ret (v := .tuple #[.agg #[.int .i64 7, .int .i64 5, .int .i64 5, .int .i64 0, .bool true, .int .i64 1], .int .i64 0]) (by simp [results, Tryd.results9, go_sem]) rfl ⟨rfl, bl_alloc (bl_alloc (bl_refl _) _) _⟩
  · rw [show stdV 5 = vV 7 5 5 0 false 2 from rfl, show stdC 5 = 0 from rfl]
    unfold vV
    have KI := Lib.hid (fun W : World => specIn_yes 5 0 7 W (by omega) (by omega))
    go_enter Tryd.func9, Tryd.ntmps9
    go_wp2_with (first
      | (go_at_call 36; refine (KT.out _).mono ?_; rintro e w1 ⟨rfl, rfl⟩)
      | (go_at_call 37; refine (KI.out _).mono ?_; rintro e w1 ⟨rfl, rfl⟩))
    exact bodyPost_ret (v := .tuple #[.agg #[.int .i64 7, .int .i64 5, .int .i64 5, .int .i64 0, .bool false, .int .i64 2], .int .i64 0]) (by simp [results, Tryd.results9, go_sem]) rfl ⟨rfl, bl_alloc (bl_alloc (bl_refl _) _) _⟩
  · rw [show stdV 6 = vV 5 5 5 0 true 0 from rfl, show stdC 6 = 0 from rfl]
    unfold vV
    have KI := Lib.hid (fun W : World => specIn_yes 6 0 7 W (by omega) (by omega))
    go_enter Tryd.func9, Tryd.ntmps9
    go_wp2_with (first
      | (go_at_call 36; refine (KT.out _).mono ?_; rintro e w1 ⟨rfl, rfl⟩)
      | (go_at_call 37; refine (KI.out _).mono ?_; rintro e w1 ⟨rfl, rfl⟩))
    exact bodyPost_ret (v := .tuple #[.agg #[.int .i64 5, .int .i64 5, .int .i64 5, .int .i64 0, .bool true, .int .i64 0], .int .i64 0]) (by simp [results, Tryd.results9, go_sem]) rfl ⟨rfl, bl_alloc (bl_alloc (bl_refl _) _) _⟩
  · rw [show stdV 7 = vV 5 5 5 0 false 3 from rfl, show stdC 7 = 0 from rfl]
    unfold vV
    have KI := Lib.hid (fun W : World => specIn_yes 7 0 7 W (by omega) (by omega))
    go_enter Tryd.func9, Tryd.ntmps9
    go_wp2_with (first
      | (go_at_call 36; refine (KT.out _).mono ?_; rintro e w1 ⟨rfl, rfl⟩)
      | (go_at_call 37; refine (KI.out _).mono ?_; rintro e w1 ⟨rfl, rfl⟩))
    exact bodyPost_ret (v := .tuple #[.agg #[.int .i64 5, .int .i64 5, .int .i64 5, .int .i64 0, .bool false, .int .i64 3], .int .i64 0]) (by simp [results, Tryd.results9, go_sem]) rfl ⟨rfl, bl_alloc (bl_alloc (bl_refl _) _) _⟩
end Go.Proofs.YtjchjjnmahddiaaDoor
