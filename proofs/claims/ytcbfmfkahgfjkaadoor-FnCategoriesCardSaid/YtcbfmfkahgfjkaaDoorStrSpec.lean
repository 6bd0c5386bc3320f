/-
  The model's straights and digits.
-/
import Derived.Test.YtcbfmfkahgfjkaaDoorRankCnt
import Derived.Test.YtcbfmfkahgfjkaaDoorHighTab
namespace Go.Proofs.YtcbfmfkahgfjkaaDoor
open Go.RowKit
set_option linter.unusedVariables false

/-- The ranks of cards, and their counts. -/
def rk (xs : List Int) : List Int := xs.map (fun x => x / 4)
def occL (rs : List Int) : List Int := (List.range 13).map (fun j : Nat => (occ rs (j : Int) : Int))
theorem occL_length (rs : List Int) : (occL rs).length = 13 := by simp [occL]
theorem occL_nth (rs : List Int) (j : Nat) (h : j < 13) : nth (occL rs) j = (occ rs (j : Int) : Int) := by
  rw [nth_eq _ _ (by rw [occL_length]; exact h)]; simp [occL]
theorem occ_rk (xs : List Int) (r : Int) : occ (rk xs) r = cnt (fun x => x / 4 == r) xs := by
  unfold occ cnt rk
  rw [List.filter_map, List.length_map]
  rfl
theorem cntL_occ (xs : List Int) : cntL 13 (fun x => x / 4) xs = occL (rk xs) := by
  unfold cntL occL
  simp only [occ_rk]
theorem occL_at {w : World} {A : Option Addr} {rs : List Int} (h : Rd w A (occL rs)) : ∃ b off, A = some ⟨b, off, none⟩ ∧ ∀ j : Nat, j < 13 → w.cell? ⟨b, off + j, none⟩ = some (.int .i64 (occ rs (j : Int) : Int)) := by
  obtain ⟨b, off, e, hc⟩ := h (by rw [occL_length]; omega)
  exact ⟨b, off, e, fun j hj => by rw [hc j (by rw [occL_length]; exact hj), occL_nth rs j hj]⟩

/-- The first of five numbers that is not 1. -/
theorem ones_or (x0 x1 x2 x3 x4 : Int) : (x0 = 1 ∧ x1 = 1 ∧ x2 = 1 ∧ x3 = 1 ∧ x4 = 1) ∨ ((x0 == 1) = false) ∨ (x0 = 1 ∧ (x1 == 1) = false) ∨ (x0 = 1 ∧ x1 = 1 ∧ (x2 == 1) = false) ∨ (x0 = 1 ∧ x1 = 1 ∧ x2 = 1 ∧ (x3 == 1) = false) ∨ (x0 = 1 ∧ x1 = 1 ∧ x2 = 1 ∧ x3 = 1 ∧ (x4 == 1) = false) := by
  simp only [beq_eq_false_iff_ne]; omega
theorem hit_yes {rs : List Int} {u : Nat} (h : (occ rs ((u + 4 : Nat) : Int) : Int) = 1 ∧ (occ rs ((u + 3 : Nat) : Int) : Int) = 1 ∧ (occ rs ((u + 2 : Nat) : Int) : Int) = 1 ∧ (occ rs ((u + 1 : Nat) : Int) : Int) = 1 ∧ (occ rs ((u : Nat) : Int) : Int) = 1) : strFrom rs (u + 1) = (u : Int) + 4 := by
  unfold strFrom
  rw [if_pos]
  unfold hit
  rw [decide_eq_true_eq]
  obtain ⟨h0, h1, h2, h3, h4⟩ := h
  have e1 : (u : Int) + 4 - 1 = ((u + 3 : Nat) : Int) := by omega
  have e2 : (u : Int) + 4 - 2 = ((u + 2 : Nat) : Int) := by omega
  have e3 : (u : Int) + 4 - 3 = ((u + 1 : Nat) : Int) := by omega
  have e4 : (u : Int) + 4 - 4 = ((u : Nat) : Int) := by omega
  have e0 : (u : Int) + 4 = ((u + 4 : Nat) : Int) := by omega
  rw [e1, e2, e3, e4, e0]
  omega
theorem hit_no {rs : List Int} {u : Nat} (h : ¬ ((occ rs ((u + 4 : Nat) : Int) : Int) = 1 ∧ (occ rs ((u + 3 : Nat) : Int) : Int) = 1 ∧ (occ rs ((u + 2 : Nat) : Int) : Int) = 1 ∧ (occ rs ((u + 1 : Nat) : Int) : Int) = 1 ∧ (occ rs ((u : Nat) : Int) : Int) = 1)) : strFrom rs (u + 1) = strFrom rs u := by
  rw [strFrom, if_neg]
  unfold hit
  rw [decide_eq_true_eq]
  have e1 : (u : Int) + 4 - 1 = ((u + 3 : Nat) : Int) := by omega
  have e2 : (u : Int) + 4 - 2 = ((u + 2 : Nat) : Int) := by omega
  have e3 : (u : Int) + 4 - 3 = ((u + 1 : Nat) : Int) := by omega
  have e4 : (u : Int) + 4 - 4 = ((u : Nat) : Int) := by omega
  have e0 : (u : Int) + 4 = ((u + 4 : Nat) : Int) := by omega
  rw [e1, e2, e3, e4, e0]
  omega
theorem str_zero_yes {rs : List Int} (h : (occ rs ((0 : Nat) : Int) : Int) = 1 ∧ (occ rs ((1 : Nat) : Int) : Int) = 1 ∧ (occ rs ((2 : Nat) : Int) : Int) = 1 ∧ (occ rs ((3 : Nat) : Int) : Int) = 1 ∧ (occ rs ((12 : Nat) : Int) : Int) = 1) : strFrom rs 0 = 3 := by
  unfold strFrom wheel
  rw [if_pos]
  rw [decide_eq_true_eq]
  obtain ⟨h0, h1, h2, h3, h4⟩ := h
  exact ⟨by exact_mod_cast h0, by exact_mod_cast h1, by exact_mod_cast h2, by exact_mod_cast h3, by exact_mod_cast h4⟩
theorem str_zero_no {rs : List Int} (h : ¬ ((occ rs ((0 : Nat) : Int) : Int) = 1 ∧ (occ rs ((1 : Nat) : Int) : Int) = 1 ∧ (occ rs ((2 : Nat) : Int) : Int) = 1 ∧ (occ rs ((3 : Nat) : Int) : Int) = 1 ∧ (occ rs ((12 : Nat) : Int) : Int) = 1)) : strFrom rs 0 = -1 := by
  unfold strFrom wheel
  rw [if_neg]
  rw [decide_eq_true_eq]
  rintro ⟨h0, h1, h2, h3, h4⟩
  exact h ⟨by exact_mod_cast h0, by exact_mod_cast h1, by exact_mod_cast h2, by exact_mod_cast h3, by exact_mod_cast h4⟩

set_option maxRecDepth 100000 in
set_option maxHeartbeats 2000000 in
theorem l04Straight_any (A : Option Addr) (c : Nat) (rs : List Int) (w : World) (hr : Rd w A (occL rs)) :
    Calls Tryd.prog 77 #[.slice A 13 c] w (Same (.int .i64 (strT rs)) w) := by
  obtain ⟨b, off, rfl, hc⟩ := occL_at hr
  have HC := Lib.hid hc
  clear hr hc
  go_enter Tryd.func77, Tryd.ntmps77
  go_wp2_with fail
  go_loop [3] (fun t => ∃ k : Nat, k ≤ 9 ∧ t = .int .i64 ((k : Int) + 3) ∧ Hid (strT rs = strFrom rs k)) (fun t => (intOf t).toNat)
  case atStart => exact ⟨9, Nat.le_refl _, rfl, Lib.hid rfl⟩
  case round =>
    obtain ⟨k, hk, rfl, hs⟩ := hrel
    rcases k with _ | u
    · have c0 : w.cell? ⟨b, off, none⟩ = some (.int .i64 (occ rs ((0 : Nat) : Int) : Int)) := HC.out 0 (by omega)
      have c1 := HC.out 1 (by omega)
      have c2 := HC.out 2 (by omega)
      have c3 := HC.out 3 (by omega)
      have c4 := HC.out 12 (by omega)
      have HT := Lib.hid (@str_zero_yes rs)
      have HF := Lib.hid (@str_zero_no rs)
      generalize (occ rs ((0 : Nat) : Int) : Int) = x0 at *
      generalize (occ rs ((1 : Nat) : Int) : Int) = x1 at *
      generalize (occ rs ((2 : Nat) : Int) : Int) = x2 at *
      generalize (occ rs ((3 : Nat) : Int) : Int) = x3 at *
      generalize (occ rs ((12 : Nat) : Int) : Int) = x4 at *
      rcases ones_or x0 x1 x2 x3 x4 with ⟨rfl, rfl, rfl, rfl, rfl⟩ | h | ⟨rfl, h⟩ | ⟨rfl, rfl, h⟩ | ⟨rfl, rfl, rfl, h⟩ | ⟨rfl, rfl, rfl, rfl, h⟩
      · go_wp2_with fail
        go_ret
        exact ⟨ret_int (by rw [hs.out, HT.out (by simp)]), rfl⟩
      all_goals
        go_wp2_with fail
        go_ret
        exact ⟨ret_int (by rw [hs.out, HF.out (by simp at h; omega)]), rfl⟩
    · have c0 := HC.out (u + 4) (by omega)
      have c1 := HC.out (u + 3) (by omega)
      have c2 := HC.out (u + 2) (by omega)
      have c3 := HC.out (u + 1) (by omega)
      have c4 := HC.out u (by omega)
      have HT := Lib.hid (@hit_yes rs u)
      have HF := Lib.hid (@hit_no rs u)
      generalize (occ rs ((u + 4 : Nat) : Int) : Int) = x0 at *
      generalize (occ rs ((u + 3 : Nat) : Int) : Int) = x1 at *
      generalize (occ rs ((u + 2 : Nat) : Int) : Int) = x2 at *
      generalize (occ rs ((u + 1 : Nat) : Int) : Int) = x3 at *
      generalize (occ rs ((u : Nat) : Int) : Int) = x4 at *
      rcases ones_or x0 x1 x2 x3 x4 with ⟨rfl, rfl, rfl, rfl, rfl⟩ | h | ⟨rfl, h⟩ | ⟨rfl, rfl, h⟩ | ⟨rfl, rfl, rfl, h⟩ | ⟨rfl, rfl, rfl, rfl, h⟩
      · go_wp2_with fail
        go_ret
        exact ⟨ret_int (by rw [hs.out, HT.out (by simp)]; omega), rfl⟩
      all_goals
        go_wp2_with fail
        go_round
        case rel => exact ⟨u, by omega, by go_num, Lib.hid (by rw [hs.out, HF.out (by simp at h; omega)])⟩
        case measure => simp [intOf]; omega
end Go.Proofs.YtcbfmfkahgfjkaaDoor
