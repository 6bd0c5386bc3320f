/-
  cmp.Compare, cmp.Or, and the order of ranks that the program sorts by.
-/
import Derived.Test.YtcbfmfkahgfjkaaDoorStrSpec
import Derived.Deep.RegionWith
import Derived.Sort.Grow
namespace Go.Proofs.YtcbfmfkahgfjkaaDoor
open Go.RowKit
set_option linter.unusedVariables false

/-- How two numbers compare. -/
def cmpI (a b : Int) : Int := if a < b then -1 else if b < a then 1 else 0
theorem cmpI_lt {a b : Int} (h : a < b) : cmpI a b = -1 := by unfold cmpI; rw [if_pos h]
theorem cmpI_gt {a b : Int} (h : b < a) : cmpI a b = 1 := by unfold cmpI; rw [if_neg (by omega), if_pos h]
theorem cmpI_eq (a : Int) : cmpI a a = 0 := by unfold cmpI; rw [if_neg (by omega), if_neg (by omega)]
theorem cmpI_bd (a b : Int) : -1 ≤ cmpI a b ∧ cmpI a b ≤ 1 := by unfold cmpI; split <;> (try split) <;> omega
/-- The first of two numbers that is not 0. -/
def orI (p q : Int) : Int := if p = 0 then q else p

set_option maxHeartbeats 400000 in
theorem isNaN_any (a : Int) (w : World) :
    Calls Tryd.prog 83 #[.int .i64 a] w (Same (.bool false) w) := by
  go_enter Tryd.func83, Tryd.ntmps83
  go_wp2
  go_ret
  exact ⟨by simp, rfl⟩

set_option maxRecDepth 100000 in
set_option maxHeartbeats 1000000 in
theorem compare_any (a b : Int) (w : World) :
    Calls Tryd.prog 59 #[.int .i64 a, .int .i64 b] w (Same (.int .i64 (cmpI a b)) w) := by
  have K := Lib.hid isNaN_any
  rcases Int.lt_trichotomy a b with h | h | h
  · have H := Lib.hid (cmpI_lt h)
    go_enter Tryd.func59, Tryd.ntmps59
    go_wp2_with (go_at_call 83; refine (K.out _ _).mono ?_; rintro e w1 ⟨rfl, rfl⟩)
    go_ret
    exact ⟨ret_int H.out.symm, rfl⟩
  · subst h
    have H := Lib.hid (cmpI_eq a)
    go_enter Tryd.func59, Tryd.ntmps59
    go_wp2_with (go_at_call 83; refine (K.out _ _).mono ?_; rintro e w1 ⟨rfl, rfl⟩)
    go_ret
    exact ⟨ret_int H.out.symm, rfl⟩
  · have H := Lib.hid (cmpI_gt h)
    have h' : ¬ a < b := by omega
    go_enter Tryd.func59, Tryd.ntmps59
    go_wp2_with (go_at_call 83; refine (K.out _ _).mono ?_; rintro e w1 ⟨rfl, rfl⟩)
    go_ret
    exact ⟨ret_int H.out.symm, rfl⟩

set_option maxRecDepth 100000 in
set_option maxHeartbeats 1000000 in
theorem or_any (b : Nat) (p q : Int) (w : World) (h0 : w.cell? ⟨b, 0, none⟩ = some (.int .i64 p)) (h1 : w.cell? ⟨b, 1, none⟩ = some (.int .i64 q)) :
    Calls Tryd.prog 107 #[.slice (some ⟨b, 0, none⟩) 2 2] w (Same (.int .i64 (orI p q)) w) := by
  by_cases hp : p = 0
  · by_cases hq : q = 0
    · have H : Hid (orI p q = 0) := Lib.hid (by unfold orI; rw [if_pos hp, hq])
      subst hp hq
      go_enter Tryd.func107, Tryd.ntmps107
      go_wp2_with fail
      go_loop [8] (fun i => ∃ k : Nat, k ≤ 2 ∧ i = .int .i64 k) (fun i => 2 - (intOf i).toNat)
      case atStart => exact ⟨0, by omega, rfl⟩
      case round =>
        obtain ⟨k, hk, rfl⟩ := hrel
        rcases k with _ | _ | _ | k
        · go_wp2_with fail
          go_round
          case rel => exact ⟨1, by omega, by go_num⟩
          case measure => simp [intOf]
        · go_wp2_with fail
          go_round
          case rel => exact ⟨2, by omega, by go_num⟩
          case measure => simp [intOf]
        · go_wp2_with fail
          go_ret
          exact ⟨ret_int H.out.symm, rfl⟩
        · omega
    · have H : Hid (orI p q = q) := Lib.hid (by unfold orI; rw [if_pos hp])
      have hq' : (q != 0) = true := by simpa using hq
      have hq2 : (q == 0) = false := by simpa using hq
      subst hp
      clear hq
      go_enter Tryd.func107, Tryd.ntmps107
      go_wp2_with fail
      go_loop [8] (fun i => ∃ k : Nat, k ≤ 1 ∧ i = .int .i64 k) (fun i => 2 - (intOf i).toNat)
      case atStart => exact ⟨0, by omega, rfl⟩
      case round =>
        obtain ⟨k, hk, rfl⟩ := hrel
        rcases k with _ | _ | k
        · go_wp2_with fail
          go_round
          case rel => exact ⟨1, by omega, by go_num⟩
          case measure => simp [intOf]
        · go_wp2_with fail
          go_ret
          exact ⟨ret_int H.out.symm, rfl⟩
        · omega
  · have H : Hid (orI p q = p) := Lib.hid (by unfold orI; rw [if_neg hp])
    have hp' : (p != 0) = true := by simpa using hp
    have hp2 : (p == 0) = false := by simpa using hp
    clear hp
    go_enter Tryd.func107, Tryd.ntmps107
    go_wp2_with fail
    go_loop [8] (fun i => i = .int .i64 0) (fun i => 0)
    case atStart => rfl
    case round =>
      subst hrel
      go_wp2_with fail
      go_ret
      exact ⟨ret_int H.out.symm, rfl⟩

/-- The order of ranks: how often they occur, then the ranks. -/
def ordF (f : Int → Int) (x y : Int) : Int := orI (cmpI (f y) (f x)) (cmpI y x)
/-- What the order leaves: a new row of two numbers. -/
def Ordered (v : Int) (w : World) (e : Ending) (w' : World) : Prop := e = .returned (.int .i64 v) ∧ ∃ q os, w' = Go.Sort.grow (w.drewN q) os

set_option maxRecDepth 100000 in
set_option maxHeartbeats 2000000 in
theorem order_any (g : Nat) (f : Int → Int) (x y : Nat) (w : World) (hx : x < 13) (hy : y < 13) (hg : g < w.heap.size) (hc : ∀ j : Nat, j < 13 → w.cell? ⟨g, j, none⟩ = some (.int .i64 (f (j : Int)))) :
    Calls Tryd.prog 106 #[.int .i64 x, .int .i64 y, .pointer (some ⟨g, 0, none⟩)] w (Ordered (ordF f x y) w) := by
  have hcx := hc x hx
  have hcy := hc y hy
  have KC := Lib.hid compare_any
  have EO : Hid (ordF f x y = orI (cmpI (f y) (f x)) (cmpI y x)) := Lib.hid rfl
  generalize f (x : Int) = fx at *
  generalize f (y : Int) = fy at *
  clear hc
  go_enter Tryd.func106, Tryd.ntmps106
  go_wp2_with fail
  go_region_with ((first
    | (go_at_call 59; refine (KC.out _ _ _).mono ?_; rintro e w1 ⟨rfl, rfl⟩)
    | (go_at_call 107; refine (or_any _ _ _ _ (by simp [go_sem]; rfl) (by simp [go_sem]; rfl)).mono ?_; rintro e w2 ⟨rfl, rfl⟩)))
  all_goals
    go_wp2_with fail
    go_ret
    exact ⟨ret_int EO.out.symm, 1, #[_], by rw [← Go.Sort.alloc_eq_grow]; rfl⟩
end Go.Proofs.YtcbfmfkahgfjkaaDoor
