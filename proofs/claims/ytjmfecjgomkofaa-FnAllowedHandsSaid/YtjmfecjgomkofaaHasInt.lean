/-
  hasInt: a number that is in the list is found.
-/
import Derived.Test.YtjmfecjgomkofaaBase
namespace Go.Proofs.Ytjmfecjgomkofaa
open Go.RowKit
set_option linter.unusedVariables false

theorem first_at : ∀ (xs : List Int) (x : Int), x ∈ xs → ∃ j, j < xs.length ∧ (nth xs j = x ∧ ∀ k, k < j → ¬ nth xs k = x)
  | [], x, h => by simp at h
  | y :: ys, x, h => by
    by_cases e : y = x
    · exact ⟨0, by simp, e, fun k hk => by omega⟩
    · have h2 : x ∈ ys := by
        rcases List.mem_cons.1 h with h | h
        · exact absurd h.symm e
        · exact h
      obtain ⟨j, hj, e1, e2⟩ := first_at ys x h2
      refine ⟨j + 1, by simpa using hj, by simpa [nth] using e1, fun k hk => ?_⟩
      rcases k with _ | k
      · simpa [nth] using e
      · have := e2 k (by omega)
        simpa [nth] using this
set_option maxRecDepth 100000 in
set_option maxHeartbeats 1000000 in
theorem hasInt_yes (A : Option Addr) (c : Nat) (xs : List Int) (x : Int) (w : World) (hr : Rd w A xs) (hn : xs.length ≤ 4000000) (hx : x ∈ xs) :
    Calls Try.prog 22 #[.slice A xs.length c, .int .i64 x] w (Same (.bool true) w) := by
  have HR := Lib.hid hr
  obtain ⟨j, hj, ej⟩ := first_at xs x hx
  have EJ := Lib.hid ej
  clear hr hx ej
  go_enter Try.func22, Try.ntmps22
  go_wp2_with fail
  go_loop [5] (fun i => ∃ k : Nat, k ≤ j ∧ i = .int .i64 k) (fun i => j - (intOf i).toNat)
  case atStart => exact ⟨0, by omega, rfl⟩
  case round =>
    obtain ⟨k, hk, rfl⟩ := hrel
    have hkl : (k : Int) < xs.length := by omega
    obtain ⟨b, off, rfl, hc⟩ := HR.out.at_ (bl_refl _) k (by omega)
    by_cases hlt : k < j
    · have hne := EJ.out.2 k hlt
      have hq : (nth xs k == x) = false := by simpa using hne
      generalize nth xs k = y at *
      clear hne
      go_wp2_with fail
      go_round
      case rel => exact ⟨k + 1, by omega, by go_num⟩
      case measure => simp [intOf]; omega
    · obtain rfl : k = j := by omega
      rw [EJ.out.1] at hc
      go_wp2_with fail
      go_ret
      exact ⟨rfl, rfl⟩
end Go.Proofs.Ytjmfecjgomkofaa
