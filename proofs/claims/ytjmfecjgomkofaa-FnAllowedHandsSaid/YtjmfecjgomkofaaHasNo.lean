/-
  The laws' hasInt at a number that is not in the list; likeInts at any two lists of one length.
-/
import Derived.Test.YtjmfecjgomkofaaBase
import Derived.Test.YtjmfecjgomkofaaSpecH
import Derived.BigQuiet
namespace Go.Proofs.Ytjmfecjgomkofaa
open Go.RowKit
set_option linter.unusedVariables false

set_option maxRecDepth 100000 in
set_option maxHeartbeats 1000000 in
theorem hasInt_no (A : Option Addr) (c : Nat) (xs : List Int) (x : Int) (w : World) (hr : Rd w A xs) (hn : xs.length ≤ 4000000) (hx : x ∉ xs) :
    Calls Try.prog 22 #[.slice A xs.length c, .int .i64 x] w (Same (.bool false) w) := by
  have HR := Lib.hid hr
  have HX := Lib.hid hx
  clear hr hx
  go_enter Try.func22, Try.ntmps22
  go_wp2_with fail
  go_loop [5] (fun i => ∃ k : Nat, k ≤ xs.length ∧ i = .int .i64 k) (fun i => xs.length - (intOf i).toNat)
  case atStart => exact ⟨0, by omega, rfl⟩
  case round =>
    obtain ⟨k, hk, rfl⟩ := hrel
    by_cases hlt : k < xs.length
    · have hkl : (k : Int) < xs.length := by omega
      obtain ⟨b, off, rfl, hc⟩ := HR.out.at_ (bl_refl _) k hlt
      have hq : (nth xs k == x) = false := by
        have := nth_mem xs k hlt
        simp only [beq_eq_false_iff_ne]
        intro e
        rw [e] at this
        exact HX.out this
      generalize nth xs k = y at *
      go_wp2_with fail
      go_round
      case rel => exact ⟨k + 1, by omega, by go_num⟩
      case measure => simp [intOf]; omega
    · obtain rfl : k = xs.length := by omega
      go_wp2_with fail
      go_ret
      exact ⟨rfl, rfl⟩
end Go.Proofs.Ytjmfecjgomkofaa
