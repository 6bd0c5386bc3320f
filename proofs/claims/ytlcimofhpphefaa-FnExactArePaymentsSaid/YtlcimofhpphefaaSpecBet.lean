/-
  The model on a round: which are valid, sums, who has to act.
-/
import Derived.Test.YtlcimofhpphefaaBetF
namespace Go.Proofs.Ytlcimofhpphefaa
open Go.RowKit
set_option linter.unusedVariables false

set_option maxRecDepth 100000 in
set_option maxHeartbeats 1000000 in
theorem l10Chips_any (A : Option Addr) (c : Nat) (xs : List Int) (n : Nat) (w : World) (hr : Rd w A xs) (hn : xs.length ≤ 4000000) :
    Calls Try.prog 45 #[.slice A xs.length c, .int .i64 n] w (Same (.bool (sumsB xs && ((xs.length : Int) == (n : Int)))) w) := by
  have HR := Lib.hid hr
  have KS := Lib.hid (fun (x : Int) (W : World) => specIn_any x 0 600000 W)
  have HT : Hid (∀ k, k < xs.length → inB (nth xs k) 0 600000 = false → sumsB xs = false) := Lib.hid (fun k hk h => sumsB_no k hk (fun q => by rw [inB_yes _ _ _ q.1 q.2] at h; cases h))
  clear hr
  go_enter Try.func45, Try.ntmps45
  go_wp2_with fail
  go_loop [5] (fun i => ∃ k : Nat, k ≤ xs.length ∧ i = .int .i64 k ∧ Hid (∀ j, j < k → 0 ≤ nth xs j ∧ nth xs j ≤ 600000)) (fun i => xs.length - (intOf i).toNat)
  case atStart => exact ⟨0, Nat.zero_le _, rfl, Lib.hid (fun j hj => by omega)⟩
  case round =>
    obtain ⟨k, hk, rfl, hs⟩ := hrel
    by_cases hlt : k < xs.length
    · obtain ⟨bA, oA, rfl, hc⟩ := HR.out.at_ (bl_refl _) k hlt
      have hlt' : (k : Int) < xs.length := by omega
      have KX := Lib.hid (fun W => KS.out (nth xs k) W)
      rcases hb : inB (nth xs k) 0 600000 with _ | _
      · have HF := Lib.hid (HT.out k hlt hb)
        rw [hb] at KX
        clear hs hb
        generalize nth xs k = x at *
        go_wp2_with (go_at_call 44; refine (KX.out _).mono ?_; rintro e wn ⟨rfl, rfl⟩)
        go_ret
        exact ⟨ret_bool (by rw [HF.out]; rfl), rfl⟩
      · have HN : Hid (∀ j, j < k + 1 → 0 ≤ nth xs j ∧ nth xs j ≤ 600000) := Lib.hid (fun j hj => by
          by_cases e : j = k
          · subst e; unfold inB at hb; exact of_decide_eq_true hb
          · exact hs.out j (by omega))
        rw [hb] at KX
        clear hs hb
        generalize nth xs k = x at KX hc
        go_wp2_with (go_at_call 44; refine (KX.out _).mono ?_; rintro e wn ⟨rfl, rfl⟩)
        go_round
        case rel => exact ⟨k + 1, by omega, by go_num, HN⟩
        case measure => simp [intOf]; omega
    · obtain rfl : k = xs.length := by omega
      have HF := Lib.hid (sumsB_iff.2 hs.out)
      clear hs
      go_wp2_with fail
      go_ret
      exact ⟨ret_bool (by rw [HF.out]; rfl), rfl⟩
/-- Somebody of the first k has not folded. -/
def liveK (b : Bt) : Nat → Bool
  | 0 => false
  | k + 1 => liveK b k || !nthB b.fo k
theorem liveK_iff (b : Bt) : ∀ k, liveK b k = true ↔ ∃ i, i < k ∧ nthB b.fo i = false
  | 0 => by simp [liveK]
  | k + 1 => by
    have ih := liveK_iff b k
    show (liveK b k || !nthB b.fo k) = true ↔ _
    rw [Bool.or_eq_true, ih]
    constructor
    · rintro (⟨i, hi, e⟩ | e)
      · exact ⟨i, by omega, e⟩
      · exact ⟨k, by omega, by simpa using e⟩
    · rintro ⟨i, hi, e⟩
      by_cases h : i = k
      · subst h; exact .inr (by rw [e]; rfl)
      · exact .inl ⟨i, by omega, e⟩
end Go.Proofs.Ytlcimofhpphefaa
