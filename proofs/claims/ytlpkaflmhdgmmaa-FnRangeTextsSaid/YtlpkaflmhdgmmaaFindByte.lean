/-
  The model's search of a byte in a text.
-/
import Derived.Test.YtlpkaflmhdgmmaaCardRead
import Derived.Test.YtlpkaflmhdgmmaaBase
namespace Go.Proofs.Ytlpkaflmhdgmmaa
open Go.RowKit
set_option linter.unusedVariables false

theorem u8_ne {a b : UInt8} (h : a ≠ b) : ((a.toNat : Int) == (b.toNat : Int)) = false := by
  have : a.toNat ≠ b.toNat := fun e => h (UInt8.toNat_inj.1 e)
  simp; omega
set_option maxRecDepth 100000 in
set_option maxHeartbeats 1000000 in
theorem find_any (s : ByteArray) (c : UInt8) (w : World) (hs : s.size ≤ 2000000) :
    Calls Try.prog 62 #[.string s, .int .u8 c.toNat] w (Same (.int .i64 (Lib.indexByte s.data.toList c)) w) := by
  go_enter Try.func62, Try.ntmps62
  go_wp2_with fail
  go_loop [5] (fun i => ∃ k : Nat, k ≤ s.size ∧ i = .int .i64 k ∧ Hid (∀ i (h : i < s.data.toList.length), i < k → s.data.toList[i] ≠ c)) (fun i => s.size - (intOf i).toNat)
  case atStart => exact ⟨0, Nat.zero_le _, rfl, Lib.hid (fun i _ hi => absurd hi (by omega))⟩
  case round =>
    obtain ⟨k, hk, rfl, hS⟩ := hrel
    by_cases hlt : k < s.size
    · by_cases hc : s[k] = c
      · have HI := Lib.hid (idx_at s.data.toList c k hlt hc hS.out)
        have hq : ((s[k].toNat : Int) == (c.toNat : Int)) = true := by rw [hc]; simp
        clear hc
        go_wp2_with fail
        go_ret
        exact ⟨ret_int HI.out.symm, rfl⟩
      · have hq := u8_ne hc
        have HN : Hid (∀ i (h : i < s.data.toList.length), i < k + 1 → s.data.toList[i] ≠ c) := Lib.hid (fun i h hi => by
          by_cases e : i = k
          · subst e; exact hc
          · exact hS.out i h (by omega))
        clear hc
        go_wp2_with fail
        go_round
        case rel => exact ⟨k + 1, by omega, by go_num, HN⟩
        case measure => simp [intOf]; omega
    · have HI := Lib.hid (idx_none s.data.toList c (fun i h => hS.out i h (by have : s.data.toList.length = s.size := rfl
                                                                              omega)))
      go_wp2_with fail
      go_ret
      exact ⟨ret_int HI.out.symm, rfl⟩
theorem find_rank (c : UInt8) (w : World) :
    Calls Try.prog 62 #[.string ⟨#[50, 51, 52, 53, 54, 55, 56, 57, 84, 74, 81, 75, 65]⟩, .int .u8 c.toNat] w (Same (.int .i64 (Lib.indexByte rankL c)) w) := find_any _ c w (by decide)
theorem find_suit (c : UInt8) (w : World) :
    Calls Try.prog 62 #[.string ⟨#[99, 100, 104, 115]⟩, .int .u8 c.toNat] w (Same (.int .i64 (Lib.indexByte suitL c)) w) := find_any _ c w (by decide)
end Go.Proofs.Ytlpkaflmhdgmmaa
