/-
  Numbers to the base 13 with at most five digits: both texts' walks.
-/
import Derived.Test.YtajkgnheijhbpaaSpecH
namespace Go.Proofs.Ytajkgnheijhbpaa
open Go.RowKit
set_option linter.unusedVariables false

theorem digs_leN (L : List Int) (h : ranksOk L) (hl : L.length ≤ 5) (k : Nat) (hk : k ≤ L.length) : 0 ≤ digs (L.take k) ∧ digs (L.take k) ≤ 371292 := by
  have := digs_bd L h k hk
  have h2 : 13 ^ k ≤ 13 ^ 5 := Nat.pow_le_pow_right (by omega) (by omega)
  have e : (13 ^ 5 : Nat) = 371293 := by decide
  omega
theorem digs_allN (L : List Int) (h : ranksOk L) (hl : L.length ≤ 5) : 0 ≤ digs L ∧ digs L ≤ 371292 := by
  have := digs_leN L h hl L.length (Nat.le_refl _)
  rwa [take_len] at this
set_option maxRecDepth 100000 in
set_option maxHeartbeats 1000000 in
theorem numberOfN_any (A : Option Addr) (c : Nat) (L : List Int) (w : World) (hr : Rd w A L) (hl : L.length ≤ 5) (hb : ranksOk L) :
    Calls Try.prog 48 #[.slice A L.length c] w (Same (.int .i64 (digs L)) w) := by
  have HR := Lib.hid hr
  have HB := Lib.hid (digs_leN L hb hl)
  have HN := Lib.hid (ranks_nth L hb)
  clear hr hb
  go_enter Try.func48, Try.ntmps48
  go_wp2_with fail
  go_loop [3, 8] (fun n i => ∃ k : Nat, k ≤ L.length ∧ i = .int .i64 k ∧ n = .int .i64 (digs (L.take k))) (fun _ i => L.length - (intOf i).toNat)
  case atStart => exact ⟨0, by omega, rfl, rfl⟩
  case round =>
    obtain ⟨k, hk, rfl, rfl⟩ := hrel
    by_cases hlt : k < L.length
    · obtain ⟨b, off, rfl, hc⟩ := HR.out.at_ (bl_refl _) k hlt
      have hlt' : (k : Int) < L.length := by omega
      have h1 := HB.out k hk
      have hx := HN.out k hlt
      have HC := Lib.hid (take_nth L k hlt)
      have HS : Hid (digs (L.take (k + 1)) = digs (L.take k) * 13 + nth L k) := Lib.hid (by rw [HC.out, digs_snoc]; omega)
      generalize digs (L.take k) = q at *
      generalize nth L k = x at *
      go_wp2_with fail
      go_round
      case rel => exact ⟨k + 1, by omega, by go_num, by rw [HS.out]⟩
      case measure => simp [intOf]; omega
    · obtain rfl : k = L.length := by omega
      go_wp2_with fail
      go_ret
      exact ⟨ret_int (by first | rfl | rw [take_len]), rfl⟩
set_option maxRecDepth 100000 in
set_option maxHeartbeats 1000000 in
theorem digitsN_any (A : Option Addr) (c : Nat) (L : List Int) (w : World) (hr : Rd w A L) (hl : L.length ≤ 5) (hb : ranksOk L) :
    Calls Try.prog 51 #[.slice A L.length c] w (Same (.int .i64 (digs L)) w) := by
  have HR := Lib.hid hr
  have HB := Lib.hid (digs_leN L hb hl)
  have HN := Lib.hid (ranks_nth L hb)
  clear hr hb
  go_enter Try.func51, Try.ntmps51
  go_wp2_with fail
  go_loop [3, 4] (fun n i => ∃ k : Nat, k ≤ L.length ∧ i = .int .i64 k ∧ n = .int .i64 (digs (L.take k))) (fun _ i => L.length - (intOf i).toNat)
  case atStart => exact ⟨0, by omega, rfl, rfl⟩
  case round =>
    obtain ⟨k, hk, rfl, rfl⟩ := hrel
    by_cases hlt : k < L.length
    · obtain ⟨b, off, rfl, hc⟩ := HR.out.at_ (bl_refl _) k hlt
      have hlt' : (k : Int) < L.length := by omega
      have h1 := HB.out k hk
      have hx := HN.out k hlt
      have HC := Lib.hid (take_nth L k hlt)
      have HS := Lib.hid (digs_snoc (L.take k) (nth L k))
      rw [← HC.out] at HS
      generalize digs (L.take k) = q at *
      generalize nth L k = x at *
      go_wp2_with fail
      go_round
      case rel => exact ⟨k + 1, by omega, by go_num, by rw [HS.out]⟩
      case measure => simp [intOf] <;> omega
    · obtain rfl : k = L.length := by omega
      go_wp2_with fail
      go_ret
      exact ⟨ret_int (by first | rfl | rw [take_len]), rfl⟩
end Go.Proofs.Ytajkgnheijhbpaa
