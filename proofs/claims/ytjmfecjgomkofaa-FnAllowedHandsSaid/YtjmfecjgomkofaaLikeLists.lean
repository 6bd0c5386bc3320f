/-
  The laws' likeLists: families of rows.
-/
import Derived.Test.YtjmfecjgomkofaaDealRows
namespace Go.Proofs.Ytjmfecjgomkofaa
open Go.RowKit
set_option linter.unusedVariables false

set_option maxRecDepth 100000 in
set_option maxHeartbeats 1000000 in
theorem likeInts_reads (A B : Option Addr) (c d : Nat) (xs : List Int) (w : World) (hr : Rd w A xs) (hq : Rd w B xs) (hn : xs.length ≤ 4000000) :
    Calls Try.prog 43 #[.slice A xs.length c, .slice B xs.length d] w (Reads (.bool true) w) := by
  have HR := Lib.hid hr
  have HQ := Lib.hid hq
  clear hr hq
  obtain ⟨w0, rfl⟩ : ∃ w0 : World, w0 = w := ⟨w, rfl⟩
  go_enter Try.func43, Try.ntmps43
  go_wp2_with fail
  go_loopw [5] (fun i wr => ∃ k : Nat, k ≤ xs.length ∧ i = .int .i64 k ∧ Hid (∃ n, wr = w0.drewN n)) (fun i _ => xs.length - (intOf i).toNat)
  case atStart => exact ⟨0, Nat.zero_le _, rfl, Lib.hid ⟨0, rfl⟩⟩
  case round =>
    obtain ⟨k, hk, rfl, hs⟩ := hrel
    by_cases hlt : k < xs.length
    · have hbl : Below w0.heap.size w0 wr := by obtain ⟨n, e⟩ := hs.out; rw [e]; exact bl_drewN (bl_refl _) _
      obtain ⟨b, off, rfl, hc⟩ := HR.out.at_ hbl k hlt
      obtain ⟨b', off', rfl, hc'⟩ := HQ.out.at_ hbl k hlt
      have hlt' : (k : Int) < xs.length := by omega
      clear hbl
      go_wp2_with fail
      go_quiet (fail)
      go_wp2_with fail
      go_roundw
      case rel => exact ⟨k + 1, by omega, by go_num, Lib.hid (by obtain ⟨n, e⟩ := hs.out; rw [e]; exact ⟨n + _, World.drewN_drewN ..⟩)⟩
      case measure => simp [intOf]; omega
    · obtain rfl : k = xs.length := by omega
      go_wp2_with fail
      go_ret
      exact ⟨rfl, hs.out⟩

set_option maxRecDepth 100000 in
set_option maxHeartbeats 2000000 in
/-- Two families that read alike are found alike. -/
theorem likeFam_same (A B : Option Addr) (c d H : Nat) (R : Nat → List Int) (AA BB : Nat → Option Addr) (CC DD : Nat → Nat) (lo lo' : Nat) (w : World) (hr : Fam w lo A H R AA CC) (hq : Fam w lo' B H R BB DD) (hH : H ≤ 4000000) (hn : ∀ h, h < H → (R h).length ≤ 4000000) :
    Calls Try.prog 19 #[.slice A H c, .slice B H d] w (Fresh (.bool true) w) := by
  have HR := Lib.hid hr
  have HQ := Lib.hid hq
  have HN := Lib.hid hn
  clear hr hq hn
  obtain ⟨w0, rfl⟩ : ∃ w0 : World, w0 = w := ⟨w, rfl⟩
  go_enter Try.func19, Try.ntmps19
  go_wp2_with fail
  go_loopw [5] (fun i wr => ∃ k : Nat, k ≤ H ∧ i = .int .i64 k ∧ Hid (Below w0.heap.size w0 wr)) (fun i _ => H - (intOf i).toNat)
  case atStart => exact ⟨0, Nat.zero_le _, rfl, Lib.hid (bl_refl _)⟩
  case round =>
    obtain ⟨k, hk, rfl, hs⟩ := hrel
    by_cases hlt : k < H
    · obtain ⟨b, off, rfl, hc⟩ := HR.out.at_ hs.out k hlt
      obtain ⟨b', off', rfl, hc'⟩ := HQ.out.at_ hs.out k hlt
      have hlt' : (k : Int) < H := by omega
      have KE := Lib.hid (fun (m : Nat) => likeInts_reads (AA k) (BB k) (CC k) (DD k) (R k) (wr.drewN m) (((HR.out.below hs.out).row k hlt).rd.below (bl_drewN (bl_refl _) _)) (((HQ.out.below hs.out).row k hlt).rd.below (bl_drewN (bl_refl _) _)) (HN.out k hlt))
      generalize R k = xs at *
      generalize AA k = p at *
      generalize BB k = q at *
      generalize CC k = c1 at *
      generalize DD k = d1 at *
      go_wp2_with fail
      go_quiet ((go_at_call 43; exact Calls.quiet_of (KE.out _)))
      go_wp2_with fail
      go_roundw
      case rel => exact ⟨k + 1, by omega, by go_num, Lib.hid (bl_drewN hs.out _)⟩
      case measure => simp [intOf]; omega
    · obtain rfl : k = H := by omega
      go_wp2_with fail
      go_ret
      exact ⟨rfl, hs.out⟩
end Go.Proofs.Ytjmfecjgomkofaa
