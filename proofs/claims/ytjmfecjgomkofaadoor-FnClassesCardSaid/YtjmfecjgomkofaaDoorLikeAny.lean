/-
  The laws' likeInts at any two lists of one length.
-/
import Derived.Test.YtjmfecjgomkofaaDoorBase
import Derived.BigQuiet
namespace Go.Proofs.YtjmfecjgomkofaaDoor
open Go.RowKit
set_option linter.unusedVariables false

theorem drop_nthL (xs : List Int) (k : Nat) (h : k < xs.length) : xs.drop k = nth xs k :: xs.drop (k + 1) := by rw [nth_eq xs k h]; exact List.drop_eq_getElem_cons h
set_option maxRecDepth 100000 in
set_option maxHeartbeats 1000000 in
theorem likeInts_any (A B : Option Addr) (c d : Nat) (a b : List Int) (w : World) (hr : Rd w A a) (hq : Rd w B b) (hl : a.length = b.length) (hn : a.length ≤ 100) :
    Calls Tryd.prog 15 #[.slice A a.length c, .slice B b.length d] w (Fresh (.bool (decide (a = b))) w) := by
  have HR := Lib.hid hr
  have HQ := Lib.hid hq
  have HL := Lib.hid hl
  have hll : (a.length : Int) = (b.length : Int) := by omega
  clear hr hq
  obtain ⟨w0, rfl⟩ : ∃ w0 : World, w0 = w := ⟨w, rfl⟩
  obtain ⟨r, er⟩ : ∃ r, r = decide (a = b) := ⟨_, rfl⟩
  have ER := Lib.hid er
  rw [← er]
  clear er
  have E0 : Hid (r = decide (a.drop 0 = b.drop 0)) := Lib.hid (by rw [ER.out]; rfl)
  have hbl : b.length = a.length := hl.symm
  rw [hbl] at hll ⊢
  clear hl hbl hll
  go_enter Tryd.func15, Tryd.ntmps15
  go_wp2_with fail
  go_loopw [5] (fun i wr => ∃ k : Nat, k ≤ a.length ∧ i = .int .i64 k ∧ Hid (r = decide (a.drop k = b.drop k)) ∧ Hid (Below w0.heap.size w0 wr)) (fun i _ => a.length - (intOf i).toNat)
  case atStart => exact ⟨0, by omega, rfl, E0, Lib.hid (bl_refl _)⟩
  case round =>
    obtain ⟨k, hk, rfl, hs, hb⟩ := hrel
    by_cases hlt : k < a.length
    · have hlt' : (k : Int) < a.length := by omega
      have hlb : k < b.length := by have := HL.out; omega
      obtain ⟨b1, o1, rfl, c1⟩ := HR.out.at_ hb.out k hlt
      obtain ⟨b2, o2, rfl, c2⟩ := HQ.out.at_ hb.out k hlb
      have HS : Hid (r = decide (nth a k = nth b k ∧ a.drop (k + 1) = b.drop (k + 1))) := Lib.hid (by
        rw [hs.out, drop_nthL a k hlt, drop_nthL b k hlb, decide_eq_decide, List.cons.injEq])
      by_cases hx : nth a k = nth b k
      · have E2 : Hid (r = decide (a.drop (k + 1) = b.drop (k + 1))) := Lib.hid (by rw [HS.out, decide_eq_decide]; exact ⟨fun h => h.2, fun h => ⟨hx, h⟩⟩)
        rw [hx] at c1
        generalize nth b k = y at *
        clear hx
        go_wp2_with fail
        go_quiet (fail)
        go_wp2_with fail
        go_roundw
        case rel => exact ⟨k + 1, by omega, by go_num, E2, Lib.hid (bl_drewN hb.out _)⟩
        case measure => simp [intOf]; omega
      · have E2 : Hid (r = false) := Lib.hid (by rw [HS.out, decide_eq_false_iff_not]; exact fun h => hx h.1)
        have hxy : (nth a k != nth b k) = true := by simpa using hx
        generalize nth a k = x at *
        generalize nth b k = y at *
        clear hx
        go_wp2_with fail
        go_quiet (fail)
        go_wp2_with fail
        go_ret
        exact ⟨ret_bool E2.out.symm, bl_drewN hb.out _⟩
    · obtain rfl : k = a.length := by omega
      have E2 : Hid (r = true) := Lib.hid (by
        have h2 := HL.out
        rw [hs.out, List.drop_length, h2, List.drop_length]; rfl)
      go_wp2_with fail
      go_ret
      exact ⟨ret_bool E2.out.symm, hb.out⟩
end Go.Proofs.YtjmfecjgomkofaaDoor
