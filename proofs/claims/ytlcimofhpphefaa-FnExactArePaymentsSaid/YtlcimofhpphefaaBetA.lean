/-
  Small functions of the program on lists of chips and of bools: sums, ranges, the greatest, whether one is false.
-/
import Derived.Test.YtlcimofhpphefaaBetPure
import Derived.Test.YtlcimofhpphefaaImplTab
namespace Go.Proofs.Ytlcimofhpphefaa
open Go.RowKit
set_option linter.unusedVariables false

/-- What a call leaves that only reads (it may draw). -/
def Qt (v : Value) (w : World) (e : Ending) (w' : World) : Prop := e = .returned v ∧ ∃ m, w' = w.drewN m
theorem qt_of_same {P : Program} {f : FuncId} {args : Array Value} {w : World} {v : Value} (h : Calls P f args w (Same v w)) : Calls P f args w (Qt v w) := h.mono fun _ _ ⟨he, hw⟩ => ⟨he, 0, by rw [← hw]; rfl⟩
theorem fresh_of_qt {P : Program} {f : FuncId} {args : Array Value} {w : World} {v : Value} (h : Calls P f args w (Qt v w)) : Calls P f args w (Fresh v w) := h.mono fun _ _ ⟨he, m, hw⟩ => ⟨he, by rw [hw]; exact bl_drewN (bl_refl _) m⟩
theorem RdB.at_0 {w : World} {A : Option Addr} {xs : List Bool} (h : RdB w A xs) (k : Nat) (hk : k < xs.length) : ∃ b off, A = some ⟨b, off, none⟩ ∧ w.cell? ⟨b, off + k, none⟩ = some (.bool (nthB xs k)) := h.at_ (bl_refl _) k hk
theorem Rd.at_0 {w : World} {A : Option Addr} {xs : List Int} (h : Rd w A xs) (k : Nat) (hk : k < xs.length) : ∃ b off, A = some ⟨b, off, none⟩ ∧ w.cell? ⟨b, off + k, none⟩ = some (.int .i64 (nth xs k)) := h.at_ (bl_refl _) k hk

set_option maxRecDepth 100000 in
set_option maxHeartbeats 400000 in
theorem isChipSum_any (x : Int) (w : World) : Calls Try.prog 48 #[.int .i64 x] w (Same (.bool (inB x 0 600000)) w) := by
  by_cases h : x < 0
  · have H := Lib.hid (inB_lo x 0 600000 h)
    go_enter Try.func48, Try.ntmps48
    go_wp2
    go_ret
    exact ⟨ret_bool (by rw [H.out]), rfl⟩
  · by_cases h2 : 600000 < x
    · have H := Lib.hid (inB_hi x 0 600000 h2)
      go_enter Try.func48, Try.ntmps48
      go_wp2
      go_ret
      exact ⟨ret_bool (by rw [H.out]; exact decide_eq_false (by omega)), rfl⟩
    · have H := Lib.hid (inB_yes x 0 600000 (by omega) (by omega))
      go_enter Try.func48, Try.ntmps48
      go_wp2
      go_ret
      exact ⟨ret_bool (by rw [H.out]), rfl⟩
/-- All numbers of a list are chips of a round. -/
def sumsB (xs : List Int) : Bool := decide (∀ i, i < xs.length → 0 ≤ nth xs i ∧ nth xs i ≤ 600000)
theorem sumsB_iff {xs : List Int} : sumsB xs = true ↔ inC xs := by unfold sumsB inC; exact decide_eq_true_iff
theorem sumsB_no {xs : List Int} (k : Nat) (hk : k < xs.length) (h : ¬ (0 ≤ nth xs k ∧ nth xs k ≤ 600000)) : sumsB xs = false := by
  unfold sumsB; exact decide_eq_false fun hh => h (hh k hk)
set_option maxRecDepth 100000 in
set_option maxHeartbeats 1000000 in
theorem areSums_any (A : Option Addr) (c : Nat) (xs : List Int) (w : World) (hr : Rd w A xs) (hn : xs.length ≤ 4000000) :
    Calls Try.prog 47 #[.slice A xs.length c, .func (.func 48) #[] #[]] w (Same (.bool (sumsB xs)) w) := by
  have HR := Lib.hid hr
  have KS := Lib.hid (fun (x : Int) (W : World) => isChipSum_any x W)
  have HT : Hid (∀ k, k < xs.length → inB (nth xs k) 0 600000 = false → sumsB xs = false) := Lib.hid (fun k hk h => sumsB_no k hk (fun q => by rw [inB_yes _ _ _ q.1 q.2] at h; cases h))
  clear hr
  go_enter Try.func47, Try.ntmps47
  go_wp2_with fail
  go_loop [9] (fun i => ∃ k : Nat, k ≤ xs.length ∧ i = .int .i64 k ∧ Hid (∀ j, j < k → 0 ≤ nth xs j ∧ nth xs j ≤ 600000)) (fun i => xs.length - (intOf i).toNat)
  case atStart => exact ⟨0, Nat.zero_le _, rfl, Lib.hid (fun j hj => by omega)⟩
  case round =>
    obtain ⟨k, hk, rfl, hs⟩ := hrel
    by_cases hlt : k < xs.length
    · obtain ⟨bA, oA, rfl, hc⟩ := HR.out.at_ (bl_refl _) k hlt
      have hlt' : (k : Int) < xs.length := by omega
      have KX := Lib.hid (fun W => KS.out (nth xs k) W)
      rcases hb : inB (nth xs k) 0 600000 with _ | _
      · have HF := Lib.hid (HT.out k hlt hb)
        rw [hb] at KX
        clear hs hb
        generalize nth xs k = x at *
        go_wp2_with (go_at_call 48; refine (KX.out _).mono ?_; rintro e wn ⟨rfl, rfl⟩)
        go_ret
        exact ⟨ret_bool HF.out.symm, rfl⟩
      · have HN : Hid (∀ j, j < k + 1 → 0 ≤ nth xs j ∧ nth xs j ≤ 600000) := Lib.hid (fun j hj => by
          by_cases e : j = k
          · subst e; unfold inB at hb; exact of_decide_eq_true hb
          · exact hs.out j (by omega))
        rw [hb] at KX
        clear hs hb
        generalize nth xs k = x at KX hc
        go_wp2_with (go_at_call 48; refine (KX.out _).mono ?_; rintro e wn ⟨rfl, rfl⟩)
        go_round
        case rel => exact ⟨k + 1, by omega, by go_num, HN⟩
        case measure => simp [intOf]; omega
    · obtain rfl : k = xs.length := by omega
      have HF := Lib.hid (sumsB_iff.2 hs.out)
      clear hs
      go_wp2_with fail
      go_ret
      exact ⟨ret_bool HF.out.symm, rfl⟩
/-- The greatest of the first k + 1, from the first on. -/
def maxF (xs : List Int) : Nat → Int
  | 0 => nth xs 0
  | k + 1 => if maxF xs k < nth xs (k + 1) then nth xs (k + 1) else maxF xs k
theorem maxF_K (xs : List Int) (h : 0 ≤ nth xs 0) : ∀ k, maxF xs k = maxK xs (k + 1)
  | 0 => by
    show nth xs 0 = if 0 < nth xs 0 then nth xs 0 else 0
    by_cases hp : 0 < nth xs 0
    · rw [if_pos hp]
    · rw [if_neg hp]; omega
  | k + 1 => by
    have ih := maxF_K xs h k
    show (if maxF xs k < nth xs (k + 1) then nth xs (k + 1) else maxF xs k) = if maxK xs (k + 1) < nth xs (k + 1) then nth xs (k + 1) else maxK xs (k + 1)
    rw [ih]
/-- Whether one of a list is false. -/
def someF (xs : List Bool) : Bool := !decide (∀ i, i < xs.length → nthB xs i = true)
end Go.Proofs.Ytlcimofhpphefaa
