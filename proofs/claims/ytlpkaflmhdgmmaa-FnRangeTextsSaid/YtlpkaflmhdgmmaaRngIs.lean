/-
  IsRange: the walks of the program's and of the model's function.
-/
import Derived.Test.YtlpkaflmhdgmmaaRngPure
import Derived.Test.YtlpkaflmhdgmmaaCls
import Derived.BigQuiet
import Derived.Deep.QuietTactic
namespace Go.Proofs.Ytlpkaflmhdgmmaa
open Go.RowKit
set_option linter.unusedVariables false

set_option maxRecDepth 100000 in
set_option maxHeartbeats 1000000 in
theorem implIsRange_same (A : Option Addr) (c : Nat) (xs : List Int) (w : World) (hr : Rd w A xs) (hn : xs.length ≤ 4000000) :
    Calls Try.prog 13 #[.slice A xs.length c] w (Same (.bool (rngB xs)) w) := by
  have HR := Lib.hid hr
  clear hr
  go_enter Try.func13, Try.ntmps13
  go_wp2_with fail
  go_loop [7] (fun i => ∃ k : Nat, k ≤ xs.length ∧ i = .int .i64 k ∧ Hid (∀ j, j < k → goodAt xs j = true)) (fun i => xs.length - (intOf i).toNat)
  case atStart => exact ⟨0, Nat.zero_le _, rfl, Lib.hid (fun j hj => by omega)⟩
  case round =>
    obtain ⟨k, hk, rfl, hs⟩ := hrel
    by_cases hlt : k < xs.length
    · obtain ⟨b, off, rfl, hc0⟩ := (HR.out) (by omega)
      have hc := hc0 k hlt
      have hlt' : (k : Int) < xs.length := by omega
      have HNX : Hid (goodAt xs k = true → ∀ j, j < k + 1 → goodAt xs j = true) := Lib.hid (fun h j hj => by
        by_cases e : j = k
        · subst e; exact h
        · exact hs.out j (by omega))
      have HB := Lib.hid (@rng_no xs k hlt)
      have HL := Lib.hid (@good_low xs k)
      have HH := Lib.hid (@good_high xs k)
      have HS := Lib.hid (@good_step xs k)
      have HY := Lib.hid (@good_yes xs k)
      by_cases h0 : k = 0
      · subst h0
        have hg : decide ((((0 : Nat)) : Int) > 0) = false := by simp
        rw [Nat.add_zero] at hc
        generalize nth xs 0 = x at *
        by_cases hx : 0 ≤ x ∧ x < 169
        · obtain ⟨x0, x1⟩ := hx
          have HG := Lib.hid (HNX.out (HY.out x0 x1 (.inl rfl)))
          clear hc0
          go_wp2_with (go_at_call 33; refine (isClass_yes _ _ x0 x1).mono ?_; rintro e w1 ⟨rfl, rfl⟩)
          go_round
          case rel => exact ⟨1, by omega, by go_num, HG⟩
          case measure => simp [intOf]; omega
        · have hx' : x < 0 ∨ 169 ≤ x := by omega
          have HN : Hid (rngB xs = false) := Lib.hid (HB.out (by rcases hx' with h | h; exact HL.out h; exact HH.out h))
          have HO := Lib.hid hx'
          clear hx hx' hc0
          go_wp2_with (go_at_call 33; refine (isClass_no _ _ HO.out).mono ?_; rintro e w1 ⟨rfl, rfl⟩)
          go_ret
          exact ⟨ret_bool HN.out.symm, rfl⟩
      · have hp := hc0 (k - 1) (by omega)
        have e1 : IntKind.i64.wrap ((k : Int) - 1) = ((k - 1 : Nat) : Int) := by
          rw [show ((k - 1 : Nat) : Int) = (k : Int) - 1 by omega]
          exact IntWalk.i64_in _ (by omega)
        have hk0 : 0 < k := by omega
        generalize nth xs k = x at *
        generalize nth xs (k - 1) = y at *
        clear e1
        by_cases hx : 0 ≤ x ∧ x < 169
        · obtain ⟨x0, x1⟩ := hx
          by_cases hxy : y < x
          · have HG := Lib.hid (HNX.out (HY.out x0 x1 (.inr hxy)))
            have q : decide (x ≤ y) = false := decide_eq_false (by omega)
            clear hc0
            go_wp2_with (go_at_call 33; refine (isClass_yes _ _ x0 x1).mono ?_; rintro e w1 ⟨rfl, rfl⟩)
            all_goals (first | done | skip)
            go_round
            case rel => exact ⟨k + 1, by omega, by go_num, HG⟩
            case measure => simp [intOf]; omega
          · have HN : Hid (rngB xs = false) := Lib.hid (HB.out (HS.out hk0 (by omega)))
            have q : decide (x ≤ y) = true := decide_eq_true (by omega)
            clear hc0
            go_wp2_with (go_at_call 33; refine (isClass_yes _ _ x0 x1).mono ?_; rintro e w1 ⟨rfl, rfl⟩)
            go_ret
            exact ⟨ret_bool HN.out.symm, rfl⟩
        · have hx' : x < 0 ∨ 169 ≤ x := by omega
          have HN : Hid (rngB xs = false) := Lib.hid (HB.out (by rcases hx' with h | h; exact HL.out h; exact HH.out h))
          have HO := Lib.hid hx'
          clear hx hx' hc0
          go_wp2_with (go_at_call 33; refine (isClass_no _ _ HO.out).mono ?_; rintro e w1 ⟨rfl, rfl⟩)
          go_ret
          exact ⟨ret_bool HN.out.symm, rfl⟩
    · obtain rfl : k = xs.length := by omega
      have HN : Hid (rngB xs = true) := Lib.hid (rng_iff.2 hs.out)
      go_wp2_with fail
      go_ret
      exact ⟨ret_bool HN.out.symm, rfl⟩
theorem implIsRange_any (A : Option Addr) (c : Nat) (xs : List Int) (w : World) (hr : Rd w A xs) (hn : xs.length ≤ 4000000) :
    Calls Try.prog 13 #[.slice A xs.length c] w (Fresh (.bool (rngB xs)) w) :=
  (implIsRange_same A c xs w hr hn).mono fun _ _ ⟨he, hw⟩ => ⟨he, hw ▸ bl_refl _⟩

set_option maxRecDepth 100000 in
set_option maxHeartbeats 1000000 in
theorem l01Rises_any (A : Option Addr) (c : Nat) (xs : List Int) (w : World) (hr : Rd w A xs) (hn : xs.length ≤ 4000000) :
    Calls Try.prog 47 #[.slice A xs.length c, .int .i64 169] w (Fresh (.bool (rngB xs)) w) := by
  have HR := Lib.hid hr
  clear hr
  obtain ⟨w0, rfl⟩ : ∃ w0 : World, w0 = w := ⟨w, rfl⟩
  go_enter Try.func47, Try.ntmps47
  go_wp2_with fail
  go_loopw [5] (fun i wr => ∃ k : Nat, k ≤ xs.length ∧ i = .int .i64 k ∧ Hid (∀ j, j < k → goodAt xs j = true) ∧ Hid (Below w0.heap.size w0 wr)) (fun i _ => xs.length - (intOf i).toNat)
  case atStart => exact ⟨0, Nat.zero_le _, rfl, Lib.hid (fun j hj => by omega), Lib.hid (bl_refl _)⟩
  case round =>
    obtain ⟨k, hk, rfl, hs, hbw⟩ := hrel
    by_cases hlt : k < xs.length
    · obtain ⟨b, off, rfl, hc0⟩ := (HR.out.below hbw.out) (by omega)
      have hc := hc0 k hlt
      have hlt' : (k : Int) < xs.length := by omega
      have HNX : Hid (goodAt xs k = true → ∀ j, j < k + 1 → goodAt xs j = true) := Lib.hid (fun h j hj => by
        by_cases e : j = k
        · subst e; exact h
        · exact hs.out j (by omega))
      have HB := Lib.hid (@rng_no xs k hlt)
      have HL := Lib.hid (@good_low xs k)
      have HH := Lib.hid (@good_high xs k)
      have HS := Lib.hid (@good_step xs k)
      have HY := Lib.hid (@good_yes xs k)
      have e168 : IntKind.i64.wrap (169 - 1) = 168 := by decide
      by_cases h0 : k = 0
      · subst h0
        rw [Nat.add_zero] at hc
        generalize nth xs 0 = x at *
        by_cases hx : 0 ≤ x ∧ x < 169
        · obtain ⟨x0, x1⟩ := hx
          have HG := Lib.hid (HNX.out (HY.out x0 x1 (.inl rfl)))
          have K := Lib.hid (fun W => specIn_yes x 0 168 W x0 (by omega))
          clear hc0
          go_wp2_with fail
          go_quiet ((go_at_call 56; exact quiet_left (K.out _)))
          go_wp2_with fail
          go_roundw
          case rel => exact ⟨1, by omega, by go_num, HG, Lib.hid (bl_drewN hbw.out _)⟩
          case measure => simp [intOf]; omega
        · have hx' : x < 0 ∨ 169 ≤ x := by omega
          have HN : Hid (rngB xs = false) := Lib.hid (HB.out (by rcases hx' with h | h; exact HL.out h; exact HH.out h))
          have K := Lib.hid (fun W => specIn_no x 0 168 W (by unfold outB; omega))
          clear hx hx' hc0
          go_wp2_with fail
          go_quiet ((go_at_call 56; exact quiet_left (K.out _)))
          go_wp2_with fail
          go_ret
          exact ⟨ret_bool HN.out.symm, bl_drewN hbw.out _⟩
      · have hp := hc0 (k - 1) (by omega)
        have e1 : IntKind.i64.wrap ((k : Int) - 1) = (k : Int) - 1 := IntWalk.i64_in _ (by omega)
        have e2 : (0 : Int) ≤ (k : Int) - 1 := by omega
        have e3 : ((k : Int) - 1).toNat = k - 1 := by omega
        have e4 : decide ((0 : Int) < (k : Int)) = true := decide_eq_true (by omega)
        have e5 : (k : Int) - 1 < xs.length := by omega
        have e6 : k - 1 < xs.length := by omega
        have hk0 : 0 < k := by omega
        generalize nth xs k = x at *
        generalize nth xs (k - 1) = y at *
        by_cases hx : 0 ≤ x ∧ x < 169
        · obtain ⟨x0, x1⟩ := hx
          have K := Lib.hid (fun W => specIn_yes x 0 168 W x0 (by omega))
          by_cases hxy : y < x
          · have HG := Lib.hid (HNX.out (HY.out x0 x1 (.inr hxy)))
            have q : decide (x ≤ y) = false := decide_eq_false (by omega)
            clear hc0
            go_wp2_with fail
            go_quiet ((go_at_call 56; exact quiet_left (K.out _)))
            clear e1 e2 e3 e4 e5 e6
            go_wp2_with fail
            go_roundw
            case rel => exact ⟨k + 1, by omega, by go_num, HG, Lib.hid (bl_drewN hbw.out _)⟩
            case measure => simp [intOf]; omega
          · have HN : Hid (rngB xs = false) := Lib.hid (HB.out (HS.out hk0 (by omega)))
            have q : decide (x ≤ y) = true := decide_eq_true (by omega)
            clear hc0
            go_wp2_with fail
            go_quiet ((go_at_call 56; exact quiet_left (K.out _)))
            go_wp2_with fail
            go_ret
            exact ⟨ret_bool HN.out.symm, bl_drewN hbw.out _⟩
        · have hx' : x < 0 ∨ 169 ≤ x := by omega
          have HN : Hid (rngB xs = false) := Lib.hid (HB.out (by rcases hx' with h | h; exact HL.out h; exact HH.out h))
          have K := Lib.hid (fun W => specIn_no x 0 168 W (by unfold outB; omega))
          clear hx hx' hc0
          go_wp2_with fail
          go_quiet ((go_at_call 56; exact quiet_left (K.out _)))
          go_wp2_with fail
          go_ret
          exact ⟨ret_bool HN.out.symm, bl_drewN hbw.out _⟩
    · obtain rfl : k = xs.length := by omega
      have HN : Hid (rngB xs = true) := Lib.hid (rng_iff.2 hs.out)
      go_wp2_with fail
      go_ret
      exact ⟨ret_bool HN.out.symm, hbw.out⟩
set_option maxHeartbeats 400000 in
theorem specIsRange_any (A : Option Addr) (c : Nat) (xs : List Int) (w : World) (hr : Rd w A xs) (hn : xs.length ≤ 4000000) :
    Calls Try.prog 22 #[.slice A xs.length c] w (Fresh (.bool (rngB xs)) w) := by
  have K := Lib.hid (fun (c : Nat) => l01Rises_any A c xs w hr hn)
  clear hr
  go_enter Try.func22, Try.ntmps22
  go_wp2_with (go_at_call 47; refine (K.out _).mono ?_; rintro e w1 ⟨rfl, hb⟩)
  go_ret
  exact ⟨rfl, hb⟩
end Go.Proofs.Ytlpkaflmhdgmmaa
