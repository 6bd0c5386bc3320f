/-
  PlaceOf: both texts' walks; slices.Index at numbers.
-/
import Derived.Test.YtafifipnfhekiaaDeckIs
namespace Go.Proofs.Ytafifipnfhekiaa
open Go.RowKit
set_option linter.unusedVariables false

set_option maxRecDepth 100000 in
set_option maxHeartbeats 1000000 in
/-- The first place of a number that is there. -/
theorem index_any (A : Option Addr) (c : Nat) (xs : List Int) (x : Int) (p : Nat) (w : World) (hr : Rd w A xs) (hn : xs.length ≤ 4000000) (hp : p < xs.length) (hx : nth xs p = x) (hf : ∀ k, k < p → nth xs k ≠ x) :
    Calls Try.prog 56 #[.slice A xs.length c, .int .i64 x] w (Same (.int .i64 p) w) := by
  have HR := Lib.hid hr
  have HF := Lib.hid hf
  have HX := Lib.hid hx
  clear hr hf hx
  go_enter Try.func56, Try.ntmps56
  go_wp2_with fail
  go_loop [8] (fun i => ∃ k : Nat, k ≤ p ∧ i = .int .i64 k) (fun i => p + 1 - (intOf i).toNat)
  case atStart => exact ⟨0, Nat.zero_le _, rfl⟩
  case round =>
    obtain ⟨k, hk, rfl⟩ := hrel
    have hlt : k < xs.length := by omega
    obtain ⟨b, off, rfl, hc⟩ := HR.out.at_ (bl_refl _) k hlt
    have hlt' : (k : Int) < xs.length := by omega
    by_cases he : k = p
    · subst he
      rw [HX.out] at hc
      go_wp2_with fail
      go_ret
      exact ⟨rfl, rfl⟩
    · have hne := HF.out k (by omega)
      obtain ⟨y, ey⟩ : ∃ y, y = nth xs k := ⟨_, rfl⟩
      rw [← ey] at hc hne
      clear ey
      have q : (x == y) = false := by
        have : ¬ x = y := fun e => hne e.symm
        simpa using this
      clear hne
      go_wp2_with fail
      go_round
      case rel => exact ⟨k + 1, by omega, by go_num⟩
      case measure => simp [intOf]; omega

/-- What PlaceOf answers. -/
def placeR (xs : List Int) (x : Int) : Int := if (deckB xs && inB x 0 51) = true then (placeOf xs x : Int) else 0
theorem placeR_no {xs : List Int} (x : Int) (h : deckB xs = false) : placeR xs x = 0 := by unfold placeR; rw [h]; rfl
theorem placeR_out {xs : List Int} {x : Int} (h : inB x 0 51 = false) : placeR xs x = 0 := by unfold placeR; rw [h, Bool.and_false]; rfl
theorem placeR_yes {xs : List Int} {x : Int} (h : deckB xs = true) (h2 : inB x 0 51 = true) : placeR xs x = (placeOf xs x : Int) := by unfold placeR; rw [h, h2]; rfl
theorem card_bd {x : Int} (h : inB x 0 51 = true) : 0 ≤ x ∧ x < 52 := by unfold inB at h; simp at h; omega

set_option maxRecDepth 100000 in
set_option maxHeartbeats 1000000 in
theorem implPlace_any (A : Option Addr) (c : Nat) (xs : List Int) (x : Int) (w : World) (hr : Rd w A xs) (hn : xs.length ≤ 4000000) :
    Calls Try.prog 26 #[.slice A xs.length c, .int .i64 x] w (Same (pairV (placeR xs x) (codeD xs (inB x 0 51))) w) := by
  have K := Lib.hid (fun (c : Nat) => implIsDeck_any A c xs w hr hn)
  have K2 := Lib.hid (isCard_any x w)
  rcases hd : deckB xs with _ | _
  · rw [placeR_no x hd, codeD_no hd]
    rw [hd] at K
    clear hd hr
    go_enter Try.func26, Try.ntmps26
    go_wp2_with (go_at_call 21; refine (K.out _).mono ?_; rintro e w1 ⟨rfl, rfl⟩)
    go_ret2
    exact ⟨rfl, rfl⟩
  · rw [hd] at K
    rcases hx : inB x 0 51 with _ | _
    · rw [placeR_out hx, codeD_rng hd]
      rw [hx] at K2
      clear hd hr hx
      go_enter Try.func26, Try.ntmps26
      go_wp2_with (first
        | (go_at_call 21; refine (K.out _).mono ?_; rintro e w1 ⟨rfl, rfl⟩)
        | (go_at_call 55; refine K2.out.mono ?_; rintro e w1 ⟨rfl, rfl⟩))
      go_ret2
      exact ⟨rfl, rfl⟩
    · rw [placeR_yes hd hx, codeD_yes hd]
      rw [hx] at K2
      obtain ⟨h0, h1⟩ := card_bd hx
      have hm := deck_mem xs hd x h0 h1
      have hp := place_lt xs x hm
      have K3 := Lib.hid (fun (c : Nat) => index_any A c xs x (placeOf xs x) w hr hn hp (place_ix xs x hm) (fun k hk => place_first xs x k hk))
      have hp' : placeOf xs x < 4000000 := by omega
      clear hd hr hx hm hp
      generalize placeOf xs x = p at *
      go_enter Try.func26, Try.ntmps26
      go_wp2_with (first
        | (go_at_call 21; refine (K.out _).mono ?_; rintro e w1 ⟨rfl, rfl⟩)
        | (go_at_call 55; refine K2.out.mono ?_; rintro e w1 ⟨rfl, rfl⟩)
        | (go_at_call 56; refine (K3.out _).mono ?_; rintro e w1 ⟨rfl, rfl⟩))
      go_ret2
      exact ⟨rfl, rfl⟩

set_option maxRecDepth 100000 in
set_option maxHeartbeats 1000000 in
theorem specPlace_any (A : Option Addr) (c : Nat) (xs : List Int) (x : Int) (w : World) (hr : Rd w A xs) (hn : xs.length ≤ 4000000) :
    Calls Try.prog 27 #[.slice A xs.length c, .int .i64 x] w (Fresh (pairV (placeR xs x) (codeD xs (inB x 0 51))) w) := by
  have K := Lib.hid (fun (c : Nat) => specIsDeck_any A c xs w hr hn)
  have K2 := Lib.hid (fun W : World => specCard_any x W)
  rcases hd : deckB xs with _ | _
  · rw [placeR_no x hd, codeD_no hd]
    rw [hd] at K
    clear hd hr
    go_enter Try.func27, Try.ntmps27
    go_wp2_with (go_at_call 32; refine (K.out _).mono ?_; rintro e w1 ⟨rfl, hb⟩; have HB := Lib.hid hb; clear hb)
    go_ret2
    exact ⟨rfl, HB.out⟩
  · rw [hd] at K
    rcases hx : inB x 0 51 with _ | _
    · rw [placeR_out hx, codeD_rng hd]
      rw [hx] at K2
      clear hd hr hx
      go_enter Try.func27, Try.ntmps27
      go_wp2_with (first
        | (go_at_call 32; refine (K.out _).mono ?_; rintro e w1 ⟨rfl, hb⟩; have HB := Lib.hid hb; clear hb)
        | (go_at_call 57; refine (K2.out _).mono ?_; rintro e w2 ⟨rfl, rfl⟩))
      go_ret2
      exact ⟨rfl, HB.out⟩
    · rw [placeR_yes hd hx, codeD_yes hd]
      rw [hx] at K2
      obtain ⟨h0, h1⟩ := card_bd hx
      have hm := deck_mem xs hd x h0 h1
      have hp := place_lt xs x hm
      have HX := Lib.hid (place_ix xs x hm)
      have HF := Lib.hid (fun k hk => place_first xs x k hk)
      have HR := Lib.hid hr
      clear hd hr hx hm
      rw [← nth_ix] at HX HF
      generalize placeOf xs x = p at *
      go_enter Try.func27, Try.ntmps27
      go_wp2_with (first
        | (go_at_call 32; refine (K.out _).mono ?_; rintro e w1 ⟨rfl, hb⟩; have HB := Lib.hid hb; clear hb)
        | (go_at_call 57; refine (K2.out _).mono ?_; rintro e w2 ⟨rfl, rfl⟩))
      go_loop [6] (fun i => ∃ k : Nat, k ≤ p ∧ i = .int .i64 k) (fun i => p + 1 - (intOf i).toNat)
      case atStart => exact ⟨0, Nat.zero_le _, rfl⟩
      case round =>
        obtain ⟨k, hk, rfl⟩ := hrel
        have hlt : k < xs.length := by omega
        obtain ⟨b, off, rfl, hc⟩ := HR.out.at_ HB.out k hlt
        have hlt' : (k : Int) < xs.length := by omega
        by_cases he : k = p
        · subst he
          rw [HX.out] at hc
          go_wp2_with fail
          go_ret2
          exact ⟨rfl, HB.out⟩
        · have hne := HF.out k (by omega)
          obtain ⟨y, ey⟩ : ∃ y, y = nth xs k := ⟨_, rfl⟩
          rw [← ey] at hc hne
          clear ey
          have q : (y != x) = true := by simpa using hne
          have q2 : (y == x) = false := by simpa using hne
          clear hne
          go_wp2_with fail
          go_round
          case rel => exact ⟨k + 1, by omega, by go_num⟩
          case measure => simp [intOf]; omega
end Go.Proofs.Ytafifipnfhekiaa
