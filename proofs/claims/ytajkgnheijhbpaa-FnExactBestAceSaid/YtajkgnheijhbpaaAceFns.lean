/-
  AceValue, BestAce: the program's walks and the model's.
-/
import Derived.Test.YtajkgnheijhbpaaLeastImpl
import Derived.Test.YtajkgnheijhbpaaSpecLow
import Derived.Test.YtajkgnheijhbpaaChoiceSpec
namespace Go.Proofs.Ytajkgnheijhbpaa
open Go.RowKit
set_option linter.unusedVariables false

/-- The least value of all choices. -/
def leastR (xs : List Int) : Int := leastA xs (ch 5 xs).length
/-- What the functions answer. -/
def avR (xs : List Int) (hi : Int) : Int := if sizedB xs 5 hi = true then leastR xs else 0
theorem avR_yes {xs : List Int} {hi : Int} (h : sizedB xs 5 hi = true) : avR xs hi = leastR xs := by unfold avR; rw [if_pos h]
theorem avR_no {xs : List Int} {hi : Int} (h : sizedB xs 5 hi = false) : avR xs hi = 0 := by unfold avR; rw [h]; rfl
theorem leastR_five {xs : List Int} (hb : cardsB xs = true) (h5 : xs.length = 5) : leastR xs = aceS xs := by
  have hbd := aceS_bd xs hb h5
  obtain ⟨a, b, c, d, e, rfl⟩ := list_five xs h5
  have hc : ch 5 [a, b, c, d, e] = [[a, b, c, d, e]] := rfl
  unfold leastR leastA
  rw [hc]
  show (if aceS [a, b, c, d, e] < 9223372036854775807 then aceS [a, b, c, d, e] else 9223372036854775807) = _
  rw [if_pos (by omega)]
/-- The model's best of the first m choices: -1 if there is none. -/
def bestM (xs : List Int) (m : Nat) : Int := if m = 0 then -1 else leastA xs m
theorem aceCh_bd {xs : List Int} (hb : cardsB xs = true) (h5 : 5 ≤ xs.length) (h8 : xs.length ≤ 8) (m : Nat) (hm : m < (ch 5 xs).length) : 0 ≤ aceS ((ch 5 xs).getD m []) ∧ aceS ((ch 5 xs).getD m []) ≤ 2227757 := by
  obtain ⟨h1, h2⟩ := ch_cards xs hb m hm
  exact aceS_bd _ h1 h2
theorem leastA_bd {xs : List Int} (hb : cardsB xs = true) (h5 : 5 ≤ xs.length) (h8 : xs.length ≤ 8) (m : Nat) (hm : m ≤ (ch 5 xs).length) (h0 : 0 < m) : 0 ≤ leastA xs m ∧ leastA xs m ≤ 2227757 := by
  have := lowV_bd aceS (ch 5 xs) 2227757 (by omega) (fun i hi => aceCh_bd hb h5 h8 i hi) m hm
  exact ⟨this.1, this.2.1 h0⟩
theorem bestM_next {xs : List Int} (hb : cardsB xs = true) (h5 : 5 ≤ xs.length) (h8 : xs.length ≤ 8) (m : Nat) (hm : m < (ch 5 xs).length) :
    (bestM xs m < 0 → bestM xs (m + 1) = aceS ((ch 5 xs).getD m [])) ∧ (¬ bestM xs m < 0 → aceS ((ch 5 xs).getD m []) < bestM xs m → bestM xs (m + 1) = aceS ((ch 5 xs).getD m [])) ∧
    (¬ bestM xs m < 0 → ¬ aceS ((ch 5 xs).getD m []) < bestM xs m → bestM xs (m + 1) = bestM xs m) := by
  have hbd := aceCh_bd hb h5 h8 m hm
  have e1 : bestM xs (m + 1) = leastA xs (m + 1) := by unfold bestM; rw [if_neg (by omega)]
  rw [e1]
  rcases Nat.eq_zero_or_pos m with rfl | h0
  · have e0 : bestM xs 0 = -1 := rfl
    rw [e0]
    refine ⟨fun _ => ?_, fun h => absurd (by omega) h, fun h => absurd (by omega) h⟩
    show (if aceS ((ch 5 xs).getD 0 []) < 9223372036854775807 then _ else _) = _
    rw [if_pos (by omega)]
  · have hl := leastA_bd hb h5 h8 m (by omega) h0
    have e2 : bestM xs m = leastA xs m := by unfold bestM; rw [if_neg (by omega)]
    rw [e2]
    exact ⟨fun h => absurd h (by omega), fun _ h => lowV_yes h, fun _ h => lowV_no h⟩
set_option maxRecDepth 100000 in
set_option maxHeartbeats 1000000 in
theorem leastNo_any (A : Option Addr) (c : Nat) (xs : List Int) (most : Int) (w : World) (hr : Rd w A xs) (hn : xs.length ≤ 4000000) (hd : sizedB xs 5 most = false) :
    Calls Try.prog 60 #[.iface 63 (.agg #[]), .slice A xs.length c, .int .i64 most] w (Fresh (pairV 0 1) w) := by
  have BZ := bl_alloc (bl_alloc (bl_refl w) (.cells #[.iface 63 (.agg #[])] 93)) (.cells #[.slice A xs.length c] 24)
  have KZ := Lib.hid (implSized_any A c xs 5 most _ (hr.below BZ) hn)
  rw [hd] at KZ
  have B0 := Lib.hid BZ
  clear hr hn hd BZ
  go_enter Try.func60, Try.ntmps60
  go_wp2_with (go_at_call 45; refine KZ.out.mono ?_; rintro e w1 ⟨rfl, rfl⟩)
  go_ret2
  exact ⟨rfl, B0.out⟩
/-- The program's least value, whatever the list. -/
theorem leastAny (A : Option Addr) (c : Nat) (xs : List Int) (most : Int) (w : World) (hm : most ≤ 8) (hr : Rd w A xs) (hn : xs.length ≤ 4000000) :
    Calls Try.prog 60 #[.iface 63 (.agg #[]), .slice A xs.length c, .int .i64 most] w (Fresh (pairV (avR xs most) (codeZ xs 5 most)) w) := by
  rcases hd : sizedB xs 5 most with _ | _
  · rw [avR_no hd, codeZ_no hd]; exact leastNo_any A c xs most w hr hn hd
  · rw [avR_yes hd, codeZ_yes hd]; exact least_any A c xs most w hr hm hd
set_option maxRecDepth 100000 in
set_option maxHeartbeats 4000000 in
theorem l05Best_any (A : Option Addr) (c : Nat) (xs : List Int) (w : World) (hr : Rd w A xs) (h5 : 5 ≤ xs.length) (h8 : xs.length ≤ 8) (hb : cardsB xs = true) (hcap : xs.length ≤ c) :
    Calls Try.prog 61 #[.slice A xs.length c, .bool false] w (Fresh (.int .i64 (leastR xs)) w) := by
  have K1 := Lib.hid (choices_all 5 (by omega) A c xs w hr h8 hcap)
  have hN0 : 0 < (ch 5 xs).length := by rw [ch_len]; exact idx_pos xs.length h5 h8
  have hN := ch_le 5 xs (Nat.le_refl _) h8
  have HCD := Lib.hid (ch_cards xs hb)
  have HNX := Lib.hid (fun m hm => bestM_next hb h5 h8 m hm)
  have HBD := Lib.hid (fun m hm => aceCh_bd hb h5 h8 m hm)
  have EV : Hid (leastR xs = bestM xs (ch 5 xs).length) := Lib.hid (by unfold leastR bestM; rw [if_neg (by omega)])
  clear hr hb
  go_enter Try.func61, Try.ntmps61
  go_wp2_with (go_at_call 84; refine K1.out.mono ?_; rintro e w1 ⟨A', c', AA, CC, rfl, hF, hb⟩; have HF := Lib.hid hF; have HB := Lib.hid hb; clear hF hb)
  go_loopw [6, 7, 8] (fun v i _ wr => ∃ m : Nat, m ≤ (ch 5 xs).length ∧ v = .int .i64 (bestM xs m) ∧ i = .int .i64 m ∧ Hid (Below w1.heap.size w1 wr)) (fun _ i _ _ => (ch 5 xs).length - (intOf i).toNat)
  case atStart => exact ⟨0, Nat.zero_le _, rfl, rfl, Lib.hid (bl_refl _)⟩
  case round =>
    obtain ⟨m, hm, rfl, rfl, hs⟩ := hrel
    by_cases hlt : m < (ch 5 xs).length
    · obtain ⟨hcb, hc5⟩ := HCD.out m hlt
      have hlt' : (m : Int) < (ch 5 xs).length := by omega
      obtain ⟨g, off, rfl, hc⟩ := HF.out.at_ hs.out m hlt
      have KV := Lib.hid (l05Ace_any (AA m) (CC m) ((ch 5 xs).getD m []) wr ((HF.out.below hs.out).row m hlt).rd hc5 hcb)
      have X := Lib.hid (HNX.out m hlt)
      have HJ := Lib.hid hlt
      rw [hc5] at hc
      generalize aceS ((ch 5 xs).getD m []) = v at *
      generalize bestM xs m = q at *
      clear hc5 hcb
      by_cases c1 : q < 0
      · have d1 : decide (q < 0) = true := decide_eq_true c1
        have e1 : Hid (bestM xs (m + 1) = v) := Lib.hid (X.out.1 c1)
        go_wp2_with (go_at_call 59; refine KV.out.mono ?_; rintro e w3 ⟨rfl, hb3⟩; have B3 := Lib.hid (bl_trans hs.out hb3); clear hb3)
        go_roundw
        case rel => exact ⟨m + 1, by have := HJ.out; omega, by rw [e1.out], by go_num, B3⟩
        case measure => have := HJ.out; simp [intOf]; omega
      · have d1 : decide (q < 0) = false := decide_eq_false c1
        by_cases c2 : v < q
        · have e1 : Hid (bestM xs (m + 1) = v) := Lib.hid (X.out.2.1 (by omega) c2)
          go_wp2_with (go_at_call 59; refine KV.out.mono ?_; rintro e w3 ⟨rfl, hb3⟩; have B3 := Lib.hid (bl_trans hs.out hb3); clear hb3)
          go_roundw
          case rel => exact ⟨m + 1, by have := HJ.out; omega, by rw [e1.out], by go_num, B3⟩
          case measure => have := HJ.out; simp [intOf]; omega
        · have e1 : Hid (bestM xs (m + 1) = q) := Lib.hid (X.out.2.2 (by omega) (by omega))
          go_wp2_with (go_at_call 59; refine KV.out.mono ?_; rintro e w3 ⟨rfl, hb3⟩; have B3 := Lib.hid (bl_trans hs.out hb3); clear hb3)
          go_roundw
          case rel => exact ⟨m + 1, by have := HJ.out; omega, by rw [e1.out], by go_num, B3⟩
          case measure => have := HJ.out; simp [intOf]; omega
    · obtain rfl : m = (ch 5 xs).length := by omega
      have HS := Lib.hid hs.out
      generalize bestM xs (ch 5 xs).length = v at *
      clear hs
      go_wp2_with fail
      go_ret
      exact ⟨ret_int EV.out.symm, bl_trans HB.out HS.out⟩
set_option maxRecDepth 100000 in
set_option maxHeartbeats 1000000 in
theorem implAceValue_any (A : Option Addr) (c : Nat) (xs : List Int) (w : World) (hr : Rd w A xs) (hn : xs.length ≤ 4000000) :
    Calls Try.prog 25 #[.slice A xs.length c] w (Fresh (pairV (avR xs 5) (codeZ xs 5 5)) w) := by
  have K := Lib.hid (leastAny A c xs 5 w (by omega) hr hn)
  clear hr hn
  generalize avR xs 5 = p at *
  generalize codeZ xs 5 5 = q at *
  go_enter Try.func25, Try.ntmps25
  go_wp2_with (go_at_call 60; refine K.out.mono ?_; rintro e w1 ⟨rfl, hb1⟩; have B1 := Lib.hid hb1; clear hb1)
  go_ret2
  exact ⟨rfl, B1.out⟩
set_option maxRecDepth 100000 in
set_option maxHeartbeats 1000000 in
theorem implBestAce_any (A : Option Addr) (c : Nat) (xs : List Int) (w : World) (hr : Rd w A xs) (hn : xs.length ≤ 4000000) :
    Calls Try.prog 28 #[.slice A xs.length c] w (Fresh (pairV (avR xs 8) (codeZ xs 5 8)) w) := by
  have K := Lib.hid (leastAny A c xs 8 w (by omega) hr hn)
  clear hr hn
  generalize avR xs 8 = p at *
  generalize codeZ xs 5 8 = q at *
  go_enter Try.func28, Try.ntmps28
  go_wp2_with (go_at_call 60; refine K.out.mono ?_; rintro e w1 ⟨rfl, hb1⟩; have B1 := Lib.hid hb1; clear hb1)
  go_ret2
  exact ⟨rfl, B1.out⟩
set_option maxRecDepth 100000 in
set_option maxHeartbeats 1000000 in
theorem specAceValue_any (A : Option Addr) (c : Nat) (xs : List Int) (w : World) (hr : Rd w A xs) (hn : xs.length ≤ 4000000) (hcap : xs.length ≤ c) :
    Calls Try.prog 23 #[.slice A xs.length c] w (Fresh (pairV (avR xs 5) (codeZ xs 5 5)) w) := by
  have K := Lib.hid (fun (c : Nat) => specSized_any A c xs 5 5 w hr hn)
  rcases hd : sizedB xs 5 5 with _ | _
  · rw [avR_no hd, codeZ_no hd]
    rw [hd] at K
    clear hd hr hcap
    go_enter Try.func23, Try.ntmps23
    go_wp2_with (go_at_call 49; refine (K.out _).mono ?_; rintro e w1 ⟨rfl, hb1⟩; have B1 := Lib.hid hb1; clear hb1)
    go_ret2
    exact ⟨rfl, B1.out⟩
  · rw [avR_yes hd, codeZ_yes hd]
    rw [hd] at K
    obtain ⟨h5', h8', hb⟩ := sized_iff.1 hd
    have h5 : xs.length = 5 := by omega
    have K2 := Lib.hid (fun (W : World) (h : Below w.heap.size w W) => l05Ace_any A c xs W (hr.below h) h5 hb)
    rw [← leastR_five hb h5, ← h5] at K2
    clear h5
    generalize leastR xs = v at *
    clear hd hr hb hn h5' h8' hcap
    go_enter Try.func23, Try.ntmps23
    go_wp2_with (first
      | (go_at_call 49; refine (K.out _).mono ?_; rintro e w1 ⟨rfl, hb1⟩; have B1 := Lib.hid hb1; clear hb1)
      | (go_at_call 59; refine (K2.out _ B1.out).mono ?_; rintro e w2 ⟨rfl, hb2⟩; have B2 := Lib.hid (bl_trans B1.out hb2); clear hb2))
    go_ret2
    exact ⟨rfl, B2.out⟩
set_option maxRecDepth 100000 in
set_option maxHeartbeats 1000000 in
theorem specBestAce_any (A : Option Addr) (c : Nat) (xs : List Int) (w : World) (hr : Rd w A xs) (hn : xs.length ≤ 4000000) (hcap : xs.length ≤ c) :
    Calls Try.prog 27 #[.slice A xs.length c] w (Fresh (pairV (avR xs 8) (codeZ xs 5 8)) w) := by
  have K := Lib.hid (fun (c : Nat) => specSized_any A c xs 5 8 w hr hn)
  rcases hd : sizedB xs 5 8 with _ | _
  · rw [avR_no hd, codeZ_no hd]
    rw [hd] at K
    clear hd hr hcap
    go_enter Try.func27, Try.ntmps27
    go_wp2_with (go_at_call 49; refine (K.out _).mono ?_; rintro e w1 ⟨rfl, hb1⟩; have B1 := Lib.hid hb1; clear hb1)
    go_ret2
    exact ⟨rfl, B1.out⟩
  · rw [avR_yes hd, codeZ_yes hd]
    rw [hd] at K
    obtain ⟨h5', h8', hb⟩ := sized_iff.1 hd
    have K2 := Lib.hid (fun (W : World) (h : Below w.heap.size w W) => l05Best_any A c xs W (hr.below h) (by omega) (by omega) hb hcap)
    generalize leastR xs = v at *
    clear hd hr hb hn h5' h8' hcap
    go_enter Try.func27, Try.ntmps27
    go_wp2_with (first
      | (go_at_call 49; refine (K.out _).mono ?_; rintro e w1 ⟨rfl, hb1⟩; have B1 := Lib.hid hb1; clear hb1)
      | (go_at_call 61; refine (K2.out _ B1.out).mono ?_; rintro e w2 ⟨rfl, hb2⟩; have B2 := Lib.hid (bl_trans B1.out hb2); clear hb2))
    go_ret2
    exact ⟨rfl, B2.out⟩
end Go.Proofs.Ytajkgnheijhbpaa
