/-
  The model's best five of some cards.
-/
import Derived.Test.YtcbfmfkahgfjkaaDoorChoiceSpec
import Derived.Test.YtcbfmfkahgfjkaaDoorBestFns
namespace Go.Proofs.YtcbfmfkahgfjkaaDoor
open Go.RowKit
set_option linter.unusedVariables false

/-- What the model's search leaves. -/
def BestL (xs : List Int) (w : World) (e : Ending) (w' : World) : Prop := ∃ A c, e = .returned (.tuple #[.slice A 5 c, .int .i64 (bvS xs)]) ∧ Row w' w.heap.size A (bfS xs) ∧ Below w.heap.size w w'
set_option maxRecDepth 100000 in
set_option maxHeartbeats 4000000 in
theorem best_any (A : Option Addr) (c : Nat) (xs : List Int) (w : World) (hr : Rd w A xs) (hd : sizedB xs 5 8 = true) (hcap : xs.length ≤ c) :
    Calls Tryd.prog 56 #[.slice A xs.length c] w (BestL xs w) := by
  obtain ⟨h5, h8, hb⟩ := sized8 hd
  have K1 := Lib.hid (choices_all 5 (by omega) A c xs w hr h8 hcap)
  have hN0 : 0 < (ch 5 xs).length := by rw [ch_len]; exact idx_pos xs.length h5 h8
  have hN := ch_le 5 xs (Nat.le_refl _) h8
  have HCD := Lib.hid (ch_cards xs hb)
  have HBV := Lib.hid (bestV_pos xs hb)
  have HY := Lib.hid (fun i => bestI_yes hv (ch 5 xs) i)
  have HNO := Lib.hid (fun i => bestI_no hv (ch 5 xs) i)
  have HLT := Lib.hid (fun i hi => bestI_lt hv (ch 5 xs) i hi)
  have EB : Hid (bfS xs = (ch 5 xs).getD (bestI hv (ch 5 xs) (ch 5 xs).length).1 []) := Lib.hid (by unfold bfS bestF; rw [if_neg (by omega)])
  have EV : Hid (bvS xs = (bestI hv (ch 5 xs) (ch 5 xs).length).2) := Lib.hid rfl
  have EV2 : Hid (∀ i, bestV xs i = (bestI hv (ch 5 xs) i).2) := Lib.hid (fun i => rfl)
  clear hr hd hb
  go_enter Tryd.func56, Tryd.ntmps56
  go_wp2_with (go_at_call 80; refine K1.out.mono ?_; rintro e w1 ⟨A', c', AA, CC, rfl, hF, hb⟩; have HF := Lib.hid hF; have HB := Lib.hid hb; clear hF hb)
  go_loopw [5, 6, 7] (fun p v i wr => ∃ m : Nat, m ≤ (ch 5 xs).length ∧ p = .int .i64 ((bestI hv (ch 5 xs) m).1 : Nat) ∧ v = .int .i64 (bestI hv (ch 5 xs) m).2 ∧ i = .int .i64 m ∧ Hid (Below w1.heap.size w1 wr)) (fun _ _ i _ => (ch 5 xs).length - (intOf i).toNat)
  case atStart => exact ⟨0, Nat.zero_le _, rfl, rfl, rfl, Lib.hid (bl_refl _)⟩
  case round =>
    obtain ⟨m, hm, rfl, rfl, rfl, hs⟩ := hrel
    by_cases hlt : m < (ch 5 xs).length
    · obtain ⟨hcb, hc5⟩ := HCD.out m hlt
      have hvp := hv_bd _ hcb hc5
      have hbv := HBV.out m (by omega)
      rw [EV2.out] at hbv
      have hlt' : (m : Int) < (ch 5 xs).length := by omega
      obtain ⟨g, off, rfl, hc⟩ := HF.out.at_ hs.out m hlt
      have KV := Lib.hid (l04Value_any (AA m) (CC m) ((ch 5 xs).getD m []) wr ((HF.out.below hs.out).row m hlt).rd hc5 hcb)
      have Y := Lib.hid (HY.out m)
      have Z := Lib.hid (HNO.out m)
      have HJ := Lib.hid hlt
      rw [hc5] at hc
      generalize hv ((ch 5 xs).getD m []) = v at *
      generalize hp : (bestI hv (ch 5 xs) m).1 = p at *
      generalize hq : (bestI hv (ch 5 xs) m).2 = q at *
      have EP := Lib.hid hp
      have EQ := Lib.hid hq
      clear hc5 hcb hp hq
      by_cases hgt : q < v
      · have e1 : Hid (((bestI hv (ch 5 xs) (m + 1)).1 = m) ∧ (bestI hv (ch 5 xs) (m + 1)).2 = v) := Lib.hid (by rw [Y.out (by omega)]; exact ⟨rfl, rfl⟩)
        go_wp2_with (go_at_call 48; refine KV.out.mono ?_; rintro e w3 ⟨rfl, hb3⟩; have B3 := Lib.hid (bl_trans hs.out hb3); clear hb3)
        go_roundw
        case rel => exact ⟨m + 1, by have := HJ.out; omega, by rw [e1.out.1], by rw [e1.out.2], by go_num, B3⟩
        case measure => have := HJ.out; simp [intOf]; omega
      · have e1 : Hid (((bestI hv (ch 5 xs) (m + 1)).1 = (bestI hv (ch 5 xs) m).1) ∧ (bestI hv (ch 5 xs) (m + 1)).2 = (bestI hv (ch 5 xs) m).2) := Lib.hid (by rw [Z.out (by omega)]; exact ⟨rfl, rfl⟩)
        go_wp2_with (go_at_call 48; refine KV.out.mono ?_; rintro e w3 ⟨rfl, hb3⟩; have B3 := Lib.hid (bl_trans hs.out hb3); clear hb3)
        go_roundw
        case rel => exact ⟨m + 1, by have := HJ.out; omega, by rw [e1.out.1, EP.out], by rw [e1.out.2, EQ.out], by go_num, B3⟩
        case measure => have := HJ.out; simp [intOf]; omega
    · obtain rfl : m = (ch 5 xs).length := by omega
      have hlp := HLT.out (ch 5 xs).length (Nat.le_refl _)
      generalize hp : (bestI hv (ch 5 xs) (ch 5 xs).length).1 = p at *
      generalize hq : (bestI hv (ch 5 xs) (ch 5 xs).length).2 = q at *
      have hpn : p < (ch 5 xs).length := by omega
      have hpn' : (p : Int) < (ch 5 xs).length := by omega
      obtain ⟨hcb, hc5⟩ := HCD.out p hpn
      obtain ⟨g, off, rfl, hc⟩ := HF.out.at_ hs.out p hpn
      rw [hc5] at hc
      have HR := Lib.hid ((HF.out.below hs.out).row p hpn)
      have HS := Lib.hid hs.out
      clear hc5 hcb hp hq hs hlp
      go_wp2_with fail
      go_ret2
      exact ⟨AA p, CC p, by rw [EV.out]; rfl, by rw [EB.out]; exact HR.out, bl_trans HB.out HS.out⟩
end Go.Proofs.YtcbfmfkahgfjkaaDoor
