/-
  RestOfDeck: the model's walk.
-/
import Derived.Test.YtafifipnfhekiaaSpecCode
namespace Go.Proofs.Ytafifipnfhekiaa
open Go.RowKit
set_option linter.unusedVariables false

set_option maxRecDepth 100000 in
set_option maxHeartbeats 1000000 in
theorem specRest_any (A : Option Addr) (c : Nat) (xs : List Int) (n : Int) (w : World) (hr : Rd w A xs) (hn : xs.length ≤ 4000000) (hcap : xs.length ≤ c) :
    Calls Try.prog 30 #[.slice A xs.length c, .int .i64 n] w (NewRC (restR xs n) (codeD xs (inB n 0 52)) w) := by
  have K := Lib.hid (specCode_any A c xs n w hr hn)
  by_cases hg : codeD xs (inB n 0 52) = 0
  · rw [hg] at K ⊢
    have hd : deckB xs = true := by
      unfold codeD at hg
      split at hg
      · next h => exact h
      · cases hg
    have hx : inB n 0 52 = true := by
      unfold codeD at hg
      rw [if_pos hd] at hg
      split at hg
      · next h => exact h
      · cases hg
    rw [restR_yes hd hx]
    obtain ⟨h0, h1⟩ := count_bd hx
    obtain ⟨m, rfl⟩ := Int.eq_ofNat_of_zero_le h0
    have hl := ((deck_iff xs).1 hd).1
    obtain ⟨b, off, rfl, hc⟩ := hr (by omega)
    have hm : m ≤ 52 := by omega
    have KO := Lib.hid (fun (cc : Nat) (W : World) (hb : Below w.heap.size w W) => own_any (fromAt b off c m) cc (xs.drop m) W (rd_from (hr.below hb) (.inl hcap)) (by rw [List.length_drop]; omega))
    have hsl := run_sliceFrom b off 52 c m hm
    have HL : Hid ((xs.drop m).length = 52 - m) := Lib.hid (by rw [List.length_drop, hl])
    rw [hl] at K ⊢
    simp only [Int.toNat_natCast, HL.out] at KO K ⊢
    clear hd hx hg h0 hr hc hl hn hcap
    generalize xs.drop m = ys at *
    go_enter Try.func30, Try.ntmps30
    go_wp2_with (first
      | (go_at_call 60; refine K.out.mono ?_; rintro e w1 ⟨rfl, hb⟩; have HB := Lib.hid hb; clear hb)
      | (go_at_call 61; refine (KO.out _ _ HB.out).mono ?_; rintro e w2 ⟨A2, c2, rfl, ho, hb⟩; have HO := Lib.hid ho; have HB2 := Lib.hid hb; clear ho hb))
    go_ret2
    exact ⟨A2, c2, rfl, Row.of_own (HO.out.less HB.out.size), bl_trans HB.out HB2.out⟩
  · have hc0 : restR xs n = [] := by
      unfold codeD at hg
      rcases hd : deckB xs with _ | _
      · exact restR_no n hd
      · rw [hd] at hg
        rcases hx : inB n 0 52 with _ | _
        · exact restR_out xs hx
        · rw [hx] at hg; exact absurd rfl hg
    rw [hc0]
    generalize codeD xs (inB n 0 52) = k at *
    have hk : (k != 0) = true := by simpa using hg
    have hk2 : (k == 0) = false := by simpa using hg
    clear hc0 hr hg
    go_enter Try.func30, Try.ntmps30
    go_wp2_with (go_at_call 60; refine K.out.mono ?_; rintro e w1 ⟨rfl, hb⟩; have HB := Lib.hid hb; clear hb)
    go_ret2
    exact ⟨none, 0, rfl, Row.nil _ _, HB.out⟩

end Go.Proofs.Ytafifipnfhekiaa
