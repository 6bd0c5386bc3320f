/-
  The model's code of a deck and a number.
-/
import Derived.Test.YtafifipnfhekiaaDeckAns
import Derived.Test.YtafifipnfhekiaaGlue
namespace Go.Proofs.Ytafifipnfhekiaa
open Go.RowKit
set_option linter.unusedVariables false

set_option maxRecDepth 100000 in
set_option maxHeartbeats 400000 in
theorem specCode_any (A : Option Addr) (c : Nat) (xs : List Int) (n : Int) (w : World) (hr : Rd w A xs) (hn : xs.length ≤ 4000000) :
    Calls Try.prog 60 #[.slice A xs.length c, .int .i64 n] w (Fresh (.int .i64 (codeD xs (inB n 0 52))) w) := by
  have K := Lib.hid (fun (c : Nat) => specIsDeck_any A c xs w hr hn)
  have K1 := Lib.hid (fun W : World => specIn_any n 0 52 W)
  rcases hd : deckB xs with _ | _
  · rw [codeD_no hd]
    rw [hd] at K
    clear hd hr
    go_enter Try.func60, Try.ntmps60
    go_wp2_with (go_at_call 32; refine (K.out _).mono ?_; rintro e w1 ⟨rfl, hb⟩; have HB := Lib.hid hb; clear hb)
    go_ret
    exact ⟨rfl, HB.out⟩
  · rw [hd] at K
    rcases hx : inB n 0 52 with _ | _
    · rw [codeD_rng hd]
      rw [hx] at K1
      clear hd hr hx
      go_enter Try.func60, Try.ntmps60
      go_wp2_with (first
        | (go_at_call 32; refine (K.out _).mono ?_; rintro e w1 ⟨rfl, hb⟩; have HB := Lib.hid hb; clear hb)
        | (go_at_call 53; refine (K1.out _).mono ?_; rintro e w2 ⟨rfl, rfl⟩))
      go_ret
      exact ⟨rfl, HB.out⟩
    · rw [codeD_yes hd]
      rw [hx] at K1
      clear hd hr hx
      go_enter Try.func60, Try.ntmps60
      go_wp2_with (first
        | (go_at_call 32; refine (K.out _).mono ?_; rintro e w1 ⟨rfl, hb⟩; have HB := Lib.hid hb; clear hb)
        | (go_at_call 53; refine (K1.out _).mono ?_; rintro e w2 ⟨rfl, rfl⟩))
      go_ret
      exact ⟨rfl, HB.out⟩

end Go.Proofs.Ytafifipnfhekiaa
