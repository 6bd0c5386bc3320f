/-
  The card of the law FnExactSuitOrbit: it returns true for every list of numbers, and leaves the list as it was: SuitOrbit answers as its model.
  Condition: the table math/bits.deBruijn64tab reads as the program lays it (the card ties it).
-/
import Derived.Test.YtilbkgnjgmlhjabDoorOrbSame
import Derived.Test.YtilbkgnjgmlhjabDoorMark
import Derived.Test.YtilbkgnjgmlhjabDoorTzLaid
import Derived.Test.YtilbkgnjgmlhjabDoorCards
import Derived.SevenTiedAt
import Derived.Lib.SmallJoins
namespace Go.Proofs.YtilbkgnjgmlhjabDoor
open Go.ChangeShapes Go.WideShapes Go.ChangeAt Go.RowKit Go.Joins
set_option linter.unusedVariables false

set_option maxRecDepth 100000 in
set_option maxHeartbeats 400000 in
theorem walkSuitOrbit_big (A : Option Addr) (c : Nat) (xs : List Int) (w : World) (HT : Hid (Tz w.heap.size w)) (hm : xs.length ≤ maxLen) (h : 1048576 < xs.length) :
    Calls Tryd.prog 3 #[.slice A xs.length c] w (Fresh (.bool true) w) := by
  unfold maxLen at hm
  have h' : (1048576 : Int) < xs.length := by omega
  go_enter Tryd.func3, Tryd.ntmps3
  go_wp2_with fail
  go_ret
  exact ⟨rfl, bl_refl _⟩

set_option maxRecDepth 100000 in
set_option maxHeartbeats 2000000 in
theorem walkSuitOrbit_in (A : Option Addr) (c : Nat) (xs : List Int) (w : World) (HT : Hid (Tz w.heap.size w)) (hr : Rd w A xs) (hn : xs.length ≤ 1048576) :
    Calls Tryd.prog 3 #[.slice A xs.length c] w (Fresh (.bool true) w) := by
  have HR := Lib.hid hr
  have hn4 : xs.length ≤ 4000000 := by omega
  have hn' : (xs.length : Int) ≤ 1048576 := by omega
  have B0 := Lib.hid (bl_refl w)
  obtain ⟨p, q, K1, K2⟩ : ∃ (p q : Int), Hid (∀ (A : Option Addr) (c : Nat) (W : World), Rd W A xs → Calls Tryd.prog 4 #[.slice A xs.length c] W (Fresh (.tuple #[.int .i64 p, .int .i64 q]) W)) ∧ Hid (∀ (A : Option Addr) (c : Nat) (W : World), Rd W A xs → Below w.heap.size w W → Calls Tryd.prog 6 #[.slice A xs.length c] W (Fresh (.tuple #[.int .i64 p, .int .i64 q]) W)) :=
    ⟨orbS xs, codeC xs, Lib.hid (fun A c W h => specOrbit_any A c xs W h hn4), Lib.hid (fun A c W h hb => by rw [← orb_same]; exact implOrbit_any A c xs w.heap.size w W h hn4 HT (Lib.hid hb) (Lib.hid hb.size))⟩
  clear hr
  go_enter Tryd.func3, Tryd.ntmps3
  go_wp2_with (go_at_call 5; ((with_reducible refine (toInts_any A _ xs _ (HR.out.below B0.out) hn).mono ?_); rintro e w1 ⟨A1, c1, rfl, ho1, hb1⟩; have O1 := Lib.hid ho1; have B1 := Lib.hid (bl_trans B0.out hb1); have X1 := Lib.hid hb1; clear ho1 hb1))
  go_wp2_with (go_at_call 4; ((with_reducible refine (K1.out A1 _ _ O1.out.rd).mono ?_); rintro e w2 ⟨rfl, hb2⟩; have B2 := Lib.hid (bl_trans B1.out hb2); clear hb2))
  go_wp2_with (go_at_call 5; ((with_reducible refine (toInts_any A _ xs _ (HR.out.below B2.out) hn).mono ?_); rintro e w3 ⟨A3, c3, rfl, ho3, hb3⟩; have O3 := Lib.hid ho3; have B3 := Lib.hid (bl_trans B2.out hb3); have X3 := Lib.hid hb3; clear ho3 hb3))
  go_wp2_with (go_at_call 6; ((with_reducible refine (K2.out A3 _ _ O3.out.rd B3.out).mono ?_); rintro e w4 ⟨rfl, hb4⟩; have X4 := Lib.hid hb4; have B4 := Lib.hid (bl_trans B3.out hb4); clear hb4))
  go_wp2_with (go_at_call 5; ((with_reducible refine (toInts_any A _ xs _ (HR.out.below B4.out) hn).mono ?_); rintro e w5 ⟨A5, c5, rfl, ho5, hb5⟩; have O5 := Lib.hid ho5; have B5 := Lib.hid (bl_trans B4.out hb5); have X5 := Lib.hid hb5; clear ho5 hb5))
  go_wp2_with (go_at_call 7; ((with_reducible refine (eqInts_same A3 A5 _ _ xs _ ((O3.out.below X4.out).below X5.out).rd O5.out.rd hn4).mono ?_); rintro e w6 ⟨rfl, hb6⟩))
  go_ret
  exact ⟨rfl, bl_trans B5.out hb6⟩

theorem walkSuitOrbit (A : Option Addr) (c : Nat) (xs : List Int) (w : World) (HT : Hid (Tz w.heap.size w)) (hm : xs.length ≤ maxLen) (hr : Rd w A xs) :
    Calls Tryd.prog 3 #[.slice A xs.length c] w (Fresh (.bool true) w) := by
  by_cases h : xs.length ≤ 1048576
  · exact walkSuitOrbit_in A c xs w HT hr h
  · exact walkSuitOrbit_big A c xs w HT hm (by omega)

theorem fnExactSuitOrbit_met (os : Os) (args : Array Value) : laidMetH Tryd.prog Rows.fnExactSuitOrbitRow.laid ((World.doorLaid Tryd.prog 400 os).forCall (fun _ _ => 0) ⟨#[], args, []⟩).memory :=
  laidMetH_of_parts3 (fuel := 8) (laidMet_of_run' 8 (by kernel_rfl) (by kernel_rfl)) (by kernel_rfl) (by kernel_rfl)

set_option maxRecDepth 100000 in
theorem fnExactSuitOrbit_lifted (os : Os) (started : os.Started) (H : Type) (enc : TypeId × Value → H) :
    ReturnsInHanded {} Tryd.checked os 3 .any (fun w args => (Rows.fnExactSuitOrbitSpec.pre enc Tryd.prog Tryd.f3 [] false w args ∧ laidMetH Tryd.prog Rows.fnExactSuitOrbitRow.laid w) ∧ sizedMet enc Tryd.prog Tryd.f3 (OpenSpec.ofChange Rows.fnExactSuitOrbitSpec) false w args)
      (Rows.fnExactSuitOrbitSpec.post enc Tryd.prog Tryd.f3 false true false false) := by
  refine law_lifted_laid started (by kernel_rfl) Tryd.func3 (by kernel_rfl) rfl (fun ds h => ?_) ?_
    (ChangeSpec.witness_shaped (enc := enc) (C := Tryd.checked) (os := os) (X := fun w _ => laidMetH Tryd.prog Rows.fnExactSuitOrbitRow.laid w) false (World.doorLaid Tryd.prog 400 os) #[.slice none 0 0] 8 rfl (World.shaped_of_RefB (by kernel_rfl) (by kernel_rfl)) (by kernel_rfl) (by kernel_rfl) (by kernel_rfl) (fnExactSuitOrbit_met os _)) ?_
  · match ds, h with
    | [d0], _ => rfl
  · rw [Tryd.params3]
    intro t ht
    obtain rfl : t = 22 := by simpa using ht
    exact ⟨by kernel_rfl, of_decide_eq_true (by kernel_rfl)⟩
  · intro W base args ds ps hval hA hL hSh
    rw [Tryd.params3] at hA hval
    obtain ⟨v0, d0, rfl, rfl, h0⟩ := trodAll_one hA
    obtain ⟨A0, c0, xs0, rfl, m0, r0⟩ := open_list (hval 0 22 v0 rfl rfl) h0
    rw [MakeChecks.laidMetH_plain _ _ _ (by kernel_rfl)] at hL
    exact walkSuitOrbit A0 c0 xs0 W (Lib.hid (tz_of hL)) m0 r0

theorem fnExactSuitOrbit_holds : Rows.FnExactSuitOrbitSaid :=
  OpenClaim.holds_of_wide 3 Tryd.f3 rfl rfl rfl rfl rfl rfl rfl ⟨rfl, rfl, rfl, rfl, rfl⟩ rfl rfl rfl rfl rfl (by kernel_rfl) Tryd.func3 (by kernel_rfl)
    (of_decide_eq_true (by kernel_rfl)) (by unfold Func.isWrapper; first | (rw [if_pos (by decide +kernel)]; kernel_rfl) | (rw [if_neg (by decide +kernel)]; exact ⟨rfl, rfl⟩))
    (fun os started H enc _ => fnExactSuitOrbit_lifted os started H enc)

/-- The tied card: SuitOrbit answers as its model, for every list. -/
theorem fnExactSuitOrbit_card : Rows.FnExactSuitOrbitCardSaid :=
  Claim7.holds_tied_plain_at .later [] [.data] true (true, "e3eba60464e1b7451cecf178ec1ad0934a7f99cca0c66d50d475147c15b0fc97") false
    fnExactSuitOrbit_holds (fun _ h => by cases h) (by kernel_rfl) (fun _ h => by cases h) fnExactSuitOrbit_row_tie rfl ⟨rfl, rfl⟩ (by kernel_rfl) rfl
    (fun f fn hf hfn => by
      obtain rfl : f = 3 := Option.some.inj ((show Tryd.prog.funcNamed "loop.example/g00910/laws.FnExactSuitOrbit" = some 3 by kernel_rfl).symm.trans hf) |>.symm
      obtain rfl : fn = Tryd.f3 := (Option.some.inj (Tryd.func3.symm.trans hfn)).symm
      exact ⟨by kernel_rfl, fun j t ht => by
        rw [Tryd.params3] at ht
        have hm : t ∈ [22] := by simpa using Array.mem_of_getElem? ht
        have hall : ([22].all fun u => !Tryd.prog.wantsStandIn u) = true := by kernel_rfl
        exact (show Tryd.prog.wantsStandIn t = false by simpa using List.all_eq_true.1 hall t hm)⟩)
    (by kernel_rfl)

end Go.Proofs.YtilbkgnjgmlhjabDoor
