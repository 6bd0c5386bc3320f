/-
  The card of the law FnExactCountCombos: it returns true for all two lists of numbers, and leaves the lists as they were: CountCombos answers as its model.
  Condition: the table math/bits.deBruijn64tab reads as the program lays it (the card ties it).
-/
import Derived.Test.YtjmfecjgomkofabDoorRngLive
import Derived.Test.YtjmfecjgomkofabDoorRngSpec
import Derived.Test.YtjmfecjgomkofabDoorMark
import Derived.Test.YtjmfecjgomkofabDoorTzLaid
import Derived.Test.YtjmfecjgomkofabDoorCards
import Derived.SevenTiedAt
import Derived.Lib.SmallJoins
namespace Go.Proofs.YtjmfecjgomkofabDoor
open Go.ChangeShapes Go.WideShapes Go.ChangeAt Go.RowKit Go.Joins
set_option linter.unusedVariables false

set_option maxRecDepth 100000 in
set_option maxHeartbeats 400000 in
theorem walkCountCombos_big (A : Option Addr) (c : Nat) (xs : List Int) (E : Option Addr) (d : Nat) (ys : List Int) (w : World) (hm : xs.length ≤ maxLen) (hm2 : ys.length ≤ maxLen) (hx : 1048576 < xs.length) :
    Calls Tryd.prog 7 #[.slice A xs.length c, .slice E ys.length d] w (Fresh (.bool true) w) := by
  unfold maxLen at hm hm2
  have h' : (1048576 : Int) < xs.length := by omega
  go_enter Tryd.func7, Tryd.ntmps7
  go_wp2_with fail
  go_ret
  exact ⟨rfl, bl_refl _⟩
set_option maxRecDepth 100000 in
set_option maxHeartbeats 400000 in
theorem walkCountCombos_big2 (A : Option Addr) (c : Nat) (xs : List Int) (E : Option Addr) (d : Nat) (ys : List Int) (w : World) (hm : xs.length ≤ 1048576) (hm2 : ys.length ≤ maxLen) (hx : 1048576 < ys.length) :
    Calls Tryd.prog 7 #[.slice A xs.length c, .slice E ys.length d] w (Fresh (.bool true) w) := by
  unfold maxLen at hm2
  have h' : (1048576 : Int) < ys.length := by omega
  have h2' : (xs.length : Int) ≤ 1048576 := by omega
  go_enter Tryd.func7, Tryd.ntmps7
  go_wp2_with fail
  go_ret
  exact ⟨rfl, bl_refl _⟩

set_option maxRecDepth 100000 in
set_option maxHeartbeats 4000000 in
theorem walkCountCombos_in (A : Option Addr) (c : Nat) (xs : List Int) (E : Option Addr) (d : Nat) (ys : List Int) (w : World) (HT : Hid (Tz w.heap.size w)) (hr : Rd w A xs) (hn : xs.length ≤ 1048576) (hr2 : Rd w E ys) (hn2 : ys.length ≤ 1048576) :
    Calls Tryd.prog 7 #[.slice A xs.length c, .slice E ys.length d] w (Fresh (.bool true) w) := by
  have HR := Lib.hid hr
  have HQ := Lib.hid hr2
  have hn4 : xs.length ≤ 4000000 := by omega
  have hm4 : ys.length ≤ 4000000 := by omega
  have hn' : (xs.length : Int) ≤ 1048576 := by omega
  have hm' : (ys.length : Int) ≤ 1048576 := by omega
  have B0 := Lib.hid (bl_refl w)
  obtain ⟨p, q, K1, K2⟩ : ∃ (p q : Int), Hid (∀ (A : Option Addr) (c : Nat) (E : Option Addr) (d : Nat) (W : World), Rd W A xs → Rd W E ys → Calls Tryd.prog 31 #[.slice A xs.length c, .slice E ys.length d] W (Fresh (pairV p q) W)) ∧ Hid (∀ (A : Option Addr) (c : Nat) (E : Option Addr) (d : Nat) (W : World), Rd W A xs → Rd W E ys → Below w.heap.size w W → Calls Tryd.prog 32 #[.slice A xs.length c, .slice E ys.length d] W (Fresh (pairV p q) W)) :=
    ⟨_, _, Lib.hid (fun A c E d W h h2 => specCountCombos_any A c xs E d ys W h h2 hn4 hm4), Lib.hid (fun A c E d W h h2 hb => implCountCombos_any A c xs E d ys w.heap.size w W h h2 hn4 hm4 HT (Lib.hid hb) (Lib.hid hb.size))⟩
  clear hr hr2
  go_enter Tryd.func7, Tryd.ntmps7
  go_wp2_with (go_at_call 24; ((with_reducible refine (toInts_any A _ xs _ (HR.out.below B0.out) hn).mono ?_); rintro e w1 ⟨A1, c1, rfl, ho1, hb1⟩; have O1 := Lib.hid ho1; have B1 := Lib.hid (bl_trans B0.out hb1); have X1 := Lib.hid hb1; clear ho1 hb1))
  go_wp2_with (go_at_call 24; ((with_reducible refine (toInts_any E _ ys _ (HQ.out.below B1.out) hn2).mono ?_); rintro e w2 ⟨A2, c2, rfl, ho2, hb2⟩; have O2 := Lib.hid ho2; have B2 := Lib.hid (bl_trans B1.out hb2); have X2 := Lib.hid hb2; clear ho2 hb2))
  go_wp2_with (go_at_call 31; ((with_reducible refine (K1.out A1 _ A2 _ _ (O1.out.below X2.out).rd O2.out.rd).mono ?_); rintro e w3 ⟨rfl, hb3⟩; have B3 := Lib.hid (bl_trans B2.out hb3); clear hb3))
  go_wp2_with (go_at_call 24; ((with_reducible refine (toInts_any A _ xs _ (HR.out.below B3.out) hn).mono ?_); rintro e w4 ⟨A4, c4, rfl, ho4, hb4⟩; have O4 := Lib.hid ho4; have B4 := Lib.hid (bl_trans B3.out hb4); have X4 := Lib.hid hb4; clear ho4 hb4))
  go_wp2_with (go_at_call 24; ((with_reducible refine (toInts_any E _ ys _ (HQ.out.below B4.out) hn2).mono ?_); rintro e w5 ⟨A5, c5, rfl, ho5, hb5⟩; have O5 := Lib.hid ho5; have B5 := Lib.hid (bl_trans B4.out hb5); have X5 := Lib.hid hb5; clear ho5 hb5))
  go_wp2_with (go_at_call 32; ((with_reducible refine (K2.out A4 _ A5 _ _ (O4.out.below X5.out).rd O5.out.rd B5.out).mono ?_); rintro e w6 ⟨rfl, hb6⟩; have X6 := Lib.hid hb6; have B6 := Lib.hid (bl_trans B5.out hb6); clear hb6))
  go_wp2_with (go_at_call 24; ((with_reducible refine (toInts_any A _ xs _ (HR.out.below B6.out) hn).mono ?_); rintro e w7 ⟨A7, c7, rfl, ho7, hb7⟩; have O7 := Lib.hid ho7; have B7 := Lib.hid (bl_trans B6.out hb7); have X7 := Lib.hid hb7; clear ho7 hb7))
  go_wp2_with (go_at_call 26; ((with_reducible refine (eqInts_same A4 A7 _ _ xs _ (((O4.out.below X5.out).below X6.out).below X7.out).rd O7.out.rd hn4).mono ?_); rintro e w8 ⟨rfl, hb8⟩; have X8 := Lib.hid hb8; have B8 := Lib.hid (bl_trans B7.out hb8); clear hb8))
  go_wp2_with (go_at_call 24; ((with_reducible refine (toInts_any E _ ys _ (HQ.out.below B8.out) hn2).mono ?_); rintro e w9 ⟨A9, c9, rfl, ho9, hb9⟩; have O9 := Lib.hid ho9; have B9 := Lib.hid (bl_trans B8.out hb9); have X9 := Lib.hid hb9; clear ho9 hb9))
  go_wp2_with (go_at_call 26; ((with_reducible refine (eqInts_same A5 A9 _ _ ys _ ((((O5.out.below X6.out).below X7.out).below X8.out).below X9.out).rd O9.out.rd hm4).mono ?_); rintro e w10 ⟨rfl, hb10⟩))
  go_ret
  exact ⟨rfl, bl_trans B9.out hb10⟩

theorem walkCountCombos (A : Option Addr) (c : Nat) (xs : List Int) (E : Option Addr) (d : Nat) (ys : List Int) (w : World) (HT : Hid (Tz w.heap.size w)) (hm : xs.length ≤ maxLen) (hr : Rd w A xs) (hm2 : ys.length ≤ maxLen) (hr2 : Rd w E ys) :
    Calls Tryd.prog 7 #[.slice A xs.length c, .slice E ys.length d] w (Fresh (.bool true) w) := by
  by_cases hx : xs.length ≤ 1048576
  · by_cases h2 : ys.length ≤ 1048576
    · exact walkCountCombos_in A c xs E d ys w HT hr hx hr2 h2
    · exact walkCountCombos_big2 A c xs E d ys w hx hm2 (by omega)
  · exact walkCountCombos_big A c xs E d ys w hm hm2 (by omega)

theorem fnExactCountCombos_met (os : Os) (args : Array Value) : laidMetH Tryd.prog Rows.fnExactCountCombosRow.laid ((World.doorLaid Tryd.prog 400 os).forCall (fun _ _ => 0) ⟨#[], args, []⟩).memory :=
  laidMetH_of_parts3 (fuel := 8) (laidMet_of_run' 8 (by kernel_rfl) (by kernel_rfl)) (by kernel_rfl) (by kernel_rfl)

set_option maxRecDepth 100000 in
theorem fnExactCountCombos_lifted (os : Os) (started : os.Started) (H : Type) (enc : TypeId × Value → H) :
    ReturnsInHanded {} Tryd.checked os 7 .any (fun w args => (Rows.fnExactCountCombosSpec.pre enc Tryd.prog Tryd.f7 [] false w args ∧ laidMetH Tryd.prog Rows.fnExactCountCombosRow.laid w) ∧ sizedMet enc Tryd.prog Tryd.f7 (OpenSpec.ofChange Rows.fnExactCountCombosSpec) false w args)
      (Rows.fnExactCountCombosSpec.post enc Tryd.prog Tryd.f7 false true false false) := by
  refine law_lifted_laid started (by kernel_rfl) Tryd.func7 (by kernel_rfl) rfl (fun ds h => ?_) ?_
    (ChangeSpec.witness_shaped (enc := enc) (C := Tryd.checked) (os := os) (X := fun w _ => laidMetH Tryd.prog Rows.fnExactCountCombosRow.laid w) false (World.doorLaid Tryd.prog 400 os) #[.slice none 0 0, .slice none 0 0] 8 rfl (World.shaped_of_RefB (by kernel_rfl) (by kernel_rfl)) (by kernel_rfl) (by kernel_rfl) (by kernel_rfl) (fnExactCountCombos_met os _)) ?_
  · match ds, h with
    | [d0, d1], _ => rfl
  · rw [Tryd.params7]
    intro t ht
    obtain rfl : t = 24 := by simpa using ht
    exact ⟨by kernel_rfl, of_decide_eq_true (by kernel_rfl)⟩
  · intro W base args ds ps hval hA hL hSh
    rw [Tryd.params7] at hA hval
    obtain ⟨v0, v1, d0, d1, p0, p1, rfl, rfl, rfl, h0, h1⟩ := trodAll_two hA
    obtain ⟨A0, c0, xs0, rfl, m0, r0⟩ := open_list (hval 0 24 v0 rfl rfl) h0
    obtain ⟨A1, c1, xs1, rfl, m1, r1⟩ := open_list (hval 1 24 v1 rfl rfl) h1
    rw [MakeChecks.laidMetH_plain _ _ _ (by kernel_rfl)] at hL
    exact walkCountCombos A0 c0 xs0 A1 c1 xs1 W (Lib.hid (tz_of hL)) m0 r0 m1 r1

theorem fnExactCountCombos_holds : Rows.FnExactCountCombosSaid :=
  OpenClaim.holds_of_wide 7 Tryd.f7 rfl rfl rfl rfl rfl rfl rfl ⟨rfl, rfl, rfl, rfl, rfl⟩ rfl rfl rfl rfl rfl (by kernel_rfl) Tryd.func7 (by kernel_rfl)
    (of_decide_eq_true (by kernel_rfl)) (by unfold Func.isWrapper; first | (rw [if_pos (by decide +kernel)]; kernel_rfl) | (rw [if_neg (by decide +kernel)]; exact ⟨rfl, rfl⟩))
    (fun os started H enc _ => fnExactCountCombos_lifted os started H enc)

/-- The tied card: CountCombos answers as its model, for all two lists. -/
theorem fnExactCountCombos_card : Rows.FnExactCountCombosCardSaid :=
  Claim7.holds_tied_plain_at .later [] [.data] true (true, "bc26f97cd89a4ca2f3e239068703a34373eebc1043810bf7239c68db41b7c6ca") false
    fnExactCountCombos_holds (fun _ h => by cases h) (by kernel_rfl) (fun _ h => by cases h) fnExactCountCombos_row_tie rfl ⟨rfl, rfl⟩ (by kernel_rfl) rfl
    (fun f fn hf hfn => by
      obtain rfl : f = 7 := Option.some.inj ((show Tryd.prog.funcNamed "loop.example/g00910/laws.FnExactCountCombos" = some 7 by kernel_rfl).symm.trans hf) |>.symm
      obtain rfl : fn = Tryd.f7 := (Option.some.inj (Tryd.func7.symm.trans hfn)).symm
      exact ⟨by kernel_rfl, fun j t ht => by
        rw [Tryd.params7] at ht
        have hm : t ∈ [24, 24] := by simpa using Array.mem_of_getElem? ht
        have hall : ([24, 24].all fun u => !Tryd.prog.wantsStandIn u) = true := by kernel_rfl
        exact (show Tryd.prog.wantsStandIn t = false by simpa using List.all_eq_true.1 hall t hm)⟩)
    (by kernel_rfl)

end Go.Proofs.YtjmfecjgomkofabDoor
