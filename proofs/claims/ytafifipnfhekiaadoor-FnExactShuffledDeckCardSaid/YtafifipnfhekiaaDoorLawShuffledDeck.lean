/-
  The card of the law FnExactShuffledDeck: it returns true for every number: ShuffledDeck answers as its model, in new memory.
  Condition: the table math/bits.deBruijn64tab reads as the program lays it (the card ties it).
-/
import Derived.Test.YtafifipnfhekiaaDoorShufImpl
import Derived.Test.YtafifipnfhekiaaDoorTzLaid
import Derived.Test.YtafifipnfhekiaaDoorCards
import Derived.SevenTiedAt
import Derived.Lib.SmallJoins
import Derived.OpenShut
namespace Go.Proofs.YtafifipnfhekiaaDoor
open Go.ChangeShapes Go.WideShapes Go.ChangeAt Go.RowKit Go.Joins
set_option linter.unusedVariables false

set_option maxRecDepth 100000 in
set_option maxHeartbeats 2000000 in
theorem walkShuffled (n : Int) (w : World) (HT : Hid (Tz w.heap.size w)) : Calls Tryd.prog 4 #[.int .i64 n] w (Fresh (.bool true) w) := by
  have B0 := Lib.hid (bl_refl w)
  obtain ⟨ys, ky, hyl, K1, K2⟩ : ∃ (ys : List Int) (ky : Int), ys.length ≤ 4000000 ∧ Hid (∀ W : World, Calls Tryd.prog 8 #[.int .i64 n] W (NewRC ys ky W)) ∧ Hid (∀ W : World, Below w.heap.size w W → Calls Tryd.prog 7 #[.int .i64 n] W (NewRC ys ky W)) :=
    ⟨_, _, Nat.le_trans (shufR_len n) (by omega), Lib.hid (fun W => specShufDeck_any n W), Lib.hid (fun W hb => implShufDeck_any n w.heap.size w W HT (Lib.hid hb) (Lib.hid hb.size))⟩
  have k2 : decide ((1 : Int) + (ys.length : Int) < 0) = false := by simp; omega
  go_enter Tryd.func4, Tryd.ntmps4
  go_wp2_with (go_at_call 8; ((with_reducible refine (K1.out _).mono ?_); rintro e w1 ⟨A1, c1, rfl, ho1, hb1⟩; have O1 := Lib.hid ho1; have X1 := Lib.hid hb1; have B1 := Lib.hid (bl_trans B0.out hb1); clear ho1 hb1))
  go_wp2_with (go_at_call 7; ((with_reducible refine (K2.out _ B1.out).mono ?_); rintro e w2 ⟨A2, c2, rfl, ho2, hb2⟩; have O2 := Lib.hid ho2; have X2 := Lib.hid hb2; have B2 := Lib.hid (bl_trans B1.out hb2); clear ho2 hb2))
  go_wp2_with (go_at_call 17; ((with_reducible refine (eqInts_same A2 A1 _ _ ys _ O2.out.rd (O1.out.below X2.out).rd hyl).mono ?_); rintro e w3 ⟨rfl, hb3⟩; have X3 := Lib.hid hb3; have B3 := Lib.hid (bl_trans B2.out hb3); clear hb3))
  have D3 := Lib.hid ((O1.out.below X2.out).below X3.out)
  have G3 := Lib.hid (O2.out.below X3.out)
  have N3 : Hid (∀ a, A1 = some a → some a.block ≠ (Value.slice A2 ys.length c2).ownBlock) := Lib.hid (row_ne O1.out G3.out (Nat.le_refl _))
  go_wp2_with (go_at_call 18; ((with_reducible refine (markRow_any A2 c2 _ ys _ _ G3.out hyl (by omega) (by omega)).mono ?_); rintro e w4 ⟨rfl, ho4, hg4⟩; have B4 := Lib.hid (bl_markR B3.out hg4 G3.out B1.out.size); have D4 := Lib.hid (D3.out.grown hg4 N3.out); have G4 := Lib.hid ho4; clear ho4 hg4))
  go_wp2_with (go_at_call 19; ((with_reducible refine (held_any A2 c2 1 ys.length _ G4.out.rd hyl (by omega) (by omega)).mono ?_); rintro e w5 ⟨rfl, rfl⟩))
  go_wp2_with (go_at_call 7; ((with_reducible refine (K2.out _ B4.out).mono ?_); rintro e w6 ⟨A6, c6, rfl, ho6, hb6⟩; have O6 := Lib.hid ho6; have X6 := Lib.hid hb6; have B6 := Lib.hid (bl_trans B4.out hb6); clear ho6 hb6))
  go_wp2_with (go_at_call 17; ((with_reducible refine (eqInts_same A6 A1 _ _ ys _ O6.out.rd (D4.out.below X6.out).rd hyl).mono ?_); rintro e w7 ⟨rfl, hb7⟩; have X7 := Lib.hid hb7; have B7 := Lib.hid (bl_trans B6.out hb7); clear hb7))
  have G7 := Lib.hid ((G4.out.below X6.out).below X7.out)
  go_wp2_with (go_at_call 19; ((with_reducible refine (held_any A2 c2 1 ys.length _ G7.out.rd hyl (by omega) (by omega)).mono ?_); rintro e w8 ⟨rfl, rfl⟩))
  go_ret
  exact ⟨rfl, B7.out⟩

theorem fnExactShuffledDeck_met (os : Os) (args : Array Value) : laidMetH Tryd.prog Rows.fnExactShuffledDeckRow.laid ((World.doorLaid Tryd.prog 400 os).forCall (fun _ _ => 0) ⟨#[], args, []⟩).memory :=
  laidMetH_of_parts3 (fuel := 8) (laidMet_of_run' 8 (by kernel_rfl) (by kernel_rfl)) (by kernel_rfl) (by kernel_rfl)

set_option maxRecDepth 100000 in
theorem fnExactShuffledDeck_lifted (os : Os) (started : os.Started) (H : Type) (enc : TypeId × Value → H) :
    ReturnsInHanded {} Tryd.checked os 4 .any (fun w args => (Rows.fnExactShuffledDeckSpec.pre enc Tryd.prog Tryd.f4 [] false w args ∧ laidMetH Tryd.prog Rows.fnExactShuffledDeckRow.laid w) ∧ sizedMet enc Tryd.prog Tryd.f4 (OpenSpec.ofChange Rows.fnExactShuffledDeckSpec) false w args)
      (Rows.fnExactShuffledDeckSpec.post enc Tryd.prog Tryd.f4 false true false false) := by
  refine law_lifted_laid started (by kernel_rfl) Tryd.func4 (by kernel_rfl) rfl (fun ds h => ?_) ?_
    (ChangeSpec.witness_shaped (enc := enc) (C := Tryd.checked) (os := os) (X := fun w _ => laidMetH Tryd.prog Rows.fnExactShuffledDeckRow.laid w) false (World.doorLaid Tryd.prog 400 os) #[.int .i64 0] 8 rfl (World.shaped_of_RefB (by kernel_rfl) (by kernel_rfl)) (by kernel_rfl) (by kernel_rfl) (by kernel_rfl) (fnExactShuffledDeck_met os _)) ?_
  · match ds, h with
    | [d0], _ => rfl
  · rw [Tryd.params4]
    intro t ht
    obtain rfl : t = 2 := by simpa using ht
    exact ⟨by kernel_rfl, of_decide_eq_true (by kernel_rfl)⟩
  · intro W base args ds ps hval hA hL hSh
    rw [Tryd.params4] at hA hval
    obtain ⟨v0, d0, rfl, rfl, h0⟩ := trodAll_one hA
    obtain ⟨n0, rfl, rfl, rfl, wa0⟩ := open_int Tryd.underlying2 (hval 0 2 v0 rfl rfl) h0
    rw [MakeChecks.laidMetH_plain _ _ _ (by kernel_rfl)] at hL
    exact walkShuffled n0 W (Lib.hid (tz_of hL))

theorem fnExactShuffledDeck_holds : Rows.FnExactShuffledDeckSaid :=
  OpenClaim.holds_of_wide 4 Tryd.f4 rfl rfl rfl rfl rfl rfl rfl ⟨rfl, rfl, rfl, rfl, rfl⟩ rfl rfl rfl rfl rfl (by kernel_rfl) Tryd.func4 (by kernel_rfl)
    (of_decide_eq_true (by kernel_rfl)) (by unfold Func.isWrapper; first | (rw [if_pos (by decide +kernel)]; kernel_rfl) | (rw [if_neg (by decide +kernel)]; exact ⟨rfl, rfl⟩))
    (fun os started H enc _ => fnExactShuffledDeck_lifted os started H enc)

/-- The tied card: ShuffledDeck answers as its model, for every number. -/
theorem fnExactShuffledDeck_card : Rows.FnExactShuffledDeckCardSaid :=
  Claim7.holds_tied_plain_at .later [] [.data] true (true, "8489bdf19e18a70905e66c0d58836eb3e758bf3a29a96d5d109d035ab782f435") false
    fnExactShuffledDeck_holds (fun _ h => by cases h) (by kernel_rfl) (fun _ h => by cases h) fnExactShuffledDeck_row_tie rfl ⟨rfl, rfl⟩ (by kernel_rfl) rfl
    (fun f fn hf hfn => by
      obtain rfl : f = 4 := Option.some.inj ((show Tryd.prog.funcNamed "loop.example/g00910/laws.FnExactShuffledDeck" = some 4 by kernel_rfl).symm.trans hf) |>.symm
      obtain rfl : fn = Tryd.f4 := (Option.some.inj (Tryd.func4.symm.trans hfn)).symm
      exact ⟨by kernel_rfl, fun j t ht => by
        rw [Tryd.params4] at ht
        have hm : t ∈ [2] := by simpa using Array.mem_of_getElem? ht
        have hall : ([2].all fun u => !Tryd.prog.wantsStandIn u) = true := by kernel_rfl
        exact (show Tryd.prog.wantsStandIn t = false by simpa using List.all_eq_true.1 hall t hm)⟩)
    (by kernel_rfl)

end Go.Proofs.YtafifipnfhekiaaDoor
