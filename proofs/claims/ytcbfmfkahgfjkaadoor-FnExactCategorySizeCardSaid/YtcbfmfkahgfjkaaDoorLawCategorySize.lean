/-
  The card of the law FnExactCategorySize: it returns true for every number: CategorySize answers as its model.
  Condition: the variable impl.lowestStraight reads as the program lays it (the card ties it).
-/
import Derived.Test.YtcbfmfkahgfjkaaDoorCatFns
import Derived.Test.YtcbfmfkahgfjkaaDoorVarsFrame
import Derived.Test.YtcbfmfkahgfjkaaDoorCards
import Derived.SevenTiedAt
import Derived.Lib.SmallJoins
namespace Go.Proofs.YtcbfmfkahgfjkaaDoor
open Go.ChangeShapes Go.WideShapes Go.ChangeAt Go.RowKit Go.Joins
set_option linter.unusedVariables false

set_option maxRecDepth 100000 in
set_option maxHeartbeats 400000 in
theorem walkCategorySize (n : Int) (w : World) : Calls Tryd.prog 10 #[.int .i64 n] w (Fresh (.bool true) w) := by
  have K1 := Lib.hid (fun W => specCategorySize_any n W)
  have K2 := Lib.hid (fun W => implCategorySize_any n W)
  generalize sizeR n = s at *
  generalize codeS n = z at *
  go_enter Tryd.func10, Tryd.ntmps10
  go_wp2_with (first
    | (go_at_call 32; refine (K1.out _).mono ?_; rintro e w1 ⟨rfl, hb1⟩; have B1 := Lib.hid hb1; clear hb1)
    | (go_at_call 33; refine (K2.out _).mono ?_; rintro e w2 ⟨rfl, hb2⟩; have B2 := Lib.hid (bl_trans B1.out hb2); clear hb2))
  go_ret
  exact ⟨rfl, B2.out⟩

theorem fnExactCategorySize_met (os : Os) (args : Array Value) : laidMetH Tryd.prog Rows.fnExactCategorySizeRow.laid ((World.doorLaid Tryd.prog 400 os).forCall (fun _ _ => 0) ⟨#[], args, []⟩).memory :=
  laidMetH_of_parts3 (fuel := 8) (laidMet_of_run' 8 (by kernel_rfl) (by kernel_rfl)) (by kernel_rfl) (by kernel_rfl)

set_option maxRecDepth 100000 in
theorem fnExactCategorySize_lifted (os : Os) (started : os.Started) (H : Type) (enc : TypeId × Value → H) :
    ReturnsInHanded {} Tryd.checked os 10 .any (fun w args => (Rows.fnExactCategorySizeSpec.pre enc Tryd.prog Tryd.f10 [] false w args ∧ laidMetH Tryd.prog Rows.fnExactCategorySizeRow.laid w) ∧ sizedMet enc Tryd.prog Tryd.f10 (OpenSpec.ofChange Rows.fnExactCategorySizeSpec) false w args)
      (Rows.fnExactCategorySizeSpec.post enc Tryd.prog Tryd.f10 false true false false) := by
  refine law_lifted_vars started (by kernel_rfl) Tryd.func10 (by kernel_rfl) (by kernel_rfl) (fun ds gs h hg => ?_) ?_
    (ChangeSpec.witness_shaped (enc := enc) (C := Tryd.checked) (os := os) (X := fun w _ => laidMetH Tryd.prog Rows.fnExactCategorySizeRow.laid w) false (World.doorLaid Tryd.prog 400 os) #[.int .i64 0] 8 rfl (World.shaped_of_RefB (by kernel_rfl) (by kernel_rfl)) (by kernel_rfl) (by kernel_rfl) (by kernel_rfl) (fnExactCategorySize_met os _)) ?_
  · match ds, h, gs, hg with
    | [d0], _, [g0], _ => rfl
  · rw [Tryd.params10]
    intro t ht
    obtain rfl : t = 2 := by simpa using ht
    exact ⟨by kernel_rfl, of_decide_eq_true (by kernel_rfl)⟩
  · intro W base args ds ps hval hA hL hSh
    rw [Tryd.params10] at hA hval
    obtain ⟨v0, d0, rfl, rfl, h0⟩ := trodAll_one hA
    obtain ⟨n0, rfl, rfl, rfl, wa0⟩ := open_int Tryd.underlying2 (hval 0 2 v0 rfl rfl) h0
    rw [MakeChecks.laidMetH_plain _ _ _ (by kernel_rfl)] at hL
    exact walkCategorySize n0 W

theorem fnExactCategorySize_holds : Rows.FnExactCategorySizeSaid :=
  OpenClaim.holds_of_wide 10 Tryd.f10 rfl rfl rfl rfl rfl rfl rfl ⟨rfl, rfl, rfl, rfl, rfl⟩ rfl rfl rfl rfl rfl (by kernel_rfl) Tryd.func10 (by kernel_rfl)
    (of_decide_eq_true (by kernel_rfl)) (by unfold Func.isWrapper; first | (rw [if_pos (by decide +kernel)]; kernel_rfl) | (rw [if_neg (by decide +kernel)]; exact ⟨rfl, rfl⟩))
    (fun os started H enc _ => fnExactCategorySize_lifted os started H enc)

/-- The tied card: CategorySize answers as its model, for every number. -/
theorem fnExactCategorySize_card : Rows.FnExactCategorySizeCardSaid :=
  Claim7.holds_tied_plain_at .later [] [.data] true (true, "cdedf4f819e83a200a0450c4a0ed4964fb591e67028366a9d6f5d35e8d381f9b") false
    fnExactCategorySize_holds (fun _ h => by cases h) (by kernel_rfl) (fun _ h => by cases h) fnExactCategorySize_row_tie rfl ⟨rfl, rfl⟩ (by kernel_rfl) rfl
    (fun f fn hf hfn => by
      obtain rfl : f = 10 := Option.some.inj ((show Tryd.prog.funcNamed "loop.example/g00910/laws.FnExactCategorySize" = some 10 by kernel_rfl).symm.trans hf) |>.symm
      obtain rfl : fn = Tryd.f10 := (Option.some.inj (Tryd.func10.symm.trans hfn)).symm
      exact ⟨by kernel_rfl, fun j t ht => by
        rw [Tryd.params10] at ht
        have hm : t ∈ [2] := by simpa using Array.mem_of_getElem? ht
        have hall : ([2].all fun u => !Tryd.prog.wantsStandIn u) = true := by kernel_rfl
        exact (show Tryd.prog.wantsStandIn t = false by simpa using List.all_eq_true.1 hall t hm)⟩)
    (by kernel_rfl)

end Go.Proofs.YtcbfmfkahgfjkaaDoor
