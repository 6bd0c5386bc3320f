/-
  The card of the law FnClasses: it returns true for every code, and leaves it as it was: each two cards are a combination of their class, and a class is recovered from its text.
  Condition: the table math/bits.deBruijn64tab reads as the program lays it (the card ties it).
-/
import Derived.Test.YtjmfecjgomkofaaDoorWalkClasses
import Derived.Test.YtjmfecjgomkofaaDoorTzLaid
import Derived.Test.YtjmfecjgomkofaaDoorCards
import Derived.SevenTiedAt
import Derived.Lib.SmallJoins
namespace Go.Proofs.YtjmfecjgomkofaaDoor
open Go.ChangeShapes Go.WideShapes Go.ChangeAt Go.RowKit Go.Joins
set_option linter.unusedVariables false

theorem fnClasses_met (os : Os) (args : Array Value) : laidMetH Tryd.prog Rows.fnClassesRow.laid ((World.doorLaid Tryd.prog 400 os).forCall (fun _ _ => 0) ⟨#[], args, []⟩).memory :=
  laidMetH_of_parts3 (fuel := 8) (laidMet_of_run' 8 (by kernel_rfl) (by kernel_rfl)) (by kernel_rfl) (by kernel_rfl)

set_option maxRecDepth 100000 in
theorem fnClasses_lifted (os : Os) (started : os.Started) (H : Type) (enc : TypeId × Value → H) :
    ReturnsInHanded {} Tryd.checked os 3 .any (fun w args => (Rows.fnClassesSpec.pre enc Tryd.prog Tryd.f3 [] false w args ∧ laidMetH Tryd.prog Rows.fnClassesRow.laid w) ∧ sizedMet enc Tryd.prog Tryd.f3 (OpenSpec.ofChange Rows.fnClassesSpec) false w args)
      (Rows.fnClassesSpec.post enc Tryd.prog Tryd.f3 false true false false) := by
  refine law_lifted_laid started (by kernel_rfl) Tryd.func3 (by kernel_rfl) rfl (fun ds h => ?_) ?_
    (ChangeSpec.witness_shaped (enc := enc) (C := Tryd.checked) (os := os) (X := fun w _ => laidMetH Tryd.prog Rows.fnClassesRow.laid w) false (World.doorLaid Tryd.prog 400 os) #[.slice none 0 0] 8 rfl (World.shaped_of_RefB (by kernel_rfl) (by kernel_rfl)) (by kernel_rfl) (by kernel_rfl) (by kernel_rfl) (fnClasses_met os _)) ?_
  · match ds, h with
    | [d0], _ => rfl
  · rw [Tryd.params3]
    intro t ht
    obtain rfl : t = 22 := by simpa using ht
    exact ⟨by kernel_rfl, of_decide_eq_true (by kernel_rfl)⟩
  · intro W base args ds ps hval hA hL hSh
    rw [Tryd.params3] at hA hval
    obtain ⟨v0, d0, rfl, rfl, h0⟩ := trodAll_one hA
    obtain ⟨A0, L0, c0, zs0, rfl, m0, r0⟩ := open_code (hval 0 22 v0 rfl rfl) h0
    rw [MakeChecks.laidMetH_plain _ _ _ (by kernel_rfl)] at hL
    exact walkClasses A0 L0 c0 zs0 W (Lib.hid (tz_of hL)) m0 r0

theorem fnClasses_holds : Rows.FnClassesSaid :=
  OpenClaim.holds_of_wide 3 Tryd.f3 rfl rfl rfl rfl rfl rfl rfl ⟨rfl, rfl, rfl, rfl, rfl⟩ rfl rfl rfl rfl rfl (by kernel_rfl) Tryd.func3 (by kernel_rfl)
    (of_decide_eq_true (by kernel_rfl)) (by unfold Func.isWrapper; first | (rw [if_pos (by decide +kernel)]; kernel_rfl) | (rw [if_neg (by decide +kernel)]; exact ⟨rfl, rfl⟩))
    (fun os started H enc _ => fnClasses_lifted os started H enc)

/-- The tied card: each two cards are a combination of their class, and a class is recovered from its text: for every code. -/
theorem fnClasses_card : Rows.FnClassesCardSaid :=
  Claim7.holds_tied_plain_at .later [] [.data] true (true, "a8603a176790aca1c791aedb39bf18ef16ea5003f7d494b22a8f8a53df01d933") false
    fnClasses_holds (fun _ h => by cases h) (by kernel_rfl) (fun _ h => by cases h) fnClasses_row_tie rfl ⟨rfl, rfl⟩ (by kernel_rfl) rfl
    (fun f fn hf hfn => by
      obtain rfl : f = 3 := Option.some.inj ((show Tryd.prog.funcNamed "loop.example/g00910/laws.FnClasses" = some 3 by kernel_rfl).symm.trans hf) |>.symm
      obtain rfl : fn = Tryd.f3 := (Option.some.inj (Tryd.func3.symm.trans hfn)).symm
      exact ⟨by kernel_rfl, fun j t ht => by
        rw [Tryd.params3] at ht
        have hm : t ∈ [22] := by simpa using Array.mem_of_getElem? ht
        have hall : ([22].all fun u => !Tryd.prog.wantsStandIn u) = true := by kernel_rfl
        exact (show Tryd.prog.wantsStandIn t = false by simpa using List.all_eq_true.1 hall t hm)⟩)
    (by kernel_rfl)

end Go.Proofs.YtjmfecjgomkofaaDoor
