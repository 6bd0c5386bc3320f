/-
  The card of the law FnExactRatioText: it returns true for every ratio, and leaves it as it was: RatioText answers as its model.
  Condition: the library's tables of powers of ten and of bits read as the program's text lays them (the card ties them).
-/
import Derived.Test.YtohhjcnkbifdbaaDoorLaidFrame
import Derived.Test.YtohhjcnkbifdbaaDoorText
import Derived.Test.YtohhjcnkbifdbaaDoorRatioArg
import Derived.Test.YtohhjcnkbifdbaaDoorCards
import Derived.SevenTiedAt
namespace Go.Proofs.YtohhjcnkbifdbaaDoor
open Go.ChangeShapes Go.WideShapes Go.ChangeAt Go.RowKit Go.Joins
set_option linter.unusedVariables false

theorem gPow : Tryd.prog.globalNamed "internal/strconv.uint64pow10" = some 0 := by kernel_rfl
theorem pow_data : (Rows.laid_internal_strconv_uint64pow10 : DataW Unit) = Lib.tabData .u64 Lib.pow10Tab := rfl
/-- The table of powers of ten stands third on each row's list. -/
theorem pow10_of {W : World} {a b : String × DataW Unit} {r : List (String × DataW Unit)} (h : laidMet Tryd.prog (a :: b :: ("internal/strconv.uint64pow10", Rows.laid_internal_strconv_uint64pow10) :: r) W) : Pow10 W.heap.size W := by
  have h1 := h.tail.tail
  rw [pow_data] at h1
  exact Lib.tabBelow_of_tabIs (Lib.tabIs_of_head gPow (by kernel_rfl) Tryd.underlying86 Tryd.underlying70 (by kernel_rfl) (by kernel_rfl) h1)

set_option maxRecDepth 100000 in
set_option maxHeartbeats 400000 in
theorem walkText (n d : Int) (w : World) (B : Nat) (htab : Hid (Pow10 B w)) (hB : B ≤ w.heap.size) :
    Calls Tryd.prog 4 #[.agg #[.int .i64 n, .int .i64 d]] w (Fresh (.bool true) w) := by
  have K := Lib.hid (fun (W : World) (hb : Below w.heap.size w W) => implText_any n d W B (htab.out.on (hb.mono hB)) (Nat.le_trans hB hb.size))
  go_enter Tryd.func4, Tryd.ntmps4
  go_wp2_with (go_at_call 20; refine (toRatio_any _ _ _).mono ?_; rintro e w1 ⟨rfl, hb1⟩; have S1 := box_call (box_new w n d _) hb1; have H1 := Lib.hid S1)
  go_wp2_with (go_at_call 18; refine (specText_any _ _ _).mono ?_; rintro e w2 ⟨rfl, hb2⟩; have S2 := box_call H1.out hb2; clear S1; have H2 := Lib.hid S2)
  go_wp2_with (go_at_call 20; refine (toRatio_any _ _ _).mono ?_; rintro e w3 ⟨rfl, hb3⟩; have S3 := box_call H2.out hb3; clear S2; have H3 := Lib.hid S3)
  go_wp2_with (go_at_call 8; refine (K.out _ H3.out.2.2).mono ?_; rintro e w4 ⟨rfl, hb4⟩; have S4 := box_call H3.out hb4; clear S3; have H4 := Lib.hid S4)
  go_ret
  exact ⟨rfl, H4.out.2.2⟩

theorem door_met (os : Os) (args : Array Value) : laidMetH Tryd.prog Rows.fnExactRatioTextRow.laid ((World.doorLaid Tryd.prog 400 os).forCall (fun _ _ => 0) ⟨#[], args, []⟩).memory :=
  laidMetH_of_parts3 (fuel := 8) (laidMet_of_run' 8 (by kernel_rfl) (by kernel_rfl)) (by kernel_rfl) (by kernel_rfl)

set_option maxRecDepth 100000 in
theorem ratioText_lifted (os : Os) (started : os.Started) (H : Type) (enc : TypeId × Value → H) :
    ReturnsInHanded {} Tryd.checked os 4 .any (fun w args => (Rows.fnExactRatioTextSpec.pre enc Tryd.prog Tryd.f4 [] false w args ∧ laidMetH Tryd.prog Rows.fnExactRatioTextRow.laid w) ∧ sizedMet enc Tryd.prog Tryd.f4 (OpenSpec.ofChange Rows.fnExactRatioTextSpec) false w args)
      (Rows.fnExactRatioTextSpec.post enc Tryd.prog Tryd.f4 false true false false) := by
  refine law_lifted_laid started (by kernel_rfl) Tryd.func4 (by kernel_rfl) rfl (fun ds h => ?_) ?_
    (ChangeSpec.witness_shaped (enc := enc) (C := Tryd.checked) (os := os) (X := fun w _ => laidMetH Tryd.prog Rows.fnExactRatioTextRow.laid w) false (World.doorLaid Tryd.prog 400 os) #[.agg #[.int .i64 0, .int .i64 0]] 8 rfl (World.shaped_of_RefB (by kernel_rfl) (by kernel_rfl)) (by kernel_rfl) (by kernel_rfl) (by kernel_rfl) (door_met os _)) ?_
  · match ds, h with
    | [d], _ => rfl
  · rw [Tryd.params4]
    intro t ht
    obtain rfl : t = 37 := by simpa using ht
    exact ⟨by kernel_rfl, of_decide_eq_true (by kernel_rfl)⟩
  · intro W base args ds ps hval hA hL
    rw [Tryd.params4] at hA hval
    obtain ⟨v0, d0, rfl, rfl, h0⟩ := trodAll_one hA
    obtain ⟨n, m, rfl, wn, wm⟩ := open_ratio (hval 0 37 v0 rfl rfl) h0
    rw [MakeChecks.laidMetH_plain _ _ _ (by kernel_rfl)] at hL
    exact walkText n m W W.heap.size (Lib.hid (pow10_of hL)) (Nat.le_refl _)

theorem ratioText_holds : Rows.FnExactRatioTextSaid :=
  OpenClaim.holds_of_wide 4 Tryd.f4 rfl rfl rfl rfl rfl rfl rfl ⟨rfl, rfl, rfl, rfl, rfl⟩ rfl rfl rfl rfl rfl (by kernel_rfl) Tryd.func4 (by kernel_rfl)
    (of_decide_eq_true (by kernel_rfl)) (by unfold Func.isWrapper; first | (rw [if_pos (by decide +kernel)]; kernel_rfl) | (rw [if_neg (by decide +kernel)]; exact ⟨rfl, rfl⟩))
    (fun os started H enc _ => ratioText_lifted os started H enc)

/-- The tied card: RatioText answers as its model, for every ratio. -/
theorem ratioText_card : Rows.FnExactRatioTextCardSaid :=
  Claim7.holds_tied_plain_at .later [] [.data, .data, .data] true (true, "bbb80da66b5700419a9d0ecc12b23ea58a5d7980060c533bad0d331ebd56c40e") true
    ratioText_holds (fun _ h => by cases h) (by kernel_rfl) (fun _ h => by cases h) fnExactRatioText_row_tie rfl ⟨rfl, rfl⟩ (by kernel_rfl) rfl
    (fun f fn hf hfn => by
      obtain rfl : f = 4 := Option.some.inj ((show Tryd.prog.funcNamed "loop.example/g00910/laws.FnExactRatioText" = some 4 by kernel_rfl).symm.trans hf) |>.symm
      obtain rfl : fn = Tryd.f4 := (Option.some.inj (Tryd.func4.symm.trans hfn)).symm
      exact ⟨by kernel_rfl, fun j t ht => by
        rw [Tryd.params4] at ht
        have hm : t ∈ [37] := by simpa using Array.mem_of_getElem? ht
        have hall : ([37].all fun u => !Tryd.prog.wantsStandIn u) = true := by kernel_rfl
        exact (show Tryd.prog.wantsStandIn t = false by simpa using List.all_eq_true.1 hall t hm)⟩)
    (by kernel_rfl)

end Go.Proofs.YtohhjcnkbifdbaaDoor
