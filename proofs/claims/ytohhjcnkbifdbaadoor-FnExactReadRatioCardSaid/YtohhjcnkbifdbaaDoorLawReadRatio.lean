/-
  The card of the law FnExactReadRatio: it returns true for every text, and leaves it as it was: ReadRatio answers as its model.
  Condition: the library's variables read as the program's text lays them (the card ties them).
-/
import Derived.Test.YtohhjcnkbifdbaaDoorLibLaid
import Derived.Test.YtohhjcnkbifdbaaDoorReadSpec
import Derived.Test.YtohhjcnkbifdbaaDoorCards
import Derived.SevenTiedAt
namespace Go.Proofs.YtohhjcnkbifdbaaDoor
open Go.ChangeShapes Go.WideShapes Go.ChangeAt Go.RowKit
open Go.ChangeMaps (open_string)
set_option linter.unusedVariables false

set_option maxHeartbeats 400000 in
theorem eqRatio_self (n d : Int) (w : World) :
    Calls Tryd.prog 21 #[.agg #[.int .i64 n, .int .i64 d], .agg #[.int .i64 n, .int .i64 d]] w (Fresh (.bool true) w) := by
  go_enter Tryd.func21, Tryd.ntmps21
  go_wp2
  go_ret
  exact ⟨rfl, bl_alloc (bl_alloc (bl_refl _) _) _⟩

set_option maxRecDepth 100000 in
set_option maxHeartbeats 400000 in
theorem walkRead (s : ByteArray) (w : World) (htab : Hid (Pow10 w.heap.size w)) (C : Hid (LibCells w)) :
    Calls Tryd.prog 5 #[.string s] w (Fresh (.bool true) w) := by
  by_cases hs : 1048576 < s.size
  · go_enter Tryd.func5, Tryd.ntmps5
    go_wp2_with fail
    go_ret
    exact ⟨rfl, bl_refl _⟩
  · have hs2 : s.data.toList.length ≤ 2000000 := by show s.size ≤ _; omega
    have K1 : Hid (∀ W, Calls Tryd.prog 11 #[.string s] W (ReadPost s.data.toList W)) := Lib.hid (fun W => specRead_any s.data.toList W hs2)
    have K2 : Hid (∀ W, Below w.heap.size w W → Calls Tryd.prog 9 #[.string s] W (ReadPost s.data.toList W)) :=
      Lib.hid (fun W hb => implRead_any s.data.toList W w.heap.size (htab.out.on hb) hb.size (lib_kept C.out hb) hs2)
    go_enter Tryd.func5, Tryd.ntmps5
    go_wp2_with (go_at_call 11; refine (K1.out _).mono ?_; rintro e w1 ⟨n, d, ok, r1, rfl, hb1⟩; have R1 := Lib.hid r1; clear r1; have S1 := Lib.hid (bl_alloc hb1 (.cells #[.int .i64 n, .int .i64 d] 25)))
    go_wp2_with (go_at_call 9; refine (K2.out _ S1.out).mono ?_; rintro e w2 ⟨n', d', ok', r2, rfl, hb2⟩; obtain ⟨rfl, rfl, rfl⟩ := read_same r2 R1.out; clear r2; obtain ⟨hc2, hf2⟩ := bcell hb2; have hz2 := sz_new hb2)
    go_wp2_with (go_at_call 21; refine (eqRatio_self _ _ _).mono ?_; rintro e w3 ⟨rfl, hb3⟩)
    go_ret
    exact ⟨rfl, bl_trans (bl_alloc (bl_trans S1.out hb2) _) hb3⟩

theorem door_met (os : Os) (args : Array Value) : laidMetH Tryd.prog Rows.fnExactReadRatioRow.laid ((World.doorLaid Tryd.prog 400 os).forCall (fun _ _ => 0) ⟨#[], args, []⟩).memory :=
  laidMetH_of_parts3 (fuel := 8) (laidMet_of_run' 8 (by kernel_rfl) (by kernel_rfl)) (by kernel_rfl) (by kernel_rfl)

set_option maxRecDepth 100000 in
theorem readRatio_lifted (os : Os) (started : os.Started) (H : Type) (enc : TypeId × Value → H) :
    ReturnsInHanded {} Tryd.checked os 5 .any (fun w args => (Rows.fnExactReadRatioSpec.pre enc Tryd.prog Tryd.f5 [] false w args ∧ laidMetH Tryd.prog Rows.fnExactReadRatioRow.laid w) ∧ sizedMet enc Tryd.prog Tryd.f5 (OpenSpec.ofChange Rows.fnExactReadRatioSpec) false w args)
      (Rows.fnExactReadRatioSpec.post enc Tryd.prog Tryd.f5 false true false false) := by
  refine law_lifted_laid started (by kernel_rfl) Tryd.func5 (by kernel_rfl) rfl (fun ds h => ?_) ?_
    (ChangeSpec.witness_shaped (enc := enc) (C := Tryd.checked) (os := os) (X := fun w _ => laidMetH Tryd.prog Rows.fnExactReadRatioRow.laid w) false (World.doorLaid Tryd.prog 400 os) #[.string ByteArray.empty] 8 rfl (World.shaped_of_RefB (by kernel_rfl) (by kernel_rfl)) (by kernel_rfl) (by kernel_rfl) (by kernel_rfl) (door_met os _)) ?_
  · match ds, h with
    | [d], _ => rfl
  · rw [Tryd.params5]
    intro t ht
    obtain rfl : t = 9 := by simpa using ht
    exact ⟨by kernel_rfl, of_decide_eq_true (by kernel_rfl)⟩
  · intro W base args ds ps hval hA hL hSh
    rw [Tryd.params5] at hA hval
    obtain ⟨v0, d0, rfl, rfl, h0⟩ := trodAll_one hA
    obtain ⟨s, rfl, rfl, rfl, hs⟩ := open_string Tryd.underlying9 (hval 0 9 v0 rfl rfl) h0
    rw [MakeChecks.laidMetH_plain _ _ _ (by kernel_rfl)] at hL
    exact walkRead s W (Lib.hid (pow10_of hL)) (Lib.hid (lib_of hL hSh))

theorem readRatio_holds : Rows.FnExactReadRatioSaid :=
  OpenClaim.holds_of_wide 5 Tryd.f5 rfl rfl rfl rfl rfl rfl rfl ⟨rfl, rfl, rfl, rfl, rfl⟩ rfl rfl rfl rfl rfl (by kernel_rfl) Tryd.func5 (by kernel_rfl)
    (of_decide_eq_true (by kernel_rfl)) (by unfold Func.isWrapper; first | (rw [if_pos (by decide +kernel)]; kernel_rfl) | (rw [if_neg (by decide +kernel)]; exact ⟨rfl, rfl⟩))
    (fun os started H enc _ => readRatio_lifted os started H enc)

/-- The tied card: ReadRatio answers as its model, for every text. -/
theorem readRatio_card : Rows.FnExactReadRatioCardSaid :=
  Claim7.holds_tied_plain_at .later [] [.data, .data, .data, .sentinel, .sentinel] true (true, "bbb80da66b5700419a9d0ecc12b23ea58a5d7980060c533bad0d331ebd56c40e") true
    readRatio_holds (fun _ h => by cases h) (by kernel_rfl) (fun _ h => by cases h) fnExactReadRatio_row_tie rfl ⟨rfl, rfl⟩ (by kernel_rfl) rfl
    (fun f fn hf hfn => by
      obtain rfl : f = 5 := Option.some.inj ((show Tryd.prog.funcNamed "loop.example/g00910/laws.FnExactReadRatio" = some 5 by kernel_rfl).symm.trans hf) |>.symm
      obtain rfl : fn = Tryd.f5 := (Option.some.inj (Tryd.func5.symm.trans hfn)).symm
      exact ⟨by kernel_rfl, fun j t ht => by
        rw [Tryd.params5] at ht
        have hm : t ∈ [9] := by simpa using Array.mem_of_getElem? ht
        have hall : ([9].all fun u => !Tryd.prog.wantsStandIn u) = true := by kernel_rfl
        exact (show Tryd.prog.wantsStandIn t = false by simpa using List.all_eq_true.1 hall t hm)⟩)
    (by kernel_rfl)

end Go.Proofs.YtohhjcnkbifdbaaDoor
