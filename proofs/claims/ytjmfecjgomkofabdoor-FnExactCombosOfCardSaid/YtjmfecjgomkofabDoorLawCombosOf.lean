/-
  The card of the law FnExactCombosOf: it returns true for every number: CombosOf answers as its model, in new memory, no two combinations of which share any.
  Condition: the table math/bits.deBruijn64tab reads as the program lays it (the card ties it).
-/
import Derived.Test.YtjmfecjgomkofabDoorComBound
import Derived.Test.YtjmfecjgomkofabDoorFamLaw
import Derived.Test.YtjmfecjgomkofabDoorTzLaid
import Derived.Test.YtjmfecjgomkofabDoorCards
import Derived.SevenTiedAt
import Derived.Lib.SmallJoins
namespace Go.Proofs.YtjmfecjgomkofabDoor
open Go.ChangeShapes Go.WideShapes Go.ChangeAt Go.RowKit Go.Joins
set_option linter.unusedVariables false

set_option maxRecDepth 100000 in
set_option maxHeartbeats 2000000 in
theorem walkCombosOf (n1 : Int) (w : World) (HT : Hid (Tz w.heap.size w)) :
    Calls Tryd.prog 5 #[.int .i64 n1] w (Fresh (.bool true) w) := by
  have B0 := Lib.hid (bl_refl w)
  obtain ⟨H, R, ky, hH, hof, hrw, K1, K2⟩ : ∃ (H : Nat) (R : Nat → List Int) (ky : Int), H ≤ 4000000 ∧ offs R H ≤ 4000000 ∧ Hid (∀ h, h < H → (R h).length ≤ 4000000) ∧ Hid (∀ (W : World), Calls Tryd.prog 17 #[.int .i64 n1] W (NewFam H R ky W)) ∧ Hid (∀ (W : World), Below w.heap.size w W → Calls Tryd.prog 16 #[.int .i64 n1] W (NewFam H R ky W)) := by
    have hbd := com_bd n1 []
    refine ⟨(comP n1 []).length, comR n1 [], comC n1 [], by omega, ?_, Lib.hid (fun h hh => ?_), Lib.hid (fun W => specCombosOf_any n1 W), Lib.hid (fun W hb => implCombosOf_any n1 w.heap.size w W HT (Lib.hid hb) (Lib.hid hb.size))⟩
    · rw [offs_two _ (com_two n1 [])]; omega
    · rw [com_two]; omega
  have k2 : decide ((1 : Int) + (offs R H : Int) < 0) = false := by simp; omega
  go_enter Tryd.func5, Tryd.ntmps5
  go_wp2_with (go_at_call 17; ((with_reducible refine (K1.out _).mono ?_); rintro e w2 ⟨A2, c2, AA2, CC2, rfl, ho2, hb2⟩; have O2 := Lib.hid ho2; have X2 := Lib.hid hb2; have B2 := Lib.hid (bl_trans B0.out hb2); clear ho2 hb2))
  go_wp2_with (go_at_call 16; ((with_reducible refine (K2.out _ B2.out).mono ?_); rintro e w4 ⟨A4, c4, AA4, CC4, rfl, ho4, hb4⟩; have O4 := Lib.hid ho4; have X4 := Lib.hid hb4; have B4 := Lib.hid (bl_trans B2.out hb4); clear ho4 hb4))
  go_wp2_with (go_at_call 27; ((with_reducible refine (eqFam_same A4 A2 _ _ H R AA4 AA2 CC4 CC2 _ _ _ O4.out (O2.out.below X4.out) hH hrw.out).mono ?_); rintro e w5 ⟨rfl, hb5⟩; have X5 := Lib.hid hb5; have B5 := Lib.hid (bl_trans B4.out hb5); clear hb5))
  have D5 : Hid (Fam w5 w.heap.size A2 H R AA2 CC2) := Lib.hid ((O2.out.below X4.out).below X5.out)
  have G5 : Hid (Fam w5 w2.heap.size A4 H R AA4 CC4) := Lib.hid (O4.out.below X5.out)
  have N3 := Lib.hid O2.out.lt
  have Z5 : Hid (w2.heap.size ≤ w5.heap.size) := Lib.hid (Nat.le_trans X4.out.size X5.out.size)
  go_wp2_with (go_at_call 28; ((with_reducible refine (markFam_any A4 c4 H _ R AA4 CC4 _ _ G5.out hH hof (by omega) (by omega)).mono ?_); rintro e w10 ⟨rfl, hm10⟩; have F10 := Lib.hid hm10.1; have U10 := Lib.hid (markFam_below G5.out Z5.out hm10); have B10 := Lib.hid (bl_mono B5.out B2.out.size U10.out); have D10 := Lib.hid (D5.out.keep N3.out.1 N3.out.2 U10.out); clear hm10))
  go_wp2_with (go_at_call 29; ((with_reducible refine (heldFam_any A4 c4 H _ R AA4 CC4 1 _ F10.out hH hof (by omega) (by omega)).mono ?_); rintro e w10b ⟨rfl, rfl⟩))
  go_wp2_with (go_at_call 16; ((with_reducible refine (K2.out _ B10.out).mono ?_); rintro e w12 ⟨A12, c12, AA12, CC12, rfl, ho12, hb12⟩; have O12 := Lib.hid ho12; have X12 := Lib.hid hb12; have B12 := Lib.hid (bl_trans B10.out hb12); clear ho12 hb12))
  go_wp2_with (go_at_call 27; ((with_reducible refine (eqFam_same A12 A2 _ _ H R AA12 AA2 CC12 CC2 _ _ _ O12.out (D10.out.below X12.out) hH hrw.out).mono ?_); rintro e w13 ⟨rfl, hb13⟩; have X13 := Lib.hid hb13; have B13 := Lib.hid (bl_trans B12.out hb13); clear hb13))
  have G13 := Lib.hid ((F10.out.below X12.out).below X13.out)
  go_wp2_with (go_at_call 29; ((with_reducible refine (heldFam_any A4 c4 H _ R AA4 CC4 1 _ G13.out hH hof (by omega) (by omega)).mono ?_); rintro e w14 ⟨rfl, rfl⟩))
  go_ret
  exact ⟨rfl, B13.out⟩

theorem fnExactCombosOf_met (os : Os) (args : Array Value) : laidMetH Tryd.prog Rows.fnExactCombosOfRow.laid ((World.doorLaid Tryd.prog 400 os).forCall (fun _ _ => 0) ⟨#[], args, []⟩).memory :=
  laidMetH_of_parts3 (fuel := 8) (laidMet_of_run' 8 (by kernel_rfl) (by kernel_rfl)) (by kernel_rfl) (by kernel_rfl)

set_option maxRecDepth 100000 in
theorem fnExactCombosOf_lifted (os : Os) (started : os.Started) (H : Type) (enc : TypeId × Value → H) :
    ReturnsInHanded {} Tryd.checked os 5 .any (fun w args => (Rows.fnExactCombosOfSpec.pre enc Tryd.prog Tryd.f5 [] false w args ∧ laidMetH Tryd.prog Rows.fnExactCombosOfRow.laid w) ∧ sizedMet enc Tryd.prog Tryd.f5 (OpenSpec.ofChange Rows.fnExactCombosOfSpec) false w args)
      (Rows.fnExactCombosOfSpec.post enc Tryd.prog Tryd.f5 false true false false) := by
  refine law_lifted_laid started (by kernel_rfl) Tryd.func5 (by kernel_rfl) rfl (fun ds h => ?_) ?_
    (ChangeSpec.witness_shaped (enc := enc) (C := Tryd.checked) (os := os) (X := fun w _ => laidMetH Tryd.prog Rows.fnExactCombosOfRow.laid w) false (World.doorLaid Tryd.prog 400 os) #[.int .i64 0] 8 rfl (World.shaped_of_RefB (by kernel_rfl) (by kernel_rfl)) (by kernel_rfl) (by kernel_rfl) (by kernel_rfl) (fnExactCombosOf_met os _)) ?_
  · match ds, h with
    | [d0], _ => rfl
  · rw [Tryd.params5]
    intro t ht
    obtain rfl : t = 2 := by simpa using ht
    exact ⟨by kernel_rfl, of_decide_eq_true (by kernel_rfl)⟩
  · intro W base args ds ps hval hA hL hSh
    rw [Tryd.params5] at hA hval
    obtain ⟨v0, d0, rfl, rfl, h0⟩ := trodAll_one hA
    obtain ⟨n0, rfl, rfl, rfl, wa0⟩ := open_int Tryd.underlying2 (hval 0 2 v0 rfl rfl) h0
    rw [MakeChecks.laidMetH_plain _ _ _ (by kernel_rfl)] at hL
    exact walkCombosOf n0 W (Lib.hid (tz_of hL))

theorem fnExactCombosOf_holds : Rows.FnExactCombosOfSaid :=
  OpenClaim.holds_of_wide 5 Tryd.f5 rfl rfl rfl rfl rfl rfl rfl ⟨rfl, rfl, rfl, rfl, rfl⟩ rfl rfl rfl rfl rfl (by kernel_rfl) Tryd.func5 (by kernel_rfl)
    (of_decide_eq_true (by kernel_rfl)) (by unfold Func.isWrapper; first | (rw [if_pos (by decide +kernel)]; kernel_rfl) | (rw [if_neg (by decide +kernel)]; exact ⟨rfl, rfl⟩))
    (fun os started H enc _ => fnExactCombosOf_lifted os started H enc)

/-- The tied card: CombosOf answers as its model, for every number. -/
theorem fnExactCombosOf_card : Rows.FnExactCombosOfCardSaid :=
  Claim7.holds_tied_plain_at .later [] [.data] true (true, "bc26f97cd89a4ca2f3e239068703a34373eebc1043810bf7239c68db41b7c6ca") false
    fnExactCombosOf_holds (fun _ h => by cases h) (by kernel_rfl) (fun _ h => by cases h) fnExactCombosOf_row_tie rfl ⟨rfl, rfl⟩ (by kernel_rfl) rfl
    (fun f fn hf hfn => by
      obtain rfl : f = 5 := Option.some.inj ((show Tryd.prog.funcNamed "loop.example/g00910/laws.FnExactCombosOf" = some 5 by kernel_rfl).symm.trans hf) |>.symm
      obtain rfl : fn = Tryd.f5 := (Option.some.inj (Tryd.func5.symm.trans hfn)).symm
      exact ⟨by kernel_rfl, fun j t ht => by
        rw [Tryd.params5] at ht
        have hm : t ∈ [2] := by simpa using Array.mem_of_getElem? ht
        have hall : ([2].all fun u => !Tryd.prog.wantsStandIn u) = true := by kernel_rfl
        exact (show Tryd.prog.wantsStandIn t = false by simpa using List.all_eq_true.1 hall t hm)⟩)
    (by kernel_rfl)

end Go.Proofs.YtjmfecjgomkofabDoor
