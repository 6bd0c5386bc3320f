/-
  The card of the law FnExactStandardVariant: it returns true for every number.
  Condition: the variable impl.standardVariants reads as the program lays it (the card ties it).
-/
import Derived.Test.YtjchjjnmahddiaaDoorStdForm
import Derived.Test.YtjchjjnmahddiaaDoorHand
import Derived.Test.YtjchjjnmahddiaaDoorCards
import Derived.SevenTiedAt
import Derived.Lib.SmallJoins
namespace Go.Proofs.YtjchjjnmahddiaaDoor
open Go.ChangeShapes Go.WideShapes Go.ChangeAt Go.RowKit Go.Joins
set_option linter.unusedVariables false

set_option maxRecDepth 100000 in
set_option maxHeartbeats 4000000 in
theorem walkStd (n : Int) (w : World) (HT : Hid (Std w.heap.size w)) : Calls Tryd.prog 3 #[.int .i64 n] w (Fresh (.bool true) w) := by
  have K1 := Lib.hid (fun W : World => specStd_any n W)
  have K2 := Lib.hid (fun (W : World) (hb : Below w.heap.size w W) => implStd_any n w.heap.size w W HT (Lib.hid hb) (Lib.hid hb.size))
  obtain ⟨h, l, m, b, hi, lo, e, _, _⟩ := std_form n
  rw [e] at K1 K2
  generalize stdC n = z at *
  have KE := Lib.hid (fun W : World => eqVariant_any h l m b hi lo W)
  clear e
  go_enter Tryd.func3, Tryd.ntmps3
  go_wp2_with (first
    | (go_at_call 9; refine (K1.out _).mono ?_; rintro e w1 ⟨rfl, hb1⟩; have B1 := Lib.hid hb1; have N1 := Lib.hid (blk_new w1 23 [.int .i64 h, .int .i64 l, .int .i64 m, .int .i64 b, .bool hi, .int .i64 lo]); clear hb1)
    | (go_at_call 10; refine (K2.out _ (bl_alloc B1.out _)).mono ?_; rintro e w2 ⟨rfl, hb2⟩; have B2 := Lib.hid (bl_trans (bl_alloc B1.out _) hb2); have N2 := (N1.out.below hb2).below (bl_alloc (bl_refl _) (.cells #[.int .i64 h, .int .i64 l, .int .i64 m, .int .i64 b, .bool hi, .int .i64 lo] 23)); obtain ⟨q0, _⟩ := N2.cell 0 _ rfl; obtain ⟨q1, _⟩ := N2.cell 1 _ rfl; obtain ⟨q2, _⟩ := N2.cell 2 _ rfl; obtain ⟨q3, _⟩ := N2.cell 3 _ rfl; obtain ⟨q4, _⟩ := N2.cell 4 _ rfl; obtain ⟨q5, _⟩ := N2.cell 5 _ rfl; clear hb2 N2)
    | (go_at_call 11; refine (KE.out _).mono ?_; rintro e w3 ⟨rfl, hb3⟩; have B3 := Lib.hid (bl_trans (bl_alloc B2.out _) hb3); clear hb3))
  go_ret
  exact ⟨ret_bool (by simp), B3.out⟩

theorem fnExactStandardVariant_met (os : Os) (args : Array Value) : laidMetH Tryd.prog Rows.fnExactStandardVariantRow.laid ((World.doorLaid Tryd.prog 400 os).forCall (fun _ _ => 0) ⟨#[], args, []⟩).memory :=
  laidMetH_of_parts3 (fuel := 8) (laidMet_of_run' 8 (by kernel_rfl) (by kernel_rfl)) (by kernel_rfl) (by kernel_rfl)

set_option maxRecDepth 100000 in
theorem fnExactStandardVariant_lifted (os : Os) (started : os.Started) (H : Type) (enc : TypeId × Value → H) :
    ReturnsInHanded {} Tryd.checked os 3 .any (fun w args => (Rows.fnExactStandardVariantSpec.pre enc Tryd.prog Tryd.f3 [] false w args ∧ laidMetH Tryd.prog Rows.fnExactStandardVariantRow.laid w) ∧ sizedMet enc Tryd.prog Tryd.f3 (OpenSpec.ofChange Rows.fnExactStandardVariantSpec) false w args)
      (Rows.fnExactStandardVariantSpec.post enc Tryd.prog Tryd.f3 false true false false) := by
  refine law_lifted_vars started (by kernel_rfl) Tryd.func3 (by kernel_rfl) (by kernel_rfl) (fun ds gs h hg => ?_) ?_
    (ChangeSpec.witness_shaped (enc := enc) (C := Tryd.checked) (os := os) (X := fun w _ => laidMetH Tryd.prog Rows.fnExactStandardVariantRow.laid w) false (World.doorLaid Tryd.prog 400 os) #[.int .i64 0] 8 rfl (World.shaped_of_RefB (by kernel_rfl) (by kernel_rfl)) (by kernel_rfl) (by kernel_rfl) (by kernel_rfl) (fnExactStandardVariant_met os _)) ?_
  · match ds, h, gs, hg with
    | [d0], _, [g0], _ => rfl
  · rw [Tryd.params3]
    intro t ht
    obtain rfl : t = 2 := by simpa using ht
    exact ⟨by kernel_rfl, of_decide_eq_true (by kernel_rfl)⟩
  · intro W base args ds ps hval hA hL hSh
    rw [Tryd.params3] at hA hval
    obtain ⟨v0, d0, rfl, rfl, h0⟩ := trodAll_one hA
    obtain ⟨n0, rfl, rfl, rfl, wa0⟩ := open_int Tryd.underlying2 (hval 0 2 v0 rfl rfl) h0
    rw [MakeChecks.laidMetH_plain _ _ _ (by kernel_rfl)] at hL
    exact walkStd n0 W (Lib.hid (std_of hL))

theorem fnExactStandardVariant_holds : Rows.FnExactStandardVariantSaid :=
  OpenClaim.holds_of_wide 3 Tryd.f3 rfl rfl rfl rfl rfl rfl rfl ⟨rfl, rfl, rfl, rfl, rfl⟩ rfl rfl rfl rfl rfl (by kernel_rfl) Tryd.func3 (by kernel_rfl)
    (of_decide_eq_true (by kernel_rfl)) (by unfold Func.isWrapper; first | (rw [if_pos (by decide +kernel)]; kernel_rfl) | (rw [if_neg (by decide +kernel)]; exact ⟨rfl, rfl⟩))
    (fun os started H enc _ => fnExactStandardVariant_lifted os started H enc)

/-- The tied card: StandardVariant answers as its model, for every number. -/
theorem fnExactStandardVariant_card : Rows.FnExactStandardVariantCardSaid :=
  Claim7.holds_tied_plain_at .later [] [.data] true (true, "5e4194de3061b7c3064284f08ef9b60cdff0d1e82afd53acd6e090163bf65dcd") false
    fnExactStandardVariant_holds (fun _ h => by cases h) (by kernel_rfl) (fun _ h => by cases h) fnExactStandardVariant_row_tie rfl ⟨rfl, rfl⟩ (by kernel_rfl) rfl
    (fun f fn hf hfn => by
      obtain rfl : f = 3 := Option.some.inj ((show Tryd.prog.funcNamed "loop.example/g00910/laws.FnExactStandardVariant" = some 3 by kernel_rfl).symm.trans hf) |>.symm
      obtain rfl : fn = Tryd.f3 := (Option.some.inj (Tryd.func3.symm.trans hfn)).symm
      exact ⟨by kernel_rfl, fun j t ht => by
        rw [Tryd.params3] at ht
        have hm : t ∈ [2] := by simpa using Array.mem_of_getElem? ht
        have hall : ([2].all fun u => !Tryd.prog.wantsStandIn u) = true := by kernel_rfl
        exact (show Tryd.prog.wantsStandIn t = false by simpa using List.all_eq_true.1 hall t hm)⟩)
    (by kernel_rfl)

end Go.Proofs.YtjchjjnmahddiaaDoor
