/-
  The law FnExactCountHands returns true for every variant: CountHands answers as its model.
  No condition.
-/
import Derived.Test.YtajkgnheijhbpaaCountFns
import Derived.Test.YtajkgnheijhbpaaBase
import Derived.Lib.SmallJoins
import Derived.OpenShut
namespace Go.Proofs.Ytajkgnheijhbpaa
open Go.ChangeShapes Go.WideShapes Go.ChangeAt Go.RowKit Go.Joins
set_option linter.unusedVariables false

set_option maxRecDepth 100000 in
set_option maxHeartbeats 4000000 in
theorem walkCountHands (h l m b : Int) (hi : Bool) (lo : Int) (w : World) (hm : i64B m) : Calls Try.prog 8 #[vV h l m b hi lo] w (Fresh (.bool true) w) := by
  have B0 := Lib.hid (bl_alloc (bl_refl w) (.cells #[.int .i64 h, .int .i64 l, .int .i64 m, .int .i64 b, .bool hi, .int .i64 lo] 35))
  have N0 := Lib.hid (blk_new w 35 [.int .i64 h, .int .i64 l, .int .i64 m, .int .i64 b, .bool hi, .int .i64 lo])
  have KT := Lib.hid (fun W : World => toVariant_any h l m b hi lo W)
  have K1 := Lib.hid (fun W : World => specCountHands_any h l m b hi lo W hm)
  have K2 := Lib.hid (fun W : World => implCountHands_any h l m b hi lo W hm)
  clear hm
  unfold vV at *
  generalize chR h l m b hi lo = r at *
  generalize varC h l m b hi lo = z at *
  go_enter Try.func8, Try.ntmps8
  go_wp2_with (first
    | (go_at_call 30; refine (KT.out _).mono ?_; rintro e w1 ⟨rfl, hb1⟩; have N1 := Lib.hid (N0.out.below hb1); have B1 := Lib.hid (bl_trans B0.out hb1); clear hb1)
    | (go_at_call 38; refine (K1.out _).mono ?_; rintro e w2 ⟨rfl, hb2⟩; have N2 := Lib.hid (N1.out.below hb2); have B2 := Lib.hid (bl_trans B1.out hb2); clear hb2 B1; obtain ⟨q0, _⟩ := N2.out.cell 0 _ rfl; obtain ⟨q1, _⟩ := N2.out.cell 1 _ rfl; obtain ⟨q2, _⟩ := N2.out.cell 2 _ rfl; obtain ⟨q3, _⟩ := N2.out.cell 3 _ rfl; obtain ⟨q4, _⟩ := N2.out.cell 4 _ rfl; obtain ⟨q5, _⟩ := N2.out.cell 5 _ rfl; clear N1 N2))
  go_wp2_with (first
    | (go_at_call 30; refine (KT.out _).mono ?_; rintro e w3 ⟨rfl, hb3⟩; have B3 := Lib.hid (bl_trans B2.out hb3); clear hb3)
    | (go_at_call 39; refine (K2.out _).mono ?_; rintro e w4 ⟨rfl, hb4⟩; have B4 := Lib.hid (bl_trans B3.out hb4); clear hb4))
  go_ret
  exact ⟨rfl, B4.out⟩

set_option maxRecDepth 100000 in
theorem fnExactCountHands_lifted (os : Os) (started : os.Started) (H : Type) (enc : TypeId × Value → H) :
    ReturnsInHanded {} Try.checked os 8 .any (Rows.fnExactCountHandsSpec.pre6 enc Try.prog Try.f8 Rows.fnExactCountHandsRow.domain false) (Rows.fnExactCountHandsSpec.post enc Try.prog Try.f8 false true false false) := by
  refine law_lifted started (by kernel_rfl) Try.func8 (by kernel_rfl) rfl (fun ds h => ?_) ?_
    (ChangeSpec.witness6 (enc := enc) (C := Try.checked) false ⟨#[], #[.agg #[.int .i64 0, .int .i64 0, .int .i64 0, .int .i64 0, .bool false, .int .i64 0]], []⟩ 8 (by kernel_rfl) (by kernel_rfl) (by kernel_rfl) (by kernel_rfl)) ?_
  · match ds, h with
    | [d0], _ => rfl
  · rw [Try.params8]
    intro t ht
    obtain rfl : t = 35 := by simpa using ht
    exact ⟨by kernel_rfl, of_decide_eq_true (by kernel_rfl)⟩
  · intro W base args ds ps hval hA
    rw [Try.params8] at hA hval
    obtain ⟨v0, d0, rfl, rfl, h0⟩ := trodAll_one hA
    obtain ⟨vh, vl, vm, vb, vhi, vlo, rfl, wvh, wvl, wvm, wvb, wvlo⟩ := open_variant (hval 0 35 v0 rfl rfl) h0
    exact walkCountHands vh vl vm vb vhi vlo W wvm

/-- CountHands answers as its model, for every variant. -/
theorem fnExactCountHands_holds : Rows.FnExactCountHandsSaid :=
  OpenClaim.holds_of_wide 8 Try.f8 rfl rfl rfl rfl rfl rfl rfl ⟨rfl, rfl, rfl, rfl, rfl⟩ rfl rfl rfl rfl rfl (by kernel_rfl) Try.func8 (by kernel_rfl)
    (of_decide_eq_true (by kernel_rfl)) (by unfold Func.isWrapper; first | (rw [if_pos (by decide +kernel)]; kernel_rfl) | (rw [if_neg (by decide +kernel)]; exact ⟨rfl, rfl⟩))
    (fun os started H enc _ => fnExactCountHands_lifted os started H enc)

end Go.Proofs.Ytajkgnheijhbpaa
