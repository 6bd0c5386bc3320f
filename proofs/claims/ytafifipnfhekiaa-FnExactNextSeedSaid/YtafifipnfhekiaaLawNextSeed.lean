/-
  The law FnExactNextSeed returns true for every number: NextSeed answers as its model.
  No condition.
-/
import Derived.Test.YtafifipnfhekiaaSeed
import Derived.Lib.SmallJoins
import Derived.OpenShut
namespace Go.Proofs.Ytafifipnfhekiaa
open Go.ChangeShapes Go.WideShapes Go.ChangeAt Go.RowKit Go.Joins
set_option linter.unusedVariables false

set_option maxRecDepth 100000 in
set_option maxHeartbeats 1000000 in
theorem walkNextSeed (n : Int) (w : World) : Calls Try.prog 6 #[.int .i64 n] w (Fresh (.bool true) w) := by
  have K1 := Lib.hid (fun W : World => specNextSeed_any n W)
  have K2 := Lib.hid (fun W : World => implNextSeed_any n W)
  generalize nextR n = r at *
  obtain ⟨a, b⟩ := r
  go_enter Try.func6, Try.ntmps6
  go_wp2_with (go_at_call 35; ((with_reducible refine (K1.out _).mono ?_); rintro e w1 ⟨rfl, rfl⟩))
  go_wp2_with (go_at_call 36; ((with_reducible refine (K2.out _).mono ?_); rintro e w2 ⟨rfl, hb2⟩; have B2 := Lib.hid hb2; clear hb2))
  go_ret
  exact ⟨rfl, B2.out⟩

set_option maxRecDepth 100000 in
theorem fnExactNextSeed_lifted (os : Os) (started : os.Started) (H : Type) (enc : TypeId × Value → H) :
    ReturnsInHanded {} Try.checked os 6 .any (Rows.fnExactNextSeedSpec.pre6 enc Try.prog Try.f6 Rows.fnExactNextSeedRow.domain false) (Rows.fnExactNextSeedSpec.post enc Try.prog Try.f6 false true false false) := by
  refine law_lifted started (by kernel_rfl) Try.func6 (by kernel_rfl) rfl (fun ds h => ?_) ?_
    (ChangeSpec.witness6 (enc := enc) (C := Try.checked) false ⟨#[], #[.int .i64 0], []⟩ 8 (by kernel_rfl) (by kernel_rfl) (by kernel_rfl) (by kernel_rfl)) ?_
  · match ds, h with
    | [d0], _ => rfl
  · rw [Try.params6]
    intro t ht
    obtain rfl : t = 2 := by simpa using ht
    exact ⟨by kernel_rfl, of_decide_eq_true (by kernel_rfl)⟩
  · intro W base args ds ps hval hA
    rw [Try.params6] at hA hval
    obtain ⟨v0, d0, rfl, rfl, h0⟩ := trodAll_one hA
    obtain ⟨n0, rfl, rfl, rfl, wa0⟩ := open_int Try.underlying2 (hval 0 2 v0 rfl rfl) h0
    exact walkNextSeed n0 W

/-- NextSeed answers as its model, for every number. -/
theorem fnExactNextSeed_holds : Rows.FnExactNextSeedSaid :=
  OpenClaim.holds_of_wide 6 Try.f6 rfl rfl rfl rfl rfl rfl rfl ⟨rfl, rfl, rfl, rfl, rfl⟩ rfl rfl rfl rfl rfl (by kernel_rfl) Try.func6 (by kernel_rfl)
    (of_decide_eq_true (by kernel_rfl)) (by unfold Func.isWrapper; first | (rw [if_pos (by decide +kernel)]; kernel_rfl) | (rw [if_neg (by decide +kernel)]; exact ⟨rfl, rfl⟩))
    (fun os started H enc _ => fnExactNextSeed_lifted os started H enc)

end Go.Proofs.Ytafifipnfhekiaa
