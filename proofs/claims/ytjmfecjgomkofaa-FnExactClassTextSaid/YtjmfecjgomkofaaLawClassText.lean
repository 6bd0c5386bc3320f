/-
  The law FnExactClassText returns true for every number, and leaves it as it was: ClassText answers as its model.
  No condition.
-/
import Derived.Test.YtjmfecjgomkofaaClassFns
import Derived.Lib.SmallJoins
namespace Go.Proofs.Ytjmfecjgomkofaa
open Go.ChangeShapes Go.WideShapes Go.ChangeAt Go.RowKit Go.Joins
set_option linter.unusedVariables false

set_option maxHeartbeats 1000000 in
theorem walkClassText (k : Int) (w : World) : Calls Try.prog 5 #[.int .i64 k] w (Fresh (.bool true) w) := by
  obtain ⟨s, c, K1, K2⟩ : ∃ (s : ByteArray) (c : Int), Hid (∀ W, Calls Try.prog 27 #[.int .i64 k] W (Fresh (.tuple #[.string s, .int .i64 c]) W)) ∧ Hid (∀ W, Calls Try.prog 28 #[.int .i64 k] W (Fresh (.tuple #[.string s, .int .i64 c]) W)) :=
    ⟨_, _, Lib.hid (fun W => specClassText_any k W), Lib.hid (fun W => implClassText_any k W)⟩
  go_enter Try.func5, Try.ntmps5
  go_wp2_with (first | (go_at_call 27; refine (K1.out _).mono ?_; rintro e w1 ⟨rfl, hb1⟩; have B1 := Lib.hid hb1; clear hb1) | (go_at_call 28; refine (K2.out _).mono ?_; rintro e w2 ⟨rfl, hb2⟩; have B2 := Lib.hid (bl_trans B1.out hb2); clear hb2))
  go_ret
  exact ⟨rfl, B2.out⟩

set_option maxRecDepth 100000 in
theorem fnExactClassText_lifted (os : Os) (started : os.Started) (H : Type) (enc : TypeId × Value → H) :
    ReturnsInHanded {} Try.checked os 5 .any (Rows.fnExactClassTextSpec.pre6 enc Try.prog Try.f5 Rows.fnExactClassTextRow.domain false) (Rows.fnExactClassTextSpec.post enc Try.prog Try.f5 false true false false) := by
  refine law_lifted started (by kernel_rfl) Try.func5 (by kernel_rfl) rfl (fun ds h => ?_) ?_
    (ChangeSpec.witness6 (enc := enc) (C := Try.checked) false ⟨#[], #[.int .i64 0], []⟩ 8 (by kernel_rfl) (by kernel_rfl) (by kernel_rfl) (by kernel_rfl)) ?_
  · match ds, h with
    | [d0], _ => rfl
  · rw [Try.params5]
    intro t ht
    obtain rfl : t = 2 := by simpa using ht
    exact ⟨by kernel_rfl, of_decide_eq_true (by kernel_rfl)⟩
  · intro W base args ds ps hval hA
    rw [Try.params5] at hA hval
    obtain ⟨v0, d0, rfl, rfl, h0⟩ := trodAll_one hA
    obtain ⟨n0, rfl, rfl, rfl, wa0⟩ := open_int Try.underlying2 (hval 0 2 v0 rfl rfl) h0
    exact walkClassText n0 W

/-- ClassText answers as its model, for every number. -/
theorem fnExactClassText_holds : Rows.FnExactClassTextSaid :=
  OpenClaim.holds_of_wide 5 Try.f5 rfl rfl rfl rfl rfl rfl rfl ⟨rfl, rfl, rfl, rfl, rfl⟩ rfl rfl rfl rfl rfl (by kernel_rfl) Try.func5 (by kernel_rfl)
    (of_decide_eq_true (by kernel_rfl)) (by unfold Func.isWrapper; first | (rw [if_pos (by decide +kernel)]; kernel_rfl) | (rw [if_neg (by decide +kernel)]; exact ⟨rfl, rfl⟩))
    (fun os started H enc _ => fnExactClassText_lifted os started H enc)

end Go.Proofs.Ytjmfecjgomkofaa
