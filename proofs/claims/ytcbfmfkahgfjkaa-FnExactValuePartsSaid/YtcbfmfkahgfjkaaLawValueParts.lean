/-
  The law FnExactValueParts returns true for every number: ValueParts answers as its model, in new memory.
  No condition.
-/
import Derived.Test.YtcbfmfkahgfjkaaPartsFns
import Derived.Lib.SmallJoins
namespace Go.Proofs.Ytcbfmfkahgfjkaa
open Go.ChangeShapes Go.WideShapes Go.ChangeAt Go.RowKit Go.Joins
set_option linter.unusedVariables false

set_option maxRecDepth 100000 in
set_option maxHeartbeats 2000000 in
theorem walkParts (n : Int) (w : World) : Calls Try.prog 3 #[.int .i64 n] w (Fresh (.bool true) w) := by
  have hyl0 := vpL_len n
  have K1 := Lib.hid (fun W => specParts_any n W)
  have K2 := Lib.hid (fun W => implParts_any n W)
  generalize vpA n = p at *
  generalize vpL n = ys at *
  generalize vpC n = z at *
  have hyl : ys.length ≤ 4000000 := by omega
  have k1 : decide ((1 : Int) + (ys.length : Int) < 0) = false := by simp; omega
  go_enter Try.func3, Try.ntmps3
  go_wp2_with (go_at_call 4; ((with_reducible refine (K1.out _).mono ?_); rintro e w1 ⟨A1, c1, rfl, ho1, hb1⟩; have O1 := Lib.hid ho1; have B1 := Lib.hid hb1; clear ho1 hb1))
  go_wp2_with (go_at_call 5; ((with_reducible refine (K2.out _).mono ?_); rintro e w2 ⟨A2, c2, rfl, ho2, hb2⟩; have O2 := Lib.hid ho2; have X2 := Lib.hid hb2; have B2 := Lib.hid (bl_trans B1.out hb2); clear ho2 hb2))
  go_wp2_with (go_at_call 6; ((with_reducible refine (eqInts_same A2 A1 _ _ ys _ O2.out.rd (O1.out.below X2.out).rd hyl).mono ?_); rintro e w3 ⟨rfl, hb3⟩; have X3 := Lib.hid hb3; have B3 := Lib.hid (bl_trans B2.out hb3); clear hb3))
  have G3 : Hid (Row w3 w1.heap.size A2 ys) := Lib.hid (O2.out.below X3.out)
  have D3 : Hid (Row w3 w.heap.size A1 ys) := Lib.hid ((O1.out.below X2.out).below X3.out)
  have N3 : Hid (∀ a, A1 = some a → some a.block ≠ (Value.slice A2 ys.length c2).ownBlock) := Lib.hid (row_ne O1.out G3.out (Nat.le_refl _))
  go_wp2_with (go_at_call 7; ((with_reducible refine (markRow_any A2 c2 _ ys _ _ G3.out hyl (by omega) (by omega)).mono ?_); rintro e w4 ⟨rfl, ho4, hg4⟩; have B4 := Lib.hid (bl_markR B3.out hg4 G3.out B1.out.size); have D4 := Lib.hid (D3.out.grown hg4 N3.out); have G4 := Lib.hid ho4; clear ho4 hg4))
  go_wp2_with (go_at_call 8; ((with_reducible refine (held_any A2 c2 1 ys.length _ G4.out.rd hyl (by omega) (by omega)).mono ?_); rintro e w4b ⟨rfl, rfl⟩))
  go_wp2_with (go_at_call 5; ((with_reducible refine (K2.out _).mono ?_); rintro e w5 ⟨A5, c5, rfl, ho5, hb5⟩; have O5 := Lib.hid ho5; have X5 := Lib.hid hb5; have B5 := Lib.hid (bl_trans B4.out hb5); clear ho5 hb5))
  go_wp2_with (go_at_call 6; ((with_reducible refine (eqInts_same A5 A1 _ _ ys _ O5.out.rd (D4.out.below X5.out).rd hyl).mono ?_); rintro e w6 ⟨rfl, hb6⟩; have X6 := Lib.hid hb6; have B6 := Lib.hid (bl_trans B5.out hb6); clear hb6))
  have G6 := Lib.hid ((G4.out.below X5.out).below X6.out)
  go_wp2_with (go_at_call 8; ((with_reducible refine (held_any A2 c2 1 ys.length _ G6.out.rd hyl (by omega) (by omega)).mono ?_); rintro e w7 ⟨rfl, rfl⟩))
  go_ret
  exact ⟨rfl, B6.out⟩

set_option maxRecDepth 100000 in
theorem fnExactValueParts_lifted (os : Os) (started : os.Started) (H : Type) (enc : TypeId × Value → H) :
    ReturnsInHanded {} Try.checked os 3 .any (Rows.fnExactValuePartsSpec.pre6 enc Try.prog Try.f3 Rows.fnExactValuePartsRow.domain false) (Rows.fnExactValuePartsSpec.post enc Try.prog Try.f3 false true false false) := by
  refine law_lifted started (by kernel_rfl) Try.func3 (by kernel_rfl) rfl (fun ds h => ?_) ?_
    (ChangeSpec.witness6 (enc := enc) (C := Try.checked) false ⟨#[], #[.int .i64 0], []⟩ 8 (by kernel_rfl) (by kernel_rfl) (by kernel_rfl) (by kernel_rfl)) ?_
  · match ds, h with
    | [d0], _ => rfl
  · rw [Try.params3]
    intro t ht
    obtain rfl : t = 2 := by simpa using ht
    exact ⟨by kernel_rfl, of_decide_eq_true (by kernel_rfl)⟩
  · intro W base args ds ps hval hA
    rw [Try.params3] at hA hval
    obtain ⟨v0, d0, rfl, rfl, h0⟩ := trodAll_one hA
    obtain ⟨n0, rfl, rfl, rfl, wa0⟩ := open_int Try.underlying2 (hval 0 2 v0 rfl rfl) h0
    exact walkParts n0 W

/-- ValueParts answers as its model, for every number. -/
theorem fnExactValueParts_holds : Rows.FnExactValuePartsSaid :=
  OpenClaim.holds_of_wide 3 Try.f3 rfl rfl rfl rfl rfl rfl rfl ⟨rfl, rfl, rfl, rfl, rfl⟩ rfl rfl rfl rfl rfl (by kernel_rfl) Try.func3 (by kernel_rfl)
    (of_decide_eq_true (by kernel_rfl)) (by unfold Func.isWrapper; first | (rw [if_pos (by decide +kernel)]; kernel_rfl) | (rw [if_neg (by decide +kernel)]; exact ⟨rfl, rfl⟩))
    (fun os started H enc _ => fnExactValueParts_lifted os started H enc)

end Go.Proofs.Ytcbfmfkahgfjkaa
