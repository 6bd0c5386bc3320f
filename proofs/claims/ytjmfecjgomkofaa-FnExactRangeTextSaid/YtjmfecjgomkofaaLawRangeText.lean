/-
  The law FnExactRangeText returns true for every list of numbers, and leaves it as it was: RangeText answers as its model.
  No condition.
-/
import Derived.Test.YtjmfecjgomkofaaRngTextImpl
import Derived.Test.YtjmfecjgomkofaaMark
import Derived.Lib.SmallJoins
namespace Go.Proofs.Ytjmfecjgomkofaa
open Go.ChangeShapes Go.WideShapes Go.ChangeAt Go.RowKit Go.Joins
set_option linter.unusedVariables false

set_option maxRecDepth 100000 in
set_option maxHeartbeats 400000 in
theorem walkRangeText_big (A : Option Addr) (c : Nat) (xs : List Int) (w : World) (hm : xs.length ≤ maxLen) (h : 1048576 < xs.length) :
    Calls Try.prog 12 #[.slice A xs.length c] w (Fresh (.bool true) w) := by
  unfold maxLen at hm
  have h' : (1048576 : Int) < xs.length := by omega
  go_enter Try.func12, Try.ntmps12
  go_wp2_with fail
  go_ret
  exact ⟨rfl, bl_refl _⟩

set_option maxRecDepth 100000 in
set_option maxHeartbeats 2000000 in
theorem walkRangeText_in (A : Option Addr) (c : Nat) (xs : List Int) (w : World) (hr : Rd w A xs) (hn : xs.length ≤ 1048576) :
    Calls Try.prog 12 #[.slice A xs.length c] w (Fresh (.bool true) w) := by
  have HR := Lib.hid hr
  have hn4 : xs.length ≤ 4000000 := by omega
  have hn' : (xs.length : Int) ≤ 1048576 := by omega
  have B0 := Lib.hid (bl_refl w)
  obtain ⟨s, k, K1, K2⟩ : ∃ (s : ByteArray) (k : Int), Hid (∀ (A : Option Addr) (c : Nat) (W : World), Rd W A xs → Calls Try.prog 44 #[.slice A xs.length c] W (Fresh (.tuple #[.string s, .int .i64 k]) W)) ∧ Hid (∀ (A : Option Addr) (c : Nat) (W : World), Rd W A xs → Calls Try.prog 45 #[.slice A xs.length c] W (Fresh (.tuple #[.string s, .int .i64 k]) W)) :=
    ⟨_, _, Lib.hid (fun A c W h => specRangeText_any A c xs W h hn4), Lib.hid (fun A c W h => implRangeText_any A c xs W h hn4)⟩
  clear hr
  go_enter Try.func12, Try.ntmps12
  go_wp2_with (go_at_call 24; ((with_reducible refine (toInts_any A _ xs _ (HR.out.below B0.out) hn).mono ?_); rintro e w1 ⟨A1, c1, rfl, ho1, hb1⟩; have O1 := Lib.hid ho1; have B1 := Lib.hid (bl_trans B0.out hb1); have X1 := Lib.hid hb1; clear ho1 hb1))
  go_wp2_with (go_at_call 44; ((with_reducible refine (K1.out A1 _ _ O1.out.rd).mono ?_); rintro e w2 ⟨rfl, hb2⟩; have B2 := Lib.hid (bl_trans B1.out hb2); clear hb2))
  go_wp2_with (go_at_call 24; ((with_reducible refine (toInts_any A _ xs _ (HR.out.below B2.out) hn).mono ?_); rintro e w3 ⟨A3, c3, rfl, ho3, hb3⟩; have O3 := Lib.hid ho3; have B3 := Lib.hid (bl_trans B2.out hb3); have X3 := Lib.hid hb3; clear ho3 hb3))
  go_wp2_with (go_at_call 45; ((with_reducible refine (K2.out A3 _ _ O3.out.rd).mono ?_); rintro e w4 ⟨rfl, hb4⟩; have X4 := Lib.hid hb4; have B4 := Lib.hid (bl_trans B3.out hb4); clear hb4))
  go_wp2_with (go_at_call 24; ((with_reducible refine (toInts_any A _ xs _ (HR.out.below B4.out) hn).mono ?_); rintro e w5 ⟨A5, c5, rfl, ho5, hb5⟩; have O5 := Lib.hid ho5; have B5 := Lib.hid (bl_trans B4.out hb5); have X5 := Lib.hid hb5; clear ho5 hb5))
  go_wp2_with (go_at_call 26; ((with_reducible refine (eqInts_same A3 A5 _ _ xs _ ((O3.out.below X4.out).below X5.out).rd O5.out.rd hn4).mono ?_); rintro e w6 ⟨rfl, hb6⟩))
  go_ret
  exact ⟨rfl, bl_trans B5.out hb6⟩

theorem walkRangeText (A : Option Addr) (c : Nat) (xs : List Int) (w : World) (hm : xs.length ≤ maxLen) (hr : Rd w A xs) :
    Calls Try.prog 12 #[.slice A xs.length c] w (Fresh (.bool true) w) := by
  by_cases h : xs.length ≤ 1048576
  · exact walkRangeText_in A c xs w hr h
  · exact walkRangeText_big A c xs w hm (by omega)

set_option maxRecDepth 100000 in
theorem fnExactRangeText_lifted (os : Os) (started : os.Started) (H : Type) (enc : TypeId × Value → H) :
    ReturnsInHanded {} Try.checked os 12 .any (Rows.fnExactRangeTextSpec.pre6 enc Try.prog Try.f12 Rows.fnExactRangeTextRow.domain false) (Rows.fnExactRangeTextSpec.post enc Try.prog Try.f12 false true false false) := by
  refine law_lifted started (by kernel_rfl) Try.func12 (by kernel_rfl) rfl (fun ds h => ?_) ?_
    (ChangeSpec.witness6 (enc := enc) (C := Try.checked) false ⟨#[], #[.slice none 0 0], []⟩ 8 (by kernel_rfl) (by kernel_rfl) (by kernel_rfl) (by kernel_rfl)) ?_
  · match ds, h with
    | [d0], _ => rfl
  · rw [Try.params12]
    intro t ht
    obtain rfl : t = 26 := by simpa using ht
    exact ⟨by kernel_rfl, of_decide_eq_true (by kernel_rfl)⟩
  · intro W base args ds ps hval hA
    rw [Try.params12] at hA hval
    obtain ⟨v0, d0, rfl, rfl, h0⟩ := trodAll_one hA
    obtain ⟨A0, c0, xs0, rfl, m0, r0⟩ := open_list (hval 0 26 v0 rfl rfl) h0
    exact walkRangeText A0 c0 xs0 W m0 r0

/-- RangeText answers as its model, for every list. -/
theorem fnExactRangeText_holds : Rows.FnExactRangeTextSaid :=
  OpenClaim.holds_of_wide 12 Try.f12 rfl rfl rfl rfl rfl rfl rfl ⟨rfl, rfl, rfl, rfl, rfl⟩ rfl rfl rfl rfl rfl (by kernel_rfl) Try.func12 (by kernel_rfl)
    (of_decide_eq_true (by kernel_rfl)) (by unfold Func.isWrapper; first | (rw [if_pos (by decide +kernel)]; kernel_rfl) | (rw [if_neg (by decide +kernel)]; exact ⟨rfl, rfl⟩))
    (fun os started H enc _ => fnExactRangeText_lifted os started H enc)

end Go.Proofs.Ytjmfecjgomkofaa
