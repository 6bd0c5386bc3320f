/-
  The law FnExactPlaceOf returns true for every list of numbers and every number, and leaves the list as it was: PlaceOf answers as its model.
  No condition.
-/
import Derived.Test.YtafifipnfhekiaaPlace
import Derived.Test.YtafifipnfhekiaaListLaw
import Derived.Lib.SmallJoins
namespace Go.Proofs.Ytafifipnfhekiaa
open Go.ChangeShapes Go.WideShapes Go.ChangeAt Go.RowKit Go.Joins
set_option linter.unusedVariables false

set_option maxRecDepth 100000 in
set_option maxHeartbeats 400000 in
theorem walkPlace_big (A : Option Addr) (c : Nat) (xs : List Int) (n1 : Int) (w : World) (hm : xs.length ≤ maxLen) (h : 1048576 < xs.length) :
    Calls Try.prog 10 #[.slice A xs.length c, .int .i64 n1] w (Fresh (.bool true) w) := by
  unfold maxLen at hm
  have h' : (1048576 : Int) < xs.length := by omega
  go_enter Try.func10, Try.ntmps10
  go_wp2_with fail
  go_ret
  exact ⟨rfl, bl_refl _⟩

set_option maxRecDepth 100000 in
set_option maxHeartbeats 2000000 in
theorem walkPlace_in (A : Option Addr) (c : Nat) (xs : List Int) (n1 : Int) (w : World) (hr : Rd w A xs) (hn : xs.length ≤ 1048576) :
    Calls Try.prog 10 #[.slice A xs.length c, .int .i64 n1] w (Fresh (.bool true) w) := by
  have HR := Lib.hid hr
  have hn4 : xs.length ≤ 4000000 := by omega
  have hn' : (xs.length : Int) ≤ 1048576 := by omega
  have B0 := Lib.hid (bl_refl w)
  obtain ⟨p, q, K1, K2⟩ : ∃ (p q : Int), Hid (∀ (A : Option Addr) (c : Nat) (W : World), Rd W A xs → Calls Try.prog 27 #[.slice A xs.length c, .int .i64 n1] W (Fresh (pairV p q) W)) ∧ Hid (∀ (A : Option Addr) (c : Nat) (W : World), Rd W A xs → Calls Try.prog 26 #[.slice A xs.length c, .int .i64 n1] W (Same (pairV p q) W)) :=
    ⟨_, _, Lib.hid (fun A c W h => specPlace_any A c xs n1 W h hn4), Lib.hid (fun A c W h => implPlace_any A c xs n1 W h hn4)⟩
  clear hr
  go_enter Try.func10, Try.ntmps10
  go_wp2_with (go_at_call 33; ((with_reducible refine (toInts_any A _ xs _ (HR.out.below B0.out) hn).mono ?_); rintro e w1 ⟨A1, c1, rfl, ho1, hb1⟩; have O1 := Lib.hid ho1; have B1 := Lib.hid (bl_trans B0.out hb1); have X1 := Lib.hid hb1; clear ho1 hb1))
  go_wp2_with (go_at_call 27; ((with_reducible refine (K1.out A1 _ _ O1.out.rd).mono ?_); rintro e w2 ⟨rfl, hb2⟩; have B2 := Lib.hid (bl_trans B1.out hb2); clear hb2))
  go_wp2_with (go_at_call 33; ((with_reducible refine (toInts_any A _ xs _ (HR.out.below B2.out) hn).mono ?_); rintro e w3 ⟨A3, c3, rfl, ho3, hb3⟩; have O3 := Lib.hid ho3; have B3 := Lib.hid (bl_trans B2.out hb3); have X3 := Lib.hid hb3; clear ho3 hb3))
  go_wp2_with (go_at_call 26; ((with_reducible refine (K2.out A3 _ _ O3.out.rd).mono ?_); rintro e w4 ⟨rfl, rfl⟩))
  go_wp2_with (go_at_call 33; ((with_reducible refine (toInts_any A _ xs _ (HR.out.below B3.out) hn).mono ?_); rintro e w5 ⟨A5, c5, rfl, ho5, hb5⟩; have O5 := Lib.hid ho5; have B5 := Lib.hid (bl_trans B3.out hb5); have X5 := Lib.hid hb5; clear ho5 hb5))
  go_wp2_with (go_at_call 34; ((with_reducible refine (eqInts_same A3 A5 _ _ xs _ (O3.out.rd.below X5.out) O5.out.rd hn4).mono ?_); rintro e w6 ⟨rfl, hb6⟩))
  go_ret
  exact ⟨rfl, bl_trans B5.out hb6⟩

theorem walkPlace (A : Option Addr) (c : Nat) (xs : List Int) (n1 : Int) (w : World) (hm : xs.length ≤ maxLen) (hr : Rd w A xs) :
    Calls Try.prog 10 #[.slice A xs.length c, .int .i64 n1] w (Fresh (.bool true) w) := by
  by_cases h : xs.length ≤ 1048576
  · exact walkPlace_in A c xs n1 w hr h
  · exact walkPlace_big A c xs n1 w hm (by omega)

set_option maxRecDepth 100000 in
theorem fnExactPlaceOf_lifted (os : Os) (started : os.Started) (H : Type) (enc : TypeId × Value → H) :
    ReturnsInHanded {} Try.checked os 10 .any (Rows.fnExactPlaceOfSpec.pre6 enc Try.prog Try.f10 Rows.fnExactPlaceOfRow.domain false) (Rows.fnExactPlaceOfSpec.post enc Try.prog Try.f10 false true false false) := by
  refine law_lifted started (by kernel_rfl) Try.func10 (by kernel_rfl) rfl (fun ds h => ?_) ?_
    (ChangeSpec.witness6 (enc := enc) (C := Try.checked) false ⟨#[], #[.slice none 0 0, .int .i64 0], []⟩ 8 (by kernel_rfl) (by kernel_rfl) (by kernel_rfl) (by kernel_rfl)) ?_
  · match ds, h with
    | [d0, d1], _ => rfl
  · rw [Try.params10]
    intro t ht
    rcases (show t = 24 ∨ t = 2 by simpa using ht) with rfl | rfl <;> exact ⟨by kernel_rfl, of_decide_eq_true (by kernel_rfl)⟩
  · intro W base args ds ps hval hA
    rw [Try.params10] at hA hval
    obtain ⟨v0, v1, d0, d1, p0, p1, rfl, rfl, rfl, h0, h1⟩ := trodAll_two hA
    obtain ⟨A0, c0, xs0, rfl, m0, r0⟩ := open_list (hval 0 24 v0 rfl rfl) h0
    obtain ⟨n1, rfl, rfl, rfl, wa1⟩ := open_int Try.underlying2 (hval 1 2 v1 rfl rfl) h1
    exact walkPlace A0 c0 xs0 n1 W m0 r0

/-- PlaceOf answers as its model, for every list and every number. -/
theorem fnExactPlaceOf_holds : Rows.FnExactPlaceOfSaid :=
  OpenClaim.holds_of_wide 10 Try.f10 rfl rfl rfl rfl rfl rfl rfl ⟨rfl, rfl, rfl, rfl, rfl⟩ rfl rfl rfl rfl rfl (by kernel_rfl) Try.func10 (by kernel_rfl)
    (of_decide_eq_true (by kernel_rfl)) (by unfold Func.isWrapper; first | (rw [if_pos (by decide +kernel)]; kernel_rfl) | (rw [if_neg (by decide +kernel)]; exact ⟨rfl, rfl⟩))
    (fun os started H enc _ => fnExactPlaceOf_lifted os started H enc)

end Go.Proofs.Ytafifipnfhekiaa
