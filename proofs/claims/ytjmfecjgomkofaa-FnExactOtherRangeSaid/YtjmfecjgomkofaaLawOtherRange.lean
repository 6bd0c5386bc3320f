/-
  The law FnExactOtherRange returns true for every list of numbers, and leaves it as it was: OtherRange answers as its model, in new memory.
  No condition.
-/
import Derived.Test.YtjmfecjgomkofaaRngSets
import Derived.Test.YtjmfecjgomkofaaMark
import Derived.Lib.SmallJoins
namespace Go.Proofs.Ytjmfecjgomkofaa
open Go.ChangeShapes Go.WideShapes Go.ChangeAt Go.RowKit Go.Joins
set_option linter.unusedVariables false

set_option maxRecDepth 100000 in
set_option maxHeartbeats 400000 in
theorem walkOtherRange_big (A : Option Addr) (c : Nat) (xs : List Int) (w : World) (hm : xs.length ≤ maxLen) (h : 1048576 < xs.length) :
    Calls Try.prog 10 #[.slice A xs.length c] w (Fresh (.bool true) w) := by
  unfold maxLen at hm
  have h' : (1048576 : Int) < xs.length := by omega
  go_enter Try.func10, Try.ntmps10
  go_wp2_with fail
  go_ret
  exact ⟨rfl, bl_refl _⟩

set_option maxRecDepth 100000 in
set_option maxHeartbeats 2000000 in
theorem walkOtherRange_in (A : Option Addr) (c : Nat) (xs : List Int) (w : World) (hr : Rd w A xs) (hn : xs.length ≤ 1048576) :
    Calls Try.prog 10 #[.slice A xs.length c] w (Fresh (.bool true) w) := by
  have HR := Lib.hid hr
  have hn4 : xs.length ≤ 4000000 := by omega
  have hn' : (xs.length : Int) ≤ 1048576 := by omega
  have B0 := Lib.hid (bl_refl w)
  obtain ⟨ys, ky, hyl, K1, K2⟩ : ∃ (ys : List Int) (ky : Int), ys.length ≤ 4000000 ∧ Hid (∀ (A : Option Addr) (c : Nat) (W : World), Rd W A xs → Calls Try.prog 39 #[.slice A xs.length c] W (NewLC ys ky W)) ∧ Hid (∀ (A : Option Addr) (c : Nat) (W : World), Rd W A xs → Below w.heap.size w W → Calls Try.prog 40 #[.slice A xs.length c] W (NewLC ys ky W)) :=
    ⟨_, _, othRR_len xs, Lib.hid (fun A c W h => specOtherRange_any A c xs W h hn4), Lib.hid (fun A c W h hb => implOtherRange_any A c xs W h hn4)⟩
  have k1 : decide ((1 : Int) + (xs.length : Int) < 0) = false := by simp; omega
  have k2 : decide ((1 : Int) + (ys.length : Int) < 0) = false := by simp; omega
  clear hr
  go_enter Try.func10, Try.ntmps10
  go_wp2_with (go_at_call 24; ((with_reducible refine (toInts_any A _ xs _ (HR.out.below B0.out) hn).mono ?_); rintro e w1 ⟨A1, c1, rfl, ho1, hb1⟩; have O1 := Lib.hid ho1; have B1 := Lib.hid (bl_trans B0.out hb1); have X1 := Lib.hid hb1; clear ho1 hb1))
  go_wp2_with (go_at_call 39; ((with_reducible refine (K1.out A1 _ _ O1.out.rd).mono ?_); rintro e w2 ⟨A2, c2, rfl, ho2, hb2⟩; have O2 := Lib.hid ho2; have X2 := Lib.hid hb2; have B2 := Lib.hid (bl_trans B1.out hb2); clear ho2 hb2))
  go_wp2_with (go_at_call 24; ((with_reducible refine (toInts_any A _ xs _ (HR.out.below B2.out) hn).mono ?_); rintro e w3 ⟨A3, c3, rfl, ho3, hb3⟩; have O3 := Lib.hid ho3; have B3 := Lib.hid (bl_trans B2.out hb3); have X3 := Lib.hid hb3; clear ho3 hb3))
  go_wp2_with (go_at_call 40; ((with_reducible refine (K2.out A3 _ _ O3.out.rd B3.out).mono ?_); rintro e w4 ⟨A4, c4, rfl, ho4, hb4⟩; have O4 := Lib.hid ho4; have X4 := Lib.hid hb4; have B4 := Lib.hid (bl_trans B3.out hb4); clear ho4 hb4))
  go_wp2_with (go_at_call 26; ((with_reducible refine (eqInts_same A4 A2 _ _ ys _ O4.out.rd ((O2.out.below X3.out).below X4.out).rd hyl).mono ?_); rintro e w5 ⟨rfl, hb5⟩; have X5 := Lib.hid hb5; have B5 := Lib.hid (bl_trans B4.out hb5); clear hb5))
  go_wp2_with (go_at_call 24; ((with_reducible refine (toInts_any A _ xs _ (HR.out.below B5.out) hn).mono ?_); rintro e w6 ⟨A6, c6, rfl, ho6, hb6⟩; have O6 := Lib.hid ho6; have B6 := Lib.hid (bl_trans B5.out hb6); have X6 := Lib.hid hb6; clear ho6 hb6))
  go_wp2_with (go_at_call 26; ((with_reducible refine (eqInts_same A3 A6 _ _ xs _ (((O3.out.below X4.out).below X5.out).below X6.out).rd O6.out.rd hn4).mono ?_); rintro e w7 ⟨rfl, hb7⟩; have X7 := Lib.hid hb7; have B7 := Lib.hid (bl_trans B6.out hb7); clear hb7))
  have E7 : Hid (Own w7 w2.heap.size (.slice A3 xs.length c3) xs) := Lib.hid ((((O3.out.below X4.out).below X5.out).below X6.out).below X7.out)
  have D7 : Hid (Own w7 w1.heap.size (.slice A2 ys.length c2) ys) := Lib.hid ((((((O2.out.below X3.out).below X4.out).below X5.out).below X6.out)).below X7.out)
  have G7 : Hid (Own w7 w3.heap.size (.slice A4 ys.length c4) ys) := Lib.hid ((((O4.out.below X5.out).below X6.out)).below X7.out)
  have N1 : Hid (_ ∨ _) := Lib.hid (own_ne O2.out E7.out (Nat.le_refl _))
  have N2 : Hid (_ ∨ _) := Lib.hid (own_ne' G7.out O3.out (Nat.le_refl _))
  have N3 : Hid (_ ∨ _) := Lib.hid (own_ne O2.out G7.out X3.out.size)
  go_wp2_with (go_at_call 35; ((with_reducible refine (mark_any A3 c3 _ xs _ _ E7.out hn4 (by omega) (by omega)).mono ?_); rintro e w8 ⟨rfl, ho8, hg8⟩; have B8 := Lib.hid (bl_mark B7.out hg8 E7.out (Nat.le_trans B1.out.size X2.out.size)); have D8 := Lib.hid (D7.out.grown hg8 N1.out); have G8 := Lib.hid (G7.out.grown hg8 N2.out); clear ho8 hg8))
  go_wp2_with (go_at_call 26; ((with_reducible refine (eqInts_same A4 A2 _ _ ys _ G8.out.rd D8.out.rd hyl).mono ?_); rintro e w9 ⟨rfl, hb9⟩; have X9 := Lib.hid hb9; have B9 := Lib.hid (bl_trans B8.out hb9); clear hb9))
  have G9 := Lib.hid (G8.out.below X9.out)
  have D9 := Lib.hid (D8.out.below X9.out)
  go_wp2_with (go_at_call 35; ((with_reducible refine (mark_any A4 c4 _ ys _ _ G9.out hyl (by omega) (by omega)).mono ?_); rintro e w10 ⟨rfl, ho10, hg10⟩; have B10 := Lib.hid (bl_mark B9.out hg10 G9.out B3.out.size); have D10 := Lib.hid (D9.out.grown hg10 N3.out); have G10 := Lib.hid ho10; clear ho10 hg10))
  go_wp2_with (go_at_call 36; ((with_reducible refine (held_any A4 c4 1 ys.length _ G10.out.rd hyl (by omega) (by omega)).mono ?_); rintro e w10b ⟨rfl, rfl⟩))
  go_wp2_with (go_at_call 24; ((with_reducible refine (toInts_any A _ xs _ (HR.out.below B10.out) hn).mono ?_); rintro e w11 ⟨A11, c11, rfl, ho11, hb11⟩; have O11 := Lib.hid ho11; have B11 := Lib.hid (bl_trans B10.out hb11); have X11 := Lib.hid hb11; clear ho11 hb11))
  go_wp2_with (go_at_call 40; ((with_reducible refine (K2.out A11 _ _ O11.out.rd B11.out).mono ?_); rintro e w12 ⟨A12, c12, rfl, ho12, hb12⟩; have O12 := Lib.hid ho12; have X12 := Lib.hid hb12; have B12 := Lib.hid (bl_trans B11.out hb12); clear ho12 hb12))
  go_wp2_with (go_at_call 26; ((with_reducible refine (eqInts_same A12 A2 _ _ ys _ O12.out.rd ((D10.out.below X11.out).below X12.out).rd hyl).mono ?_); rintro e w13 ⟨rfl, hb13⟩; have X13 := Lib.hid hb13; have B13 := Lib.hid (bl_trans B12.out hb13); clear hb13))
  have G13 := Lib.hid (((G10.out.below X11.out).below X12.out).below X13.out)
  go_wp2_with (go_at_call 36; ((with_reducible refine (held_any A4 c4 1 ys.length _ G13.out.rd hyl (by omega) (by omega)).mono ?_); rintro e w14 ⟨rfl, rfl⟩))
  go_ret
  exact ⟨rfl, B13.out⟩

theorem walkOtherRange (A : Option Addr) (c : Nat) (xs : List Int) (w : World) (hm : xs.length ≤ maxLen) (hr : Rd w A xs) :
    Calls Try.prog 10 #[.slice A xs.length c] w (Fresh (.bool true) w) := by
  by_cases h : xs.length ≤ 1048576
  · exact walkOtherRange_in A c xs w hr h
  · exact walkOtherRange_big A c xs w hm (by omega)

set_option maxRecDepth 100000 in
theorem fnExactOtherRange_lifted (os : Os) (started : os.Started) (H : Type) (enc : TypeId × Value → H) :
    ReturnsInHanded {} Try.checked os 10 .any (Rows.fnExactOtherRangeSpec.pre6 enc Try.prog Try.f10 Rows.fnExactOtherRangeRow.domain false) (Rows.fnExactOtherRangeSpec.post enc Try.prog Try.f10 false true false false) := by
  refine law_lifted started (by kernel_rfl) Try.func10 (by kernel_rfl) rfl (fun ds h => ?_) ?_
    (ChangeSpec.witness6 (enc := enc) (C := Try.checked) false ⟨#[], #[.slice none 0 0], []⟩ 8 (by kernel_rfl) (by kernel_rfl) (by kernel_rfl) (by kernel_rfl)) ?_
  · match ds, h with
    | [d0], _ => rfl
  · rw [Try.params10]
    intro t ht
    obtain rfl : t = 26 := by simpa using ht
    exact ⟨by kernel_rfl, of_decide_eq_true (by kernel_rfl)⟩
  · intro W base args ds ps hval hA
    rw [Try.params10] at hA hval
    obtain ⟨v0, d0, rfl, rfl, h0⟩ := trodAll_one hA
    obtain ⟨A0, c0, xs0, rfl, m0, r0⟩ := open_list (hval 0 26 v0 rfl rfl) h0
    exact walkOtherRange A0 c0 xs0 W m0 r0

/-- OtherRange answers as its model, for every list. -/
theorem fnExactOtherRange_holds : Rows.FnExactOtherRangeSaid :=
  OpenClaim.holds_of_wide 10 Try.f10 rfl rfl rfl rfl rfl rfl rfl ⟨rfl, rfl, rfl, rfl, rfl⟩ rfl rfl rfl rfl rfl (by kernel_rfl) Try.func10 (by kernel_rfl)
    (of_decide_eq_true (by kernel_rfl)) (by unfold Func.isWrapper; first | (rw [if_pos (by decide +kernel)]; kernel_rfl) | (rw [if_neg (by decide +kernel)]; exact ⟨rfl, rfl⟩))
    (fun os started H enc _ => fnExactOtherRange_lifted os started H enc)

end Go.Proofs.Ytjmfecjgomkofaa
