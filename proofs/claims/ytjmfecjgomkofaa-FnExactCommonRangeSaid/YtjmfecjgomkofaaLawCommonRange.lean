/-
  The law FnExactCommonRange returns true for all two lists of numbers, and leaves the lists as they were: CommonRange answers as its model, in new memory.
  No condition.
-/
import Derived.Test.YtjmfecjgomkofaaRngSets
import Derived.Test.YtjmfecjgomkofaaMark
import Derived.Lib.SmallJoins
namespace Go.Proofs.Ytjmfecjgomkofaa
open Go.ChangeShapes Go.WideShapes Go.ChangeAt Go.RowKit Go.Joins
set_option linter.unusedVariables false

set_option maxRecDepth 100000 in
set_option maxHeartbeats 400000 in
theorem walkCommonRange_big (A : Option Addr) (c : Nat) (xs : List Int) (E : Option Addr) (d : Nat) (ys : List Int) (w : World) (hm : xs.length ≤ maxLen) (hm2 : ys.length ≤ maxLen) (hx : 1048576 < xs.length) :
    Calls Try.prog 9 #[.slice A xs.length c, .slice E ys.length d] w (Fresh (.bool true) w) := by
  unfold maxLen at hm hm2
  have h' : (1048576 : Int) < xs.length := by omega
  go_enter Try.func9, Try.ntmps9
  go_wp2_with fail
  go_ret
  exact ⟨rfl, bl_refl _⟩
set_option maxRecDepth 100000 in
set_option maxHeartbeats 400000 in
theorem walkCommonRange_big2 (A : Option Addr) (c : Nat) (xs : List Int) (E : Option Addr) (d : Nat) (ys : List Int) (w : World) (hm : xs.length ≤ 1048576) (hm2 : ys.length ≤ maxLen) (hx : 1048576 < ys.length) :
    Calls Try.prog 9 #[.slice A xs.length c, .slice E ys.length d] w (Fresh (.bool true) w) := by
  unfold maxLen at hm2
  have h' : (1048576 : Int) < ys.length := by omega
  have h2' : (xs.length : Int) ≤ 1048576 := by omega
  go_enter Try.func9, Try.ntmps9
  go_wp2_with fail
  go_ret
  exact ⟨rfl, bl_refl _⟩

set_option maxRecDepth 100000 in
set_option maxHeartbeats 4000000 in
theorem walkCommonRange_in (A : Option Addr) (c : Nat) (xs : List Int) (E : Option Addr) (d : Nat) (ys : List Int) (w : World) (hr : Rd w A xs) (hn : xs.length ≤ 1048576) (hr2 : Rd w E ys) (hn2 : ys.length ≤ 1048576) :
    Calls Try.prog 9 #[.slice A xs.length c, .slice E ys.length d] w (Fresh (.bool true) w) := by
  have HR := Lib.hid hr
  have HQ := Lib.hid hr2
  have hn4 : xs.length ≤ 4000000 := by omega
  have hm4 : ys.length ≤ 4000000 := by omega
  have hn' : (xs.length : Int) ≤ 1048576 := by omega
  have hm' : (ys.length : Int) ≤ 1048576 := by omega
  have B0 := Lib.hid (bl_refl w)
  obtain ⟨zs, kz, hzl, K1, K2⟩ : ∃ (zs : List Int) (kz : Int), zs.length ≤ 4000000 ∧ Hid (∀ (A : Option Addr) (c : Nat) (E : Option Addr) (d : Nat) (W : World), Rd W A xs → Rd W E ys → Calls Try.prog 37 #[.slice A xs.length c, .slice E ys.length d] W (NewLC zs kz W)) ∧ Hid (∀ (A : Option Addr) (c : Nat) (E : Option Addr) (d : Nat) (W : World), Rd W A xs → Rd W E ys → Calls Try.prog 38 #[.slice A xs.length c, .slice E ys.length d] W (NewLC zs kz W)) :=
    ⟨_, _, two_len xs ys _, Lib.hid (fun A c E d W h h2 => specCommonRange_any A c xs E d ys W h h2 hn4 hm4), Lib.hid (fun A c E d W h h2 => implCommonRange_any A c xs E d ys W h h2 hn4 hm4)⟩
  have k1 : decide ((1 : Int) + (xs.length : Int) + (ys.length : Int) < 0) = false := by simp; omega
  have k2 : decide ((1 : Int) + (zs.length : Int) < 0) = false := by simp; omega
  clear hr hr2
  go_enter Try.func9, Try.ntmps9
  go_wp2_with (go_at_call 24; ((with_reducible refine (toInts_any A _ xs _ (HR.out.below B0.out) hn).mono ?_); rintro e w1 ⟨A1, c1, rfl, ho1, hb1⟩; have O1 := Lib.hid ho1; have B1 := Lib.hid (bl_trans B0.out hb1); have X1 := Lib.hid hb1; clear ho1 hb1))
  go_wp2_with (go_at_call 24; ((with_reducible refine (toInts_any E _ ys _ (HQ.out.below B1.out) hn2).mono ?_); rintro e w2 ⟨A2, c2, rfl, ho2, hb2⟩; have O2 := Lib.hid ho2; have B2 := Lib.hid (bl_trans B1.out hb2); have X2 := Lib.hid hb2; clear ho2 hb2))
  go_wp2_with (go_at_call 37; ((with_reducible refine (K1.out A1 _ A2 _ _ (O1.out.below X2.out).rd O2.out.rd).mono ?_); rintro e w3 ⟨A3, c3, rfl, ho3, hb3⟩; have O3 := Lib.hid ho3; have X3 := Lib.hid hb3; have B3 := Lib.hid (bl_trans B2.out hb3); clear ho3 hb3))
  go_wp2_with (go_at_call 24; ((with_reducible refine (toInts_any A _ xs _ (HR.out.below B3.out) hn).mono ?_); rintro e w4 ⟨A4, c4, rfl, ho4, hb4⟩; have O4 := Lib.hid ho4; have B4 := Lib.hid (bl_trans B3.out hb4); have X4 := Lib.hid hb4; clear ho4 hb4))
  go_wp2_with (go_at_call 24; ((with_reducible refine (toInts_any E _ ys _ (HQ.out.below B4.out) hn2).mono ?_); rintro e w5 ⟨A5, c5, rfl, ho5, hb5⟩; have O5 := Lib.hid ho5; have B5 := Lib.hid (bl_trans B4.out hb5); have X5 := Lib.hid hb5; clear ho5 hb5))
  go_wp2_with (go_at_call 38; ((with_reducible refine (K2.out A4 _ A5 _ _ (O4.out.below X5.out).rd O5.out.rd).mono ?_); rintro e w6 ⟨A6, c6, rfl, ho6, hb6⟩; have O6 := Lib.hid ho6; have X6 := Lib.hid hb6; have B6 := Lib.hid (bl_trans B5.out hb6); clear ho6 hb6))
  go_wp2_with (go_at_call 26; ((with_reducible refine (eqInts_same A6 A3 _ _ zs _ O6.out.rd (((O3.out.below X4.out).below X5.out).below X6.out).rd hzl).mono ?_); rintro e w7 ⟨rfl, hb7⟩; have X7 := Lib.hid hb7; have B7 := Lib.hid (bl_trans B6.out hb7); clear hb7))
  go_wp2_with (go_at_call 24; ((with_reducible refine (toInts_any A _ xs _ (HR.out.below B7.out) hn).mono ?_); rintro e w8 ⟨A8, c8, rfl, ho8, hb8⟩; have O8 := Lib.hid ho8; have B8 := Lib.hid (bl_trans B7.out hb8); have X8 := Lib.hid hb8; clear ho8 hb8))
  go_wp2_with (go_at_call 26; ((with_reducible refine (eqInts_same A4 A8 _ _ xs _ ((((O4.out.below X5.out).below X6.out).below X7.out).below X8.out).rd O8.out.rd hn4).mono ?_); rintro e w9 ⟨rfl, hb9⟩; have X9 := Lib.hid hb9; have B9 := Lib.hid (bl_trans B8.out hb9); clear hb9))
  go_wp2_with (go_at_call 24; ((with_reducible refine (toInts_any E _ ys _ (HQ.out.below B9.out) hn2).mono ?_); rintro e w10 ⟨A10, c10, rfl, ho10, hb10⟩; have O10 := Lib.hid ho10; have B10 := Lib.hid (bl_trans B9.out hb10); have X10 := Lib.hid hb10; clear ho10 hb10))
  go_wp2_with (go_at_call 26; ((with_reducible refine (eqInts_same A5 A10 _ _ ys _ (((((O5.out.below X6.out).below X7.out).below X8.out).below X9.out).below X10.out).rd O10.out.rd hm4).mono ?_); rintro e w11 ⟨rfl, hb11⟩; have X11 := Lib.hid hb11; have B11 := Lib.hid (bl_trans B10.out hb11); clear hb11))
  have Y6 : Hid (Below w6.heap.size w6 w11) := Lib.hid (bl_trans (bl_trans (bl_trans (bl_trans X7.out X8.out) X9.out) X10.out) X11.out)
  have E4 : Hid (Own w11 w3.heap.size (.slice A4 xs.length c4) xs) := Lib.hid (((O4.out.below X5.out).below X6.out).below Y6.out)
  have E5 : Hid (Own w11 w4.heap.size (.slice A5 ys.length c5) ys) := Lib.hid ((O5.out.below X6.out).below Y6.out)
  have D3 : Hid (Own w11 w2.heap.size (.slice A3 zs.length c3) zs) := Lib.hid ((((O3.out.below X4.out).below X5.out).below X6.out).below Y6.out)
  have D6 : Hid (Own w11 w5.heap.size (.slice A6 zs.length c6) zs) := Lib.hid (O6.out.below Y6.out)
  have S1 : Hid (w.heap.size ≤ w2.heap.size ∧ w2.heap.size ≤ w3.heap.size ∧ w3.heap.size ≤ w4.heap.size ∧ w4.heap.size ≤ w5.heap.size) := Lib.hid ⟨Nat.le_trans X1.out.size X2.out.size, X3.out.size, X4.out.size, X5.out.size⟩
  have N1 : Hid (_ ∨ _) := Lib.hid (own_ne O3.out E4.out (Nat.le_refl _))
  have N2 : Hid (_ ∨ _) := Lib.hid (own_ne O3.out E5.out S1.out.2.2.1)
  have N3 : Hid (_ ∨ _) := Lib.hid (own_ne' D6.out O4.out S1.out.2.2.2)
  have N4 : Hid (_ ∨ _) := Lib.hid (own_ne' D6.out O5.out (Nat.le_refl _))
  have N5 : Hid (_ ∨ _) := Lib.hid (own_ne' E5.out O4.out (Nat.le_refl _))
  have N6 : Hid (_ ∨ _) := Lib.hid (own_ne O3.out D6.out (Nat.le_trans S1.out.2.2.1 S1.out.2.2.2))
  go_wp2_with (go_at_call 35; ((with_reducible refine (mark_any A4 c4 _ xs _ _ E4.out hn4 (by omega) (by omega)).mono ?_); rintro e w12 ⟨rfl, ho12, hg12⟩; have B12 := Lib.hid (bl_mark B11.out hg12 E4.out (Nat.le_trans S1.out.1 S1.out.2.1)); have E5b := Lib.hid (E5.out.grown hg12 N5.out); have D3b := Lib.hid (D3.out.grown hg12 N1.out); have D6b := Lib.hid (D6.out.grown hg12 N3.out); clear ho12 hg12))
  go_wp2_with (go_at_call 35; ((with_reducible refine (mark_any A5 c5 _ ys _ _ E5b.out hm4 (by omega) (by omega)).mono ?_); rintro e w13 ⟨rfl, ho13, hg13⟩; have B13 := Lib.hid (bl_mark B12.out hg13 E5b.out (Nat.le_trans S1.out.1 (Nat.le_trans S1.out.2.1 S1.out.2.2.1))); have D3c := Lib.hid (D3b.out.grown hg13 N2.out); have D6c := Lib.hid (D6b.out.grown hg13 N4.out); clear ho13 hg13))
  go_wp2_with (go_at_call 26; ((with_reducible refine (eqInts_same A6 A3 _ _ zs _ D6c.out.rd D3c.out.rd hzl).mono ?_); rintro e w14 ⟨rfl, hb14⟩; have X14 := Lib.hid hb14; have B14 := Lib.hid (bl_trans B13.out hb14); have D3d := Lib.hid (D3c.out.below hb14); have D6d := Lib.hid (D6c.out.below hb14); clear hb14))
  go_wp2_with (go_at_call 35; ((with_reducible refine (mark_any A6 c6 _ zs _ _ D6d.out hzl (by omega) (by omega)).mono ?_); rintro e w15 ⟨rfl, ho15, hg15⟩; have B15 := Lib.hid (bl_mark B14.out hg15 D6d.out B5.out.size); have D3e := Lib.hid (D3d.out.grown hg15 N6.out); have G6 := Lib.hid ho15; clear ho15 hg15))
  go_wp2_with (go_at_call 36; ((with_reducible refine (held_any A6 c6 1 zs.length _ G6.out.rd hzl (by omega) (by omega)).mono ?_); rintro e w15b ⟨rfl, rfl⟩))
  go_wp2_with (go_at_call 24; ((with_reducible refine (toInts_any A _ xs _ (HR.out.below B15.out) hn).mono ?_); rintro e w16 ⟨A16, c16, rfl, ho16, hb16⟩; have O16 := Lib.hid ho16; have B16 := Lib.hid (bl_trans B15.out hb16); have X16 := Lib.hid hb16; clear ho16 hb16))
  go_wp2_with (go_at_call 24; ((with_reducible refine (toInts_any E _ ys _ (HQ.out.below B16.out) hn2).mono ?_); rintro e w17 ⟨A17, c17, rfl, ho17, hb17⟩; have O17 := Lib.hid ho17; have B17 := Lib.hid (bl_trans B16.out hb17); have X17 := Lib.hid hb17; clear ho17 hb17))
  go_wp2_with (go_at_call 38; ((with_reducible refine (K2.out A16 _ A17 _ _ (O16.out.below X17.out).rd O17.out.rd).mono ?_); rintro e w18 ⟨A18, c18, rfl, ho18, hb18⟩; have O18 := Lib.hid ho18; have X18 := Lib.hid hb18; have B18 := Lib.hid (bl_trans B17.out hb18); clear ho18 hb18))
  have Y15 : Hid (Below w15.heap.size w15 w18) := Lib.hid (bl_trans (bl_trans X16.out X17.out) X18.out)
  go_wp2_with (go_at_call 26; ((with_reducible refine (eqInts_same A18 A3 _ _ zs _ O18.out.rd (D3e.out.below Y15.out).rd hzl).mono ?_); rintro e w19 ⟨rfl, hb19⟩; have X19 := Lib.hid hb19; have B19 := Lib.hid (bl_trans B18.out hb19); clear hb19))
  have G19 := Lib.hid ((G6.out.below Y15.out).below X19.out)
  go_wp2_with (go_at_call 36; ((with_reducible refine (held_any A6 c6 1 zs.length _ G19.out.rd hzl (by omega) (by omega)).mono ?_); rintro e w20 ⟨rfl, rfl⟩))
  go_ret
  exact ⟨rfl, B19.out⟩

theorem walkCommonRange (A : Option Addr) (c : Nat) (xs : List Int) (E : Option Addr) (d : Nat) (ys : List Int) (w : World) (hm : xs.length ≤ maxLen) (hr : Rd w A xs) (hm2 : ys.length ≤ maxLen) (hr2 : Rd w E ys) :
    Calls Try.prog 9 #[.slice A xs.length c, .slice E ys.length d] w (Fresh (.bool true) w) := by
  by_cases hx : xs.length ≤ 1048576
  · by_cases h2 : ys.length ≤ 1048576
    · exact walkCommonRange_in A c xs E d ys w hr hx hr2 h2
    · exact walkCommonRange_big2 A c xs E d ys w hx hm2 (by omega)
  · exact walkCommonRange_big A c xs E d ys w hm hm2 (by omega)

set_option maxRecDepth 100000 in
theorem fnExactCommonRange_lifted (os : Os) (started : os.Started) (H : Type) (enc : TypeId × Value → H) :
    ReturnsInHanded {} Try.checked os 9 .any (Rows.fnExactCommonRangeSpec.pre6 enc Try.prog Try.f9 Rows.fnExactCommonRangeRow.domain false) (Rows.fnExactCommonRangeSpec.post enc Try.prog Try.f9 false true false false) := by
  refine law_lifted started (by kernel_rfl) Try.func9 (by kernel_rfl) rfl (fun ds h => ?_) ?_
    (ChangeSpec.witness6 (enc := enc) (C := Try.checked) false ⟨#[], #[.slice none 0 0, .slice none 0 0], []⟩ 8 (by kernel_rfl) (by kernel_rfl) (by kernel_rfl) (by kernel_rfl)) ?_
  · match ds, h with
    | [d0, d1], _ => rfl
  · rw [Try.params9]
    intro t ht
    obtain rfl : t = 26 := by simpa using ht
    exact ⟨by kernel_rfl, of_decide_eq_true (by kernel_rfl)⟩
  · intro W base args ds ps hval hA
    rw [Try.params9] at hA hval
    obtain ⟨v0, v1, d0, d1, p0, p1, rfl, rfl, rfl, h0, h1⟩ := trodAll_two hA
    obtain ⟨A0, c0, xs0, rfl, m0, r0⟩ := open_list (hval 0 26 v0 rfl rfl) h0
    obtain ⟨A1, c1, xs1, rfl, m1, r1⟩ := open_list (hval 1 26 v1 rfl rfl) h1
    exact walkCommonRange A0 c0 xs0 A1 c1 xs1 W m0 r0 m1 r1

/-- CommonRange answers as its model, for all two lists. -/
theorem fnExactCommonRange_holds : Rows.FnExactCommonRangeSaid :=
  OpenClaim.holds_of_wide 9 Try.f9 rfl rfl rfl rfl rfl rfl rfl ⟨rfl, rfl, rfl, rfl, rfl⟩ rfl rfl rfl rfl rfl (by kernel_rfl) Try.func9 (by kernel_rfl)
    (of_decide_eq_true (by kernel_rfl)) (by unfold Func.isWrapper; first | (rw [if_pos (by decide +kernel)]; kernel_rfl) | (rw [if_neg (by decide +kernel)]; exact ⟨rfl, rfl⟩))
    (fun os started H enc _ => fnExactCommonRange_lifted os started H enc)

end Go.Proofs.Ytjmfecjgomkofaa
