/-
  The law FnRangeTexts returns true for every code, and leaves it as it was: a range is recovered from its standard text unless this is too long or empty.
  No condition.
-/
import Derived.Test.YtlpkaflmhdgmmaaDrawRngText
import Derived.Test.YtlpkaflmhdgmmaaRngBack
import Derived.Test.YtlpkaflmhdgmmaaRngTextImpl
import Derived.Test.YtlpkaflmhdgmmaaSpecRange
import Derived.Test.YtlpkaflmhdgmmaaRdrRange
import Derived.Test.YtlpkaflmhdgmmaaLike
import Derived.Lib.SmallJoins
namespace Go.Proofs.Ytlpkaflmhdgmmaa
open Go.ChangeShapes Go.WideShapes Go.ChangeAt Go.RowKit Go.Joins
set_option linter.unusedVariables false

/-- What the law asks of a range and its text. -/
theorem texts_cases (xs : List Int) : (rngB xs = false ∧ rngC xs = 1) ∨ (rngB xs = true ∧ rngC xs = 0 ∧ xs.length = 0) ∨ (rngB xs = true ∧ rngC xs = 0 ∧ 0 < xs.length ∧ rdR (rngT xs) = xs ∧ rdC (rngT xs) = 0) := by
  cases h : rngB xs with
  | false => exact .inl ⟨rfl, (rngT_no h).2⟩
  | true =>
    right
    by_cases h0 : xs.length = 0
    · exact .inl ⟨rfl, (rngT_yes h).2, h0⟩
    · have hb := rd_back xs h (fun e => h0 (by rw [e]; rfl))
      refine .inr ⟨rfl, (rngT_yes h).2, by omega, ?_, ?_⟩
      · rw [(rngT_yes h).1]; exact hb.1
      · rw [(rngT_yes h).1]; exact hb.2.1
theorem read_cases (l : List UInt8) : (rdC l ≠ 0) ∨ (rdC l = 0 ∧ rngB (rdR l) = true ∧ 0 < (rdR l).length) := by
  by_cases h : rdC l = 0
  · exact .inr ⟨h, rd_good h⟩
  · exact .inl h
theorem rdR_len' (l : List UInt8) : (rdR l).length ≤ 169 := by
  unfold rdR
  split
  · exact clsIn_len _
  · simp
theorem rngT_len (xs : List Int) : (rngT xs).length ≤ 4 * xs.length := by
  cases h : rngB xs with
  | true => rw [(rngT_yes h).1]; have := rtx_len xs.reverse; rw [List.length_reverse] at this; exact this
  | false => rw [(rngT_no h).1]; simp
set_option maxRecDepth 100000 in
set_option maxHeartbeats 4000000 in
theorem walkTexts_in (a : Option Addr) (L c : Nat) (zs : Nat → Int) (w : World) (hL : L ≤ 4096) (hc : CodeIn w a L zs) :
    Calls Try.prog 3 #[.slice a L c] w (Fresh (.bool true) w) := by
  have HC := Lib.hid hc
  clear hc
  go_enter Try.func3, Try.ntmps3
  go_wp2_with (go_at_call 5; ((with_reducible refine (big_no _ _ _ _ hL).mono ?_); rintro e w0 ⟨rfl, rfl⟩))
  go_wp2_with (go_at_call 6; ((with_reducible refine (drawRangeText_any _ _ _ zs _ hL HC.out).mono ?_); rintro e w1 ⟨xs, A1, c1, rfl, hlx, ho1, hb1⟩; have Rx := Lib.hid ho1.rd; have B1 := Lib.hid hb1; clear ho1 hb1))
  have HTC := Lib.hid (texts_cases xs)
  have KI := Lib.hid (fun (W : World) (h : Rd W A1 xs) => implRangeText_any A1 c1 xs W h (by omega))
  have KJ := Lib.hid (fun (W : World) (h : Rd W A1 xs) => specRangeText_any A1 c1 xs W h (by omega))
  have KX := Lib.hid (fun (W : World) (h : Rd W A1 xs) => implIsRange_same A1 c1 xs W h (by omega))
  have KB : Hid (∀ W, Calls Try.prog 10 #[strV (rngT xs)] W (NewLC (rdR (rngT xs)) (rdC (rngT xs)) W)) := Lib.hid (fun W => implReadRange_any ⟨(rngT xs).toArray⟩ W (by show (rngT xs).toArray.size ≤ _; rw [List.size_toArray]; have := rngT_len xs; omega))
  generalize rngT xs = tx at *
  generalize rngC xs = cx at *
  generalize rngB xs = bx at *
  generalize rdR tx = rx at *
  generalize rdC tx = kx at *
  go_wp2_with (go_at_call 7; ((with_reducible refine (KI.out _ Rx.out).mono ?_); rintro e w2 ⟨rfl, hb2⟩; have Rx := Lib.hid (Rx.out.below hb2); have B2 := Lib.hid (bl_trans B1.out hb2); clear hb2))
  go_wp2_with (go_at_call 8; ((with_reducible refine (KJ.out _ Rx.out).mono ?_); rintro e w3 ⟨rfl, hb3⟩; have Rx := Lib.hid (Rx.out.below hb3); have B3 := Lib.hid (bl_trans B2.out hb3); clear hb3))
  go_wp2_with (go_at_call 9; ((with_reducible refine (drawReadRange_any _ _ _ zs _ hL (codeIn_below HC.out B3.out)).mono ?_); rintro e w4 ⟨sx, rfl, hsx, hb4⟩; have Rx := Lib.hid (Rx.out.below hb4); have B4 := Lib.hid (bl_trans B3.out hb4); clear hb4))
  have HRC := Lib.hid (read_cases sx.data.toList)
  have KR := Lib.hid (fun (W : World) => implReadRange_any sx W (by omega))
  have KS := Lib.hid (fun (W : World) => specReadRange_any sx W (by omega))
  have hly := rdR_len' sx.data.toList
  generalize rdR sx.data.toList = ys at *
  generalize rdC sx.data.toList = ky at *
  have KY := Lib.hid (fun (A : Option Addr) (c : Nat) (W : World) (h : Rd W A ys) => implIsRange_same A c ys W h (by omega))
  go_wp2_with (go_at_call 10; ((with_reducible refine (KR.out _).mono ?_); rintro e w5 ⟨A5, c5, rfl, ho5, hb5⟩; have Rx := Lib.hid (Rx.out.below hb5); have Ry := Lib.hid ho5.rd; have B5 := Lib.hid (bl_trans B4.out hb5); clear ho5 hb5))
  have q1 : (cx != cx) = false := by simp
  have q2 : (ky != ky) = false := by simp
  have q3 : (tx != tx) = false := by simp
  rcases HTC.out with ⟨rfl, rfl⟩ | ⟨rfl, rfl, h0⟩ | ⟨rfl, rfl, h0, rfl, rfl⟩
  · skip
    rcases HRC.out with hk | ⟨rfl, hy1, hy2⟩
    · have q4 : (ky == 0) = false := by simpa using hk
      clear hk
      go_wp2_with (first
        | (go_at_call 11; ((with_reducible refine (KS.out _).mono ?_); rintro e w6 ⟨A6, c6, rfl, ho6, hb6⟩; have Rx := Lib.hid (Rx.out.below hb6); have Ry := Lib.hid (Ry.out.below hb6); have Rz := Lib.hid ho6.rd; have B6 := Lib.hid (bl_trans B5.out hb6); clear ho6 hb6))
        | (go_at_call 12; ((with_reducible refine (likeInts_same A5 A6 c5 c6 ys _ Ry.out Rz.out (by omega)).mono ?_); rintro e w7 ⟨rfl, hb7⟩; have Rx := Lib.hid (Rx.out.below hb7); have Ry := Lib.hid (Ry.out.below hb7); have B7 := Lib.hid (bl_trans B6.out hb7); clear hb7))
        | (go_at_call 13; ((with_reducible refine (KX.out _ Rx.out).mono ?_); rintro e w8 ⟨rfl, rfl⟩)))
      go_ret
      exact ⟨rfl, B7.out⟩
    · have KY2 := Lib.hid (fun (A : Option Addr) (c : Nat) (W : World) (h : Rd W A ys) => KY.out A c W h)
      rw [hy1] at KY2
      have q5 : ((ys.length : Int) == 0) = false := (beqF (show ((ys.length : Nat) : Int) ≠ 0 by omega)).1
      clear hy1 hy2
      go_wp2_with (first
        | (go_at_call 11; ((with_reducible refine (KS.out _).mono ?_); rintro e w6 ⟨A6, c6, rfl, ho6, hb6⟩; have Rx := Lib.hid (Rx.out.below hb6); have Ry := Lib.hid (Ry.out.below hb6); have Rz := Lib.hid ho6.rd; have B6 := Lib.hid (bl_trans B5.out hb6); clear ho6 hb6))
        | (go_at_call 12; ((with_reducible refine (likeInts_same A5 A6 c5 c6 ys _ Ry.out Rz.out (by omega)).mono ?_); rintro e w7 ⟨rfl, hb7⟩; have Rx := Lib.hid (Rx.out.below hb7); have Ry := Lib.hid (Ry.out.below hb7); have B7 := Lib.hid (bl_trans B6.out hb7); clear hb7))
        | (go_at_call 13; ((with_reducible refine (KX.out _ Rx.out).mono ?_); rintro e w8 ⟨rfl, rfl⟩))
        | (go_at_call 13; ((with_reducible refine (KY2.out _ _ _ Ry.out).mono ?_); rintro e w9 ⟨rfl, rfl⟩)))
      go_ret
      exact ⟨rfl, B7.out⟩
  · have q6 : ((xs.length : Int) == 0) = true := (beqT (show ((xs.length : Nat) : Int) = 0 by omega)).1
    clear h0
    rcases HRC.out with hk | ⟨rfl, hy1, hy2⟩
    · have q4 : (ky == 0) = false := by simpa using hk
      clear hk
      go_wp2_with (first
        | (go_at_call 11; ((with_reducible refine (KS.out _).mono ?_); rintro e w6 ⟨A6, c6, rfl, ho6, hb6⟩; have Rx := Lib.hid (Rx.out.below hb6); have Ry := Lib.hid (Ry.out.below hb6); have Rz := Lib.hid ho6.rd; have B6 := Lib.hid (bl_trans B5.out hb6); clear ho6 hb6))
        | (go_at_call 12; ((with_reducible refine (likeInts_same A5 A6 c5 c6 ys _ Ry.out Rz.out (by omega)).mono ?_); rintro e w7 ⟨rfl, hb7⟩; have Rx := Lib.hid (Rx.out.below hb7); have Ry := Lib.hid (Ry.out.below hb7); have B7 := Lib.hid (bl_trans B6.out hb7); clear hb7))
        | (go_at_call 13; ((with_reducible refine (KX.out _ Rx.out).mono ?_); rintro e w8 ⟨rfl, rfl⟩)))
      go_ret
      exact ⟨rfl, B7.out⟩
    · have KY2 := Lib.hid (fun (A : Option Addr) (c : Nat) (W : World) (h : Rd W A ys) => KY.out A c W h)
      rw [hy1] at KY2
      have q5 : ((ys.length : Int) == 0) = false := (beqF (show ((ys.length : Nat) : Int) ≠ 0 by omega)).1
      clear hy1 hy2
      go_wp2_with (first
        | (go_at_call 11; ((with_reducible refine (KS.out _).mono ?_); rintro e w6 ⟨A6, c6, rfl, ho6, hb6⟩; have Rx := Lib.hid (Rx.out.below hb6); have Ry := Lib.hid (Ry.out.below hb6); have Rz := Lib.hid ho6.rd; have B6 := Lib.hid (bl_trans B5.out hb6); clear ho6 hb6))
        | (go_at_call 12; ((with_reducible refine (likeInts_same A5 A6 c5 c6 ys _ Ry.out Rz.out (by omega)).mono ?_); rintro e w7 ⟨rfl, hb7⟩; have Rx := Lib.hid (Rx.out.below hb7); have Ry := Lib.hid (Ry.out.below hb7); have B7 := Lib.hid (bl_trans B6.out hb7); clear hb7))
        | (go_at_call 13; ((with_reducible refine (KX.out _ Rx.out).mono ?_); rintro e w8 ⟨rfl, rfl⟩))
        | (go_at_call 13; ((with_reducible refine (KY2.out _ _ _ Ry.out).mono ?_); rintro e w9 ⟨rfl, rfl⟩)))
      go_ret
      exact ⟨rfl, B7.out⟩
  · have q6 : ((rx.length : Int) == 0) = false := (beqF (show ((rx.length : Nat) : Int) ≠ 0 by omega)).1
    clear h0
    rcases HRC.out with hk | ⟨rfl, hy1, hy2⟩
    · have q4 : (ky == 0) = false := by simpa using hk
      clear hk
      go_wp2_with (first
        | (go_at_call 11; ((with_reducible refine (KS.out _).mono ?_); rintro e w6 ⟨A6, c6, rfl, ho6, hb6⟩; have Rx := Lib.hid (Rx.out.below hb6); have Ry := Lib.hid (Ry.out.below hb6); have Rz := Lib.hid ho6.rd; have B6 := Lib.hid (bl_trans B5.out hb6); clear ho6 hb6))
        | (go_at_call 12; ((with_reducible refine (likeInts_same A5 A6 c5 c6 ys _ Ry.out Rz.out (by omega)).mono ?_); rintro e w7 ⟨rfl, hb7⟩; have Rx := Lib.hid (Rx.out.below hb7); have Ry := Lib.hid (Ry.out.below hb7); have B7 := Lib.hid (bl_trans B6.out hb7); clear hb7))
        | (go_at_call 13; ((with_reducible refine (KX.out _ Rx.out).mono ?_); rintro e w8 ⟨rfl, rfl⟩))
        | (go_at_call 10; ((with_reducible refine (KB.out _).mono ?_); rintro e w10 ⟨A10, c10, rfl, ho10, hb10⟩; have Rx := Lib.hid (Rx.out.below hb10); have Rb := Lib.hid ho10.rd; have B10 := Lib.hid (bl_trans B7.out hb10); clear ho10 hb10))
        | (go_at_call 12; ((with_reducible refine (likeInts_same A10 A1 c10 c1 _ _ Rb.out Rx.out (by omega)).mono ?_); rintro e w11 ⟨rfl, hb11⟩; have B11 := Lib.hid (bl_trans B10.out hb11); clear hb11)))
      go_ret
      exact ⟨rfl, B11.out⟩
    · have KY2 := Lib.hid (fun (A : Option Addr) (c : Nat) (W : World) (h : Rd W A ys) => KY.out A c W h)
      rw [hy1] at KY2
      have q5 : ((ys.length : Int) == 0) = false := (beqF (show ((ys.length : Nat) : Int) ≠ 0 by omega)).1
      clear hy1 hy2
      go_wp2_with (first
        | (go_at_call 11; ((with_reducible refine (KS.out _).mono ?_); rintro e w6 ⟨A6, c6, rfl, ho6, hb6⟩; have Rx := Lib.hid (Rx.out.below hb6); have Ry := Lib.hid (Ry.out.below hb6); have Rz := Lib.hid ho6.rd; have B6 := Lib.hid (bl_trans B5.out hb6); clear ho6 hb6))
        | (go_at_call 12; ((with_reducible refine (likeInts_same A5 A6 c5 c6 ys _ Ry.out Rz.out (by omega)).mono ?_); rintro e w7 ⟨rfl, hb7⟩; have Rx := Lib.hid (Rx.out.below hb7); have Ry := Lib.hid (Ry.out.below hb7); have B7 := Lib.hid (bl_trans B6.out hb7); clear hb7))
        | (go_at_call 13; ((with_reducible refine (KX.out _ Rx.out).mono ?_); rintro e w8 ⟨rfl, rfl⟩))
        | (go_at_call 13; ((with_reducible refine (KY2.out _ _ _ Ry.out).mono ?_); rintro e w9 ⟨rfl, rfl⟩))
        | (go_at_call 10; ((with_reducible refine (KB.out _).mono ?_); rintro e w10 ⟨A10, c10, rfl, ho10, hb10⟩; have Rx := Lib.hid (Rx.out.below hb10); have Rb := Lib.hid ho10.rd; have B10 := Lib.hid (bl_trans B7.out hb10); clear ho10 hb10))
        | (go_at_call 12; ((with_reducible refine (likeInts_same A10 A1 c10 c1 _ _ Rb.out Rx.out (by omega)).mono ?_); rintro e w11 ⟨rfl, hb11⟩; have B11 := Lib.hid (bl_trans B10.out hb11); clear hb11)))
      go_ret
      exact ⟨rfl, B11.out⟩

set_option maxRecDepth 100000 in
set_option maxHeartbeats 400000 in
theorem walkTexts_big (a : Option Addr) (L c : Nat) (w : World) (hm : L ≤ maxLen) (h : 4096 < L) :
    Calls Try.prog 3 #[.slice a L c] w (Fresh (.bool true) w) := by
  unfold maxLen at hm
  go_enter Try.func3, Try.ntmps3
  go_wp2_with (go_at_call 5; refine (big_yes _ _ _ _ h (by omega)).mono ?_; rintro e w0 ⟨rfl, rfl⟩)
  go_ret
  exact ⟨rfl, bl_refl _⟩
theorem walkTexts (a : Option Addr) (L c : Nat) (zs : Nat → Int) (w : World) (hm : L ≤ maxLen) (hc : CodeIn w a L zs) :
    Calls Try.prog 3 #[.slice a L c] w (Fresh (.bool true) w) := by
  by_cases h : L ≤ 4096
  · exact walkTexts_in a L c zs w h hc
  · exact walkTexts_big a L c w hm (by omega)

set_option maxRecDepth 100000 in
theorem fnRangeTexts_lifted (os : Os) (started : os.Started) (H : Type) (enc : TypeId × Value → H) :
    ReturnsInHanded {} Try.checked os 3 .any (Rows.fnRangeTextsSpec.pre6 enc Try.prog Try.f3 Rows.fnRangeTextsRow.domain false) (Rows.fnRangeTextsSpec.post enc Try.prog Try.f3 false true false false) := by
  refine law_lifted started (by kernel_rfl) Try.func3 (by kernel_rfl) rfl (fun ds h => ?_) ?_
    (ChangeSpec.witness6 (enc := enc) (C := Try.checked) false ⟨#[], #[.slice none 0 0], []⟩ 8 (by kernel_rfl) (by kernel_rfl) (by kernel_rfl) (by kernel_rfl)) ?_
  · match ds, h with
    | [d0], _ => rfl
  · rw [Try.params3]
    intro t ht
    obtain rfl : t = 22 := by simpa using ht
    exact ⟨by kernel_rfl, of_decide_eq_true (by kernel_rfl)⟩
  · intro W base args ds ps hval hA
    rw [Try.params3] at hA hval
    obtain ⟨v0, d0, rfl, rfl, h0⟩ := trodAll_one hA
    obtain ⟨A0, L0, c0, zs0, rfl, m0, r0⟩ := open_code (hval 0 22 v0 rfl rfl) h0
    exact walkTexts A0 L0 c0 zs0 W m0 r0

/-- A range is recovered from its standard text unless this is too long or empty, for every code. -/
theorem fnRangeTexts_holds : Rows.FnRangeTextsSaid :=
  OpenClaim.holds_of_wide 3 Try.f3 rfl rfl rfl rfl rfl rfl rfl ⟨rfl, rfl, rfl, rfl, rfl⟩ rfl rfl rfl rfl rfl (by kernel_rfl) Try.func3 (by kernel_rfl)
    (of_decide_eq_true (by kernel_rfl)) (by unfold Func.isWrapper; first | (rw [if_pos (by decide +kernel)]; kernel_rfl) | (rw [if_neg (by decide +kernel)]; exact ⟨rfl, rfl⟩))
    (fun os started H enc _ => fnRangeTexts_lifted os started H enc)

end Go.Proofs.Ytlpkaflmhdgmmaa
