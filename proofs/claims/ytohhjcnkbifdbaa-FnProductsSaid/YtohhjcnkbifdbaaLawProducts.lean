/-
  The law FnProducts returns true for every code, and leaves it as it was: dividing undoes multiplying, and products compare as their factors do.
  No condition.
-/
import Derived.Test.YtohhjcnkbifdbaaLawSums
namespace Go.Proofs.Ytohhjcnkbifdbaa
open Go.ChangeShapes Go.WideShapes Go.ChangeAt Go.RowKit Go.Joins
set_option linter.unusedVariables false

theorem cmpR_bd (n d m e : Int) : -1 ≤ (cmpR n d m e).1 ∧ (cmpR n d m e).1 ≤ 1 := by
  unfold cmpR sgn; split
  · split
    · simp
    · split <;> simp
  · simp

set_option maxHeartbeats 4000000 in
theorem walkProducts (a : Option Addr) (L c : Nat) (zs : Nat → Int) (w : World) (hL : L ≤ 4096) (hc : CodeIn w a L zs) :
    Calls Try.prog 4 #[.slice a L c] w (Fresh (.bool true) w) := by
  have HC := Lib.hid hc
  clear hc
  go_enter Try.func4, Try.ntmps4
  go_wp2_with (go_at_call 13; refine (big_no a L c _ hL).mono ?_; rintro e w0 ⟨rfl, rfl⟩)
  go_wp2_with (go_at_call 22; refine (drawMultiply_any a L c zs _ hL HC.out).mono ?_; rintro e w1 ⟨n, d, m, k, rfl, bn, bd, bm, bk, hb1⟩; have A1 := fun o => ratAt_alloc (ratAt_new w1 n d 25) o; have B1 := fun o => ratAt_new2 w1 m k 25 o; have M1 := hb1)
  obtain ⟨T, hT⟩ : ∃ T, T = opR (rat (n * m) (d * k)) n d m k := ⟨_, rfl⟩
  have K1 := Lib.hid (fun W => hT ▸ implMul_any n d m k W)
  have K2 := Lib.hid (fun W => hT ▸ specMul_any n d m k W)
  have HT := Lib.hid hT
  clear hT
  obtain ⟨P, hP⟩ : ∃ P, P = cmpR n d m k := ⟨_, rfl⟩
  have L1 := Lib.hid (fun W => hP ▸ implCmp_any n d m k W)
  have L2 := Lib.hid (fun W => hP ▸ specCmp_any n d m k W)
  have P1 : -1 ≤ P.1 := hP ▸ (cmpR_bd n d m k).1
  have P2 : P.1 ≤ 1 := hP ▸ (cmpR_bd n d m k).2
  have HP := Lib.hid hP
  clear hP
  go_wp2_with (go_at_call 23; refine (K1.out _).mono ?_; rintro e w2 ⟨rfl, hb2⟩; have A2 := fun o => ratAt_alloc (ratAt_below (A1 _) hb2) o; have B2 := fun o => ratAt_alloc (ratAt_below (B1 _) hb2) o; have M2 := bl_trans (bl_alloc (bl_alloc M1 _) _) hb2)
  go_wp2_with (go_at_call 24; refine (K2.out _).mono ?_; rintro e w3 ⟨rfl, hb3⟩; have A3 := fun o => ratAt_alloc (ratAt_below (A2 _) hb3) o; have B3 := fun o => ratAt_alloc (ratAt_below (B2 _) hb3) o; have X3 := fun o => ratAt_alloc (ratAt_below (ratAt_new w2 T.1 T.2.1 25) hb3) o; have M3 := bl_trans (bl_alloc M2 _) hb3)
  clear A1 B1 A2 B2
  go_wp2_with (go_at_call 25; refine (drawDivide_any a L c zs _ hL (codeIn_below HC.out (bl_alloc M3 _))).mono ?_; rintro e w4 ⟨n', d', m', k', rfl, bn', bd', bm', bk', hb4⟩; have C4 := fun o => ratAt_alloc (ratAt_new w4 n' d' 25) o; have D4 := fun o => ratAt_new2 w4 m' k' 25 o; have A4 := fun o o' => ratAt_alloc (ratAt_alloc (ratAt_below (A3 _) hb4) o) o'; have B4 := fun o o' => ratAt_alloc (ratAt_alloc (ratAt_below (B3 _) hb4) o) o'; have X4 := fun o o' => ratAt_alloc (ratAt_alloc (ratAt_below (X3 _) hb4) o) o'; have Y4 := fun o o' => ratAt_alloc (ratAt_alloc (ratAt_below (ratAt_new w3 T.1 T.2.1 25) hb4) o) o'; have M4 := bl_trans (bl_alloc M3 _) hb4)
  clear A3 B3 X3
  obtain ⟨U, hU⟩ : ∃ U, U = opR (divQ n' d' m' k') n' d' m' k' := ⟨_, rfl⟩
  have J1 := Lib.hid (fun W => hU ▸ implDiv_any n' d' m' k' W)
  have J2 := Lib.hid (fun W => hU ▸ specDiv_any n' d' m' k' W)
  clear hU
  go_wp2_with (go_at_call 26; refine (J1.out _).mono ?_; rintro e w5 ⟨rfl, hb5⟩; have C5 := fun o => ratAt_alloc (ratAt_below (C4 _) hb5) o; have D5 := fun o => ratAt_alloc (ratAt_below (D4 _) hb5) o; have A5 := fun o => ratAt_alloc (ratAt_below (A4 _ _) hb5) o; have B5 := fun o => ratAt_alloc (ratAt_below (B4 _ _) hb5) o; have X5 := fun o => ratAt_alloc (ratAt_below (X4 _ _) hb5) o; have Y5 := fun o => ratAt_alloc (ratAt_below (Y4 _ _) hb5) o; have M5 := bl_trans (bl_alloc (bl_alloc M4 _) _) hb5)
  clear C4 D4 A4 B4 X4 Y4
  go_wp2_with (go_at_call 27; refine (J2.out _).mono ?_; rintro e w6 ⟨rfl, hb6⟩; have A6 := fun o => ratAt_alloc (ratAt_below (A5 _) hb6) o; have B6 := fun o => ratAt_alloc (ratAt_below (B5 _) hb6) o; have X6 := fun o => ratAt_alloc (ratAt_below (X5 _) hb6) o; have Y6 := fun o => ratAt_alloc (ratAt_below (Y5 _) hb6) o; have V6 := fun o => ratAt_alloc (ratAt_below (ratAt_new w5 U.1 U.2.1 25) hb6) o; have M6 := bl_trans (bl_alloc M5 _) hb6)
  clear C5 D5 A5 B5 X5 Y5
  have S6 : RatAt (w6.alloc (.cells #[.int .i64 U.1, .int .i64 U.2.1] 25)) w1.heap.size n d ∧ RatAt (w6.alloc (.cells #[.int .i64 U.1, .int .i64 U.2.1] 25)) (w1.heap.size + 1) m k ∧ RatAt (w6.alloc (.cells #[.int .i64 U.1, .int .i64 U.2.1] 25)) w2.heap.size T.1 T.2.1 ∧ RatAt (w6.alloc (.cells #[.int .i64 U.1, .int .i64 U.2.1] 25)) w3.heap.size T.1 T.2.1 ∧ RatAt (w6.alloc (.cells #[.int .i64 U.1, .int .i64 U.2.1] 25)) w5.heap.size U.1 U.2.1 ∧ RatAt (w6.alloc (.cells #[.int .i64 U.1, .int .i64 U.2.1] 25)) w6.heap.size U.1 U.2.1 ∧ Below w.heap.size w (w6.alloc (.cells #[.int .i64 U.1, .int .i64 U.2.1] 25)) :=
    ⟨A6 _, B6 _, X6 _, Y6 _, V6 _, ratAt_new _ _ _ _, bl_alloc M6 _⟩
  clear A6 B6 X6 Y6 V6
  have HS6 := Lib.hid S6
  go_wp2_with (go_at_call 28; refine (L1.out _).mono ?_; rintro e w7 ⟨rfl, hb7⟩; have S7 := six_call HS6.out hb7; clear S6; have HS7 := Lib.hid S7)
  by_cases h0 : T.2.2 = 0
  · by_cases hm0 : m = 0
    · have e0 : (m == 0) = true := by simpa using hm0
      have Hm := Lib.hid hm0
      clear hm0
      go_wp2_with (go_at_call 29; refine (L2.out _).mono ?_; rintro e w8 ⟨rfl, hb8⟩; have S8 := six_call HS7.out hb8; clear S7; have HS8 := Lib.hid S8)
      go_ret
      exact ⟨rfl, six_fin HS8.out (bl_refl _)⟩
    · have e0 : (m == 0) = false := by simpa using hm0
      obtain ⟨v1, v2, _⟩ := opR_ok _ _ _ _ _ (HT.out ▸ h0)
      have K3 : Hid (∀ W, Calls Try.prog 26 #[.agg #[.int .i64 T.1, .int .i64 T.2.1], .agg #[.int .i64 m, .int .i64 k]] W (Fresh (resV n d 0) W)) := Lib.hid (fun W => by
        have := implDiv_any T.1 T.2.1 m k W
        rw [div_undoes n d m k T HT.out h0 hm0] at this
        exact this)
      have K4 : Hid (∀ W, Calls Try.prog 28 #[.agg #[.int .i64 m, .int .i64 k], .agg #[.int .i64 n, .int .i64 d]] W (Fresh (pairV (-P.1) 0) W)) := Lib.hid (fun W => by
        have := implCmp_any m k n d W
        rw [cmp_swap n d m k v1 v2, ← HP.out] at this
        exact this)
      have Hm := Lib.hid hm0
      clear hm0 v1 v2
      go_wp2_with (go_at_call 29; refine (L2.out _).mono ?_; rintro e w8 ⟨rfl, hb8⟩; have S8 := six_call HS7.out hb8; clear S7; have HS8 := Lib.hid S8)
      go_wp2_with (go_at_call 26; refine (K3.out _).mono ?_; rintro e w9 ⟨rfl, hb9⟩; have S9 := fun o => six_call (six_call HS8.out hb9) (bl_alloc (bl_refl _) o); clear S8; have HS9 := Lib.hid S9)
      go_wp2_with (go_at_call 28; refine (K4.out _).mono ?_; rintro e w10 ⟨rfl, hb10⟩; have S10 := six_call (HS9.out _) hb10; have Z10 := ratAt_below (ratAt_new w9 n d 25) hb10; clear S9; have HS10 := Lib.hid S10)
      go_ret
      exact ⟨rfl, six_fin HS10.out (bl_refl _)⟩
  · go_wp2_with (go_at_call 29; refine (L2.out _).mono ?_; rintro e w8 ⟨rfl, hb8⟩; have S8 := six_call HS7.out hb8; clear S7; have HS8 := Lib.hid S8)
    go_ret
    exact ⟨rfl, six_fin HS8.out (bl_refl _)⟩

set_option maxHeartbeats 400000 in
theorem walkProducts_big (a : Option Addr) (L c : Nat) (w : World) (h : 4096 < L) (hm : (L : Int) ≤ 9223372036854775807) :
    Calls Try.prog 4 #[.slice a L c] w (Fresh (.bool true) w) := by
  go_enter Try.func4, Try.ntmps4
  go_wp2_with (go_at_call 13; refine (big_yes a L c _ h hm).mono ?_; rintro e w0 ⟨rfl, rfl⟩)
  go_ret
  exact ⟨rfl, bl_refl _⟩

set_option maxRecDepth 100000 in
theorem fnProducts_lifted (os : Os) (started : os.Started) (H : Type) (enc : TypeId × Value → H) :
    ReturnsInHanded {} Try.checked os 4 .any (Rows.fnProductsSpec.pre6 enc Try.prog Try.f4 Rows.fnProductsRow.domain false) (Rows.fnProductsSpec.post enc Try.prog Try.f4 false true false false) := by
  refine law_lifted started (by kernel_rfl) Try.func4 (by kernel_rfl) rfl (fun ds h => ?_) ?_
    (ChangeSpec.witness6 (enc := enc) (C := Try.checked) false ⟨#[], #[.slice none 0 0], []⟩ 8 (by kernel_rfl) (by kernel_rfl) (by kernel_rfl) (by kernel_rfl)) ?_
  · match ds, h with
    | [d0], _ => rfl
  · rw [Try.params4]
    intro t ht
    obtain rfl : t = 22 := by simpa using ht
    exact ⟨by kernel_rfl, of_decide_eq_true (by kernel_rfl)⟩
  · intro W base args ds ps hval hA
    rw [Try.params4] at hA hval
    obtain ⟨v0, d0, rfl, rfl, h0⟩ := trodAll_one hA
    obtain ⟨a, L, c, zs, rfl, hm, hc⟩ := open_code (hval 0 22 v0 rfl rfl) h0
    by_cases hL : L ≤ 4096
    · exact walkProducts a L c zs W hL hc
    · exact walkProducts_big a L c W (by omega) (by unfold maxLen at hm; omega)

/-- FnProducts returns true for every code. -/
theorem fnProducts_holds : Rows.FnProductsSaid :=
  OpenClaim.holds_of_wide 4 Try.f4 rfl rfl rfl rfl rfl rfl rfl ⟨rfl, rfl, rfl, rfl, rfl⟩ rfl rfl rfl rfl rfl (by kernel_rfl) Try.func4 (by kernel_rfl)
    (of_decide_eq_true (by kernel_rfl)) (by unfold Func.isWrapper; first | (rw [if_pos (by decide +kernel)]; kernel_rfl) | (rw [if_neg (by decide +kernel)]; exact ⟨rfl, rfl⟩))
    (fun os started H enc _ => fnProducts_lifted os started H enc)

end Go.Proofs.Ytohhjcnkbifdbaa
