/-
  The law FnSeats: the order of the seats, and who acts first, for every code.
-/
import Derived.Test.YtnbaemgidfgdaaaDrawTabSeat
import Derived.Test.YtnbaemgidfgdaaaLike
import Derived.Test.YtnbaemgidfgdaaaFromImpl
import Derived.Test.YtnbaemgidfgdaaaSpecFrom
import Derived.Test.YtnbaemgidfgdaaaImplSeats
import Derived.Test.YtnbaemgidfgdaaaSpecTab
import Derived.Test.YtnbaemgidfgdaaaImplTab
import Derived.BigQuiet
import Derived.Lib.SmallJoins
namespace Go.Proofs.Ytnbaemgidfgdaaa
open Go.ChangeShapes Go.WideShapes Go.ChangeAt Go.RowKit Go.Joins
set_option linter.unusedVariables false

/-- What the law asks of the order of the seats; where there is none nothing. -/
theorem from_facts (xs : List Int) (b s g a l x : Int) : sfC xs b s g a l x ≠ 0 ∨ (sfC xs b s g a l x = 0 ∧ (sfR xs b s g a l x).length = xs.length ∧ 0 ≤ x ∧ x < xs.length ∧ xs.length ≤ 6 ∧ ∀ i, i < xs.length → nth (sfR xs b s g a l x) i = (x + i).tmod xs.length) := by
  rcases hv : tabB xs b s g a l with _ | _
  · left; rw [(sf_no x hv).2]; decide
  · by_cases hx : 0 ≤ x ∧ x < xs.length
    · right
      obtain ⟨e1, e2⟩ := sf_yes hv hx
      rw [e1, e2]
      exact ⟨rfl, fromL_len _ _, hx.1, hx.2, (tab_iff.1 hv).2.1, fun i hi => by rw [fromL_nth _ _ _ hi, seatAt_tmod _ _ _ hx.1]⟩
    · left; rw [(sf_out hv hx).2]; decide
theorem first_facts (ys : List Int) (b s g a l y : Int) : fsC ys b s g a l y ≠ 0 ∨ (fsC ys b s g a l y = 0 ∧ (¬ 0 < y ∨ (0 < y ∧ 2 ≤ ys.length ∧ ys.length ≤ 6 ∧ 0 ≤ b ∧ b < ys.length ∧ fsX ys b s g a l y = (b + 1).tmod ys.length))) := by
  rcases hv : tabB ys b s g a l with _ | _
  · left; rw [(fs_no y hv).2]; decide
  · by_cases hx : 0 ≤ y ∧ y ≤ 3
    · right
      obtain ⟨e1, e2⟩ := fs_yes hv hx
      obtain ⟨t1, t2, t3, t4, t5, _⟩ := tab_iff.1 hv
      refine ⟨e2, ?_⟩
      by_cases h0 : 0 < y
      · right
        refine ⟨h0, t1, t2, t4, t5, ?_⟩
        rw [e1]
        unfold firstI
        rw [if_neg (by omega), left_tmod _ _ t4]
      · exact .inl h0
    · left; rw [(fs_out hv hx).2]; decide
set_option maxRecDepth 100000 in
set_option maxHeartbeats 8000000 in
theorem walkSeats_in (a : Option Addr) (L c : Nat) (zs : Nat → Int) (w : World) (hL : L ≤ 4096) (hc : CodeIn w a L zs) :
    Calls Try.prog 4 #[.slice a L c] w (Fresh (.bool true) w) := by
  have HC := Lib.hid hc
  clear hc
  go_enter Try.func4, Try.ntmps4
  go_wp2_with (go_at_call 14; refine (big_no _ _ _ _ hL).mono ?_; rintro e wz ⟨rfl, rfl⟩)
  go_wp2_with (go_at_call 24; refine (drawSeatsFrom_any _ _ _ _ _ hL HC.out).mono ?_; rintro e w1 ⟨A1, c1, xs, b, s, g, a, l, x, rfl, hx2, hx11, hx0, hx1, hr, hb⟩; have X1 := Lib.hid hb; have B1 := Lib.hid (bl_trans (bl_refl w) hb); have R1 := Lib.hid hr; clear hr; have NT := Lib.hid (blk_new w1 26 [.slice A1 xs.length c1, .int .i64 b, .int .i64 s, .int .i64 g, .int .i64 a, .int .i64 l]); have B2 := Lib.hid (bl_trans B1.out (bl_alloc (bl_refl w1) (.cells ([.slice A1 xs.length c1, .int .i64 b, .int .i64 s, .int .i64 g, .int .i64 a, .int .i64 l] : List Value).toArray 26))))
  have HF := Lib.hid (from_facts xs b s g a l x)
  have KB := Lib.hid (fun (A : Option Addr) (c : Nat) (W : World) (h : Rd W A xs) => implSeatsFrom_any A c xs b s g a l x W h (by omega))
  have KC := Lib.hid (fun (A : Option Addr) (c : Nat) (W : World) (h : Rd W A xs) => specSeatsFrom_any A c xs b s g a l x W h (by omega))
  have hla := sfR_len xs b s g a l x
  generalize sfR xs b s g a l x = ya at *
  generalize sfC xs b s g a l x = kc at *
  unfold tV at *
  obtain ⟨q1, -⟩ := (NT.out).cell 0 _ rfl
  obtain ⟨q2, -⟩ := (NT.out).cell 1 _ rfl
  obtain ⟨q3, -⟩ := (NT.out).cell 2 _ rfl
  obtain ⟨q4, -⟩ := (NT.out).cell 3 _ rfl
  obtain ⟨q5, -⟩ := (NT.out).cell 4 _ rfl
  obtain ⟨q6, -⟩ := (NT.out).cell 5 _ rfl
  go_wp2_with (go_at_call 25; refine (KB.out _ _ _ ((R1.out.below (bl_alloc (bl_refl w1) (.cells ([.slice A1 xs.length c1, .int .i64 b, .int .i64 s, .int .i64 g, .int .i64 a, .int .i64 l] : List Value).toArray 26))))).mono ?_; rintro e w3 ⟨A2, c2, rfl, ho, hb⟩; have X3 := Lib.hid hb; have B3 := Lib.hid (bl_trans B2.out hb); have O2 := Lib.hid ho; clear q1 q2 q3 q4 q5 q6; obtain ⟨q7, -⟩ := ((NT.out.below X3.out)).cell 0 _ rfl; obtain ⟨q8, -⟩ := ((NT.out.below X3.out)).cell 1 _ rfl; obtain ⟨q9, -⟩ := ((NT.out.below X3.out)).cell 2 _ rfl; obtain ⟨q10, -⟩ := ((NT.out.below X3.out)).cell 3 _ rfl; obtain ⟨q11, -⟩ := ((NT.out.below X3.out)).cell 4 _ rfl; obtain ⟨q12, -⟩ := ((NT.out.below X3.out)).cell 5 _ rfl)
  go_wp2_with (go_at_call 26; refine (KC.out _ _ _ (((R1.out.below (bl_alloc (bl_refl w1) (.cells ([.slice A1 xs.length c1, .int .i64 b, .int .i64 s, .int .i64 g, .int .i64 a, .int .i64 l] : List Value).toArray 26))).below X3.out))).mono ?_; rintro e w4 ⟨A3, c3, rfl, ho, hb⟩; have X4 := Lib.hid hb; have B4 := Lib.hid (bl_trans B3.out hb); have O3 := Lib.hid ho; clear q7 q8 q9 q10 q11 q12; obtain ⟨q13, -⟩ := (((NT.out.below X3.out).below X4.out)).cell 0 _ rfl; obtain ⟨q14, -⟩ := (((NT.out.below X3.out).below X4.out)).cell 1 _ rfl; obtain ⟨q15, -⟩ := (((NT.out.below X3.out).below X4.out)).cell 2 _ rfl; obtain ⟨q16, -⟩ := (((NT.out.below X3.out).below X4.out)).cell 3 _ rfl; obtain ⟨q17, -⟩ := (((NT.out.below X3.out).below X4.out)).cell 4 _ rfl; obtain ⟨q18, -⟩ := (((NT.out.below X3.out).below X4.out)).cell 5 _ rfl)
  go_wp2_with (go_at_call 27; refine (drawFirstSeat_any _ _ _ _ _ hL (codeIn_below HC.out B4.out)).mono ?_; rintro e w5 ⟨E1, d1, ys, b2, s2, g2, a2, l2, y, rfl, hy2, hy11, hy0, hy1, hr, hb⟩; have X5 := Lib.hid hb; have B5 := Lib.hid (bl_trans B4.out hb); have R2 := Lib.hid hr; clear hr; have NU := Lib.hid (blk_new w5 26 [.slice E1 ys.length d1, .int .i64 b2, .int .i64 s2, .int .i64 g2, .int .i64 a2, .int .i64 l2]); have B6 := Lib.hid (bl_trans B5.out (bl_alloc (bl_refl w5) (.cells ([.slice E1 ys.length d1, .int .i64 b2, .int .i64 s2, .int .i64 g2, .int .i64 a2, .int .i64 l2] : List Value).toArray 26))); clear q13 q14 q15 q16 q17 q18)
  have HG := Lib.hid (first_facts ys b2 s2 g2 a2 l2 y)
  have KD := Lib.hid (fun (A : Option Addr) (c : Nat) (W : World) (h : Rd W A ys) => implFirstSeat_any A c ys b2 s2 g2 a2 l2 y W h (by omega))
  have KE := Lib.hid (fun (A : Option Addr) (c : Nat) (W : World) (h : Rd W A ys) => specFirstSeat_any A c ys b2 s2 g2 a2 l2 y W h (by omega))
  generalize fsX ys b2 s2 g2 a2 l2 y = fx at *
  generalize fsC ys b2 s2 g2 a2 l2 y = kd at *
  unfold tV pairV at *
  obtain ⟨q19, -⟩ := (NU.out).cell 0 _ rfl
  obtain ⟨q20, -⟩ := (NU.out).cell 1 _ rfl
  obtain ⟨q21, -⟩ := (NU.out).cell 2 _ rfl
  obtain ⟨q22, -⟩ := (NU.out).cell 3 _ rfl
  obtain ⟨q23, -⟩ := (NU.out).cell 4 _ rfl
  obtain ⟨q24, -⟩ := (NU.out).cell 5 _ rfl
  go_wp2_with (go_at_call 28; refine (KD.out _ _ _ ((R2.out.below (bl_alloc (bl_refl w5) (.cells ([.slice E1 ys.length d1, .int .i64 b2, .int .i64 s2, .int .i64 g2, .int .i64 a2, .int .i64 l2] : List Value).toArray 26))))).mono ?_; rintro e w7 ⟨rfl, hb⟩; have X7 := Lib.hid hb; have B7 := Lib.hid (bl_trans B6.out hb); clear q19 q20 q21 q22 q23 q24; obtain ⟨q25, -⟩ := ((NU.out.below X7.out)).cell 0 _ rfl; obtain ⟨q26, -⟩ := ((NU.out.below X7.out)).cell 1 _ rfl; obtain ⟨q27, -⟩ := ((NU.out.below X7.out)).cell 2 _ rfl; obtain ⟨q28, -⟩ := ((NU.out.below X7.out)).cell 3 _ rfl; obtain ⟨q29, -⟩ := ((NU.out.below X7.out)).cell 4 _ rfl; obtain ⟨q30, -⟩ := ((NU.out.below X7.out)).cell 5 _ rfl)
  have u1 : (kc != kc) = false := by simp
  have u2 : (kd != kd) = false := by simp
  have u3 : (fx != fx) = false := by simp
  go_wp2_with (go_at_call 29; refine (KE.out _ _ _ (((R2.out.below (bl_alloc (bl_refl w5) (.cells ([.slice E1 ys.length d1, .int .i64 b2, .int .i64 s2, .int .i64 g2, .int .i64 a2, .int .i64 l2] : List Value).toArray 26))).below X7.out))).mono ?_; rintro e w8 ⟨rfl, hb⟩; have X8 := Lib.hid hb; have B8 := Lib.hid (bl_trans B7.out hb); clear q25 q26 q27 q28 q29 q30; obtain ⟨q31, -⟩ := (((NU.out.below X7.out).below X8.out)).cell 0 _ rfl; obtain ⟨q32, -⟩ := (((NU.out.below X7.out).below X8.out)).cell 1 _ rfl; obtain ⟨q33, -⟩ := (((NU.out.below X7.out).below X8.out)).cell 2 _ rfl; obtain ⟨q34, -⟩ := (((NU.out.below X7.out).below X8.out)).cell 3 _ rfl; obtain ⟨q35, -⟩ := (((NU.out.below X7.out).below X8.out)).cell 4 _ rfl; obtain ⟨q36, -⟩ := (((NU.out.below X7.out).below X8.out)).cell 5 _ rfl; obtain ⟨q37, -⟩ := (((((((NT.out.below X3.out).below X4.out).below X5.out).below (bl_alloc (bl_refl w5) (.cells ([.slice E1 ys.length d1, .int .i64 b2, .int .i64 s2, .int .i64 g2, .int .i64 a2, .int .i64 l2] : List Value).toArray 26))).below X7.out).below X8.out)).cell 0 _ rfl)
  have hn9 : ya.length ≤ 4000000 := by omega
  have kl9 := Lib.hid (likeInts_same _ _ c2 c3 ya _ ((((((O2.out.below X4.out).below X5.out).below (bl_alloc (bl_refl w5) (.cells ([.slice E1 ys.length d1, .int .i64 b2, .int .i64 s2, .int .i64 g2, .int .i64 a2, .int .i64 l2] : List Value).toArray 26))).below X7.out).below X8.out)).rd (((((O3.out.below X5.out).below (bl_alloc (bl_refl w5) (.cells ([.slice E1 ys.length d1, .int .i64 b2, .int .i64 s2, .int .i64 g2, .int .i64 a2, .int .i64 l2] : List Value).toArray 26))).below X7.out).below X8.out)).rd hn9)
  clear hn9
  rcases HF.out with hk | ⟨hk, hn1, hxa, hxb, hxn, HI⟩
  · have v0 : (kc != 0) = true := by simpa using hk
    clear hk
    rcases HG.out with hd | ⟨hd, hy | hy⟩
    · have v1 : (kd == 0) = false := by simpa using hd
      clear hd
      go_wp2_with (go_at_call 22; refine (kl9.out).mono ?_; rintro e w9 ⟨rfl, hb⟩; have X9 := Lib.hid hb; have B9 := Lib.hid (bl_trans B8.out hb); clear kl9; clear q31 q32 q33 q34 q35 q36 q37; obtain ⟨q38, -⟩ := ((((NU.out.below X7.out).below X8.out).below X9.out)).cell 0 _ rfl; obtain ⟨q39, -⟩ := ((((NU.out.below X7.out).below X8.out).below X9.out)).cell 1 _ rfl; obtain ⟨q40, -⟩ := ((((NU.out.below X7.out).below X8.out).below X9.out)).cell 2 _ rfl; obtain ⟨q41, -⟩ := ((((NU.out.below X7.out).below X8.out).below X9.out)).cell 3 _ rfl; obtain ⟨q42, -⟩ := ((((NU.out.below X7.out).below X8.out).below X9.out)).cell 4 _ rfl; obtain ⟨q43, -⟩ := ((((NU.out.below X7.out).below X8.out).below X9.out)).cell 5 _ rfl; obtain ⟨q44, -⟩ := ((((((((NT.out.below X3.out).below X4.out).below X5.out).below (bl_alloc (bl_refl w5) (.cells ([.slice E1 ys.length d1, .int .i64 b2, .int .i64 s2, .int .i64 g2, .int .i64 a2, .int .i64 l2] : List Value).toArray 26))).below X7.out).below X8.out).below X9.out)).cell 0 _ rfl)
      exact bodyPost_ret (v := .bool true) (by simp [results, Try.results4, go_sem]) rfl ⟨rfl, B9.out⟩
    · subst hd
      have v2 : decide (0 < y) = false := by simpa using hy
      clear hy
      go_wp2_with (go_at_call 22; refine (kl9.out).mono ?_; rintro e w9 ⟨rfl, hb⟩; have X9 := Lib.hid hb; have B9 := Lib.hid (bl_trans B8.out hb); clear kl9; clear q31 q32 q33 q34 q35 q36 q37; obtain ⟨q38, -⟩ := ((((NU.out.below X7.out).below X8.out).below X9.out)).cell 0 _ rfl; obtain ⟨q39, -⟩ := ((((NU.out.below X7.out).below X8.out).below X9.out)).cell 1 _ rfl; obtain ⟨q40, -⟩ := ((((NU.out.below X7.out).below X8.out).below X9.out)).cell 2 _ rfl; obtain ⟨q41, -⟩ := ((((NU.out.below X7.out).below X8.out).below X9.out)).cell 3 _ rfl; obtain ⟨q42, -⟩ := ((((NU.out.below X7.out).below X8.out).below X9.out)).cell 4 _ rfl; obtain ⟨q43, -⟩ := ((((NU.out.below X7.out).below X8.out).below X9.out)).cell 5 _ rfl; obtain ⟨q44, -⟩ := ((((((((NT.out.below X3.out).below X4.out).below X5.out).below (bl_alloc (bl_refl w5) (.cells ([.slice E1 ys.length d1, .int .i64 b2, .int .i64 s2, .int .i64 g2, .int .i64 a2, .int .i64 l2] : List Value).toArray 26))).below X7.out).below X8.out).below X9.out)).cell 0 _ rfl)
      exact bodyPost_ret (v := .bool true) (by simp [results, Try.results4, go_sem]) rfl ⟨rfl, B9.out⟩
    · subst hd
      obtain ⟨e0, e1, e2, e3, e4, e5⟩ := hy
      have v2 : decide (0 < y) = true := by simpa using e0
      have hsumb : IntKind.i64.wrap (b2 + 1) = b2 + 1 := IntWalk.i64_in _ (by omega)
      have hnzb : ¬ (ys.length : Int) = 0 := by omega
      have htbb : 0 ≤ (b2 + 1).tmod (ys.length : Int) ∧ (b2 + 1).tmod (ys.length : Int) < ys.length := by rw [Int.tmod_eq_emod_of_nonneg (by omega)]; exact ⟨Int.emod_nonneg _ (by omega), Int.emod_lt_of_pos _ (by omega)⟩
      have hwb2 : IntKind.i64.wrap ((b2 + 1).tmod (ys.length : Int)) = (b2 + 1).tmod (ys.length : Int) := IntWalk.i64_in _ (by omega)
      subst e5
      clear e0
      go_wp2_with (go_at_call 22; refine (kl9.out).mono ?_; rintro e w9 ⟨rfl, hb⟩; have X9 := Lib.hid hb; have B9 := Lib.hid (bl_trans B8.out hb); clear kl9; clear q31 q32 q33 q34 q35 q36 q37; obtain ⟨q38, -⟩ := ((((NU.out.below X7.out).below X8.out).below X9.out)).cell 0 _ rfl; obtain ⟨q39, -⟩ := ((((NU.out.below X7.out).below X8.out).below X9.out)).cell 1 _ rfl; obtain ⟨q40, -⟩ := ((((NU.out.below X7.out).below X8.out).below X9.out)).cell 2 _ rfl; obtain ⟨q41, -⟩ := ((((NU.out.below X7.out).below X8.out).below X9.out)).cell 3 _ rfl; obtain ⟨q42, -⟩ := ((((NU.out.below X7.out).below X8.out).below X9.out)).cell 4 _ rfl; obtain ⟨q43, -⟩ := ((((NU.out.below X7.out).below X8.out).below X9.out)).cell 5 _ rfl; obtain ⟨q44, -⟩ := ((((((((NT.out.below X3.out).below X4.out).below X5.out).below (bl_alloc (bl_refl w5) (.cells ([.slice E1 ys.length d1, .int .i64 b2, .int .i64 s2, .int .i64 g2, .int .i64 a2, .int .i64 l2] : List Value).toArray 26))).below X7.out).below X8.out).below X9.out)).cell 0 _ rfl)
      exact bodyPost_ret (v := .bool true) (by simp [results, Try.results4, go_sem]) rfl ⟨rfl, B9.out⟩
  · subst hk
    have HN1 := Lib.hid hn1
    have HJ := Lib.hid HI
    clear hn1 HI
    rcases HG.out with hd | ⟨hd, hy | hy⟩
    · have v1 : (kd == 0) = false := by simpa using hd
      clear hd
      go_wp2_with (go_at_call 22; refine (kl9.out).mono ?_; rintro e w9 ⟨rfl, hb⟩; have X9 := Lib.hid hb; have B9 := Lib.hid (bl_trans B8.out hb); clear kl9; clear q31 q32 q33 q34 q35 q36 q37; obtain ⟨q38, -⟩ := ((((NU.out.below X7.out).below X8.out).below X9.out)).cell 0 _ rfl; obtain ⟨q39, -⟩ := ((((NU.out.below X7.out).below X8.out).below X9.out)).cell 1 _ rfl; obtain ⟨q40, -⟩ := ((((NU.out.below X7.out).below X8.out).below X9.out)).cell 2 _ rfl; obtain ⟨q41, -⟩ := ((((NU.out.below X7.out).below X8.out).below X9.out)).cell 3 _ rfl; obtain ⟨q42, -⟩ := ((((NU.out.below X7.out).below X8.out).below X9.out)).cell 4 _ rfl; obtain ⟨q43, -⟩ := ((((NU.out.below X7.out).below X8.out).below X9.out)).cell 5 _ rfl; obtain ⟨q44, -⟩ := ((((((((NT.out.below X3.out).below X4.out).below X5.out).below (bl_alloc (bl_refl w5) (.cells ([.slice E1 ys.length d1, .int .i64 b2, .int .i64 s2, .int .i64 g2, .int .i64 a2, .int .i64 l2] : List Value).toArray 26))).below X7.out).below X8.out).below X9.out)).cell 0 _ rfl)
      go_loopw [15] (fun i wr => ∃ k : Nat, k ≤ xs.length ∧ i = .int .i64 k ∧ Hid (Below w9.heap.size w9 wr)) (fun i _ => xs.length - (intOf i).toNat)
      case atStart => exact ⟨0, by omega, rfl, Lib.hid (bl_refl _)⟩
      case round =>
        obtain ⟨k, hk, rfl, hs⟩ := hrel
        clear q38 q39 q40 q41 q42 q43 q44
        have NW := ((((((((NT.out.below X3.out).below X4.out).below X5.out).below (bl_alloc (bl_refl w5) (.cells ([.slice E1 ys.length d1, .int .i64 b2, .int .i64 s2, .int .i64 g2, .int .i64 a2, .int .i64 l2] : List Value).toArray 26))).below X7.out).below X8.out).below X9.out)).below hs.out
        obtain ⟨z0, -⟩ := NW.cell 0 _ rfl
        by_cases hlt : k < xs.length
        · have hlt' : (k : Int) < ya.length := by have := HN1.out; omega
          have f1 := HJ.out k hlt
          obtain ⟨ba, oa, rfl, hca⟩ := (((((((O2.out.below X4.out).below X5.out).below (bl_alloc (bl_refl w5) (.cells ([.slice E1 ys.length d1, .int .i64 b2, .int .i64 s2, .int .i64 g2, .int .i64 a2, .int .i64 l2] : List Value).toArray 26))).below X7.out).below X8.out).below X9.out)).at_ hs.out k (by have := HN1.out; omega)
          rw [f1] at hca
          have d1 : ((x + (k : Int)).tmod (xs.length : Int) != (x + (k : Int)).tmod (xs.length : Int)) = false := by simp
          have hsum : IntKind.i64.wrap (x + (k : Int)) = x + (k : Int) := IntWalk.i64_in _ (by omega)
          have hnz : ¬ (xs.length : Int) = 0 := by omega
          have htb : 0 ≤ (x + (k : Int)).tmod (xs.length : Int) ∧ (x + (k : Int)).tmod (xs.length : Int) < xs.length := by rw [Int.tmod_eq_emod_of_nonneg (by omega)]; exact ⟨Int.emod_nonneg _ (by omega), Int.emod_lt_of_pos _ (by omega)⟩
          have hw2 : IntKind.i64.wrap ((x + (k : Int)).tmod (xs.length : Int)) = (x + (k : Int)).tmod (xs.length : Int) := IntWalk.i64_in _ (by omega)
          clear f1
          go_wp2_with fail
          go_quiet (fail)
          go_wp2_with fail
          go_roundw
          case rel => exact ⟨k + 1, by omega, by go_num, Lib.hid (bl_drewN hs.out _)⟩
          case measure => simp [intOf]; omega
        · obtain rfl : k = xs.length := by omega
          have hlt' : ¬ (xs.length : Int) < ya.length := by have := HN1.out; omega
          have heq : ((ya.length : Int) == (xs.length : Int)) = true := by have := HN1.out; simp; omega
          go_wp2_with fail
          exact bodyPost_ret (v := .bool true) (by simp [results, Try.results4, go_sem]) rfl ⟨rfl, bl_trans B9.out hs.out⟩
    · subst hd
      have v2 : decide (0 < y) = false := by simpa using hy
      clear hy
      go_wp2_with (go_at_call 22; refine (kl9.out).mono ?_; rintro e w9 ⟨rfl, hb⟩; have X9 := Lib.hid hb; have B9 := Lib.hid (bl_trans B8.out hb); clear kl9; clear q31 q32 q33 q34 q35 q36 q37; obtain ⟨q38, -⟩ := ((((NU.out.below X7.out).below X8.out).below X9.out)).cell 0 _ rfl; obtain ⟨q39, -⟩ := ((((NU.out.below X7.out).below X8.out).below X9.out)).cell 1 _ rfl; obtain ⟨q40, -⟩ := ((((NU.out.below X7.out).below X8.out).below X9.out)).cell 2 _ rfl; obtain ⟨q41, -⟩ := ((((NU.out.below X7.out).below X8.out).below X9.out)).cell 3 _ rfl; obtain ⟨q42, -⟩ := ((((NU.out.below X7.out).below X8.out).below X9.out)).cell 4 _ rfl; obtain ⟨q43, -⟩ := ((((NU.out.below X7.out).below X8.out).below X9.out)).cell 5 _ rfl; obtain ⟨q44, -⟩ := ((((((((NT.out.below X3.out).below X4.out).below X5.out).below (bl_alloc (bl_refl w5) (.cells ([.slice E1 ys.length d1, .int .i64 b2, .int .i64 s2, .int .i64 g2, .int .i64 a2, .int .i64 l2] : List Value).toArray 26))).below X7.out).below X8.out).below X9.out)).cell 0 _ rfl)
      go_loopw [15] (fun i wr => ∃ k : Nat, k ≤ xs.length ∧ i = .int .i64 k ∧ Hid (Below w9.heap.size w9 wr)) (fun i _ => xs.length - (intOf i).toNat)
      case atStart => exact ⟨0, by omega, rfl, Lib.hid (bl_refl _)⟩
      case round =>
        obtain ⟨k, hk, rfl, hs⟩ := hrel
        clear q38 q39 q40 q41 q42 q43 q44
        have NW := ((((((((NT.out.below X3.out).below X4.out).below X5.out).below (bl_alloc (bl_refl w5) (.cells ([.slice E1 ys.length d1, .int .i64 b2, .int .i64 s2, .int .i64 g2, .int .i64 a2, .int .i64 l2] : List Value).toArray 26))).below X7.out).below X8.out).below X9.out)).below hs.out
        obtain ⟨z0, -⟩ := NW.cell 0 _ rfl
        by_cases hlt : k < xs.length
        · have hlt' : (k : Int) < ya.length := by have := HN1.out; omega
          have f1 := HJ.out k hlt
          obtain ⟨ba, oa, rfl, hca⟩ := (((((((O2.out.below X4.out).below X5.out).below (bl_alloc (bl_refl w5) (.cells ([.slice E1 ys.length d1, .int .i64 b2, .int .i64 s2, .int .i64 g2, .int .i64 a2, .int .i64 l2] : List Value).toArray 26))).below X7.out).below X8.out).below X9.out)).at_ hs.out k (by have := HN1.out; omega)
          rw [f1] at hca
          have d1 : ((x + (k : Int)).tmod (xs.length : Int) != (x + (k : Int)).tmod (xs.length : Int)) = false := by simp
          have hsum : IntKind.i64.wrap (x + (k : Int)) = x + (k : Int) := IntWalk.i64_in _ (by omega)
          have hnz : ¬ (xs.length : Int) = 0 := by omega
          have htb : 0 ≤ (x + (k : Int)).tmod (xs.length : Int) ∧ (x + (k : Int)).tmod (xs.length : Int) < xs.length := by rw [Int.tmod_eq_emod_of_nonneg (by omega)]; exact ⟨Int.emod_nonneg _ (by omega), Int.emod_lt_of_pos _ (by omega)⟩
          have hw2 : IntKind.i64.wrap ((x + (k : Int)).tmod (xs.length : Int)) = (x + (k : Int)).tmod (xs.length : Int) := IntWalk.i64_in _ (by omega)
          clear f1
          go_wp2_with fail
          go_quiet (fail)
          go_wp2_with fail
          go_roundw
          case rel => exact ⟨k + 1, by omega, by go_num, Lib.hid (bl_drewN hs.out _)⟩
          case measure => simp [intOf]; omega
        · obtain rfl : k = xs.length := by omega
          have hlt' : ¬ (xs.length : Int) < ya.length := by have := HN1.out; omega
          have heq : ((ya.length : Int) == (xs.length : Int)) = true := by have := HN1.out; simp; omega
          go_wp2_with fail
          exact bodyPost_ret (v := .bool true) (by simp [results, Try.results4, go_sem]) rfl ⟨rfl, bl_trans B9.out hs.out⟩
    · subst hd
      obtain ⟨e0, e1, e2, e3, e4, e5⟩ := hy
      have v2 : decide (0 < y) = true := by simpa using e0
      have hsumb : IntKind.i64.wrap (b2 + 1) = b2 + 1 := IntWalk.i64_in _ (by omega)
      have hnzb : ¬ (ys.length : Int) = 0 := by omega
      have htbb : 0 ≤ (b2 + 1).tmod (ys.length : Int) ∧ (b2 + 1).tmod (ys.length : Int) < ys.length := by rw [Int.tmod_eq_emod_of_nonneg (by omega)]; exact ⟨Int.emod_nonneg _ (by omega), Int.emod_lt_of_pos _ (by omega)⟩
      have hwb2 : IntKind.i64.wrap ((b2 + 1).tmod (ys.length : Int)) = (b2 + 1).tmod (ys.length : Int) := IntWalk.i64_in _ (by omega)
      subst e5
      clear e0
      go_wp2_with (go_at_call 22; refine (kl9.out).mono ?_; rintro e w9 ⟨rfl, hb⟩; have X9 := Lib.hid hb; have B9 := Lib.hid (bl_trans B8.out hb); clear kl9; clear q31 q32 q33 q34 q35 q36 q37; obtain ⟨q38, -⟩ := ((((NU.out.below X7.out).below X8.out).below X9.out)).cell 0 _ rfl; obtain ⟨q39, -⟩ := ((((NU.out.below X7.out).below X8.out).below X9.out)).cell 1 _ rfl; obtain ⟨q40, -⟩ := ((((NU.out.below X7.out).below X8.out).below X9.out)).cell 2 _ rfl; obtain ⟨q41, -⟩ := ((((NU.out.below X7.out).below X8.out).below X9.out)).cell 3 _ rfl; obtain ⟨q42, -⟩ := ((((NU.out.below X7.out).below X8.out).below X9.out)).cell 4 _ rfl; obtain ⟨q43, -⟩ := ((((NU.out.below X7.out).below X8.out).below X9.out)).cell 5 _ rfl; obtain ⟨q44, -⟩ := ((((((((NT.out.below X3.out).below X4.out).below X5.out).below (bl_alloc (bl_refl w5) (.cells ([.slice E1 ys.length d1, .int .i64 b2, .int .i64 s2, .int .i64 g2, .int .i64 a2, .int .i64 l2] : List Value).toArray 26))).below X7.out).below X8.out).below X9.out)).cell 0 _ rfl)
      go_loopw [15] (fun i wr => ∃ k : Nat, k ≤ xs.length ∧ i = .int .i64 k ∧ Hid (Below w9.heap.size w9 wr)) (fun i _ => xs.length - (intOf i).toNat)
      case atStart => exact ⟨0, by omega, rfl, Lib.hid (bl_refl _)⟩
      case round =>
        obtain ⟨k, hk, rfl, hs⟩ := hrel
        clear q38 q39 q40 q41 q42 q43 q44
        have NW := ((((((((NT.out.below X3.out).below X4.out).below X5.out).below (bl_alloc (bl_refl w5) (.cells ([.slice E1 ys.length d1, .int .i64 b2, .int .i64 s2, .int .i64 g2, .int .i64 a2, .int .i64 l2] : List Value).toArray 26))).below X7.out).below X8.out).below X9.out)).below hs.out
        obtain ⟨z0, -⟩ := NW.cell 0 _ rfl
        by_cases hlt : k < xs.length
        · have hlt' : (k : Int) < ya.length := by have := HN1.out; omega
          have f1 := HJ.out k hlt
          obtain ⟨ba, oa, rfl, hca⟩ := (((((((O2.out.below X4.out).below X5.out).below (bl_alloc (bl_refl w5) (.cells ([.slice E1 ys.length d1, .int .i64 b2, .int .i64 s2, .int .i64 g2, .int .i64 a2, .int .i64 l2] : List Value).toArray 26))).below X7.out).below X8.out).below X9.out)).at_ hs.out k (by have := HN1.out; omega)
          rw [f1] at hca
          have d1 : ((x + (k : Int)).tmod (xs.length : Int) != (x + (k : Int)).tmod (xs.length : Int)) = false := by simp
          have hsum : IntKind.i64.wrap (x + (k : Int)) = x + (k : Int) := IntWalk.i64_in _ (by omega)
          have hnz : ¬ (xs.length : Int) = 0 := by omega
          have htb : 0 ≤ (x + (k : Int)).tmod (xs.length : Int) ∧ (x + (k : Int)).tmod (xs.length : Int) < xs.length := by rw [Int.tmod_eq_emod_of_nonneg (by omega)]; exact ⟨Int.emod_nonneg _ (by omega), Int.emod_lt_of_pos _ (by omega)⟩
          have hw2 : IntKind.i64.wrap ((x + (k : Int)).tmod (xs.length : Int)) = (x + (k : Int)).tmod (xs.length : Int) := IntWalk.i64_in _ (by omega)
          clear f1
          go_wp2_with fail
          go_quiet (fail)
          go_wp2_with fail
          go_roundw
          case rel => exact ⟨k + 1, by omega, by go_num, Lib.hid (bl_drewN hs.out _)⟩
          case measure => simp [intOf]; omega
        · obtain rfl : k = xs.length := by omega
          have hlt' : ¬ (xs.length : Int) < ya.length := by have := HN1.out; omega
          have heq : ((ya.length : Int) == (xs.length : Int)) = true := by have := HN1.out; simp; omega
          go_wp2_with fail
          exact bodyPost_ret (v := .bool true) (by simp [results, Try.results4, go_sem]) rfl ⟨rfl, bl_trans B9.out hs.out⟩
set_option maxRecDepth 100000 in
set_option maxHeartbeats 400000 in
theorem walkSeats_big (a : Option Addr) (L c : Nat) (w : World) (hm : L ≤ maxLen) (h : 4096 < L) :
    Calls Try.prog 4 #[.slice a L c] w (Fresh (.bool true) w) := by
  unfold maxLen at hm
  go_enter Try.func4, Try.ntmps4
  go_wp2_with (go_at_call 14; refine (big_yes _ _ _ _ h (by omega)).mono ?_; rintro e w0 ⟨rfl, rfl⟩)
  go_ret
  exact ⟨rfl, bl_refl _⟩
theorem walkSeats (a : Option Addr) (L c : Nat) (zs : Nat → Int) (w : World) (hm : L ≤ maxLen) (hc : CodeIn w a L zs) :
    Calls Try.prog 4 #[.slice a L c] w (Fresh (.bool true) w) := by
  by_cases h : L ≤ 4096
  · exact walkSeats_in a L c zs w h hc
  · exact walkSeats_big a L c w hm (by omega)

set_option maxRecDepth 100000 in
theorem fnSeats_lifted (os : Os) (started : os.Started) (H : Type) (enc : TypeId × Value → H) :
    ReturnsInHanded {} Try.checked os 4 .any (Rows.fnSeatsSpec.pre6 enc Try.prog Try.f4 Rows.fnSeatsRow.domain false) (Rows.fnSeatsSpec.post enc Try.prog Try.f4 false true false false) := by
  refine law_lifted started (by kernel_rfl) Try.func4 (by kernel_rfl) rfl (fun ds h => ?_) ?_
    (ChangeSpec.witness6 (enc := enc) (C := Try.checked) false ⟨#[], #[.slice none 0 0], []⟩ 8 (by kernel_rfl) (by kernel_rfl) (by kernel_rfl) (by kernel_rfl)) ?_
  · match ds, h with
    | [d0], _ => rfl
  · rw [Try.params4]
    intro t ht
    obtain rfl : t = 22 := by simpa using ht
    exact ⟨by kernel_rfl, of_decide_eq_true (by kernel_rfl)⟩
  · intro W base args ds ps hval hA
    rw [Try.params4] at hA hval
    obtain ⟨v0, d0, rfl, rfl, h0⟩ := trodAll_one hA
    obtain ⟨A0, L0, c0, zs0, rfl, m0, r0⟩ := open_code (hval 0 22 v0 rfl rfl) h0
    exact walkSeats A0 L0 c0 zs0 W m0 r0

/-- The seats in their order, and who acts first, for every code. -/
theorem fnSeats_holds : Rows.FnSeatsSaid :=
  OpenClaim.holds_of_wide 4 Try.f4 rfl rfl rfl rfl rfl rfl rfl ⟨rfl, rfl, rfl, rfl, rfl⟩ rfl rfl rfl rfl rfl (by kernel_rfl) Try.func4 (by kernel_rfl)
    (of_decide_eq_true (by kernel_rfl)) (by unfold Func.isWrapper; first | (rw [if_pos (by decide +kernel)]; kernel_rfl) | (rw [if_neg (by decide +kernel)]; exact ⟨rfl, rfl⟩))
    (fun os started H enc _ => fnSeats_lifted os started H enc)
end Go.Proofs.Ytnbaemgidfgdaaa
