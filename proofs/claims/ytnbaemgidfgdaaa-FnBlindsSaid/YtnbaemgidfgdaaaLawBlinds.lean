/-
  The law FnBlinds: what the seats pay and bet ahead of a hand, for every code.
-/
import Derived.Test.YtnbaemgidfgdaaaDrawTabFns
import Derived.Test.YtnbaemgidfgdaaaLike
import Derived.Test.YtnbaemgidfgdaaaBlindFns
import Derived.Test.YtnbaemgidfgdaaaAnteFns
import Derived.Test.YtnbaemgidfgdaaaImplSeats
import Derived.Test.YtnbaemgidfgdaaaSpecTab
import Derived.Test.YtnbaemgidfgdaaaImplTab
import Derived.BigQuiet
import Derived.Lib.SmallJoins
namespace Go.Proofs.Ytnbaemgidfgdaaa
open Go.ChangeShapes Go.WideShapes Go.ChangeAt Go.RowKit Go.Joins
set_option linter.unusedVariables false

theorem blindV_bd (xs : List Int) (a v i : Int) (ha : 0 ≤ a) (hv : 0 ≤ v) (hx : 0 ≤ nth xs i.toNat) : 0 ≤ blindV xs a v i ∧ blindV xs a v i + minT a (nth xs i.toNat) ≤ nth xs i.toNat := by
  have h1 := minT_le a (nth xs i.toNat)
  have h2 := minT_le v (nth xs i.toNat - minT a (nth xs i.toNat))
  unfold blindV
  omega
theorem nth_rep0 (n i : Nat) (h : i < n) : nth (List.replicate n (0 : Int)) i = 0 := by rw [nth_eq _ _ (by simpa using h)]; simp
/-- What the law asks of a table; of one that is not valid nothing. -/
theorem blinds_facts (xs : List Int) (b s g a l : Int) : (tabC xs b s g a l = 1 ∧ tabB xs b s g a l = false) ∨ (tabC xs b s g a l = 0 ∧ tabB xs b s g a l = true ∧ (antR xs b s g a l).length = xs.length ∧ (bldR xs b s g a l).length = xs.length ∧ bsX xs b s g a l ≠ bsY xs b s g a l ∧
    ∀ i, i < xs.length → 0 ≤ nth (antR xs b s g a l) i ∧ 0 ≤ nth (bldR xs b s g a l) i ∧ nth (antR xs b s g a l) i + nth (bldR xs b s g a l) i ≤ nth xs i ∧ nth xs i ≤ 100000 ∧ (0 < nth (bldR xs b s g a l) i → (i : Int) = bsX xs b s g a l ∨ (i : Int) = bsY xs b s g a l)) := by
  rcases hv : tabB xs b s g a l with _ | _
  · exact .inl ⟨tabC_no hv, rfl⟩
  · right
    obtain ⟨t1, t2, t3, t4, t5, t6, t7, t8, t9, ta, tb, tc⟩ := tab_iff.1 hv
    obtain ⟨e1, e2⟩ := bs_yes hv
    have ea : antR xs b s g a l = anteL xs a := if_pos hv
    have eb : bldR xs b s g a l = blindL xs b s g a := if_pos hv
    obtain ⟨p0, p1⟩ := small_bd (xs.length : Int) b (by omega) t4 t5
    obtain ⟨r0, r1⟩ := big_bd (xs.length : Int) b (by omega)
    have hne := blinds_ne (xs.length : Int) b (by omega) t4 t5
    rw [e1, e2, ea, eb]
    refine ⟨tabC_yes hv, rfl, anteL_len _ _, blindL_len _ _ _ _ _, hne, fun i hi => ?_⟩
    rw [anteL_nth _ _ _ hi]
    have hx := t3 i hi
    have hm := minT_le a (nth xs i)
    unfold blindL
    generalize smallI (xs.length : Int) b = p at *
    generalize bigI (xs.length : Int) b = r at *
    by_cases h1 : r.toNat = i
    · have hq := blindV_bd xs a g r (by omega) (by omega) (by rw [h1]; omega)
      subst h1
      rw [nth_set_same _ _ _ (by simpa using hi)]
      exact ⟨by omega, by omega, by omega, by omega, fun _ => .inr (by omega)⟩
    · rw [nth_set_other _ _ _ _ h1]
      by_cases h2 : p.toNat = i
      · have hq := blindV_bd xs a s p (by omega) (by omega) (by rw [h2]; omega)
        subst h2
        rw [nth_set_same _ _ _ (by simpa using hi)]
        exact ⟨by omega, by omega, by omega, by omega, fun _ => .inl (by omega)⟩
      · rw [nth_set_other _ _ _ _ h2, nth_rep0 _ _ hi]
        exact ⟨by omega, by omega, by omega, by omega, fun h => absurd h (by omega)⟩
set_option maxRecDepth 100000 in
set_option maxHeartbeats 4000000 in
theorem walkBlinds_in (a : Option Addr) (L c : Nat) (zs : Nat → Int) (w : World) (hL : L ≤ 4096) (hc : CodeIn w a L zs) :
    Calls Try.prog 3 #[.slice a L c] w (Fresh (.bool true) w) := by
  have HC := Lib.hid hc
  clear hc
  go_enter Try.func3, Try.ntmps3
  go_wp2_with (go_at_call 14; refine (big_no _ _ _ _ hL).mono ?_; rintro e wz ⟨rfl, rfl⟩)
  go_wp2_with (go_at_call 15; refine (drawBlindsOf_any _ _ _ _ _ hL HC.out).mono ?_; rintro e w1 ⟨A1, c1, xs, b, s, g, a, l, rfl, hx2, hx11, hg0, hg1, hr, hb⟩; have X1 := Lib.hid hb; have B1 := Lib.hid (bl_trans (bl_refl w) hb); have R1 := Lib.hid hr; clear hr hg0 hg1; have NT := Lib.hid (blk_new w1 26 [.slice A1 xs.length c1, .int .i64 b, .int .i64 s, .int .i64 g, .int .i64 a, .int .i64 l]); have B2 := Lib.hid (bl_trans B1.out (bl_alloc (bl_refl w1) (.cells ([.slice A1 xs.length c1, .int .i64 b, .int .i64 s, .int .i64 g, .int .i64 a, .int .i64 l] : List Value).toArray 26))))
  have HF := Lib.hid (blinds_facts xs b s g a l)
  have KB := Lib.hid (fun (A : Option Addr) (c : Nat) (W : World) (h : Rd W A xs) => implBlindsOf_any A c xs b s g a l W h (by omega))
  have KC := Lib.hid (fun (A : Option Addr) (c : Nat) (W : World) (h : Rd W A xs) => specBlindsOf_any A c xs b s g a l W h (by omega))
  have KD := Lib.hid (fun (A : Option Addr) (c : Nat) (W : World) (h : Rd W A xs) => implAntesOf_any A c xs b s g a l W h (by omega))
  have KE := Lib.hid (fun (A : Option Addr) (c : Nat) (W : World) (h : Rd W A xs) => specAntesOf_any A c xs b s g a l W h (by omega))
  have KF := Lib.hid (fun (A : Option Addr) (c : Nat) (W : World) (h : Rd W A xs) => implBlindSeats_any A c xs b s g a l W h (by omega))
  have KG := Lib.hid (fun (A : Option Addr) (c : Nat) (W : World) (h : Rd W A xs) => specBlindSeats_any A c xs b s g a l W h (by omega))
  have KH := Lib.hid (fun (A : Option Addr) (c : Nat) (W : World) (h : Rd W A xs) => implIsTable_any A c xs b s g a l W h (by omega))
  have hla := antR_len xs b s g a l
  have hlb := bldR_len xs b s g a l
  generalize antR xs b s g a l = ya at *
  generalize bldR xs b s g a l = yb at *
  generalize tabC xs b s g a l = kc at *
  generalize tabB xs b s g a l = kb at *
  generalize bsX xs b s g a l = sx at *
  generalize bsY xs b s g a l = sy at *
  unfold tV tripV at *
  obtain ⟨q1, -⟩ := (NT.out).cell 0 _ rfl
  obtain ⟨q2, -⟩ := (NT.out).cell 1 _ rfl
  obtain ⟨q3, -⟩ := (NT.out).cell 2 _ rfl
  obtain ⟨q4, -⟩ := (NT.out).cell 3 _ rfl
  obtain ⟨q5, -⟩ := (NT.out).cell 4 _ rfl
  obtain ⟨q6, -⟩ := (NT.out).cell 5 _ rfl
  go_wp2_with (go_at_call 16; refine (KB.out _ _ _ ((R1.out.below (bl_alloc (bl_refl w1) (.cells ([.slice A1 xs.length c1, .int .i64 b, .int .i64 s, .int .i64 g, .int .i64 a, .int .i64 l] : List Value).toArray 26))))).mono ?_; rintro e w3 ⟨A2, c2, rfl, ho, hb⟩; have X3 := Lib.hid hb; have B3 := Lib.hid (bl_trans B2.out hb); have O2 := Lib.hid ho; clear q1 q2 q3 q4 q5 q6; obtain ⟨q7, -⟩ := ((NT.out.below X3.out)).cell 0 _ rfl; obtain ⟨q8, -⟩ := ((NT.out.below X3.out)).cell 1 _ rfl; obtain ⟨q9, -⟩ := ((NT.out.below X3.out)).cell 2 _ rfl; obtain ⟨q10, -⟩ := ((NT.out.below X3.out)).cell 3 _ rfl; obtain ⟨q11, -⟩ := ((NT.out.below X3.out)).cell 4 _ rfl; obtain ⟨q12, -⟩ := ((NT.out.below X3.out)).cell 5 _ rfl)
  go_wp2_with (go_at_call 17; refine (KC.out _ _ _ (((R1.out.below (bl_alloc (bl_refl w1) (.cells ([.slice A1 xs.length c1, .int .i64 b, .int .i64 s, .int .i64 g, .int .i64 a, .int .i64 l] : List Value).toArray 26))).below X3.out))).mono ?_; rintro e w4 ⟨A3, c3, rfl, ho, hb⟩; have X4 := Lib.hid hb; have B4 := Lib.hid (bl_trans B3.out hb); have O3 := Lib.hid ho; clear q7 q8 q9 q10 q11 q12; obtain ⟨q13, -⟩ := (((NT.out.below X3.out).below X4.out)).cell 0 _ rfl; obtain ⟨q14, -⟩ := (((NT.out.below X3.out).below X4.out)).cell 1 _ rfl; obtain ⟨q15, -⟩ := (((NT.out.below X3.out).below X4.out)).cell 2 _ rfl; obtain ⟨q16, -⟩ := (((NT.out.below X3.out).below X4.out)).cell 3 _ rfl; obtain ⟨q17, -⟩ := (((NT.out.below X3.out).below X4.out)).cell 4 _ rfl; obtain ⟨q18, -⟩ := (((NT.out.below X3.out).below X4.out)).cell 5 _ rfl)
  go_wp2_with (go_at_call 18; refine (KD.out _ _ _ ((((R1.out.below (bl_alloc (bl_refl w1) (.cells ([.slice A1 xs.length c1, .int .i64 b, .int .i64 s, .int .i64 g, .int .i64 a, .int .i64 l] : List Value).toArray 26))).below X3.out).below X4.out))).mono ?_; rintro e w5 ⟨A4, c4, rfl, ho, hb⟩; have X5 := Lib.hid hb; have B5 := Lib.hid (bl_trans B4.out hb); have O4 := Lib.hid ho; clear q13 q14 q15 q16 q17 q18; obtain ⟨q19, -⟩ := ((((NT.out.below X3.out).below X4.out).below X5.out)).cell 0 _ rfl; obtain ⟨q20, -⟩ := ((((NT.out.below X3.out).below X4.out).below X5.out)).cell 1 _ rfl; obtain ⟨q21, -⟩ := ((((NT.out.below X3.out).below X4.out).below X5.out)).cell 2 _ rfl; obtain ⟨q22, -⟩ := ((((NT.out.below X3.out).below X4.out).below X5.out)).cell 3 _ rfl; obtain ⟨q23, -⟩ := ((((NT.out.below X3.out).below X4.out).below X5.out)).cell 4 _ rfl; obtain ⟨q24, -⟩ := ((((NT.out.below X3.out).below X4.out).below X5.out)).cell 5 _ rfl)
  go_wp2_with (go_at_call 19; refine (KE.out _ _ _ (((((R1.out.below (bl_alloc (bl_refl w1) (.cells ([.slice A1 xs.length c1, .int .i64 b, .int .i64 s, .int .i64 g, .int .i64 a, .int .i64 l] : List Value).toArray 26))).below X3.out).below X4.out).below X5.out))).mono ?_; rintro e w6 ⟨A5, c5, rfl, ho, hb⟩; have X6 := Lib.hid hb; have B6 := Lib.hid (bl_trans B5.out hb); have O5 := Lib.hid ho; clear q19 q20 q21 q22 q23 q24; obtain ⟨q25, -⟩ := (((((NT.out.below X3.out).below X4.out).below X5.out).below X6.out)).cell 0 _ rfl; obtain ⟨q26, -⟩ := (((((NT.out.below X3.out).below X4.out).below X5.out).below X6.out)).cell 1 _ rfl; obtain ⟨q27, -⟩ := (((((NT.out.below X3.out).below X4.out).below X5.out).below X6.out)).cell 2 _ rfl; obtain ⟨q28, -⟩ := (((((NT.out.below X3.out).below X4.out).below X5.out).below X6.out)).cell 3 _ rfl; obtain ⟨q29, -⟩ := (((((NT.out.below X3.out).below X4.out).below X5.out).below X6.out)).cell 4 _ rfl; obtain ⟨q30, -⟩ := (((((NT.out.below X3.out).below X4.out).below X5.out).below X6.out)).cell 5 _ rfl)
  go_wp2_with (go_at_call 20; refine (KF.out _ _ _ ((((((R1.out.below (bl_alloc (bl_refl w1) (.cells ([.slice A1 xs.length c1, .int .i64 b, .int .i64 s, .int .i64 g, .int .i64 a, .int .i64 l] : List Value).toArray 26))).below X3.out).below X4.out).below X5.out).below X6.out))).mono ?_; rintro e w7 ⟨rfl, hb⟩; have X7 := Lib.hid hb; have B7 := Lib.hid (bl_trans B6.out hb); clear q25 q26 q27 q28 q29 q30; obtain ⟨q31, -⟩ := ((((((NT.out.below X3.out).below X4.out).below X5.out).below X6.out).below X7.out)).cell 0 _ rfl; obtain ⟨q32, -⟩ := ((((((NT.out.below X3.out).below X4.out).below X5.out).below X6.out).below X7.out)).cell 1 _ rfl; obtain ⟨q33, -⟩ := ((((((NT.out.below X3.out).below X4.out).below X5.out).below X6.out).below X7.out)).cell 2 _ rfl; obtain ⟨q34, -⟩ := ((((((NT.out.below X3.out).below X4.out).below X5.out).below X6.out).below X7.out)).cell 3 _ rfl; obtain ⟨q35, -⟩ := ((((((NT.out.below X3.out).below X4.out).below X5.out).below X6.out).below X7.out)).cell 4 _ rfl; obtain ⟨q36, -⟩ := ((((((NT.out.below X3.out).below X4.out).below X5.out).below X6.out).below X7.out)).cell 5 _ rfl)
  have u1 : (kc != kc) = false := by simp
  have u2 : (sx != sx) = false := by simp
  have u3 : (sy != sy) = false := by simp
  go_wp2_with (go_at_call 21; refine (KG.out _ _ _ (((((((R1.out.below (bl_alloc (bl_refl w1) (.cells ([.slice A1 xs.length c1, .int .i64 b, .int .i64 s, .int .i64 g, .int .i64 a, .int .i64 l] : List Value).toArray 26))).below X3.out).below X4.out).below X5.out).below X6.out).below X7.out))).mono ?_; rintro e w8 ⟨rfl, hb⟩; have X8 := Lib.hid hb; have B8 := Lib.hid (bl_trans B7.out hb); clear q31 q32 q33 q34 q35 q36; obtain ⟨q37, -⟩ := (((((((NT.out.below X3.out).below X4.out).below X5.out).below X6.out).below X7.out).below X8.out)).cell 0 _ rfl; obtain ⟨q38, -⟩ := (((((((NT.out.below X3.out).below X4.out).below X5.out).below X6.out).below X7.out).below X8.out)).cell 1 _ rfl; obtain ⟨q39, -⟩ := (((((((NT.out.below X3.out).below X4.out).below X5.out).below X6.out).below X7.out).below X8.out)).cell 2 _ rfl; obtain ⟨q40, -⟩ := (((((((NT.out.below X3.out).below X4.out).below X5.out).below X6.out).below X7.out).below X8.out)).cell 3 _ rfl; obtain ⟨q41, -⟩ := (((((((NT.out.below X3.out).below X4.out).below X5.out).below X6.out).below X7.out).below X8.out)).cell 4 _ rfl; obtain ⟨q42, -⟩ := (((((((NT.out.below X3.out).below X4.out).below X5.out).below X6.out).below X7.out).below X8.out)).cell 5 _ rfl)
  rcases HF.out with ⟨rfl, rfl⟩ | ⟨rfl, rfl, hn1, hn2, hne, HI⟩
  · have hn8 : yb.length ≤ 4000000 := by omega
    have kl8 := Lib.hid (likeInts_same _ _ c2 c3 yb _ (((((O2.out.below X4.out).below X5.out).below X6.out).below X7.out).below X8.out).rd ((((O3.out.below X5.out).below X6.out).below X7.out).below X8.out).rd hn8)
    go_wp2_with (go_at_call 22; refine (kl8.out).mono ?_; rintro e w9 ⟨rfl, hb⟩; have X9 := Lib.hid hb; have B9 := Lib.hid (bl_trans B8.out hb); clear kl8 hn8; clear q37 q38 q39 q40 q41 q42; obtain ⟨q43, -⟩ := ((((((((NT.out.below X3.out).below X4.out).below X5.out).below X6.out).below X7.out).below X8.out).below X9.out)).cell 0 _ rfl; obtain ⟨q44, -⟩ := ((((((((NT.out.below X3.out).below X4.out).below X5.out).below X6.out).below X7.out).below X8.out).below X9.out)).cell 1 _ rfl; obtain ⟨q45, -⟩ := ((((((((NT.out.below X3.out).below X4.out).below X5.out).below X6.out).below X7.out).below X8.out).below X9.out)).cell 2 _ rfl; obtain ⟨q46, -⟩ := ((((((((NT.out.below X3.out).below X4.out).below X5.out).below X6.out).below X7.out).below X8.out).below X9.out)).cell 3 _ rfl; obtain ⟨q47, -⟩ := ((((((((NT.out.below X3.out).below X4.out).below X5.out).below X6.out).below X7.out).below X8.out).below X9.out)).cell 4 _ rfl; obtain ⟨q48, -⟩ := ((((((((NT.out.below X3.out).below X4.out).below X5.out).below X6.out).below X7.out).below X8.out).below X9.out)).cell 5 _ rfl)
    have hn9 : ya.length ≤ 4000000 := by omega
    have kl9 := Lib.hid (likeInts_same _ _ c4 c5 ya _ ((((O4.out.below X6.out).below X7.out).below X8.out).below X9.out).rd (((O5.out.below X7.out).below X8.out).below X9.out).rd hn9)
    go_wp2_with (go_at_call 22; refine (kl9.out).mono ?_; rintro e w10 ⟨rfl, hb⟩; have X10 := Lib.hid hb; have B10 := Lib.hid (bl_trans B9.out hb); clear kl9 hn9; clear q43 q44 q45 q46 q47 q48; obtain ⟨q49, -⟩ := (((((((((NT.out.below X3.out).below X4.out).below X5.out).below X6.out).below X7.out).below X8.out).below X9.out).below X10.out)).cell 0 _ rfl; obtain ⟨q50, -⟩ := (((((((((NT.out.below X3.out).below X4.out).below X5.out).below X6.out).below X7.out).below X8.out).below X9.out).below X10.out)).cell 1 _ rfl; obtain ⟨q51, -⟩ := (((((((((NT.out.below X3.out).below X4.out).below X5.out).below X6.out).below X7.out).below X8.out).below X9.out).below X10.out)).cell 2 _ rfl; obtain ⟨q52, -⟩ := (((((((((NT.out.below X3.out).below X4.out).below X5.out).below X6.out).below X7.out).below X8.out).below X9.out).below X10.out)).cell 3 _ rfl; obtain ⟨q53, -⟩ := (((((((((NT.out.below X3.out).below X4.out).below X5.out).below X6.out).below X7.out).below X8.out).below X9.out).below X10.out)).cell 4 _ rfl; obtain ⟨q54, -⟩ := (((((((((NT.out.below X3.out).below X4.out).below X5.out).below X6.out).below X7.out).below X8.out).below X9.out).below X10.out)).cell 5 _ rfl)
    go_wp2_with (go_at_call 23; refine (KH.out _ _ _ ((((((((((R1.out.below (bl_alloc (bl_refl w1) (.cells ([.slice A1 xs.length c1, .int .i64 b, .int .i64 s, .int .i64 g, .int .i64 a, .int .i64 l] : List Value).toArray 26))).below X3.out).below X4.out).below X5.out).below X6.out).below X7.out).below X8.out).below X9.out).below X10.out))).mono ?_; rintro e w11 ⟨rfl, hb⟩; have X11 := Lib.hid hb; have B11 := Lib.hid (bl_trans B10.out hb); clear q49 q50 q51 q52 q53 q54; obtain ⟨q55, -⟩ := ((((((((((NT.out.below X3.out).below X4.out).below X5.out).below X6.out).below X7.out).below X8.out).below X9.out).below X10.out).below X11.out)).cell 0 _ rfl; obtain ⟨q56, -⟩ := ((((((((((NT.out.below X3.out).below X4.out).below X5.out).below X6.out).below X7.out).below X8.out).below X9.out).below X10.out).below X11.out)).cell 1 _ rfl; obtain ⟨q57, -⟩ := ((((((((((NT.out.below X3.out).below X4.out).below X5.out).below X6.out).below X7.out).below X8.out).below X9.out).below X10.out).below X11.out)).cell 2 _ rfl; obtain ⟨q58, -⟩ := ((((((((((NT.out.below X3.out).below X4.out).below X5.out).below X6.out).below X7.out).below X8.out).below X9.out).below X10.out).below X11.out)).cell 3 _ rfl; obtain ⟨q59, -⟩ := ((((((((((NT.out.below X3.out).below X4.out).below X5.out).below X6.out).below X7.out).below X8.out).below X9.out).below X10.out).below X11.out)).cell 4 _ rfl; obtain ⟨q60, -⟩ := ((((((((((NT.out.below X3.out).below X4.out).below X5.out).below X6.out).below X7.out).below X8.out).below X9.out).below X10.out).below X11.out)).cell 5 _ rfl)
    exact bodyPost_ret (v := .bool true) (by simp [results, Try.results3, go_sem]) rfl ⟨rfl, B11.out⟩
  · have HJ := Lib.hid HI
    have HN1 := Lib.hid hn1
    have HN2 := Lib.hid hn2
    clear HI hn1 hn2
    have hn8 : yb.length ≤ 4000000 := by omega
    have kl8 := Lib.hid (likeInts_same _ _ c2 c3 yb _ (((((O2.out.below X4.out).below X5.out).below X6.out).below X7.out).below X8.out).rd ((((O3.out.below X5.out).below X6.out).below X7.out).below X8.out).rd hn8)
    go_wp2_with (go_at_call 22; refine (kl8.out).mono ?_; rintro e w9 ⟨rfl, hb⟩; have X9 := Lib.hid hb; have B9 := Lib.hid (bl_trans B8.out hb); clear kl8 hn8; clear q37 q38 q39 q40 q41 q42; obtain ⟨q43, -⟩ := ((((((((NT.out.below X3.out).below X4.out).below X5.out).below X6.out).below X7.out).below X8.out).below X9.out)).cell 0 _ rfl; obtain ⟨q44, -⟩ := ((((((((NT.out.below X3.out).below X4.out).below X5.out).below X6.out).below X7.out).below X8.out).below X9.out)).cell 1 _ rfl; obtain ⟨q45, -⟩ := ((((((((NT.out.below X3.out).below X4.out).below X5.out).below X6.out).below X7.out).below X8.out).below X9.out)).cell 2 _ rfl; obtain ⟨q46, -⟩ := ((((((((NT.out.below X3.out).below X4.out).below X5.out).below X6.out).below X7.out).below X8.out).below X9.out)).cell 3 _ rfl; obtain ⟨q47, -⟩ := ((((((((NT.out.below X3.out).below X4.out).below X5.out).below X6.out).below X7.out).below X8.out).below X9.out)).cell 4 _ rfl; obtain ⟨q48, -⟩ := ((((((((NT.out.below X3.out).below X4.out).below X5.out).below X6.out).below X7.out).below X8.out).below X9.out)).cell 5 _ rfl)
    have hn9 : ya.length ≤ 4000000 := by omega
    have kl9 := Lib.hid (likeInts_same _ _ c4 c5 ya _ ((((O4.out.below X6.out).below X7.out).below X8.out).below X9.out).rd (((O5.out.below X7.out).below X8.out).below X9.out).rd hn9)
    go_wp2_with (go_at_call 22; refine (kl9.out).mono ?_; rintro e w10 ⟨rfl, hb⟩; have X10 := Lib.hid hb; have B10 := Lib.hid (bl_trans B9.out hb); clear kl9 hn9; clear q43 q44 q45 q46 q47 q48; obtain ⟨q49, -⟩ := (((((((((NT.out.below X3.out).below X4.out).below X5.out).below X6.out).below X7.out).below X8.out).below X9.out).below X10.out)).cell 0 _ rfl; obtain ⟨q50, -⟩ := (((((((((NT.out.below X3.out).below X4.out).below X5.out).below X6.out).below X7.out).below X8.out).below X9.out).below X10.out)).cell 1 _ rfl; obtain ⟨q51, -⟩ := (((((((((NT.out.below X3.out).below X4.out).below X5.out).below X6.out).below X7.out).below X8.out).below X9.out).below X10.out)).cell 2 _ rfl; obtain ⟨q52, -⟩ := (((((((((NT.out.below X3.out).below X4.out).below X5.out).below X6.out).below X7.out).below X8.out).below X9.out).below X10.out)).cell 3 _ rfl; obtain ⟨q53, -⟩ := (((((((((NT.out.below X3.out).below X4.out).below X5.out).below X6.out).below X7.out).below X8.out).below X9.out).below X10.out)).cell 4 _ rfl; obtain ⟨q54, -⟩ := (((((((((NT.out.below X3.out).below X4.out).below X5.out).below X6.out).below X7.out).below X8.out).below X9.out).below X10.out)).cell 5 _ rfl)
    go_wp2_with (go_at_call 23; refine (KH.out _ _ _ ((((((((((R1.out.below (bl_alloc (bl_refl w1) (.cells ([.slice A1 xs.length c1, .int .i64 b, .int .i64 s, .int .i64 g, .int .i64 a, .int .i64 l] : List Value).toArray 26))).below X3.out).below X4.out).below X5.out).below X6.out).below X7.out).below X8.out).below X9.out).below X10.out))).mono ?_; rintro e w11 ⟨rfl, hb⟩; have X11 := Lib.hid hb; have B11 := Lib.hid (bl_trans B10.out hb); clear q49 q50 q51 q52 q53 q54; obtain ⟨q55, -⟩ := ((((((((((NT.out.below X3.out).below X4.out).below X5.out).below X6.out).below X7.out).below X8.out).below X9.out).below X10.out).below X11.out)).cell 0 _ rfl; obtain ⟨q56, -⟩ := ((((((((((NT.out.below X3.out).below X4.out).below X5.out).below X6.out).below X7.out).below X8.out).below X9.out).below X10.out).below X11.out)).cell 1 _ rfl; obtain ⟨q57, -⟩ := ((((((((((NT.out.below X3.out).below X4.out).below X5.out).below X6.out).below X7.out).below X8.out).below X9.out).below X10.out).below X11.out)).cell 2 _ rfl; obtain ⟨q58, -⟩ := ((((((((((NT.out.below X3.out).below X4.out).below X5.out).below X6.out).below X7.out).below X8.out).below X9.out).below X10.out).below X11.out)).cell 3 _ rfl; obtain ⟨q59, -⟩ := ((((((((((NT.out.below X3.out).below X4.out).below X5.out).below X6.out).below X7.out).below X8.out).below X9.out).below X10.out).below X11.out)).cell 4 _ rfl; obtain ⟨q60, -⟩ := ((((((((((NT.out.below X3.out).below X4.out).below X5.out).below X6.out).below X7.out).below X8.out).below X9.out).below X10.out).below X11.out)).cell 5 _ rfl)
    go_loopw [18] (fun i wr => ∃ k : Nat, k ≤ xs.length ∧ i = .int .i64 k ∧ Hid (Below w11.heap.size w11 wr)) (fun i _ => xs.length - (intOf i).toNat)
    case atStart => exact ⟨0, by omega, rfl, Lib.hid (bl_refl _)⟩
    case round =>
      obtain ⟨k, hk, rfl, hs⟩ := hrel
      clear q55 q56 q57 q58 q59 q60
      by_cases hlt : k < xs.length
      · have hlt' : (k : Int) < yb.length := by have := HN2.out; omega
        obtain ⟨f1, f2, f3, f4, f5⟩ := HJ.out k hlt
        obtain ⟨bb, ob, rfl, hcb⟩ := (((((((((O2.out.below X4.out).below X5.out).below X6.out).below X7.out).below X8.out).below X9.out).below X10.out).below X11.out)).at_ hs.out k (by have := HN2.out; omega)
        obtain ⟨ba, oa, rfl, hca⟩ := (((((((O4.out.below X6.out).below X7.out).below X8.out).below X9.out).below X10.out).below X11.out)).at_ hs.out k (by have := HN1.out; omega)
        obtain ⟨bx, ox, rfl, hcx⟩ := (((((((((((R1.out.below (bl_alloc (bl_refl w1) (.cells ([.slice A1 xs.length c1, .int .i64 b, .int .i64 s, .int .i64 g, .int .i64 a, .int .i64 l] : List Value).toArray 26))).below X3.out).below X4.out).below X5.out).below X6.out).below X7.out).below X8.out).below X9.out).below X10.out).below X11.out)).at_ hs.out k (by omega)
        have NW := ((((((((((NT.out.below X3.out).below X4.out).below X5.out).below X6.out).below X7.out).below X8.out).below X9.out).below X10.out).below X11.out)).below hs.out
        obtain ⟨z0, -⟩ := NW.cell 0 _ rfl
        generalize nth ya k = va at *
        generalize nth yb k = vb at *
        generalize nth xs k = vx at *
        have hsum : IntKind.i64.wrap (va + vb) = va + vb := IntWalk.i64_in _ (by omega)
        have d1 : decide (vx < va + vb) = false := by simp; omega
        have d2 : decide (va < 0) = false := by simp; omega
        have d3 : decide (vb < 0) = false := by simp; omega
        have i1 : (k : Int) < ya.length := by have := HN1.out; omega
        have i2 : (k : Int) < xs.length := by omega
        have i3 : (0 : Int) ≤ k := by omega
        by_cases h0 : 0 < vb
        · have d4 : decide (0 < vb) = true := by simpa using h0
          have g4 := f5 h0
          clear f5
          by_cases h1 : (k : Int) = sx
          · have d5 : ((k : Int) != sx) = false := by simpa using h1
            clear h1 g4 h0
            go_wp2_with fail
            go_quiet (fail)
            go_wp2_with fail
            go_roundw
            case rel => exact ⟨k + 1, by omega, by go_num, Lib.hid (bl_drewN hs.out _)⟩
            case measure => simp [intOf]; omega
          · have d5 : ((k : Int) != sx) = true := by simpa using h1
            have d6 : ((k : Int) != sy) = false := by simp; omega
            clear h1 g4 h0
            go_wp2_with fail
            go_quiet (fail)
            go_wp2_with fail
            go_roundw
            case rel => exact ⟨k + 1, by omega, by go_num, Lib.hid (bl_drewN hs.out _)⟩
            case measure => simp [intOf]; omega
        · have d4 : decide (0 < vb) = false := by simpa using h0
          clear f5
          go_wp2_with fail
          go_quiet (fail)
          go_wp2_with fail
          go_roundw
          case rel => exact ⟨k + 1, by omega, by go_num, Lib.hid (bl_drewN hs.out _)⟩
          case measure => simp [intOf]; omega
      · obtain rfl : k = xs.length := by omega
        have hneb : (sx != sy) = true := by simpa using hne
        have hlt' : ¬ (xs.length : Int) < yb.length := by have := HN2.out; omega
        go_wp2_with fail
        exact bodyPost_ret (v := .bool true) (by simp [results, Try.results3, go_sem]) rfl ⟨rfl, bl_trans B11.out hs.out⟩
set_option maxRecDepth 100000 in
set_option maxHeartbeats 400000 in
theorem walkBlinds_big (a : Option Addr) (L c : Nat) (w : World) (hm : L ≤ maxLen) (h : 4096 < L) :
    Calls Try.prog 3 #[.slice a L c] w (Fresh (.bool true) w) := by
  unfold maxLen at hm
  go_enter Try.func3, Try.ntmps3
  go_wp2_with (go_at_call 14; refine (big_yes _ _ _ _ h (by omega)).mono ?_; rintro e w0 ⟨rfl, rfl⟩)
  go_ret
  exact ⟨rfl, bl_refl _⟩
theorem walkBlinds (a : Option Addr) (L c : Nat) (zs : Nat → Int) (w : World) (hm : L ≤ maxLen) (hc : CodeIn w a L zs) :
    Calls Try.prog 3 #[.slice a L c] w (Fresh (.bool true) w) := by
  by_cases h : L ≤ 4096
  · exact walkBlinds_in a L c zs w h hc
  · exact walkBlinds_big a L c w hm (by omega)

set_option maxRecDepth 100000 in
theorem fnBlinds_lifted (os : Os) (started : os.Started) (H : Type) (enc : TypeId × Value → H) :
    ReturnsInHanded {} Try.checked os 3 .any (Rows.fnBlindsSpec.pre6 enc Try.prog Try.f3 Rows.fnBlindsRow.domain false) (Rows.fnBlindsSpec.post enc Try.prog Try.f3 false true false false) := by
  refine law_lifted started (by kernel_rfl) Try.func3 (by kernel_rfl) rfl (fun ds h => ?_) ?_
    (ChangeSpec.witness6 (enc := enc) (C := Try.checked) false ⟨#[], #[.slice none 0 0], []⟩ 8 (by kernel_rfl) (by kernel_rfl) (by kernel_rfl) (by kernel_rfl)) ?_
  · match ds, h with
    | [d0], _ => rfl
  · rw [Try.params3]
    intro t ht
    obtain rfl : t = 22 := by simpa using ht
    exact ⟨by kernel_rfl, of_decide_eq_true (by kernel_rfl)⟩
  · intro W base args ds ps hval hA
    rw [Try.params3] at hA hval
    obtain ⟨v0, d0, rfl, rfl, h0⟩ := trodAll_one hA
    obtain ⟨A0, L0, c0, zs0, rfl, m0, r0⟩ := open_code (hval 0 22 v0 rfl rfl) h0
    exact walkBlinds A0 L0 c0 zs0 W m0 r0

/-- What the seats pay and bet is theirs, and only the two blinds bet, for every code. -/
theorem fnBlinds_holds : Rows.FnBlindsSaid :=
  OpenClaim.holds_of_wide 3 Try.f3 rfl rfl rfl rfl rfl rfl rfl ⟨rfl, rfl, rfl, rfl, rfl⟩ rfl rfl rfl rfl rfl (by kernel_rfl) Try.func3 (by kernel_rfl)
    (of_decide_eq_true (by kernel_rfl)) (by unfold Func.isWrapper; first | (rw [if_pos (by decide +kernel)]; kernel_rfl) | (rw [if_neg (by decide +kernel)]; exact ⟨rfl, rfl⟩))
    (fun os started H enc _ => fnBlinds_lifted os started H enc)
end Go.Proofs.Ytnbaemgidfgdaaa
