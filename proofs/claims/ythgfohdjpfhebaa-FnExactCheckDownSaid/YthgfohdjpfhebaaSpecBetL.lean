/-
  The model: legal actions.
-/
import Derived.Test.YthgfohdjpfhebaaSpecBetC
namespace Go.Proofs.Ythgfohdjpfhebaa
open Go.RowKit
set_option linter.unusedVariables false

/-- An action is one of these choices. -/
def legV (c : Bool) (ca le mo k x : Int) : Bool :=
  if k = 0 then x == 0 else if k = 1 then x == 0 && c else if k = 2 then x == 0 && decide (0 < ca) else if k = 3 then decide (0 < mo) && decide (le ≤ x) && decide (x ≤ mo) else false
theorem leg_same (b : Bt) (k x : Int) : legB b k x = legV (checkB b) (callI b) (leastI b) (mostI b) k x := rfl
theorem legV_0 (c : Bool) (ca le mo x : Int) : legV c ca le mo 0 x = (x == 0) := rfl
theorem legV_1 (c : Bool) (ca le mo x : Int) : legV c ca le mo 1 x = (x == 0 && c) := rfl
theorem legV_2 (c : Bool) (ca le mo x : Int) : legV c ca le mo 2 x = (x == 0 && decide (0 < ca)) := rfl
theorem legV_3 (c : Bool) (ca le mo x : Int) : legV c ca le mo 3 x = (decide (0 < mo) && decide (le ≤ x) && decide (x ≤ mo)) := rfl
theorem legV_no (c : Bool) (ca le mo k x : Int) (h0 : k ≠ 0) (h1 : k ≠ 1) (h2 : k ≠ 2) (h3 : k ≠ 3) : legV c ca le mo k x = false := by unfold legV; rw [if_neg h0, if_neg h1, if_neg h2, if_neg h3]
set_option maxRecDepth 100000 in
set_option maxHeartbeats 3000000 in
theorem l10Legal_any (L : At5) (b : Bt) (k x : Int) (w : World) (h : Rd5 w L b) (kk : Ok b) (ho : openB b = true) :
    Calls Try.prog 95 #[bV L b, .agg #[.int .i64 k, .int .i64 x]] w (Fresh (.bool (legB b k x)) w) := by
  rw [leg_same]
  have KC := Lib.hid (fun (W : World) (hW : Rd5 W L b) => l10Choices_any L b W hW kk ho)
  have KI := Lib.hid (fun (le mo : Int) (W : World) => specIn_any x le mo W)
  have BT := (btAt_new h).below (bl_alloc (bl_refl _) (.cells ([.int .i64 k, .int .i64 x] : List Value).toArray 34))
  have B := Lib.hid (bl_alloc (bl_box (w := w) (L := L) (b := b)) (.cells ([.int .i64 k, .int .i64 x] : List Value).toArray 34))
  have N0 := blk_new (w.alloc (.cells (btL L b).toArray 27)) 34 [.int .i64 k, .int .i64 x]
  rw [World.size_alloc] at N0
  have NA := Lib.hid N0
  have BH := Lib.hid BT
  generalize checkB b = c at *
  generalize callI b = ca at *
  generalize leastI b = le at *
  generalize mostI b = mo at *
  have KI := Lib.hid (KI.out le mo)
  obtain ⟨q0, -⟩ := BT.blk.cell 0 _ rfl
  obtain ⟨q1, -⟩ := BT.blk.cell 1 _ rfl
  obtain ⟨q2, -⟩ := BT.blk.cell 2 _ rfl
  obtain ⟨q3, -⟩ := BT.blk.cell 3 _ rfl
  obtain ⟨q4, -⟩ := BT.blk.cell 4 _ rfl
  obtain ⟨q5, -⟩ := BT.blk.cell 5 _ rfl
  obtain ⟨q6, -⟩ := BT.blk.cell 6 _ rfl
  obtain ⟨q7, -⟩ := BT.blk.cell 7 _ rfl
  obtain ⟨q8, -⟩ := BT.blk.cell 8 _ rfl
  clear h kk ho BT N0
  unfold bV chV at *
  by_cases k0 : k = 0
  · subst k0
    rw [legV_0]
    go_enter Try.func95, Try.ntmps95
    go_wp2_with (first
        | (go_at_call 81; refine (KC.out _ BH.out.rd).mono ?_; rintro e w3 ⟨rfl, hb⟩; have Ba := Lib.hid (bl_trans B.out (bl_trans hb (bl_alloc (bl_refl w3) (.cells ([.bool c, .int .i64 ca, .int .i64 le, .int .i64 mo] : List Value).toArray 30)))); have N5 := blk_new w3 30 [.bool c, .int .i64 ca, .int .i64 le, .int .i64 mo]; have N4 := (NA.out.below hb).below (bl_alloc (bl_refl w3) (.cells ([.bool c, .int .i64 ca, .int .i64 le, .int .i64 mo] : List Value).toArray 30)); obtain ⟨p0, -⟩ := N4.cell 0 _ rfl; obtain ⟨p1, -⟩ := N4.cell 1 _ rfl; obtain ⟨r0, -⟩ := N5.cell 0 _ rfl; obtain ⟨r1, -⟩ := N5.cell 1 _ rfl; obtain ⟨r2, -⟩ := N5.cell 2 _ rfl; obtain ⟨r3, -⟩ := N5.cell 3 _ rfl; clear N4 N5))
    go_ret
    exact ⟨ret_bool rfl, Ba.out⟩
  by_cases k1 : k = 1
  · subst k1
    rw [legV_1]
    rcases x0 : (x == 0) with _ | _
    all_goals
      go_enter Try.func95, Try.ntmps95
      go_wp2_with (first
          | (go_at_call 81; refine (KC.out _ BH.out.rd).mono ?_; rintro e w3 ⟨rfl, hb⟩; have Ba := Lib.hid (bl_trans B.out (bl_trans hb (bl_alloc (bl_refl w3) (.cells ([.bool c, .int .i64 ca, .int .i64 le, .int .i64 mo] : List Value).toArray 30)))); have N5 := blk_new w3 30 [.bool c, .int .i64 ca, .int .i64 le, .int .i64 mo]; have N4 := (NA.out.below hb).below (bl_alloc (bl_refl w3) (.cells ([.bool c, .int .i64 ca, .int .i64 le, .int .i64 mo] : List Value).toArray 30)); obtain ⟨p0, -⟩ := N4.cell 0 _ rfl; obtain ⟨p1, -⟩ := N4.cell 1 _ rfl; obtain ⟨r0, -⟩ := N5.cell 0 _ rfl; obtain ⟨r1, -⟩ := N5.cell 1 _ rfl; obtain ⟨r2, -⟩ := N5.cell 2 _ rfl; obtain ⟨r3, -⟩ := N5.cell 3 _ rfl; clear N4 N5))
      go_ret
      exact ⟨ret_bool (by simp), Ba.out⟩
  by_cases k2 : k = 2
  · subst k2
    rw [legV_2]
    rcases x0 : (x == 0) with _ | _
    all_goals
      go_enter Try.func95, Try.ntmps95
      go_wp2_with (first
          | (go_at_call 81; refine (KC.out _ BH.out.rd).mono ?_; rintro e w3 ⟨rfl, hb⟩; have Ba := Lib.hid (bl_trans B.out (bl_trans hb (bl_alloc (bl_refl w3) (.cells ([.bool c, .int .i64 ca, .int .i64 le, .int .i64 mo] : List Value).toArray 30)))); have N5 := blk_new w3 30 [.bool c, .int .i64 ca, .int .i64 le, .int .i64 mo]; have N4 := (NA.out.below hb).below (bl_alloc (bl_refl w3) (.cells ([.bool c, .int .i64 ca, .int .i64 le, .int .i64 mo] : List Value).toArray 30)); obtain ⟨p0, -⟩ := N4.cell 0 _ rfl; obtain ⟨p1, -⟩ := N4.cell 1 _ rfl; obtain ⟨r0, -⟩ := N5.cell 0 _ rfl; obtain ⟨r1, -⟩ := N5.cell 1 _ rfl; obtain ⟨r2, -⟩ := N5.cell 2 _ rfl; obtain ⟨r3, -⟩ := N5.cell 3 _ rfl; clear N4 N5))
      go_ret
      exact ⟨ret_bool (by simp), Ba.out⟩
  by_cases k3 : k = 3
  · subst k3
    rw [legV_3]
    by_cases m0 : 0 < mo
    · have m1 : decide (0 < mo) = true := decide_eq_true m0
      have HV : Hid (inB x le mo = (decide (0 < mo) && decide (le ≤ x) && decide (x ≤ mo))) := Lib.hid (by unfold inB; rw [m1]; simp [Bool.decide_and])
      go_enter Try.func95, Try.ntmps95
      go_wp2_with (first
          | (go_at_call 81; refine (KC.out _ BH.out.rd).mono ?_; rintro e w3 ⟨rfl, hb⟩; have Ba := Lib.hid (bl_trans B.out (bl_trans hb (bl_alloc (bl_refl w3) (.cells ([.bool c, .int .i64 ca, .int .i64 le, .int .i64 mo] : List Value).toArray 30)))); have N5 := blk_new w3 30 [.bool c, .int .i64 ca, .int .i64 le, .int .i64 mo]; have N4 := (NA.out.below hb).below (bl_alloc (bl_refl w3) (.cells ([.bool c, .int .i64 ca, .int .i64 le, .int .i64 mo] : List Value).toArray 30)); obtain ⟨p0, -⟩ := N4.cell 0 _ rfl; obtain ⟨p1, -⟩ := N4.cell 1 _ rfl; obtain ⟨r0, -⟩ := N5.cell 0 _ rfl; obtain ⟨r1, -⟩ := N5.cell 1 _ rfl; obtain ⟨r2, -⟩ := N5.cell 2 _ rfl; obtain ⟨r3, -⟩ := N5.cell 3 _ rfl; clear N4 N5)
          | (go_at_call 90; refine (KI.out _).mono ?_; rintro e w4 ⟨rfl, rfl⟩))
      go_ret
      exact ⟨ret_bool HV.out, Ba.out⟩
    · have m1 : decide (0 < mo) = false := decide_eq_false m0
      go_enter Try.func95, Try.ntmps95
      go_wp2_with (first
          | (go_at_call 81; refine (KC.out _ BH.out.rd).mono ?_; rintro e w3 ⟨rfl, hb⟩; have Ba := Lib.hid (bl_trans B.out (bl_trans hb (bl_alloc (bl_refl w3) (.cells ([.bool c, .int .i64 ca, .int .i64 le, .int .i64 mo] : List Value).toArray 30)))); have N5 := blk_new w3 30 [.bool c, .int .i64 ca, .int .i64 le, .int .i64 mo]; have N4 := (NA.out.below hb).below (bl_alloc (bl_refl w3) (.cells ([.bool c, .int .i64 ca, .int .i64 le, .int .i64 mo] : List Value).toArray 30)); obtain ⟨p0, -⟩ := N4.cell 0 _ rfl; obtain ⟨p1, -⟩ := N4.cell 1 _ rfl; obtain ⟨r0, -⟩ := N5.cell 0 _ rfl; obtain ⟨r1, -⟩ := N5.cell 1 _ rfl; obtain ⟨r2, -⟩ := N5.cell 2 _ rfl; obtain ⟨r3, -⟩ := N5.cell 3 _ rfl; clear N4 N5))
      go_ret
      exact ⟨ret_bool (by rw [m1]; rfl), Ba.out⟩
  · rw [legV_no _ _ _ _ _ _ k0 k1 k2 k3]
    have t0 : (k == 0) = false := by simpa using k0
    have t1 : (k == 1) = false := by simpa using k1
    have t2 : (k == 2) = false := by simpa using k2
    have t3 : (k == 3) = false := by simpa using k3
    clear k0 k1 k2 k3
    go_enter Try.func95, Try.ntmps95
    go_wp2_with (first
        | (go_at_call 81; refine (KC.out _ BH.out.rd).mono ?_; rintro e w3 ⟨rfl, hb⟩; have Ba := Lib.hid (bl_trans B.out (bl_trans hb (bl_alloc (bl_refl w3) (.cells ([.bool c, .int .i64 ca, .int .i64 le, .int .i64 mo] : List Value).toArray 30)))); have N5 := blk_new w3 30 [.bool c, .int .i64 ca, .int .i64 le, .int .i64 mo]; have N4 := (NA.out.below hb).below (bl_alloc (bl_refl w3) (.cells ([.bool c, .int .i64 ca, .int .i64 le, .int .i64 mo] : List Value).toArray 30)); obtain ⟨p0, -⟩ := N4.cell 0 _ rfl; obtain ⟨p1, -⟩ := N4.cell 1 _ rfl; obtain ⟨r0, -⟩ := N5.cell 0 _ rfl; obtain ⟨r1, -⟩ := N5.cell 1 _ rfl; obtain ⟨r2, -⟩ := N5.cell 2 _ rfl; obtain ⟨r3, -⟩ := N5.cell 3 _ rfl; clear N4 N5))
    go_ret
    exact ⟨ret_bool rfl, Ba.out⟩
noncomputable def legR (b : Bt) (k x : Int) : Bool := okB b && openB b && legB b k x
set_option maxRecDepth 100000 in
set_option maxHeartbeats 3000000 in
theorem specIsLegal_any (L : At5) (b : Bt) (k x : Int) (w : World) (h : Rd5 w L b) (z : Sz b) :
    Calls Try.prog 25 #[bV L b, .agg #[.int .i64 k, .int .i64 x]] w (Fresh (.bool (legR b k x)) w) := by
  have KV := Lib.hid (fun (W : World) (hW : Rd5 W L b) => l10Code_any L b W hW z)
  have KL := Lib.hid (fun (kk : Ok b) (ho : openB b = true) (W : World) (hW : Rd5 W L b) => l10Legal_any L b k x W hW kk ho)
  have BT := (btAt_new h).below (bl_alloc (bl_refl _) (.cells ([.int .i64 k, .int .i64 x] : List Value).toArray 34))
  have B := Lib.hid (bl_alloc (bl_box (w := w) (L := L) (b := b)) (.cells ([.int .i64 k, .int .i64 x] : List Value).toArray 34))
  have N0 := blk_new (w.alloc (.cells (btL L b).toArray 27)) 34 [.int .i64 k, .int .i64 x]
  rw [World.size_alloc] at N0
  have NA := Lib.hid N0
  have BH := Lib.hid BT
  obtain ⟨q0, -⟩ := BT.blk.cell 0 _ rfl
  obtain ⟨q1, -⟩ := BT.blk.cell 1 _ rfl
  obtain ⟨q2, -⟩ := BT.blk.cell 2 _ rfl
  obtain ⟨q3, -⟩ := BT.blk.cell 3 _ rfl
  obtain ⟨q4, -⟩ := BT.blk.cell 4 _ rfl
  obtain ⟨q5, -⟩ := BT.blk.cell 5 _ rfl
  obtain ⟨q6, -⟩ := BT.blk.cell 6 _ rfl
  obtain ⟨q7, -⟩ := BT.blk.cell 7 _ rfl
  obtain ⟨q8, -⟩ := BT.blk.cell 8 _ rfl
  clear h z BT N0
  rcases hv : okB b with _ | _
  · have e1 : legR b k x = false := by unfold legR; rw [hv]; rfl
    rw [codeB_no hv] at KV
    rw [e1]
    clear KL e1
    unfold bV at *
    go_enter Try.func25, Try.ntmps25
    go_wp2_with (first
        | (go_at_call 80; refine (KV.out _ BH.out.rd).mono ?_; rintro e w1 ⟨rfl, hb⟩; have BHa := Lib.hid (BH.out.below hb); have NAa := Lib.hid (NA.out.below hb); have Ba := Lib.hid (bl_trans B.out hb); obtain ⟨u0, -⟩ := BHa.out.blk.cell 0 _ rfl; obtain ⟨u1, -⟩ := BHa.out.blk.cell 1 _ rfl; obtain ⟨u2, -⟩ := BHa.out.blk.cell 2 _ rfl; obtain ⟨u3, -⟩ := BHa.out.blk.cell 3 _ rfl; obtain ⟨u4, -⟩ := BHa.out.blk.cell 4 _ rfl; obtain ⟨u5, -⟩ := BHa.out.blk.cell 5 _ rfl; obtain ⟨u6, -⟩ := BHa.out.blk.cell 6 _ rfl; obtain ⟨u7, -⟩ := BHa.out.blk.cell 7 _ rfl; obtain ⟨u8, -⟩ := BHa.out.blk.cell 8 _ rfl; obtain ⟨p0, -⟩ := NAa.out.cell 0 _ rfl; obtain ⟨p1, -⟩ := NAa.out.cell 1 _ rfl))
    go_ret
    exact ⟨rfl, Ba.out⟩
  rcases ho : openB b with _ | _
  · have e1 : legR b k x = false := by unfold legR; rw [hv, ho]; rfl
    rw [codeB_shut hv ho] at KV
    rw [e1]
    clear KL e1
    unfold bV at *
    go_enter Try.func25, Try.ntmps25
    go_wp2_with (first
        | (go_at_call 80; refine (KV.out _ BH.out.rd).mono ?_; rintro e w1 ⟨rfl, hb⟩; have BHa := Lib.hid (BH.out.below hb); have NAa := Lib.hid (NA.out.below hb); have Ba := Lib.hid (bl_trans B.out hb); obtain ⟨u0, -⟩ := BHa.out.blk.cell 0 _ rfl; obtain ⟨u1, -⟩ := BHa.out.blk.cell 1 _ rfl; obtain ⟨u2, -⟩ := BHa.out.blk.cell 2 _ rfl; obtain ⟨u3, -⟩ := BHa.out.blk.cell 3 _ rfl; obtain ⟨u4, -⟩ := BHa.out.blk.cell 4 _ rfl; obtain ⟨u5, -⟩ := BHa.out.blk.cell 5 _ rfl; obtain ⟨u6, -⟩ := BHa.out.blk.cell 6 _ rfl; obtain ⟨u7, -⟩ := BHa.out.blk.cell 7 _ rfl; obtain ⟨u8, -⟩ := BHa.out.blk.cell 8 _ rfl; obtain ⟨p0, -⟩ := NAa.out.cell 0 _ rfl; obtain ⟨p1, -⟩ := NAa.out.cell 1 _ rfl))
    go_ret
    exact ⟨rfl, Ba.out⟩
  have e1 : legR b k x = legB b k x := by unfold legR; rw [hv, ho]; rfl
  have KK := Lib.hid (KL.out (ok_of hv) ho)
  rw [codeB_open hv ho] at KV
  rw [e1]
  clear KL hv ho e1
  unfold bV at *
  generalize legB b k x = r at *
  go_enter Try.func25, Try.ntmps25
  go_wp2_with (first
      | (go_at_call 80; refine (KV.out _ BH.out.rd).mono ?_; rintro e w1 ⟨rfl, hb⟩; have BHa := Lib.hid (BH.out.below hb); have NAa := Lib.hid (NA.out.below hb); have Ba := Lib.hid (bl_trans B.out hb); obtain ⟨u0, -⟩ := BHa.out.blk.cell 0 _ rfl; obtain ⟨u1, -⟩ := BHa.out.blk.cell 1 _ rfl; obtain ⟨u2, -⟩ := BHa.out.blk.cell 2 _ rfl; obtain ⟨u3, -⟩ := BHa.out.blk.cell 3 _ rfl; obtain ⟨u4, -⟩ := BHa.out.blk.cell 4 _ rfl; obtain ⟨u5, -⟩ := BHa.out.blk.cell 5 _ rfl; obtain ⟨u6, -⟩ := BHa.out.blk.cell 6 _ rfl; obtain ⟨u7, -⟩ := BHa.out.blk.cell 7 _ rfl; obtain ⟨u8, -⟩ := BHa.out.blk.cell 8 _ rfl; obtain ⟨p0, -⟩ := NAa.out.cell 0 _ rfl; obtain ⟨p1, -⟩ := NAa.out.cell 1 _ rfl)
      | (go_at_call 95; refine (KK.out _ BHa.out.rd).mono ?_; rintro e w2 ⟨rfl, hb⟩; have Bb := Lib.hid (bl_trans Ba.out hb)))
  go_ret
  exact ⟨ret_bool (by simp), Bb.out⟩
end Go.Proofs.Ythgfohdjpfhebaa
