/-
  The program: legal actions.
-/
import Derived.Test.YthgfohdjpfhebaaBetHasA
import Derived.Test.YthgfohdjpfhebaaBetHasB
import Derived.Test.YthgfohdjpfhebaaBetHasC
import Derived.Deep.RegionWith
namespace Go.Proofs.Ythgfohdjpfhebaa
open Go.RowKit
set_option linter.unusedVariables false

theorem hasChoice_any (c : Bool) (ca le mo k x : Int) (w : World) :
    Calls Try.prog 94 #[.agg #[.bool c, .int .i64 ca, .int .i64 le, .int .i64 mo], .agg #[.int .i64 k, .int .i64 x]] w (Fresh (.bool (legV c ca le mo k x)) w) := by
  by_cases k0 : k = 0
  · subst k0; exact has0_any c ca le mo x w
  by_cases k1 : k = 1
  · subst k1; exact has1_any c ca le mo x w
  by_cases k2 : k = 2
  · subst k2; exact has2_any c ca le mo x w
  by_cases k3 : k = 3
  · subst k3; exact has3_any c ca le mo x w
  rw [legV_no _ _ _ _ _ _ k0 k1 k2 k3]
  exact has4_any c ca le mo k x w (by omega)
set_option maxRecDepth 100000 in
set_option maxHeartbeats 3000000 in
theorem implIsLegal_any (L : At5) (b : Bt) (k x : Int) (w : World) (h : Rd5 w L b) :
    Calls Try.prog 24 #[bV L b, .agg #[.int .i64 k, .int .i64 x]] w (Fresh (.bool (legR b k x)) w) := by
  have KV := Lib.hid (fun (W : World) (hW : Rd5 W L b) => implChoicesIn_any L b W hW)
  have BT := (btAt_new h).below (bl_alloc (bl_refl _) (.cells ([.int .i64 k, .int .i64 x] : List Value).toArray 34))
  have B := Lib.hid (bl_alloc (bl_box (w := w) (L := L) (b := b)) (.cells ([.int .i64 k, .int .i64 x] : List Value).toArray 34))
  have N0 := blk_new (w.alloc (.cells (btL L b).toArray 27)) 34 [.int .i64 k, .int .i64 x]
  rw [World.size_alloc] at N0
  have NA := Lib.hid N0
  have BH := Lib.hid BT
  obtain ⟨q0, -⟩ := BT.blk.cell 0 _ rfl
  obtain ⟨q1, -⟩ := BT.blk.cell 1 _ rfl
  obtain ⟨q2, -⟩ := BT.blk.cell 2 _ rfl
  obtain ⟨q3, -⟩ := BT.blk.cell 3 _ rfl
  obtain ⟨q4, -⟩ := BT.blk.cell 4 _ rfl
  obtain ⟨q5, -⟩ := BT.blk.cell 5 _ rfl
  obtain ⟨q6, -⟩ := BT.blk.cell 6 _ rfl
  obtain ⟨q7, -⟩ := BT.blk.cell 7 _ rfl
  obtain ⟨q8, -⟩ := BT.blk.cell 8 _ rfl
  clear h BT N0
  obtain ⟨c, ca, le, mo, hch⟩ := chR_form b
  have HC : Hid (okB b = true → openB b = true → chR b = chV (checkB b) (callI b) (leastI b) (mostI b)) := Lib.hid (fun h1 h2 => by unfold chR; rw [h1, h2]; rfl)
  have KH := Lib.hid (fun W => hasChoice_any c ca le mo k x W)
  rw [hch] at KV HC
  rcases hv : okB b with _ | _
  · have e1 : legR b k x = false := by unfold legR; rw [hv]; rfl
    rw [codeB_no hv] at KV
    rw [e1]
    clear HC e1 KH
    unfold bV chT chV at *
    go_enter Try.func24, Try.ntmps24
    go_wp2_with (first
        | (go_at_call 18; refine (KV.out _ BH.out.rd).mono ?_; rintro e w1 ⟨rfl, hb⟩; have Ba := Lib.hid (bl_trans B.out (bl_trans hb (bl_alloc (bl_refl w1) (.cells ([.bool c, .int .i64 ca, .int .i64 le, .int .i64 mo] : List Value).toArray 30)))); have N5 := blk_new w1 30 [.bool c, .int .i64 ca, .int .i64 le, .int .i64 mo]; have N4 := (NA.out.below hb).below (bl_alloc (bl_refl w1) (.cells ([.bool c, .int .i64 ca, .int .i64 le, .int .i64 mo] : List Value).toArray 30)); obtain ⟨p0, -⟩ := N4.cell 0 _ rfl; obtain ⟨p1, -⟩ := N4.cell 1 _ rfl; obtain ⟨r0, -⟩ := N5.cell 0 _ rfl; obtain ⟨r1, -⟩ := N5.cell 1 _ rfl; obtain ⟨r2, -⟩ := N5.cell 2 _ rfl; obtain ⟨r3, -⟩ := N5.cell 3 _ rfl; clear N4 N5))
    go_ret
    exact ⟨rfl, Ba.out⟩
  rcases ho : openB b with _ | _
  · have e1 : legR b k x = false := by unfold legR; rw [hv, ho]; rfl
    rw [codeB_shut hv ho] at KV
    rw [e1]
    clear HC e1 KH
    unfold bV chT chV at *
    go_enter Try.func24, Try.ntmps24
    go_wp2_with (first
        | (go_at_call 18; refine (KV.out _ BH.out.rd).mono ?_; rintro e w1 ⟨rfl, hb⟩; have Ba := Lib.hid (bl_trans B.out (bl_trans hb (bl_alloc (bl_refl w1) (.cells ([.bool c, .int .i64 ca, .int .i64 le, .int .i64 mo] : List Value).toArray 30)))); have N5 := blk_new w1 30 [.bool c, .int .i64 ca, .int .i64 le, .int .i64 mo]; have N4 := (NA.out.below hb).below (bl_alloc (bl_refl w1) (.cells ([.bool c, .int .i64 ca, .int .i64 le, .int .i64 mo] : List Value).toArray 30)); obtain ⟨p0, -⟩ := N4.cell 0 _ rfl; obtain ⟨p1, -⟩ := N4.cell 1 _ rfl; obtain ⟨r0, -⟩ := N5.cell 0 _ rfl; obtain ⟨r1, -⟩ := N5.cell 1 _ rfl; obtain ⟨r2, -⟩ := N5.cell 2 _ rfl; obtain ⟨r3, -⟩ := N5.cell 3 _ rfl; clear N4 N5))
    go_ret
    exact ⟨rfl, Ba.out⟩
  have e1 : legR b k x = legV c ca le mo k x := by
    unfold legR; rw [hv, ho, leg_same]
    have q := HC.out hv ho
    unfold chV at q
    simp at q
    obtain ⟨q1, q2, q3, q4⟩ := q
    rw [q1, q2, q3, q4]; rfl
  rw [codeB_open hv ho] at KV
  rw [e1]
  clear HC hv ho e1
  unfold bV chT chV at *
  generalize legV c ca le mo k x = r at *
  go_enter Try.func24, Try.ntmps24
  go_wp2_with (first
      | (go_at_call 18; refine (KV.out _ BH.out.rd).mono ?_; rintro e w1 ⟨rfl, hb⟩; have Ba := Lib.hid (bl_trans B.out (bl_trans hb (bl_alloc (bl_refl w1) (.cells ([.bool c, .int .i64 ca, .int .i64 le, .int .i64 mo] : List Value).toArray 30)))); have N5 := blk_new w1 30 [.bool c, .int .i64 ca, .int .i64 le, .int .i64 mo]; have N4 := (NA.out.below hb).below (bl_alloc (bl_refl w1) (.cells ([.bool c, .int .i64 ca, .int .i64 le, .int .i64 mo] : List Value).toArray 30)); obtain ⟨p0, -⟩ := N4.cell 0 _ rfl; obtain ⟨p1, -⟩ := N4.cell 1 _ rfl; obtain ⟨r0, -⟩ := N5.cell 0 _ rfl; obtain ⟨r1, -⟩ := N5.cell 1 _ rfl; obtain ⟨r2, -⟩ := N5.cell 2 _ rfl; obtain ⟨r3, -⟩ := N5.cell 3 _ rfl; clear N4 N5)
      | (go_at_call 94; refine (KH.out _).mono ?_; rintro e w2 ⟨rfl, hb⟩; have Bb := Lib.hid (bl_trans Ba.out hb)))
  go_ret
  exact ⟨ret_bool (by simp), Bb.out⟩
end Go.Proofs.Ythgfohdjpfhebaa
