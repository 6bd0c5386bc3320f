/-
  The first error that the functions of a variant share: the program's.
-/
import Derived.Test.YtlpkaflmhdgmmaaGreatDoorCodeV
import Derived.Test.YtlpkaflmhdgmmaaGreatDoorCountFns
namespace Go.Proofs.YtlpkaflmhdgmmaaGreatDoor
open Go.RowKit
set_option linter.unusedVariables false

def codeH (h l m b : Int) (hi : Bool) (lo : Int) (hs bs : List Int) : Int :=
  if isVarB h l m b hi lo = true then (if (hs.length : Int) = h ∧ (bs.length : Int) = b ∧ cardsB (hs ++ bs) = true then 0 else 2) else 1
theorem codeH_no {h l m b : Int} {hi : Bool} {lo : Int} {hs bs : List Int} (hv : isVarB h l m b hi lo = false) : codeH h l m b hi lo hs bs = 1 := by unfold codeH; rw [hv]; rfl
theorem codeH_len {h l m b : Int} {hi : Bool} {lo : Int} {hs bs : List Int} (hv : isVarB h l m b hi lo = true) (he : ¬ ((hs.length : Int) = h ∧ (bs.length : Int) = b)) : codeH h l m b hi lo hs bs = 2 := by
  unfold codeH; rw [if_pos hv, if_neg (fun q => he ⟨q.1, q.2.1⟩)]
theorem codeH_cards {l m : Int} {hi : Bool} {lo : Int} {hs bs : List Int} (hv : isVarB (hs.length : Int) l m (bs.length : Int) hi lo = true) : codeH (hs.length : Int) l m (bs.length : Int) hi lo hs bs = if cardsB (hs ++ bs) = true then 0 else 2 := by
  unfold codeH; rw [if_pos hv]
  simp
set_option maxRecDepth 100000 in
set_option maxHeartbeats 2000000 in
theorem codeFor_any (h l m b : Int) (hi : Bool) (lo : Int) (A : Option Addr) (c : Nat) (hs : List Int) (A2 : Option Addr) (c2 : Nat) (bs : List Int) (w : World) (hm64 : i64B m) (hr : Rd w A hs) (hr2 : Rd w A2 bs) (hn : hs.length ≤ 2000000) (hn2 : bs.length ≤ 2000000) :
    Calls Tryz.prog 24 #[vV h l m b hi lo, .slice A hs.length c, .slice A2 bs.length c2] w (Fresh (.int .i64 (codeH h l m b hi lo hs bs)) w) := by
  have K1 := Lib.hid (fun W : World => implIsVar_any h l m b hi lo W hm64)
  have N0 := Lib.hid (blk_new w 25 [.int .i64 h, .int .i64 l, .int .i64 m, .int .i64 b, .bool hi, .int .i64 lo])
  have B0 := Lib.hid (bl_alloc (bl_refl w) (.cells #[.int .i64 h, .int .i64 l, .int .i64 m, .int .i64 b, .bool hi, .int .i64 lo] 25))
  have HR := Lib.hid hr
  have HR2 := Lib.hid hr2
  clear hr hr2
  rcases hv : isVarB h l m b hi lo with _ | _
  · rw [codeH_no hv]
    rw [hv] at K1
    clear hv
    unfold vV at *
    go_enter Tryz.func24, Tryz.ntmps24
    go_wp2_with (go_at_call 47; refine (K1.out _).mono ?_; rintro e w1 ⟨rfl, hb1⟩; have B1 := Lib.hid (bl_trans B0.out hb1); clear hb1)
    go_ret
    exact ⟨rfl, B1.out⟩
  · have hcc := isVar_cards hv
    obtain ⟨⟨f1, f2⟩, ⟨f3, f4⟩, _⟩ := hasCards_iff.1 hcc
    clear hcc
    by_cases e1 : (hs.length : Int) = h
    · by_cases e2 : (bs.length : Int) = b
      · subst e1
        subst e2
        rw [codeH_cards hv]
        rw [hv] at K1
        clear hv
        have KC := Lib.hid (fun (W : World) (g : Nat) (hb : Below w.heap.size w W) (hg : Blk W g 26 [.slice A hs.length c, .slice A2 bs.length c2]) => concat_any g A c hs A2 c2 bs W hg (HR.out.below hb) (HR2.out.below hb) (by omega) (by omega) (by omega))
        have KA := Lib.hid (fun (A3 : Option Addr) (c3 : Nat) (W : World) (hq : Rd W A3 (hs ++ bs)) => implAre_any A3 c3 (hs ++ bs) W hq (by rw [List.length_append]; omega))
        generalize hs ++ bs = xs at *
        rcases hca : cardsB xs with _ | _
        all_goals
          rw [hca] at KA
          clear hca
          unfold vV at *
          go_enter Tryz.func24, Tryz.ntmps24
          go_wp2_with (first
            | (go_at_call 47; refine (K1.out _).mono ?_; rintro e w1 ⟨rfl, hb1⟩; have N1 := N0.out.below hb1; have B1 := Lib.hid (bl_trans B0.out hb1); clear hb1; obtain ⟨q0, _⟩ := N1.cell 0 _ rfl; obtain ⟨q3, _⟩ := N1.cell 3 _ rfl; clear N1)
            | (go_at_call 49; refine (KC.out _ _ (bl_alloc B1.out _) (blk_new _ _ _)).mono ?_; rintro e w2 ⟨A3, c3, rfl, ho2, hb2⟩; have O2 := Lib.hid ho2; have B2 := Lib.hid (bl_trans (bl_alloc B1.out _) hb2); clear ho2 hb2 q0 q3)
            | (go_at_call 48; refine (KA.out _ _ _ O2.out.rd).mono ?_; rintro e w3 ⟨rfl, rfl⟩))
          go_ret
          exact ⟨rfl, B2.out⟩
      · rw [codeH_len hv (fun q => e2 q.2)]
        rw [hv] at K1
        clear hv
        subst e1
        unfold vV at *
        go_enter Tryz.func24, Tryz.ntmps24
        go_wp2_with (go_at_call 47; refine (K1.out _).mono ?_; rintro e w1 ⟨rfl, hb1⟩; have N1 := N0.out.below hb1; have B1 := Lib.hid (bl_trans B0.out hb1); clear hb1; obtain ⟨q0, _⟩ := N1.cell 0 _ rfl; obtain ⟨q3, _⟩ := N1.cell 3 _ rfl; clear N1)
        go_ret
        exact ⟨rfl, B1.out⟩
    · rw [codeH_len hv (fun q => e1 q.1)]
      rw [hv] at K1
      clear hv
      unfold vV at *
      go_enter Tryz.func24, Tryz.ntmps24
      go_wp2_with (go_at_call 47; refine (K1.out _).mono ?_; rintro e w1 ⟨rfl, hb1⟩; have N1 := N0.out.below hb1; have B1 := Lib.hid (bl_trans B0.out hb1); clear hb1; obtain ⟨q0, _⟩ := N1.cell 0 _ rfl; obtain ⟨q3, _⟩ := N1.cell 3 _ rfl; clear N1)
      go_ret
      exact ⟨rfl, B1.out⟩
end Go.Proofs.YtlpkaflmhdgmmaaGreatDoor
