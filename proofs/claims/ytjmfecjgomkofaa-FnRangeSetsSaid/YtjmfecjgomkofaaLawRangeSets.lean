/-
  The law FnRangeSets returns true for every code, and leaves it as it was: the classes of both ranges are those of one of them, with the common ones counted twice.
  No condition.
-/
import Derived.Test.YtjmfecjgomkofaaDrawRng
import Derived.Test.YtjmfecjgomkofaaLike
import Derived.Lib.SmallJoins
namespace Go.Proofs.Ytjmfecjgomkofaa
open Go.ChangeShapes Go.WideShapes Go.ChangeAt Go.RowKit Go.Joins
set_option linter.unusedVariables false

/-- What the law asks of two lists; of lists that are no ranges nothing. -/
theorem sets_cases (xs ys : List Int) : twoC xs ys = 1 ∨ (twoC xs ys = 0 ∧ (twoR xs ys (fun a b => a || b)).length + (twoR xs ys (fun a b => a && b)).length = xs.length + ys.length ∧ rngB (twoR xs ys (fun a b => a || b)) = true ∧ rngB (twoR xs ys (fun a b => a && b)) = true) := by
  by_cases h : (rngB xs && rngB ys) = true
  · right
    simp only [Bool.and_eq_true] at h
    have e1 := two_yes (f := fun a b => a || b) h.1 h.2
    have e2 := two_yes (f := fun a b => a && b) h.1 h.2
    rw [e1.1, e2.1]
    refine ⟨e1.2, ?_, clsIn_rng _, clsIn_rng _⟩
    have h1 := clsIn_two (hasB xs) (hasB ys)
    rw [← rng_cls h.1, ← rng_cls h.2] at h1
    exact h1
  · left
    exact (two_no (f := fun a b => a || b) (by simpa using h)).2
theorem other_cases (rs : List Int) : twoC rs [] = 1 ∨ (twoC rs [] = 0 ∧ othRR (othRR rs) = rs ∧ twoC (othRR rs) [] = 0) := by
  by_cases h : rngB rs = true
  · right
    have e1 := two_yes (f := fun a b => !a) h rng_nil
    have e2 := two_yes (f := fun a b => !a) (clsIn_rng (fun k => !hasB rs k)) rng_nil
    refine ⟨e1.2, ?_, ?_⟩
    · unfold othRR
      rw [e1.1, e2.1]
      conv => rhs; rw [rng_cls h]
      exact clsIn_congr (fun x h0 h1 => by rw [hasB_clsIn _ x h0 h1]; simp)
    · unfold othRR
      rw [e1.1]; exact e2.2
  · left
    exact (two_no (f := fun a b => !a) (by rw [show rngB rs = false by simpa using h]; rfl)).2
set_option maxRecDepth 100000 in
set_option maxHeartbeats 4000000 in
theorem walkSets_in (a : Option Addr) (L c : Nat) (zs : Nat → Int) (w : World) (hL : L ≤ 4096) (hc : CodeIn w a L zs) :
    Calls Try.prog 11 #[.slice a L c] w (Fresh (.bool true) w) := by
  have HC := Lib.hid hc
  clear hc
  go_enter Try.func11, Try.ntmps11
  go_wp2_with (go_at_call 13; ((with_reducible refine (big_no _ _ _ _ hL).mono ?_); rintro e w0 ⟨rfl, rfl⟩))
  go_wp2_with (go_at_call 41; ((with_reducible refine (drawJoinRanges_any _ _ _ zs _ hL HC.out).mono ?_); rintro e w1 ⟨xs, A1, c1, ys, E1, d1, rfl, hlx, hly, hr1, hs1, hb1⟩; have Rx := Lib.hid hr1; have Ry := Lib.hid hs1; have B1 := Lib.hid hb1; clear hr1 hs1 hb1))
  have HCS := Lib.hid (sets_cases xs ys)
  have KI := Lib.hid (fun (A E : Option Addr) (c d : Nat) (W : World) (h : Rd W A xs) (h2 : Rd W E ys) => implJoinRanges_any A c xs E d ys W h h2 (by omega) (by omega))
  have KJ := Lib.hid (fun (A E : Option Addr) (c d : Nat) (W : World) (h : Rd W A xs) (h2 : Rd W E ys) => specJoinRanges_any A c xs E d ys W h h2 (by omega) (by omega))
  have KM := Lib.hid (fun (A E : Option Addr) (c d : Nat) (W : World) (h : Rd W A xs) (h2 : Rd W E ys) => implCommonRange_any A c xs E d ys W h h2 (by omega) (by omega))
  have KN := Lib.hid (fun (A E : Option Addr) (c d : Nat) (W : World) (h : Rd W A xs) (h2 : Rd W E ys) => specCommonRange_any A c xs E d ys W h h2 (by omega) (by omega))
  have hlj := two_len xs ys (fun a b => a || b)
  have hlc := two_len xs ys (fun a b => a && b)
  generalize twoR xs ys (fun a b => a || b) = zj at *
  generalize twoR xs ys (fun a b => a && b) = zc at *
  generalize twoC xs ys = kj at *
  go_wp2_with (go_at_call 34; ((with_reducible refine (KI.out _ _ _ _ _ Rx.out Ry.out).mono ?_); rintro e w2 ⟨A2, c2, rfl, ho2, hb2⟩; have Rx := Lib.hid (Rx.out.below hb2); have Ry := Lib.hid (Ry.out.below hb2); have Rj := Lib.hid ho2.rd; have B2 := Lib.hid (bl_trans B1.out hb2); clear ho2 hb2))
  go_wp2_with (go_at_call 33; ((with_reducible refine (KJ.out _ _ _ _ _ Rx.out Ry.out).mono ?_); rintro e w3 ⟨A3, c3, rfl, ho3, hb3⟩; have Rx := Lib.hid (Rx.out.below hb3); have Ry := Lib.hid (Ry.out.below hb3); have Rj := Lib.hid (Rj.out.below hb3); have Rm := Lib.hid ho3.rd; have B3 := Lib.hid (bl_trans B2.out hb3); clear ho3 hb3))
  go_wp2_with (go_at_call 38; ((with_reducible refine (KM.out _ _ _ _ _ Rx.out Ry.out).mono ?_); rintro e w4 ⟨A4, c4, rfl, ho4, hb4⟩; have Rx := Lib.hid (Rx.out.below hb4); have Ry := Lib.hid (Ry.out.below hb4); have Rj := Lib.hid (Rj.out.below hb4); have Rm := Lib.hid (Rm.out.below hb4); have Rc := Lib.hid ho4.rd; have B4 := Lib.hid (bl_trans B3.out hb4); clear ho4 hb4))
  go_wp2_with (go_at_call 37; ((with_reducible refine (KN.out _ _ _ _ _ Rx.out Ry.out).mono ?_); rintro e w5 ⟨A5, c5, rfl, ho5, hb5⟩; have Rx := Lib.hid (Rx.out.below hb5); have Ry := Lib.hid (Ry.out.below hb5); have Rj := Lib.hid (Rj.out.below hb5); have Rm := Lib.hid (Rm.out.below hb5); have Rc := Lib.hid (Rc.out.below hb5); have Rq := Lib.hid ho5.rd; have B5 := Lib.hid (bl_trans B4.out hb5); clear ho5 hb5))
  go_wp2_with (go_at_call 42; ((with_reducible refine (drawOtherRange_any _ _ _ zs _ hL (codeIn_below HC.out B5.out)).mono ?_); rintro e w6 ⟨rs, A6, c6, rfl, hlr, ho6, hb6⟩; have Rx := Lib.hid (Rx.out.below hb6); have Ry := Lib.hid (Ry.out.below hb6); have Rj := Lib.hid (Rj.out.below hb6); have Rm := Lib.hid (Rm.out.below hb6); have Rc := Lib.hid (Rc.out.below hb6); have Rq := Lib.hid (Rq.out.below hb6); have Rr := Lib.hid ho6.rd; have B6 := Lib.hid (bl_trans B5.out hb6); clear ho6 hb6))
  have HCO := Lib.hid (other_cases rs)
  have KO := Lib.hid (fun (A : Option Addr) (c : Nat) (W : World) (h : Rd W A rs) => implOtherRange_any A c rs W h (by omega))
  have KP := Lib.hid (fun (A : Option Addr) (c : Nat) (W : World) (h : Rd W A rs) => specOtherRange_any A c rs W h (by omega))
  have KB := Lib.hid (fun (A : Option Addr) (c : Nat) (W : World) (h : Rd W A (othRR rs)) => implOtherRange_any A c (othRR rs) W h (othRR_len rs))
  have hlo := othRR_len rs
  generalize othRR (othRR rs) = zb at *
  generalize twoC (othRR rs) [] = kb at *
  generalize othRR rs = zo at *
  generalize twoC rs [] = ko at *
  go_wp2_with (go_at_call 40; ((with_reducible refine (KO.out _ _ _ Rr.out).mono ?_); rintro e w7 ⟨A7, c7, rfl, ho7, hb7⟩; have Rx := Lib.hid (Rx.out.below hb7); have Ry := Lib.hid (Ry.out.below hb7); have Rj := Lib.hid (Rj.out.below hb7); have Rm := Lib.hid (Rm.out.below hb7); have Rc := Lib.hid (Rc.out.below hb7); have Rq := Lib.hid (Rq.out.below hb7); have Rr := Lib.hid (Rr.out.below hb7); have Ro := Lib.hid ho7.rd; have B7 := Lib.hid (bl_trans B6.out hb7); clear ho7 hb7))
  go_wp2_with (go_at_call 39; ((with_reducible refine (KP.out _ _ _ Rr.out).mono ?_); rintro e w8 ⟨A8, c8, rfl, ho8, hb8⟩; have Rx := Lib.hid (Rx.out.below hb8); have Ry := Lib.hid (Ry.out.below hb8); have Rj := Lib.hid (Rj.out.below hb8); have Rm := Lib.hid (Rm.out.below hb8); have Rc := Lib.hid (Rc.out.below hb8); have Rq := Lib.hid (Rq.out.below hb8); have Rr := Lib.hid (Rr.out.below hb8); have Ro := Lib.hid (Ro.out.below hb8); have Rp := Lib.hid ho8.rd; have B8 := Lib.hid (bl_trans B7.out hb8); clear ho8 hb8))
  have q1 : (kj != kj) = false := by simp
  have q2 : (ko != ko) = false := by simp
  go_wp2_with (go_at_call 43; ((with_reducible refine (likeInts_same A2 A3 c2 c3 zj _ Rj.out Rm.out (by omega)).mono ?_); rintro e w9 ⟨rfl, hb9⟩; have Rx := Lib.hid (Rx.out.below hb9); have Ry := Lib.hid (Ry.out.below hb9); have Rj := Lib.hid (Rj.out.below hb9); have Rm := Lib.hid (Rm.out.below hb9); have Rc := Lib.hid (Rc.out.below hb9); have Rq := Lib.hid (Rq.out.below hb9); have Rr := Lib.hid (Rr.out.below hb9); have Ro := Lib.hid (Ro.out.below hb9); have Rp := Lib.hid (Rp.out.below hb9); have B9 := Lib.hid (bl_trans B8.out hb9); clear hb9))
  go_wp2_with (go_at_call 43; ((with_reducible refine (likeInts_same A4 A5 c4 c5 zc _ Rc.out Rq.out (by omega)).mono ?_); rintro e w10 ⟨rfl, hb10⟩; have Rx := Lib.hid (Rx.out.below hb10); have Ry := Lib.hid (Ry.out.below hb10); have Rj := Lib.hid (Rj.out.below hb10); have Rm := Lib.hid (Rm.out.below hb10); have Rc := Lib.hid (Rc.out.below hb10); have Rq := Lib.hid (Rq.out.below hb10); have Rr := Lib.hid (Rr.out.below hb10); have Ro := Lib.hid (Ro.out.below hb10); have Rp := Lib.hid (Rp.out.below hb10); have B10 := Lib.hid (bl_trans B9.out hb10); clear hb10))
  have hjq : kj = 0 → zj.length + zc.length = xs.length + ys.length ∧ rngB zj = true ∧ rngB zc = true := fun h => by
    rcases HCS.out with e | e
    · omega
    · exact e.2
  have HJQ := Lib.hid hjq
  have hkj : kj = 1 ∨ kj = 0 := by
    rcases HCS.out with e | e
    · exact .inl e
    · exact .inr e.1
  clear hjq HCS
  rcases HCO.out with rfl | ⟨rfl, rfl, rfl⟩
  · rcases hkj with rfl | rfl
    · go_wp2_with (first
        | (go_at_call 43; ((with_reducible refine (likeInts_same A7 A8 c7 c8 zo _ Ro.out Rp.out (by omega)).mono ?_); rintro e w11 ⟨rfl, hb11⟩; have Rx := Lib.hid (Rx.out.below hb11); have Ry := Lib.hid (Ry.out.below hb11); have Rj := Lib.hid (Rj.out.below hb11); have Rm := Lib.hid (Rm.out.below hb11); have Rc := Lib.hid (Rc.out.below hb11); have Rq := Lib.hid (Rq.out.below hb11); have Rr := Lib.hid (Rr.out.below hb11); have Ro := Lib.hid (Ro.out.below hb11); have Rp := Lib.hid (Rp.out.below hb11); have B11 := Lib.hid (bl_trans B10.out hb11); clear hb11)))
      go_ret
      exact ⟨rfl, B11.out⟩
    · obtain ⟨hsum, hgj, hgc⟩ := HJQ.out rfl
      have KIj := Lib.hid (fun (c : Nat) (W : World) (h : Rd W A2 zj) => implIsRange_same A2 c zj W h (by omega))
      have KIc := Lib.hid (fun (c : Nat) (W : World) (h : Rd W A4 zc) => implIsRange_same A4 c zc W h (by omega))
      rw [hgj] at KIj
      rw [hgc] at KIc
      have hq : ((zj.length : Int) + (zc.length : Int) == (xs.length : Int) + (ys.length : Int)) = true := by simp; omega
      have hq2 : (zj.length : Int) + (zc.length : Int) = (xs.length : Int) + (ys.length : Int) := by omega
      clear hsum hgj hgc
      go_wp2_with (first
        | (go_at_call 43; ((with_reducible refine (likeInts_same A7 A8 c7 c8 zo _ Ro.out Rp.out (by omega)).mono ?_); rintro e w11 ⟨rfl, hb11⟩; have Rx := Lib.hid (Rx.out.below hb11); have Ry := Lib.hid (Ry.out.below hb11); have Rj := Lib.hid (Rj.out.below hb11); have Rm := Lib.hid (Rm.out.below hb11); have Rc := Lib.hid (Rc.out.below hb11); have Rq := Lib.hid (Rq.out.below hb11); have Rr := Lib.hid (Rr.out.below hb11); have Ro := Lib.hid (Ro.out.below hb11); have Rp := Lib.hid (Rp.out.below hb11); have B11 := Lib.hid (bl_trans B10.out hb11); clear hb11))
        | (go_at_call 32; ((with_reducible refine (KIj.out _ _ Rj.out).mono ?_); rintro e w20 ⟨rfl, rfl⟩))
        | (go_at_call 32; ((with_reducible refine (KIc.out _ _ Rc.out).mono ?_); rintro e w21 ⟨rfl, rfl⟩)))
      go_ret
      exact ⟨rfl, B11.out⟩
  · rcases hkj with rfl | rfl
    · go_wp2_with (first
        | (go_at_call 43; ((with_reducible refine (likeInts_same A7 A8 c7 c8 zo _ Ro.out Rp.out (by omega)).mono ?_); rintro e w11 ⟨rfl, hb11⟩; have Rx := Lib.hid (Rx.out.below hb11); have Ry := Lib.hid (Ry.out.below hb11); have Rj := Lib.hid (Rj.out.below hb11); have Rm := Lib.hid (Rm.out.below hb11); have Rc := Lib.hid (Rc.out.below hb11); have Rq := Lib.hid (Rq.out.below hb11); have Rr := Lib.hid (Rr.out.below hb11); have Ro := Lib.hid (Ro.out.below hb11); have Rp := Lib.hid (Rp.out.below hb11); have B11 := Lib.hid (bl_trans B10.out hb11); clear hb11))
        | (go_at_call 40; ((with_reducible refine (KB.out _ _ _ Ro.out).mono ?_); rintro e w12 ⟨A12, c12, rfl, ho12, hb12⟩; have Rx := Lib.hid (Rx.out.below hb12); have Ry := Lib.hid (Ry.out.below hb12); have Rj := Lib.hid (Rj.out.below hb12); have Rm := Lib.hid (Rm.out.below hb12); have Rc := Lib.hid (Rc.out.below hb12); have Rq := Lib.hid (Rq.out.below hb12); have Rr := Lib.hid (Rr.out.below hb12); have Ro := Lib.hid (Ro.out.below hb12); have Rp := Lib.hid (Rp.out.below hb12); have Rb := Lib.hid ho12.rd; have B12 := Lib.hid (bl_trans B11.out hb12); clear ho12 hb12))
        | (go_at_call 43; ((with_reducible refine (likeInts_same A12 A6 c12 c6 _ _ Rb.out Rr.out (by omega)).mono ?_); rintro e w13 ⟨rfl, hb13⟩; have Rx := Lib.hid (Rx.out.below hb13); have Ry := Lib.hid (Ry.out.below hb13); have Rj := Lib.hid (Rj.out.below hb13); have Rm := Lib.hid (Rm.out.below hb13); have Rc := Lib.hid (Rc.out.below hb13); have Rq := Lib.hid (Rq.out.below hb13); have Rr := Lib.hid (Rr.out.below hb13); have Ro := Lib.hid (Ro.out.below hb13); have Rp := Lib.hid (Rp.out.below hb13); have Rb := Lib.hid (Rb.out.below hb13); have B13 := Lib.hid (bl_trans B12.out hb13); clear hb13)))
      go_ret
      exact ⟨rfl, B13.out⟩
    · obtain ⟨hsum, hgj, hgc⟩ := HJQ.out rfl
      have KIj := Lib.hid (fun (c : Nat) (W : World) (h : Rd W A2 zj) => implIsRange_same A2 c zj W h (by omega))
      have KIc := Lib.hid (fun (c : Nat) (W : World) (h : Rd W A4 zc) => implIsRange_same A4 c zc W h (by omega))
      rw [hgj] at KIj
      rw [hgc] at KIc
      have hq : ((zj.length : Int) + (zc.length : Int) == (xs.length : Int) + (ys.length : Int)) = true := by simp; omega
      have hq2 : (zj.length : Int) + (zc.length : Int) = (xs.length : Int) + (ys.length : Int) := by omega
      clear hsum hgj hgc
      go_wp2_with (first
        | (go_at_call 43; ((with_reducible refine (likeInts_same A7 A8 c7 c8 zo _ Ro.out Rp.out (by omega)).mono ?_); rintro e w11 ⟨rfl, hb11⟩; have Rx := Lib.hid (Rx.out.below hb11); have Ry := Lib.hid (Ry.out.below hb11); have Rj := Lib.hid (Rj.out.below hb11); have Rm := Lib.hid (Rm.out.below hb11); have Rc := Lib.hid (Rc.out.below hb11); have Rq := Lib.hid (Rq.out.below hb11); have Rr := Lib.hid (Rr.out.below hb11); have Ro := Lib.hid (Ro.out.below hb11); have Rp := Lib.hid (Rp.out.below hb11); have B11 := Lib.hid (bl_trans B10.out hb11); clear hb11))
        | (go_at_call 40; ((with_reducible refine (KB.out _ _ _ Ro.out).mono ?_); rintro e w12 ⟨A12, c12, rfl, ho12, hb12⟩; have Rx := Lib.hid (Rx.out.below hb12); have Ry := Lib.hid (Ry.out.below hb12); have Rj := Lib.hid (Rj.out.below hb12); have Rm := Lib.hid (Rm.out.below hb12); have Rc := Lib.hid (Rc.out.below hb12); have Rq := Lib.hid (Rq.out.below hb12); have Rr := Lib.hid (Rr.out.below hb12); have Ro := Lib.hid (Ro.out.below hb12); have Rp := Lib.hid (Rp.out.below hb12); have Rb := Lib.hid ho12.rd; have B12 := Lib.hid (bl_trans B11.out hb12); clear ho12 hb12))
        | (go_at_call 43; ((with_reducible refine (likeInts_same A12 A6 c12 c6 _ _ Rb.out Rr.out (by omega)).mono ?_); rintro e w13 ⟨rfl, hb13⟩; have Rx := Lib.hid (Rx.out.below hb13); have Ry := Lib.hid (Ry.out.below hb13); have Rj := Lib.hid (Rj.out.below hb13); have Rm := Lib.hid (Rm.out.below hb13); have Rc := Lib.hid (Rc.out.below hb13); have Rq := Lib.hid (Rq.out.below hb13); have Rr := Lib.hid (Rr.out.below hb13); have Ro := Lib.hid (Ro.out.below hb13); have Rp := Lib.hid (Rp.out.below hb13); have Rb := Lib.hid (Rb.out.below hb13); have B13 := Lib.hid (bl_trans B12.out hb13); clear hb13))
        | (go_at_call 32; ((with_reducible refine (KIj.out _ _ Rj.out).mono ?_); rintro e w20 ⟨rfl, rfl⟩))
        | (go_at_call 32; ((with_reducible refine (KIc.out _ _ Rc.out).mono ?_); rintro e w21 ⟨rfl, rfl⟩)))
      go_ret
      exact ⟨rfl, B13.out⟩

set_option maxRecDepth 100000 in
set_option maxHeartbeats 400000 in
theorem walkSets_big (a : Option Addr) (L c : Nat) (w : World) (hm : L ≤ maxLen) (h : 4096 < L) :
    Calls Try.prog 11 #[.slice a L c] w (Fresh (.bool true) w) := by
  unfold maxLen at hm
  go_enter Try.func11, Try.ntmps11
  go_wp2_with (go_at_call 13; refine (big_yes _ _ _ _ h (by omega)).mono ?_; rintro e w0 ⟨rfl, rfl⟩)
  go_ret
  exact ⟨rfl, bl_refl _⟩
theorem walkSets (a : Option Addr) (L c : Nat) (zs : Nat → Int) (w : World) (hm : L ≤ maxLen) (hc : CodeIn w a L zs) :
    Calls Try.prog 11 #[.slice a L c] w (Fresh (.bool true) w) := by
  by_cases h : L ≤ 4096
  · exact walkSets_in a L c zs w h hc
  · exact walkSets_big a L c w hm (by omega)

set_option maxRecDepth 100000 in
theorem fnRangeSets_lifted (os : Os) (started : os.Started) (H : Type) (enc : TypeId × Value → H) :
    ReturnsInHanded {} Try.checked os 11 .any (Rows.fnRangeSetsSpec.pre6 enc Try.prog Try.f11 Rows.fnRangeSetsRow.domain false) (Rows.fnRangeSetsSpec.post enc Try.prog Try.f11 false true false false) := by
  refine law_lifted started (by kernel_rfl) Try.func11 (by kernel_rfl) rfl (fun ds h => ?_) ?_
    (ChangeSpec.witness6 (enc := enc) (C := Try.checked) false ⟨#[], #[.slice none 0 0], []⟩ 8 (by kernel_rfl) (by kernel_rfl) (by kernel_rfl) (by kernel_rfl)) ?_
  · match ds, h with
    | [d0], _ => rfl
  · rw [Try.params11]
    intro t ht
    obtain rfl : t = 22 := by simpa using ht
    exact ⟨by kernel_rfl, of_decide_eq_true (by kernel_rfl)⟩
  · intro W base args ds ps hval hA
    rw [Try.params11] at hA hval
    obtain ⟨v0, d0, rfl, rfl, h0⟩ := trodAll_one hA
    obtain ⟨A0, L0, c0, zs0, rfl, m0, r0⟩ := open_code (hval 0 22 v0 rfl rfl) h0
    exact walkSets A0 L0 c0 zs0 W m0 r0

/-- The classes of both ranges are those of one of them, with the common ones counted twice, for every code. -/
theorem fnRangeSets_holds : Rows.FnRangeSetsSaid :=
  OpenClaim.holds_of_wide 11 Try.f11 rfl rfl rfl rfl rfl rfl rfl ⟨rfl, rfl, rfl, rfl, rfl⟩ rfl rfl rfl rfl rfl (by kernel_rfl) Try.func11 (by kernel_rfl)
    (of_decide_eq_true (by kernel_rfl)) (by unfold Func.isWrapper; first | (rw [if_pos (by decide +kernel)]; kernel_rfl) | (rw [if_neg (by decide +kernel)]; exact ⟨rfl, rfl⟩))
    (fun os started H enc _ => fnRangeSets_lifted os started H enc)

end Go.Proofs.Ytjmfecjgomkofaa
