/-
  The card of the law FnVariantNames: it returns true for every code.
  Condition: the variable impl.standardVariants reads as the program lays it (the card ties it).
-/
import Derived.Test.YtjchjjnmahddiaaDoorStdForm
import Derived.Test.YtjchjjnmahddiaaDoorVarFns
import Derived.Test.YtjchjjnmahddiaaDoorDamage
import Derived.Test.YtjchjjnmahddiaaDoorDraws
import Derived.Test.YtjchjjnmahddiaaDoorHand
import Derived.Test.YtjchjjnmahddiaaDoorCards
import Derived.SevenTiedAt
import Derived.Lib.SmallJoins
namespace Go.Proofs.YtjchjjnmahddiaaDoor
open Go.ChangeShapes Go.WideShapes Go.ChangeAt Go.RowKit Go.Joins
set_option linter.unusedVariables false

theorem below_srcV {w w1 w2 : World} {s : Nat} (hb : Below w.heap.size w w1) (hs : w.heap.size ≤ s) (hy : Only s w1 w2) : Below w.heap.size w w2 :=
  Below.grown (row := some s) hb hy hb.size (fun j hj => by injection hj with hj; omega)
theorem stdC_of {s : ByteArray} (h : vnB s = true) : stdC (vnI s) = 0 := by
  unfold vnB vnI at *
  have hlt : ∀ f k j, srch s f k = some j → k + f = 8 → j < 8 := by
    intro f
    induction f with
    | zero => intro k j h _; cases h
    | succ f ih =>
      intro k j h hk
      unfold srch at h
      split at h
      · cases h; omega
      · exact ih (k + 1) j h (by omega)
  cases e : srch s 8 0 with
  | none => rw [e] at h; cases h
  | some k =>
    have := hlt 8 0 k e rfl
    show stdC (k : Int) = 0
    unfold stdC
    rw [inB_yes _ _ _ (by omega) (by omega)]; rfl
set_option maxRecDepth 100000 in
set_option maxHeartbeats 2000000 in
theorem drawStd_any (a : Option Addr) (L c : Nat) (zs : Nat → Int) (w : World) (hL : L ≤ 4096) (hc : CodeIn w a L zs) :
    Calls Tryd.prog 15 #[.slice a L c] w fun e w' => ∃ n : Int, e = .returned (.int .i64 n) ∧ Below w.heap.size w w' := by
  have K := Lib.hid (from_any a L c zs w hL hc)
  clear hc
  go_enter Tryd.func15, Tryd.ntmps15
  go_wp2_with (first
    | (go_at_call 39; refine K.out.mono ?_; rintro e w1 ⟨rfl, hs1, hb1⟩; have S1 := Lib.hid hs1; have B1 := Lib.hid hb1; clear hs1 hb1)
    | (go_at_call 40; ((with_reducible refine (next_any w.heap.size 10 a L c zs _ (by decide) (by decide) S1.out).mono ?_); rintro e w2 ⟨V, rfl, v0, v1, hs2, ho2⟩; have Y2 := Lib.hid ho2; clear hs2 ho2)))
  go_ret
  exact ⟨_, rfl, below_srcV B1.out (Nat.le_refl _) Y2.out⟩
theorem sN_size (k : Nat) (hk : k < 8) : (sN k).size ≤ 2000000 := by
  have h1 : k = 0 ∨ k = 1 ∨ k = 2 ∨ k = 3 ∨ k = 4 ∨ k = 5 ∨ k = 6 ∨ k = 7 := by omega
  rcases h1 with rfl | rfl | rfl | rfl | rfl | rfl | rfl | rfl <;> decide
set_option maxRecDepth 100000 in
set_option maxHeartbeats 2000000 in
theorem drawNamed_any (a : Option Addr) (L c : Nat) (zs : Nat → Int) (w : World) (hL : L ≤ 4096) (hc : CodeIn w a L zs) :
    Calls Tryd.prog 16 #[.slice a L c] w fun e w' => ∃ s : ByteArray, e = .returned (.string s) ∧ Below w.heap.size w w' := by
  have K := Lib.hid (from_any a L c zs w hL hc)
  have KN := Lib.hid specNames_any
  clear hc
  go_enter Tryd.func16, Tryd.ntmps16
  go_wp2_with (first
    | (go_at_call 39; refine K.out.mono ?_; rintro e w1 ⟨rfl, hs1, hb1⟩; have S1 := Lib.hid hs1; have B1 := Lib.hid hb1; have HZ1 : w.heap.size < w1.heap.size := src_lt hs1; clear hs1 hb1)
    | (go_at_call 38; refine (KN.out _).mono ?_; rintro e w2 ⟨rfl, hk2, hb2⟩; have HK2 := Lib.hid hk2; have S2 := Lib.hid (S1.out.below hb2); have B2 := Lib.hid (bl_trans B1.out hb2); clear hk2 hb2)
    | (go_at_call 40; ((with_reducible refine (next_any w.heap.size 8 a L c zs _ (by decide) (by decide) S2.out).mono ?_); rintro e w3 ⟨V, rfl, v0, v1, hs3, ho3⟩; obtain ⟨k, rfl⟩ := Int.eq_ofNat_of_zero_le v0; have HK3 := HK2.out.grown ho3 (fun e => by injection e with e; omega); obtain ⟨hc3, _⟩ := HK3.cell k _ (namesV_at k (by omega)); have S3 := Lib.hid hs3; have Y3 := Lib.hid ho3; have HT : Hid ((sN k).size ≤ 2000000) := Lib.hid (sN_size k (by omega)); generalize sN k = t at *; clear hs3 ho3 HK3))
    | (go_at_call 40; ((with_reducible refine (next_any w.heap.size 3 a L c zs _ (by decide) (by decide) S3.out).mono ?_); rintro e w4 ⟨X, rfl, x0, x1, hs4, ho4⟩; have S4 := Lib.hid hs4; have Y4 := Lib.hid (only_trans Y3.out ho4); clear hs4 ho4))
    | (go_at_call 41; refine (damage_any w.heap.size t a L c zs _ HT.out S4.out).mono ?_; rintro e w5 ⟨r, rfl, hr, hs5, ho5⟩; have Y5 := Lib.hid (only_trans Y4.out ho5); clear hs5 ho5 hr))
  · go_ret
    exact ⟨_, rfl, below_srcV B2.out (Nat.le_refl _) Y5.out⟩
  · go_ret
    exact ⟨_, rfl, below_srcV B2.out (Nat.le_refl _) Y4.out⟩
set_option maxRecDepth 100000 in
set_option maxHeartbeats 8000000 in
theorem walkNames_in (a : Option Addr) (L c : Nat) (zs : Nat → Int) (w : World) (HT : Hid (Std w.heap.size w)) (hL : L ≤ 4096) (hc : CodeIn w a L zs) :
    Calls Tryd.prog 5 #[.slice a L c] w (Fresh (.bool true) w) := by
  have HC := Lib.hid hc
  clear hc
  go_enter Tryd.func5, Tryd.ntmps5
  go_wp2_with (go_at_call 14; ((with_reducible refine (big_no _ _ _ _ hL).mono ?_); rintro e w0 ⟨rfl, rfl⟩))
  go_wp2_with (go_at_call 15; ((with_reducible refine (drawStd_any _ _ _ zs _ hL HC.out).mono ?_); rintro e w1 ⟨n, rfl, hb1⟩; have B1 := Lib.hid hb1; clear hb1))
  have K1 := Lib.hid (fun W : World => specStd_any n W)
  have K2 := Lib.hid (fun (W : World) (hb : Below w.heap.size w W) => implStd_any n w.heap.size w W HT (Lib.hid hb) (Lib.hid hb.size))
  obtain ⟨h, l, m, b, hi, lo, e, hv, hm64⟩ := std_form n
  rw [e] at K1 K2
  have HV := Lib.hid hv
  generalize stdC n = z at *
  have KI := Lib.hid (fun W : World => implIsVar_any h l m b hi lo W hm64)
  unfold vV at KI
  clear e hv hm64
  have N0 := Lib.hid (fun W : World => blk_new W 23 [.int .i64 h, .int .i64 l, .int .i64 m, .int .i64 b, .bool hi, .int .i64 lo])
  go_wp2_with (first
    | (go_at_call 10; ((with_reducible refine (K2.out _ B1.out).mono ?_); rintro e w2 ⟨rfl, hb2⟩; have B2 := Lib.hid (bl_alloc (bl_trans B1.out hb2) (.cells #[.int .i64 h, .int .i64 l, .int .i64 m, .int .i64 b, .bool hi, .int .i64 lo] 23)); have N2 := Lib.hid (N0.out w2); have Z2 : Hid (w2.heap.size < (w2.alloc (.cells #[.int .i64 h, .int .i64 l, .int .i64 m, .int .i64 b, .bool hi, .int .i64 lo] 23)).heap.size) := Lib.hid (by simp); clear hb2))
    | (go_at_call 9; refine (K1.out _).mono ?_; rintro e w3 ⟨rfl, hb3⟩; have B3 := Lib.hid (bl_alloc (bl_trans B2.out hb3) (.cells #[.int .i64 h, .int .i64 l, .int .i64 m, .int .i64 b, .bool hi, .int .i64 lo] 23)); have M3 := Lib.hid ((N2.out.below hb3).below (bl_alloc (bl_refl _) (.cells #[.int .i64 h, .int .i64 l, .int .i64 m, .int .i64 b, .bool hi, .int .i64 lo] 23))); have N3 := Lib.hid (N0.out w3); clear hb3)
    | (go_at_call 16; refine (drawNamed_any _ _ _ zs _ hL (codeIn_below HC.out B3.out)).mono ?_; rintro e w4 ⟨s, rfl, hb4⟩; have B4 := Lib.hid (bl_trans B3.out hb4); have M4 := Lib.hid (M3.out.below hb4); have N4 := Lib.hid (N3.out.below hb4); clear hb4))
  have K3 := Lib.hid (fun W : World => specNamed_any s W)
  have K4 := Lib.hid (fun (W : World) (hb : Below w.heap.size w W) => implNamed_any s w.heap.size w W HT (Lib.hid hb) (Lib.hid hb.size))
  have K5 := Lib.hid (fun (W : World) (hb : Below w.heap.size w W) => implStd_any (vnI s) w.heap.size w W HT (Lib.hid hb) (Lib.hid hb.size))
  obtain ⟨h2, l2, m2, b2, hi2, lo2, e2, _, _⟩ := std_form (vnI s)
  rw [e2] at K5
  have HQ := Lib.hid (fun h => stdC_of (s := s) h)
  generalize stdC (vnI s) = z2 at *
  generalize vnI s = k at *
  generalize vnB s = o at *
  clear e2
  have KJ : Hid (z = 0 → ∀ W : World, Calls Tryd.prog 17 #[.agg #[.int .i64 h, .int .i64 l, .int .i64 m, .int .i64 b, .bool hi, .int .i64 lo]] W (Fresh (.bool true) W)) := Lib.hid (fun hz W => by have := KI.out W; rw [HV.out hz] at this; exact this)
  clear KI HV
  have AFT : Hid (∀ (x : Bool) (zz : Int), x = true → zz = zz) := Lib.hid (fun _ _ _ => rfl)
  rcases o with _ | _
  all_goals by_cases hz : z = 0
  · subst hz
    have KX := Lib.hid (KJ.out rfl)
    clear HQ KJ
    go_wp2_with (first
      | (go_at_call 13; refine (K4.out _ B4.out).mono ?_; rintro e w5 ⟨rfl, hb5⟩; have B5 := Lib.hid (bl_trans B4.out hb5); have M5 := Lib.hid (M4.out.below hb5); have N5 := Lib.hid (N4.out.below hb5); clear hb5)
      | (go_at_call 12; refine (K3.out _).mono ?_; rintro e w6 ⟨rfl, hb6⟩; have B6 := Lib.hid (bl_trans B5.out hb6); have M6 := M5.out.below hb6; have N6 := N5.out.below hb6; clear hb6; have HM6 := Lib.hid M6; obtain ⟨q0, _⟩ := M6.cell 0 _ rfl; obtain ⟨q1, _⟩ := M6.cell 1 _ rfl; obtain ⟨q2, _⟩ := M6.cell 2 _ rfl; obtain ⟨q3, _⟩ := M6.cell 3 _ rfl; obtain ⟨q4, _⟩ := M6.cell 4 _ rfl; obtain ⟨q5, _⟩ := M6.cell 5 _ rfl; obtain ⟨p0, _⟩ := N6.cell 0 _ rfl; obtain ⟨p1, _⟩ := N6.cell 1 _ rfl; obtain ⟨p2, _⟩ := N6.cell 2 _ rfl; obtain ⟨p3, _⟩ := N6.cell 3 _ rfl; obtain ⟨p4, _⟩ := N6.cell 4 _ rfl; obtain ⟨p5, _⟩ := N6.cell 5 _ rfl; clear M6 N6)
      | (go_at_call 17; refine (KX.out _).mono ?_; rintro e w8 ⟨rfl, hb8⟩; have BX := Lib.hid (bl_trans B6.out hb8); clear hb8))
    go_ret
    exact ⟨ret_bool (by simp), BX.out⟩
  · have hz' := hz
    clear HQ KJ
    go_wp2_with (first
      | (go_at_call 13; refine (K4.out _ B4.out).mono ?_; rintro e w5 ⟨rfl, hb5⟩; have B5 := Lib.hid (bl_trans B4.out hb5); have M5 := Lib.hid (M4.out.below hb5); have N5 := Lib.hid (N4.out.below hb5); clear hb5)
      | (go_at_call 12; refine (K3.out _).mono ?_; rintro e w6 ⟨rfl, hb6⟩; have B6 := Lib.hid (bl_trans B5.out hb6); have M6 := M5.out.below hb6; have N6 := N5.out.below hb6; clear hb6; have HM6 := Lib.hid M6; obtain ⟨q0, _⟩ := M6.cell 0 _ rfl; obtain ⟨q1, _⟩ := M6.cell 1 _ rfl; obtain ⟨q2, _⟩ := M6.cell 2 _ rfl; obtain ⟨q3, _⟩ := M6.cell 3 _ rfl; obtain ⟨q4, _⟩ := M6.cell 4 _ rfl; obtain ⟨q5, _⟩ := M6.cell 5 _ rfl; obtain ⟨p0, _⟩ := N6.cell 0 _ rfl; obtain ⟨p1, _⟩ := N6.cell 1 _ rfl; obtain ⟨p2, _⟩ := N6.cell 2 _ rfl; obtain ⟨p3, _⟩ := N6.cell 3 _ rfl; obtain ⟨p4, _⟩ := N6.cell 4 _ rfl; obtain ⟨p5, _⟩ := N6.cell 5 _ rfl; clear M6 N6))
    go_ret
    exact ⟨ret_bool (by simp), B6.out⟩
  · subst hz
    have KX := Lib.hid (KJ.out rfl)
    obtain rfl := HQ.out rfl
    clear HQ KJ
    go_wp2_with (first
      | (go_at_call 13; refine (K4.out _ B4.out).mono ?_; rintro e w5 ⟨rfl, hb5⟩; have B5 := Lib.hid (bl_trans B4.out hb5); have M5 := Lib.hid (M4.out.below hb5); have N5 := Lib.hid (N4.out.below hb5); clear hb5)
      | (go_at_call 12; refine (K3.out _).mono ?_; rintro e w6 ⟨rfl, hb6⟩; have B6 := Lib.hid (bl_trans B5.out hb6); have M6 := M5.out.below hb6; have N6 := N5.out.below hb6; clear hb6; have HM6 := Lib.hid M6; obtain ⟨q0, _⟩ := M6.cell 0 _ rfl; obtain ⟨q1, _⟩ := M6.cell 1 _ rfl; obtain ⟨q2, _⟩ := M6.cell 2 _ rfl; obtain ⟨q3, _⟩ := M6.cell 3 _ rfl; obtain ⟨q4, _⟩ := M6.cell 4 _ rfl; obtain ⟨q5, _⟩ := M6.cell 5 _ rfl; obtain ⟨p0, _⟩ := N6.cell 0 _ rfl; obtain ⟨p1, _⟩ := N6.cell 1 _ rfl; obtain ⟨p2, _⟩ := N6.cell 2 _ rfl; obtain ⟨p3, _⟩ := N6.cell 3 _ rfl; obtain ⟨p4, _⟩ := N6.cell 4 _ rfl; obtain ⟨p5, _⟩ := N6.cell 5 _ rfl; clear M6 N6)
      | (go_at_call 10; refine (K5.out _ B6.out).mono ?_; rintro e w7 ⟨rfl, hb7⟩; have B7 := Lib.hid (bl_alloc (bl_trans B6.out hb7) (.cells #[.int .i64 h2, .int .i64 l2, .int .i64 m2, .int .i64 b2, .bool hi2, .int .i64 lo2] 23)); have M7 := (HM6.out.below hb7).below (bl_alloc (bl_refl _) (.cells #[.int .i64 h2, .int .i64 l2, .int .i64 m2, .int .i64 b2, .bool hi2, .int .i64 lo2] 23)); clear hb7; obtain ⟨u0, _⟩ := M7.cell 0 _ rfl; obtain ⟨u1, _⟩ := M7.cell 1 _ rfl; obtain ⟨u2, _⟩ := M7.cell 2 _ rfl; obtain ⟨u3, _⟩ := M7.cell 3 _ rfl; obtain ⟨u4, _⟩ := M7.cell 4 _ rfl; obtain ⟨u5, _⟩ := M7.cell 5 _ rfl; clear M7)
      | (go_at_call 17; refine (KX.out _).mono ?_; rintro e w8 ⟨rfl, hb8⟩; have BX := Lib.hid (bl_trans B7.out hb8); clear hb8))
    go_ret
    exact ⟨ret_bool (by simp), BX.out⟩
  · have hz' := hz
    obtain rfl := HQ.out rfl
    clear HQ KJ
    go_wp2_with (first
      | (go_at_call 13; refine (K4.out _ B4.out).mono ?_; rintro e w5 ⟨rfl, hb5⟩; have B5 := Lib.hid (bl_trans B4.out hb5); have M5 := Lib.hid (M4.out.below hb5); have N5 := Lib.hid (N4.out.below hb5); clear hb5)
      | (go_at_call 12; refine (K3.out _).mono ?_; rintro e w6 ⟨rfl, hb6⟩; have B6 := Lib.hid (bl_trans B5.out hb6); have M6 := M5.out.below hb6; have N6 := N5.out.below hb6; clear hb6; have HM6 := Lib.hid M6; obtain ⟨q0, _⟩ := M6.cell 0 _ rfl; obtain ⟨q1, _⟩ := M6.cell 1 _ rfl; obtain ⟨q2, _⟩ := M6.cell 2 _ rfl; obtain ⟨q3, _⟩ := M6.cell 3 _ rfl; obtain ⟨q4, _⟩ := M6.cell 4 _ rfl; obtain ⟨q5, _⟩ := M6.cell 5 _ rfl; obtain ⟨p0, _⟩ := N6.cell 0 _ rfl; obtain ⟨p1, _⟩ := N6.cell 1 _ rfl; obtain ⟨p2, _⟩ := N6.cell 2 _ rfl; obtain ⟨p3, _⟩ := N6.cell 3 _ rfl; obtain ⟨p4, _⟩ := N6.cell 4 _ rfl; obtain ⟨p5, _⟩ := N6.cell 5 _ rfl; clear M6 N6)
      | (go_at_call 10; refine (K5.out _ B6.out).mono ?_; rintro e w7 ⟨rfl, hb7⟩; have B7 := Lib.hid (bl_alloc (bl_trans B6.out hb7) (.cells #[.int .i64 h2, .int .i64 l2, .int .i64 m2, .int .i64 b2, .bool hi2, .int .i64 lo2] 23)); have M7 := (HM6.out.below hb7).below (bl_alloc (bl_refl _) (.cells #[.int .i64 h2, .int .i64 l2, .int .i64 m2, .int .i64 b2, .bool hi2, .int .i64 lo2] 23)); clear hb7; obtain ⟨u0, _⟩ := M7.cell 0 _ rfl; obtain ⟨u1, _⟩ := M7.cell 1 _ rfl; obtain ⟨u2, _⟩ := M7.cell 2 _ rfl; obtain ⟨u3, _⟩ := M7.cell 3 _ rfl; obtain ⟨u4, _⟩ := M7.cell 4 _ rfl; obtain ⟨u5, _⟩ := M7.cell 5 _ rfl; clear M7))
    go_ret
    exact ⟨ret_bool (by simp), B7.out⟩

set_option maxRecDepth 100000 in
set_option maxHeartbeats 400000 in
theorem walkNames_big (a : Option Addr) (L c : Nat) (w : World) (hm : L ≤ maxLen) (h : 4096 < L) :
    Calls Tryd.prog 5 #[.slice a L c] w (Fresh (.bool true) w) := by
  unfold maxLen at hm
  go_enter Tryd.func5, Tryd.ntmps5
  go_wp2_with (go_at_call 14; refine (big_yes _ _ _ _ h (by omega)).mono ?_; rintro e w0 ⟨rfl, rfl⟩)
  go_ret
  exact ⟨rfl, bl_refl _⟩
theorem walkNames (a : Option Addr) (L c : Nat) (zs : Nat → Int) (w : World) (HT : Hid (Std w.heap.size w)) (hm : L ≤ maxLen) (hc : CodeIn w a L zs) :
    Calls Tryd.prog 5 #[.slice a L c] w (Fresh (.bool true) w) := by
  by_cases h : L ≤ 4096
  · exact walkNames_in a L c zs w HT h hc
  · exact walkNames_big a L c w hm (by omega)

theorem fnVariantNames_met (os : Os) (args : Array Value) : laidMetH Tryd.prog Rows.fnVariantNamesRow.laid ((World.doorLaid Tryd.prog 400 os).forCall (fun _ _ => 0) ⟨#[], args, []⟩).memory :=
  laidMetH_of_parts3 (fuel := 8) (laidMet_of_run' 8 (by kernel_rfl) (by kernel_rfl)) (by kernel_rfl) (by kernel_rfl)

set_option maxRecDepth 100000 in
theorem fnVariantNames_lifted (os : Os) (started : os.Started) (H : Type) (enc : TypeId × Value → H) :
    ReturnsInHanded {} Tryd.checked os 5 .any (fun w args => (Rows.fnVariantNamesSpec.pre enc Tryd.prog Tryd.f5 [] false w args ∧ laidMetH Tryd.prog Rows.fnVariantNamesRow.laid w) ∧ sizedMet enc Tryd.prog Tryd.f5 (OpenSpec.ofChange Rows.fnVariantNamesSpec) false w args)
      (Rows.fnVariantNamesSpec.post enc Tryd.prog Tryd.f5 false true false false) := by
  refine law_lifted_vars started (by kernel_rfl) Tryd.func5 (by kernel_rfl) (by kernel_rfl) (fun ds gs h hg => ?_) ?_
    (ChangeSpec.witness_shaped (enc := enc) (C := Tryd.checked) (os := os) (X := fun w _ => laidMetH Tryd.prog Rows.fnVariantNamesRow.laid w) false (World.doorLaid Tryd.prog 400 os) #[.slice none 0 0] 8 rfl (World.shaped_of_RefB (by kernel_rfl) (by kernel_rfl)) (by kernel_rfl) (by kernel_rfl) (by kernel_rfl) (fnVariantNames_met os _)) ?_
  · match ds, h, gs, hg with
    | [d0], _, [g0], _ => rfl
  · rw [Tryd.params5]
    intro t ht
    obtain rfl : t = 31 := by simpa using ht
    exact ⟨by kernel_rfl, of_decide_eq_true (by kernel_rfl)⟩
  · intro W base args ds ps hval hA hL hSh
    rw [Tryd.params5] at hA hval
    obtain ⟨v0, d0, rfl, rfl, h0⟩ := trodAll_one hA
    obtain ⟨A0, L0, c0, zs0, rfl, m0, r0⟩ := open_code (hval 0 31 v0 rfl rfl) h0
    rw [MakeChecks.laidMetH_plain _ _ _ (by kernel_rfl)] at hL
    exact walkNames A0 L0 c0 zs0 W (Lib.hid (std_of hL)) m0 r0

theorem fnVariantNames_holds : Rows.FnVariantNamesSaid :=
  OpenClaim.holds_of_wide 5 Tryd.f5 rfl rfl rfl rfl rfl rfl rfl ⟨rfl, rfl, rfl, rfl, rfl⟩ rfl rfl rfl rfl rfl (by kernel_rfl) Tryd.func5 (by kernel_rfl)
    (of_decide_eq_true (by kernel_rfl)) (by unfold Func.isWrapper; first | (rw [if_pos (by decide +kernel)]; kernel_rfl) | (rw [if_neg (by decide +kernel)]; exact ⟨rfl, rfl⟩))
    (fun os started H enc _ => fnVariantNames_lifted os started H enc)

/-- The tied card: standard variants are valid, and each name has its number: for every code. -/
theorem fnVariantNames_card : Rows.FnVariantNamesCardSaid :=
  Claim7.holds_tied_plain_at .later [] [.data] true (true, "5e4194de3061b7c3064284f08ef9b60cdff0d1e82afd53acd6e090163bf65dcd") false
    fnVariantNames_holds (fun _ h => by cases h) (by kernel_rfl) (fun _ h => by cases h) fnVariantNames_row_tie rfl ⟨rfl, rfl⟩ (by kernel_rfl) rfl
    (fun f fn hf hfn => by
      obtain rfl : f = 5 := Option.some.inj ((show Tryd.prog.funcNamed "loop.example/g00910/laws.FnVariantNames" = some 5 by kernel_rfl).symm.trans hf) |>.symm
      obtain rfl : fn = Tryd.f5 := (Option.some.inj (Tryd.func5.symm.trans hfn)).symm
      exact ⟨by kernel_rfl, fun j t ht => by
        rw [Tryd.params5] at ht
        have hm : t ∈ [31] := by simpa using Array.mem_of_getElem? ht
        have hall : ([31].all fun u => !Tryd.prog.wantsStandIn u) = true := by kernel_rfl
        exact (show Tryd.prog.wantsStandIn t = false by simpa using List.all_eq_true.1 hall t hm)⟩)
    (by kernel_rfl)

end Go.Proofs.YtjchjjnmahddiaaDoor
