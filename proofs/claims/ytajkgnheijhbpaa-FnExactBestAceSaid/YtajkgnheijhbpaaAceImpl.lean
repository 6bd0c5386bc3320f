/-
  The program's ace-to-five value of five cards.
-/
import Derived.Test.YtajkgnheijhbpaaShp
import Derived.Test.YtajkgnheijhbpaaLowSort
import Derived.Test.YtajkgnheijhbpaaSpecLow
import Derived.Test.YtajkgnheijhbpaaCmpS
import Derived.Test.YtajkgnheijhbpaaNumN
import Derived.Deep.RegionWith
namespace Go.Proofs.Ytajkgnheijhbpaa
open Go.RowKit
set_option linter.unusedVariables false

def patB (b1 b2 b3 b4 b5 : Bool) : Int := if b1 = true then 5 else if b2 = true then 4 else if b3 = true then 3 else if b4 = true then 2 else if b5 = true then 1 else 0
theorem patI_bool (m n : Nat) : patI m n = patB (decide (m = 4)) (decide (m = 3 ∧ n = 2)) (decide (3 ≤ m)) (decide (2 ≤ m ∧ 2 ≤ n)) (decide (2 ≤ m)) := by
  unfold patI patB
  simp only [decide_eq_true_eq]
theorem patI_bd (m n : Nat) : 0 ≤ patI m n ∧ patI m n ≤ 5 := by
  unfold patI
  repeat' split
  all_goals omega
set_option maxRecDepth 100000 in
set_option maxHeartbeats 4000000 in
theorem lowPattern_any (k0 k1 k2 k3 k4 : Int) (m n : Nat) (o : Bool) (w : World) :
    Calls Try.prog 164 #[shp k0 k1 k2 k3 k4 m n o] w (Fresh (.int .i64 (patI m n)) w) := by
  have K1 := Lib.hid (fun W => hasQuadruple_any k0 k1 k2 k3 k4 m n o W)
  have K2 := Lib.hid (fun W => isFullHouse_any k0 k1 k2 k3 k4 m n o W)
  have K3 := Lib.hid (fun W => hasTriple_any k0 k1 k2 k3 k4 m n o W)
  have K4 := Lib.hid (fun W => hasTwoPairs_any k0 k1 k2 k3 k4 m n o W)
  have K5 := Lib.hid (fun W => hasPair_any k0 k1 k2 k3 k4 m n o W)
  have EP := Lib.hid (patI_bool m n)
  have N0 := Lib.hid (blk_new w 153 [.int .i64 k0, .int .i64 k1, .int .i64 k2, .int .i64 k3, .int .i64 k4, .int .i64 m, .int .i64 n, .bool o])
  have BX := Lib.hid (bl_alloc (bl_refl w) (.cells #[.int .i64 k0, .int .i64 k1, .int .i64 k2, .int .i64 k3, .int .i64 k4, .int .i64 m, .int .i64 n, .bool o] 153))
  generalize patI m n = z at *
  generalize decide (m = 4) = b1 at *
  generalize decide (m = 3 ∧ n = 2) = b2 at *
  generalize decide (3 ≤ m) = b3 at *
  generalize decide (2 ≤ m ∧ 2 ≤ n) = b4 at *
  generalize decide (2 ≤ m) = b5 at *
  rcases b1 with _ | _
  rotate_left
  · go_enter Try.func164, Try.ntmps164
    go_wp2_with (first
      | (go_at_call 166; refine (K1.out _).mono ?_; rintro e w1 ⟨rfl, hb1⟩; have B1 := Lib.hid (hb1); have N1 := N0.out.below B1.out; obtain ⟨q1_0, _⟩ := N1.cell 0 _ rfl; obtain ⟨q1_1, _⟩ := N1.cell 1 _ rfl; obtain ⟨q1_2, _⟩ := N1.cell 2 _ rfl; obtain ⟨q1_3, _⟩ := N1.cell 3 _ rfl; obtain ⟨q1_4, _⟩ := N1.cell 4 _ rfl; obtain ⟨q1_5, _⟩ := N1.cell 5 _ rfl; obtain ⟨q1_6, _⟩ := N1.cell 6 _ rfl; obtain ⟨q1_7, _⟩ := N1.cell 7 _ rfl; have Z1 := N1.lt; clear hb1))
    go_ret
    exact ⟨ret_int (by rw [EP.out]; rfl), bl_trans BX.out B1.out⟩
  rcases b2 with _ | _
  rotate_left
  · go_enter Try.func164, Try.ntmps164
    go_wp2_with (first
      | (go_at_call 166; refine (K1.out _).mono ?_; rintro e w1 ⟨rfl, hb1⟩; have B1 := Lib.hid (hb1); have N1 := N0.out.below B1.out; obtain ⟨q1_0, _⟩ := N1.cell 0 _ rfl; obtain ⟨q1_1, _⟩ := N1.cell 1 _ rfl; obtain ⟨q1_2, _⟩ := N1.cell 2 _ rfl; obtain ⟨q1_3, _⟩ := N1.cell 3 _ rfl; obtain ⟨q1_4, _⟩ := N1.cell 4 _ rfl; obtain ⟨q1_5, _⟩ := N1.cell 5 _ rfl; obtain ⟨q1_6, _⟩ := N1.cell 6 _ rfl; obtain ⟨q1_7, _⟩ := N1.cell 7 _ rfl; have Z1 := N1.lt; clear hb1)
      | (go_at_call 167; refine (K2.out _).mono ?_; rintro e w2 ⟨rfl, hb2⟩; have B2 := Lib.hid (bl_trans B1.out hb2); have N2 := N0.out.below B2.out; obtain ⟨q2_0, _⟩ := N2.cell 0 _ rfl; obtain ⟨q2_1, _⟩ := N2.cell 1 _ rfl; obtain ⟨q2_2, _⟩ := N2.cell 2 _ rfl; obtain ⟨q2_3, _⟩ := N2.cell 3 _ rfl; obtain ⟨q2_4, _⟩ := N2.cell 4 _ rfl; obtain ⟨q2_5, _⟩ := N2.cell 5 _ rfl; obtain ⟨q2_6, _⟩ := N2.cell 6 _ rfl; obtain ⟨q2_7, _⟩ := N2.cell 7 _ rfl; have Z2 := N2.lt; clear hb2))
    go_ret
    exact ⟨ret_int (by rw [EP.out]; rfl), bl_trans BX.out B2.out⟩
  rcases b3 with _ | _
  rotate_left
  · go_enter Try.func164, Try.ntmps164
    go_wp2_with (first
      | (go_at_call 166; refine (K1.out _).mono ?_; rintro e w1 ⟨rfl, hb1⟩; have B1 := Lib.hid (hb1); have N1 := N0.out.below B1.out; obtain ⟨q1_0, _⟩ := N1.cell 0 _ rfl; obtain ⟨q1_1, _⟩ := N1.cell 1 _ rfl; obtain ⟨q1_2, _⟩ := N1.cell 2 _ rfl; obtain ⟨q1_3, _⟩ := N1.cell 3 _ rfl; obtain ⟨q1_4, _⟩ := N1.cell 4 _ rfl; obtain ⟨q1_5, _⟩ := N1.cell 5 _ rfl; obtain ⟨q1_6, _⟩ := N1.cell 6 _ rfl; obtain ⟨q1_7, _⟩ := N1.cell 7 _ rfl; have Z1 := N1.lt; clear hb1)
      | (go_at_call 167; refine (K2.out _).mono ?_; rintro e w2 ⟨rfl, hb2⟩; have B2 := Lib.hid (bl_trans B1.out hb2); have N2 := N0.out.below B2.out; obtain ⟨q2_0, _⟩ := N2.cell 0 _ rfl; obtain ⟨q2_1, _⟩ := N2.cell 1 _ rfl; obtain ⟨q2_2, _⟩ := N2.cell 2 _ rfl; obtain ⟨q2_3, _⟩ := N2.cell 3 _ rfl; obtain ⟨q2_4, _⟩ := N2.cell 4 _ rfl; obtain ⟨q2_5, _⟩ := N2.cell 5 _ rfl; obtain ⟨q2_6, _⟩ := N2.cell 6 _ rfl; obtain ⟨q2_7, _⟩ := N2.cell 7 _ rfl; have Z2 := N2.lt; clear hb2)
      | (go_at_call 168; refine (K3.out _).mono ?_; rintro e w3 ⟨rfl, hb3⟩; have B3 := Lib.hid (bl_trans B2.out hb3); have N3 := N0.out.below B3.out; obtain ⟨q3_0, _⟩ := N3.cell 0 _ rfl; obtain ⟨q3_1, _⟩ := N3.cell 1 _ rfl; obtain ⟨q3_2, _⟩ := N3.cell 2 _ rfl; obtain ⟨q3_3, _⟩ := N3.cell 3 _ rfl; obtain ⟨q3_4, _⟩ := N3.cell 4 _ rfl; obtain ⟨q3_5, _⟩ := N3.cell 5 _ rfl; obtain ⟨q3_6, _⟩ := N3.cell 6 _ rfl; obtain ⟨q3_7, _⟩ := N3.cell 7 _ rfl; have Z3 := N3.lt; clear hb3))
    go_ret
    exact ⟨ret_int (by rw [EP.out]; rfl), bl_trans BX.out B3.out⟩
  rcases b4 with _ | _
  rotate_left
  · go_enter Try.func164, Try.ntmps164
    go_wp2_with (first
      | (go_at_call 166; refine (K1.out _).mono ?_; rintro e w1 ⟨rfl, hb1⟩; have B1 := Lib.hid (hb1); have N1 := N0.out.below B1.out; obtain ⟨q1_0, _⟩ := N1.cell 0 _ rfl; obtain ⟨q1_1, _⟩ := N1.cell 1 _ rfl; obtain ⟨q1_2, _⟩ := N1.cell 2 _ rfl; obtain ⟨q1_3, _⟩ := N1.cell 3 _ rfl; obtain ⟨q1_4, _⟩ := N1.cell 4 _ rfl; obtain ⟨q1_5, _⟩ := N1.cell 5 _ rfl; obtain ⟨q1_6, _⟩ := N1.cell 6 _ rfl; obtain ⟨q1_7, _⟩ := N1.cell 7 _ rfl; have Z1 := N1.lt; clear hb1)
      | (go_at_call 167; refine (K2.out _).mono ?_; rintro e w2 ⟨rfl, hb2⟩; have B2 := Lib.hid (bl_trans B1.out hb2); have N2 := N0.out.below B2.out; obtain ⟨q2_0, _⟩ := N2.cell 0 _ rfl; obtain ⟨q2_1, _⟩ := N2.cell 1 _ rfl; obtain ⟨q2_2, _⟩ := N2.cell 2 _ rfl; obtain ⟨q2_3, _⟩ := N2.cell 3 _ rfl; obtain ⟨q2_4, _⟩ := N2.cell 4 _ rfl; obtain ⟨q2_5, _⟩ := N2.cell 5 _ rfl; obtain ⟨q2_6, _⟩ := N2.cell 6 _ rfl; obtain ⟨q2_7, _⟩ := N2.cell 7 _ rfl; have Z2 := N2.lt; clear hb2)
      | (go_at_call 168; refine (K3.out _).mono ?_; rintro e w3 ⟨rfl, hb3⟩; have B3 := Lib.hid (bl_trans B2.out hb3); have N3 := N0.out.below B3.out; obtain ⟨q3_0, _⟩ := N3.cell 0 _ rfl; obtain ⟨q3_1, _⟩ := N3.cell 1 _ rfl; obtain ⟨q3_2, _⟩ := N3.cell 2 _ rfl; obtain ⟨q3_3, _⟩ := N3.cell 3 _ rfl; obtain ⟨q3_4, _⟩ := N3.cell 4 _ rfl; obtain ⟨q3_5, _⟩ := N3.cell 5 _ rfl; obtain ⟨q3_6, _⟩ := N3.cell 6 _ rfl; obtain ⟨q3_7, _⟩ := N3.cell 7 _ rfl; have Z3 := N3.lt; clear hb3)
      | (go_at_call 169; refine (K4.out _).mono ?_; rintro e w4 ⟨rfl, hb4⟩; have B4 := Lib.hid (bl_trans B3.out hb4); have N4 := N0.out.below B4.out; obtain ⟨q4_0, _⟩ := N4.cell 0 _ rfl; obtain ⟨q4_1, _⟩ := N4.cell 1 _ rfl; obtain ⟨q4_2, _⟩ := N4.cell 2 _ rfl; obtain ⟨q4_3, _⟩ := N4.cell 3 _ rfl; obtain ⟨q4_4, _⟩ := N4.cell 4 _ rfl; obtain ⟨q4_5, _⟩ := N4.cell 5 _ rfl; obtain ⟨q4_6, _⟩ := N4.cell 6 _ rfl; obtain ⟨q4_7, _⟩ := N4.cell 7 _ rfl; have Z4 := N4.lt; clear hb4))
    go_ret
    exact ⟨ret_int (by rw [EP.out]; rfl), bl_trans BX.out B4.out⟩
  rcases b5 with _ | _
  rotate_left
  · go_enter Try.func164, Try.ntmps164
    go_wp2_with (first
      | (go_at_call 166; refine (K1.out _).mono ?_; rintro e w1 ⟨rfl, hb1⟩; have B1 := Lib.hid (hb1); have N1 := N0.out.below B1.out; obtain ⟨q1_0, _⟩ := N1.cell 0 _ rfl; obtain ⟨q1_1, _⟩ := N1.cell 1 _ rfl; obtain ⟨q1_2, _⟩ := N1.cell 2 _ rfl; obtain ⟨q1_3, _⟩ := N1.cell 3 _ rfl; obtain ⟨q1_4, _⟩ := N1.cell 4 _ rfl; obtain ⟨q1_5, _⟩ := N1.cell 5 _ rfl; obtain ⟨q1_6, _⟩ := N1.cell 6 _ rfl; obtain ⟨q1_7, _⟩ := N1.cell 7 _ rfl; have Z1 := N1.lt; clear hb1)
      | (go_at_call 167; refine (K2.out _).mono ?_; rintro e w2 ⟨rfl, hb2⟩; have B2 := Lib.hid (bl_trans B1.out hb2); have N2 := N0.out.below B2.out; obtain ⟨q2_0, _⟩ := N2.cell 0 _ rfl; obtain ⟨q2_1, _⟩ := N2.cell 1 _ rfl; obtain ⟨q2_2, _⟩ := N2.cell 2 _ rfl; obtain ⟨q2_3, _⟩ := N2.cell 3 _ rfl; obtain ⟨q2_4, _⟩ := N2.cell 4 _ rfl; obtain ⟨q2_5, _⟩ := N2.cell 5 _ rfl; obtain ⟨q2_6, _⟩ := N2.cell 6 _ rfl; obtain ⟨q2_7, _⟩ := N2.cell 7 _ rfl; have Z2 := N2.lt; clear hb2)
      | (go_at_call 168; refine (K3.out _).mono ?_; rintro e w3 ⟨rfl, hb3⟩; have B3 := Lib.hid (bl_trans B2.out hb3); have N3 := N0.out.below B3.out; obtain ⟨q3_0, _⟩ := N3.cell 0 _ rfl; obtain ⟨q3_1, _⟩ := N3.cell 1 _ rfl; obtain ⟨q3_2, _⟩ := N3.cell 2 _ rfl; obtain ⟨q3_3, _⟩ := N3.cell 3 _ rfl; obtain ⟨q3_4, _⟩ := N3.cell 4 _ rfl; obtain ⟨q3_5, _⟩ := N3.cell 5 _ rfl; obtain ⟨q3_6, _⟩ := N3.cell 6 _ rfl; obtain ⟨q3_7, _⟩ := N3.cell 7 _ rfl; have Z3 := N3.lt; clear hb3)
      | (go_at_call 169; refine (K4.out _).mono ?_; rintro e w4 ⟨rfl, hb4⟩; have B4 := Lib.hid (bl_trans B3.out hb4); have N4 := N0.out.below B4.out; obtain ⟨q4_0, _⟩ := N4.cell 0 _ rfl; obtain ⟨q4_1, _⟩ := N4.cell 1 _ rfl; obtain ⟨q4_2, _⟩ := N4.cell 2 _ rfl; obtain ⟨q4_3, _⟩ := N4.cell 3 _ rfl; obtain ⟨q4_4, _⟩ := N4.cell 4 _ rfl; obtain ⟨q4_5, _⟩ := N4.cell 5 _ rfl; obtain ⟨q4_6, _⟩ := N4.cell 6 _ rfl; obtain ⟨q4_7, _⟩ := N4.cell 7 _ rfl; have Z4 := N4.lt; clear hb4)
      | (go_at_call 170; refine (K5.out _).mono ?_; rintro e w5 ⟨rfl, hb5⟩; have B5 := Lib.hid (bl_trans B4.out hb5); have N5 := N0.out.below B5.out; obtain ⟨q5_0, _⟩ := N5.cell 0 _ rfl; obtain ⟨q5_1, _⟩ := N5.cell 1 _ rfl; obtain ⟨q5_2, _⟩ := N5.cell 2 _ rfl; obtain ⟨q5_3, _⟩ := N5.cell 3 _ rfl; obtain ⟨q5_4, _⟩ := N5.cell 4 _ rfl; obtain ⟨q5_5, _⟩ := N5.cell 5 _ rfl; obtain ⟨q5_6, _⟩ := N5.cell 6 _ rfl; obtain ⟨q5_7, _⟩ := N5.cell 7 _ rfl; have Z5 := N5.lt; clear hb5))
    go_ret
    exact ⟨ret_int (by rw [EP.out]; rfl), bl_trans BX.out B5.out⟩
  go_enter Try.func164, Try.ntmps164
  go_wp2_with (first
    | (go_at_call 166; refine (K1.out _).mono ?_; rintro e w1 ⟨rfl, hb1⟩; have B1 := Lib.hid (hb1); have N1 := N0.out.below B1.out; obtain ⟨q1_0, _⟩ := N1.cell 0 _ rfl; obtain ⟨q1_1, _⟩ := N1.cell 1 _ rfl; obtain ⟨q1_2, _⟩ := N1.cell 2 _ rfl; obtain ⟨q1_3, _⟩ := N1.cell 3 _ rfl; obtain ⟨q1_4, _⟩ := N1.cell 4 _ rfl; obtain ⟨q1_5, _⟩ := N1.cell 5 _ rfl; obtain ⟨q1_6, _⟩ := N1.cell 6 _ rfl; obtain ⟨q1_7, _⟩ := N1.cell 7 _ rfl; have Z1 := N1.lt; clear hb1)
    | (go_at_call 167; refine (K2.out _).mono ?_; rintro e w2 ⟨rfl, hb2⟩; have B2 := Lib.hid (bl_trans B1.out hb2); have N2 := N0.out.below B2.out; obtain ⟨q2_0, _⟩ := N2.cell 0 _ rfl; obtain ⟨q2_1, _⟩ := N2.cell 1 _ rfl; obtain ⟨q2_2, _⟩ := N2.cell 2 _ rfl; obtain ⟨q2_3, _⟩ := N2.cell 3 _ rfl; obtain ⟨q2_4, _⟩ := N2.cell 4 _ rfl; obtain ⟨q2_5, _⟩ := N2.cell 5 _ rfl; obtain ⟨q2_6, _⟩ := N2.cell 6 _ rfl; obtain ⟨q2_7, _⟩ := N2.cell 7 _ rfl; have Z2 := N2.lt; clear hb2)
    | (go_at_call 168; refine (K3.out _).mono ?_; rintro e w3 ⟨rfl, hb3⟩; have B3 := Lib.hid (bl_trans B2.out hb3); have N3 := N0.out.below B3.out; obtain ⟨q3_0, _⟩ := N3.cell 0 _ rfl; obtain ⟨q3_1, _⟩ := N3.cell 1 _ rfl; obtain ⟨q3_2, _⟩ := N3.cell 2 _ rfl; obtain ⟨q3_3, _⟩ := N3.cell 3 _ rfl; obtain ⟨q3_4, _⟩ := N3.cell 4 _ rfl; obtain ⟨q3_5, _⟩ := N3.cell 5 _ rfl; obtain ⟨q3_6, _⟩ := N3.cell 6 _ rfl; obtain ⟨q3_7, _⟩ := N3.cell 7 _ rfl; have Z3 := N3.lt; clear hb3)
    | (go_at_call 169; refine (K4.out _).mono ?_; rintro e w4 ⟨rfl, hb4⟩; have B4 := Lib.hid (bl_trans B3.out hb4); have N4 := N0.out.below B4.out; obtain ⟨q4_0, _⟩ := N4.cell 0 _ rfl; obtain ⟨q4_1, _⟩ := N4.cell 1 _ rfl; obtain ⟨q4_2, _⟩ := N4.cell 2 _ rfl; obtain ⟨q4_3, _⟩ := N4.cell 3 _ rfl; obtain ⟨q4_4, _⟩ := N4.cell 4 _ rfl; obtain ⟨q4_5, _⟩ := N4.cell 5 _ rfl; obtain ⟨q4_6, _⟩ := N4.cell 6 _ rfl; obtain ⟨q4_7, _⟩ := N4.cell 7 _ rfl; have Z4 := N4.lt; clear hb4)
    | (go_at_call 170; refine (K5.out _).mono ?_; rintro e w5 ⟨rfl, hb5⟩; have B5 := Lib.hid (bl_trans B4.out hb5); have N5 := N0.out.below B5.out; obtain ⟨q5_0, _⟩ := N5.cell 0 _ rfl; obtain ⟨q5_1, _⟩ := N5.cell 1 _ rfl; obtain ⟨q5_2, _⟩ := N5.cell 2 _ rfl; obtain ⟨q5_3, _⟩ := N5.cell 3 _ rfl; obtain ⟨q5_4, _⟩ := N5.cell 4 _ rfl; obtain ⟨q5_5, _⟩ := N5.cell 5 _ rfl; obtain ⟨q5_6, _⟩ := N5.cell 6 _ rfl; obtain ⟨q5_7, _⟩ := N5.cell 7 _ rfl; have Z5 := N5.lt; clear hb5))
  go_ret
  exact ⟨ret_int (by rw [EP.out]; rfl), bl_trans BX.out B5.out⟩

theorem run_arrR (b off c : Nat) (w : World) : (Instr.arrayAt 151 (.slice (some ⟨b, off, none⟩) 5 c)).run Try.prog w = .ok (.pointer (some ⟨b, off, none⟩)) w := by
  simp [Instr.arrayAt, run_underlying u53]

/-! The program's walks. -/
theorem kk_permL {rs L : List Int} (h : L.Perm rs) : kk L = kk rs := by
  rw [kk_eq, kk_eq, show piece L = piece rs from funext (fun p => by unfold piece; rw [occ_perm h])]
theorem rd_lit5 {w : World} {g : Nat} {t : TypeId} (x0 x1 x2 x3 x4 : Int) (vs : List Value) (h : Blk w g t ([.int .i64 x0, .int .i64 x1, .int .i64 x2, .int .i64 x3, .int .i64 x4] ++ vs)) : Rd w (some ⟨g, 0, none⟩) [x0, x1, x2, x3, x4] := fun _ => by
  refine ⟨g, 0, rfl, fun i hi => ?_⟩
  rw [Nat.zero_add]
  match i, hi with
  | 0, _ => exact (h.cell 0 _ rfl).1
  | 1, _ => exact (h.cell 1 _ rfl).1
  | 2, _ => exact (h.cell 2 _ rfl).1
  | 3, _ => exact (h.cell 3 _ rfl).1
  | 4, _ => exact (h.cell 4 _ rfl).1
set_option maxRecDepth 100000 in
set_option maxHeartbeats 4000000 in
theorem aceValue_any (xs : List Int) (w : World) (hb : cardsB xs = true) (h5 : xs.length = 5) :
    Calls Try.prog 162 #[.agg #[], aggI xs] w (Fresh (.int .i64 (aceS xs)) w) := by
  have hc := (cards_iff xs).1 hb
  have h4 := lrs_facts xs hb
  have hdp := descR_perm (lrs xs)
  have hdl : (descR (lrs xs)).length = 5 := by rw [descR_len, lrs_len, h5]
  have KS := Lib.hid (fun W => ranksShape_any (descR (lrs xs)) W (fun r hr => lrs_ok xs r (hdp.mem_iff.1 hr)) (fun r => by rw [occ_perm hdp]; exact h4 r) hdl)
  obtain ⟨hkl, hkr⟩ := kkl_facts xs hb h5
  rw [kk_permL hdp] at KS
  have KL := Lib.hid (fun (A : Option Addr) (c : Nat) (W : World) (h : Rd W A xs) => lowRanksOf_any A c xs W h (by omega) hc.1)
  have EF : Hid (aceS xs = patI (mostK (kk (lrs xs))) (nextK (kk (lrs xs))) * 371293 + digs (kk (lrs xs))) := Lib.hid (by
    unfold aceS
    rw [pat_same (lrs xs) (lrs_ok xs) h4 (by rw [lrs_len, h5])]
    omega)
  have hd := digs_allN (kk (lrs xs)) hkr (by omega)
  obtain ⟨x0, x1, x2, x3, x4, rfl⟩ := list_five xs h5
  generalize aceS [x0, x1, x2, x3, x4] = z at *
  generalize lrs [x0, x1, x2, x3, x4] = rs at *
  generalize mostK (kk rs) = m at *
  generalize nextK (kk rs) = n at *
  generalize kk rs = K at *
  obtain ⟨k0, k1, k2, k3, k4, rfl⟩ := list_five K hkl
  obtain ⟨d0, d1, d2, d3, d4, ed⟩ := list_five (descR rs) hdl
  rw [ed] at KS KL
  have KP := Lib.hid (fun W => lowPattern_any k0 k1 k2 k3 k4 m n false W)
  have KN : Hid (∀ (c g : Nat) (W : World), Rd W (some ⟨g, 0, none⟩) [k0, k1, k2, k3, k4] → Calls Try.prog 48 #[.slice (some ⟨g, 0, none⟩) 5 c] W (Same (.int .i64 (digs [k0, k1, k2, k3, k4])) W)) := Lib.hid (fun c g W h => numberOfN_any (some ⟨g, 0, none⟩) c [k0, k1, k2, k3, k4] W h (by simp) hkr)
  have hp := patI_bd m n
  generalize patI m n = p at *
  generalize digs [k0, k1, k2, k3, k4] = d at *
  have hsa := fun (g : Nat) (W' : World) => run_arrR g 0 5 W'
  have e1 : IntKind.i64.wrap (p * 371293) = p * 371293 := IntWalk.i64_in _ (by omega)
  have e2 : IntKind.i64.wrap (p * 371293 + d) = p * 371293 + d := IntWalk.i64_in _ (by omega)
  clear hc hb h4 hdp hdl hkl hkr h5 ed hp hd
  obtain ⟨w0, rfl⟩ : ∃ w0 : World, w0 = w := ⟨w, rfl⟩
  have N0 := Lib.hid (blk_new (w0.alloc (.cells #[] 63)) 74 (ints [x0, x1, x2, x3, x4]))
  rw [World.size_alloc] at N0
  have B0 := Lib.hid (bl_alloc (bl_alloc (bl_refl w0) (.cells #[] 63)) (.cells #[.int .i64 x0, .int .i64 x1, .int .i64 x2, .int .i64 x3, .int .i64 x4] 74))
  have R0 := Lib.hid (rd_lit5 x0 x1 x2 x3 x4 [] N0.out)
  unfold aggI at KS ⊢
  go_enter Try.func162, Try.ntmps162
  go_wp2_with (first
    | (go_at_call 46; refine (KL.out _ _ _ R0.out).mono ?_; rintro e w1 ⟨rfl, hk1, hb1⟩; have B1 := Lib.hid (bl_trans B0.out hb1); rw [World.size_alloc, World.size_alloc] at hk1; obtain ⟨y0, _⟩ := hk1.cell 0 _ rfl; obtain ⟨y1, _⟩ := hk1.cell 1 _ rfl; obtain ⟨y2, _⟩ := hk1.cell 2 _ rfl; obtain ⟨y3, _⟩ := hk1.cell 3 _ rfl; obtain ⟨y4, _⟩ := hk1.cell 4 _ rfl; clear hk1 hb1)
    | (go_at_call 163; refine (KS.out _).mono ?_; rintro e w2 ⟨rfl, hb2⟩; have B2 := Lib.hid (bl_trans B1.out hb2); clear hb2)
    | (refine wpList_store_blk 153 8 rfl (.tmp 5) (.tmp 10) rfl i55 w2.heap.size rfl (shapeL [k0, k1, k2, k3, k4] m n false) rfl rfl (shapeL_one _ _ _ _) _ (heap_alloc_new w2 _) rfl ?_))
  intro w3 hb3 hg3
  have N3 := Lib.hid hb3
  have B3 := Lib.hid (bl_blk (bl_alloc B2.out _) hg3 B2.out.size)
  clear hg3 hb3
  obtain ⟨g0, _⟩ := N3.out.cell 0 _ rfl
  obtain ⟨g1, _⟩ := N3.out.cell 1 _ rfl
  obtain ⟨g2, _⟩ := N3.out.cell 2 _ rfl
  obtain ⟨g3, _⟩ := N3.out.cell 3 _ rfl
  obtain ⟨g4, _⟩ := N3.out.cell 4 _ rfl
  obtain ⟨g5, _⟩ := N3.out.cell 5 _ rfl
  obtain ⟨g6, _⟩ := N3.out.cell 6 _ rfl
  obtain ⟨g7, _⟩ := N3.out.cell 7 _ rfl
  have hz3 := N3.out.lt
  have R3 := Lib.hid (rd_lit5 k0 k1 k2 k3 k4 [.int .i64 m, .int .i64 n, .bool false] N3.out)
  go_wp2_with fail
  go_region_with ((first
    | (go_at_call 164; refine (KP.out _).mono ?_; rintro e w4 ⟨rfl, hb4⟩; obtain ⟨hcw, hfw⟩ := bcell hb4)
    | (go_at_call 48; (first | (with_reducible refine (KN.out _ _ _ (R3.out.below (bl_drew (bl_refl _)))).mono ?_) | (with_reducible refine (KN.out _ _ _ (R3.out.below (bl_trans (bl_drew (bl_refl _)) hb4))).mono ?_) | (with_reducible refine (KN.out _ _ _ R3.out).mono ?_)); rintro e w5 ⟨rfl, rfl⟩)))
  all_goals
    go_wp2_with fail
    go_ret
    exact ⟨ret_int EF.out.symm, bl_trans B3.out (bl_trans (bl_drew (bl_refl _)) hb4)⟩
end Go.Proofs.Ytajkgnheijhbpaa
