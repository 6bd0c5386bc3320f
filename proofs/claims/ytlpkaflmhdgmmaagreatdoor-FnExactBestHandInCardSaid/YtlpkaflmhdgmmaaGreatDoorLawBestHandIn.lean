/-
  The card of the law FnExactBestHandIn: it returns true for every variant and all two lists of numbers, and leaves the lists as they were: BestHandIn answers as its model, in new memory.
  Condition: the variable impl.lowestStraight reads as the program lays it (the card ties it).
-/
import Derived.Test.YtlpkaflmhdgmmaaGreatDoorBestInSpec
import Derived.Test.YtlpkaflmhdgmmaaGreatDoorMark
import Derived.Test.YtlpkaflmhdgmmaaGreatDoorHand
import Derived.Test.YtlpkaflmhdgmmaaGreatDoorCards
import Derived.SevenTiedAt
import Derived.Lib.SmallJoins
namespace Go.Proofs.YtlpkaflmhdgmmaaGreatDoor
open Go.ChangeShapes Go.WideShapes Go.ChangeAt Go.RowKit Go.Joins
set_option linter.unusedVariables false

theorem row_ne_blk {W : World} {lo g n c : Nat} {A : Option Addr} {xs : List Int} (h : Row W lo A xs) (hg : g < lo) : some g ≠ (Value.slice A n c).ownBlock := by
  intro e
  rcases A with _ | a
  · cases e
  · have h1 := (h.1 a rfl).1
    have e' : g = a.block := Option.some.inj e
    omega
theorem beR_len (h l m b : Int) (hi : Bool) (lo : Int) (hs bs : List Int) : (beR h l m b hi lo hs bs).length ≤ 5 := by
  by_cases he : beC h l m b hi lo hs bs = 0
  · by_cases hcz : codeH h l m b hi lo hs bs = 0
    · obtain ⟨hv, e1, e2⟩ := code_zero hcz
      subst e1
      subst e2
      obtain ⟨⟨f1, f2⟩, ⟨f3, f4⟩, ⟨f5, f6⟩, ⟨f7, f8⟩, f9⟩ := hasCards_iff.1 (isVar_cards hv)
      obtain ⟨l', rfl⟩ := Int.eq_ofNat_of_zero_le f5
      obtain ⟨m', rfl⟩ := Int.eq_ofNat_of_zero_le (Int.le_trans f5 f6)
      have hcd := fun k hk => hRows_cards_at hs bs l' (m' + 1 - l') (by omega) (code_cards hcz) k hk
      have hix := (be_facts hi lo (hRows hs bs l' (m' + 1 - l')) (hRows_pos hs bs l' m' (by omega) (by omega) (by omega) (by omega) (by omega) (by omega)) hcd).1
      have e : beR (hs.length : Int) l' m' (bs.length : Int) hi lo hs bs = (hRows hs bs l' (m' + 1 - l')).getD (beI hi lo (hRows hs bs l' (m' + 1 - l'))) [] := by unfold beR; rw [if_pos he]; rfl
      rw [e, (hcd _ hix).2]
      omega
    · unfold beC at he
      rw [if_neg hcz] at he
      exact absurd he hcz
  · unfold beR
    rw [if_neg he]
    simp
set_option maxRecDepth 100000 in
set_option maxHeartbeats 400000 in
theorem walkBestHandIn_big (h l m b : Int) (hi : Bool) (lo : Int) (A : Option Addr) (c : Nat) (xs : List Int) (E : Option Addr) (d : Nat) (ys : List Int) (w : World) (hm : xs.length ≤ maxLen) (hm2 : ys.length ≤ maxLen) (hx : 1048576 < xs.length) :
    Calls Tryz.prog 4 #[vV h l m b hi lo, .slice A xs.length c, .slice E ys.length d] w (Fresh (.bool true) w) := by
  unfold maxLen at *
  have h' : (1048576 : Int) < xs.length := by omega
  skip
  have B0 := Lib.hid (bl_alloc (bl_refl w) (.cells #[.int .i64 h, .int .i64 l, .int .i64 m, .int .i64 b, .bool hi, .int .i64 lo] 38))
  unfold vV
  go_enter Tryz.func4, Tryz.ntmps4
  go_wp2_with fail
  go_ret
  exact ⟨rfl, B0.out⟩
set_option maxRecDepth 100000 in
set_option maxHeartbeats 400000 in
theorem walkBestHandIn_big2 (h l m b : Int) (hi : Bool) (lo : Int) (A : Option Addr) (c : Nat) (xs : List Int) (E : Option Addr) (d : Nat) (ys : List Int) (w : World) (hm : xs.length ≤ 1048576) (hm2 : ys.length ≤ maxLen) (hx : 1048576 < ys.length) :
    Calls Tryz.prog 4 #[vV h l m b hi lo, .slice A xs.length c, .slice E ys.length d] w (Fresh (.bool true) w) := by
  unfold maxLen at *
  have h' : (1048576 : Int) < ys.length := by omega
  have h2' : (xs.length : Int) ≤ 1048576 := by omega
  have B0 := Lib.hid (bl_alloc (bl_refl w) (.cells #[.int .i64 h, .int .i64 l, .int .i64 m, .int .i64 b, .bool hi, .int .i64 lo] 38))
  unfold vV
  go_enter Tryz.func4, Tryz.ntmps4
  go_wp2_with fail
  go_ret
  exact ⟨rfl, B0.out⟩

set_option maxRecDepth 100000 in
set_option maxHeartbeats 8000000 in
theorem walkBestHandIn_in (h l m b : Int) (hi : Bool) (lo : Int) (A : Option Addr) (c : Nat) (xs : List Int) (E : Option Addr) (d : Nat) (ys : List Int) (w : World) (HT : Hid (Low w.heap.size w)) (hm64 : i64B m) (hr : Rd w A xs) (hn : xs.length ≤ 1048576) (hr2 : Rd w E ys) (hn2 : ys.length ≤ 1048576) :
    Calls Tryz.prog 4 #[vV h l m b hi lo, .slice A xs.length c, .slice E ys.length d] w (Fresh (.bool true) w) := by
  have HR := Lib.hid hr
  have HQ := Lib.hid hr2
  have hn4 : xs.length ≤ 4000000 := by omega
  have hm4 : ys.length ≤ 4000000 := by omega
  have hn' : (xs.length : Int) ≤ 1048576 := by omega
  have hm' : (ys.length : Int) ≤ 1048576 := by omega
  have N0 := Lib.hid (blk_new w 38 [.int .i64 h, .int .i64 l, .int .i64 m, .int .i64 b, .bool hi, .int .i64 lo])
  have B0 := Lib.hid (bl_alloc (bl_refl w) (.cells #[.int .i64 h, .int .i64 l, .int .i64 m, .int .i64 b, .bool hi, .int .i64 lo] 38))
  have KT := Lib.hid (fun W : World => toVariant_any h l m b hi lo W)
  obtain ⟨zs, q, hz5, K1, K2⟩ : ∃ (zs : List Int) (q : Int), zs.length ≤ 5 ∧ Hid (∀ (A : Option Addr) (c : Nat) (E : Option Addr) (d : Nat) (W : World), Rd W A xs → xs.length ≤ c → Rd W E ys → ys.length ≤ d → Calls Tryz.prog 8 #[vV h l m b hi lo, .slice A xs.length c, .slice E ys.length d] W (NewRC zs q W)) ∧ Hid (∀ (A : Option Addr) (c : Nat) (E : Option Addr) (d : Nat) (W : World), Below w.heap.size w W → Rd W A xs → Rd W E ys → Calls Tryz.prog 7 #[vV h l m b hi lo, .slice A xs.length c, .slice E ys.length d] W (NewRC zs q W)) :=
    ⟨_, _, beR_len h l m b hi lo xs ys, Lib.hid (fun A c E d W h1 hc h2 hc2 => specBest_any h l m b hi lo A c xs E d ys W hm64 h1 h2 (by omega) (by omega) hc hc2), Lib.hid (fun A c E d W hb h1 h2 => implBest_any h l m b hi lo A c xs E d ys w.heap.size w W HT (Lib.hid hb) (Lib.hid hb.size) hm64 h1 h2 (by omega) (by omega))⟩
  have hzl : zs.length ≤ 4000000 := by omega
  have hz5' : (zs.length : Int) ≤ 5 := by omega
  have k1 : decide ((1 : Int) + (xs.length : Int) + (ys.length : Int) < 0) = false := by simp; omega
  have k2 : decide ((1 : Int) + (zs.length : Int) < 0) = false := by simp; omega
  clear hr hr2
  unfold vV at *
  go_enter Tryz.func4, Tryz.ntmps4
  go_wp2_with (go_at_call 17; ((with_reducible refine (KT.out _).mono ?_); rintro e w1 ⟨rfl, hb1⟩; have X1 := Lib.hid hb1; have B1 := Lib.hid (bl_trans B0.out hb1); clear hb1))
  go_wp2_with (go_at_call 18; ((with_reducible refine (toInts_any A _ xs _ (HR.out.below B1.out) hn).mono ?_); rintro e w2 ⟨A2, c2, rfl, ho2, hb2⟩; have O2 := Lib.hid ho2; have B2 := Lib.hid (bl_trans B1.out hb2); have X2 := Lib.hid hb2; clear ho2 hb2))
  go_wp2_with (go_at_call 18; ((with_reducible refine (toInts_any E _ ys _ (HQ.out.below B2.out) hn2).mono ?_); rintro e w3 ⟨A3, c3, rfl, ho3, hb3⟩; have O3 := Lib.hid ho3; have B3 := Lib.hid (bl_trans B2.out hb3); have X3 := Lib.hid hb3; clear ho3 hb3))
  go_wp2_with (go_at_call 8; ((with_reducible refine (K1.out A2 _ A3 _ _ (O2.out.below X3.out).rd (own_cap O2.out) O3.out.rd (own_cap O3.out)).mono ?_); rintro e w4 ⟨A4, c4, rfl, ho4, hb4⟩; have F4 := Lib.hid ho4; have X4 := Lib.hid hb4; have B4 := Lib.hid (bl_trans B3.out hb4); clear ho4 hb4))
  go_wp2_with (go_at_call 18; ((with_reducible refine (toInts_any A _ xs _ (HR.out.below B4.out) hn).mono ?_); rintro e w5 ⟨A5, c5, rfl, ho5, hb5⟩; have O5 := Lib.hid ho5; have B5 := Lib.hid (bl_trans B4.out hb5); have X5 := Lib.hid hb5; clear ho5 hb5))
  have N5 := Lib.hid (((((N0.out.below X1.out).below X2.out).below X3.out).below X4.out).below X5.out)
  go_wp2_with (go_at_call 18; ((with_reducible refine (toInts_any E _ ys _ (HQ.out.below B5.out) hn2).mono ?_); rintro e w6 ⟨A6, c6, rfl, ho6, hb6⟩; have O6 := Lib.hid ho6; have B6 := Lib.hid (bl_trans B5.out hb6); have X6 := Lib.hid hb6; clear ho6 hb6; have N6 := Lib.hid (N5.out.below X6.out); obtain ⟨q0, _⟩ := N6.out.cell 0 _ rfl; obtain ⟨q1, _⟩ := N6.out.cell 1 _ rfl; obtain ⟨q2, _⟩ := N6.out.cell 2 _ rfl; obtain ⟨q3, _⟩ := N6.out.cell 3 _ rfl; obtain ⟨q4, _⟩ := N6.out.cell 4 _ rfl; obtain ⟨q5, _⟩ := N6.out.cell 5 _ rfl))
  go_wp2_with (go_at_call 17; ((with_reducible refine (KT.out _).mono ?_); rintro e w7 ⟨rfl, hb7⟩; have X7 := Lib.hid hb7; have B7 := Lib.hid (bl_trans B6.out hb7); clear hb7))
  clear q0 q1 q2 q3 q4 q5
  go_wp2_with (go_at_call 7; ((with_reducible refine (K2.out A5 _ A6 _ _ B7.out ((O5.out.below X6.out).below X7.out).rd (O6.out.below X7.out).rd).mono ?_); rintro e w8 ⟨A8, c8, rfl, ho8, hb8⟩; have F8 := Lib.hid ho8; have X8 := Lib.hid hb8; have B8 := Lib.hid (bl_trans B7.out hb8); clear ho8 hb8))
  go_wp2_with (go_at_call 19; ((with_reducible refine (eqInts_same A8 A4 _ _ zs _ F8.out.rd ((((F4.out.below X5.out).below X6.out).below X7.out).below X8.out).rd hzl).mono ?_); rintro e w9 ⟨rfl, hb9⟩; have X9 := Lib.hid hb9; have B9 := Lib.hid (bl_trans B8.out hb9); clear hb9))
  go_wp2_with (go_at_call 18; ((with_reducible refine (toInts_any A _ xs _ (HR.out.below B9.out) hn).mono ?_); rintro e w10 ⟨A10, c10, rfl, ho10, hb10⟩; have O10 := Lib.hid ho10; have B10 := Lib.hid (bl_trans B9.out hb10); have X10 := Lib.hid hb10; clear ho10 hb10))
  go_wp2_with (go_at_call 19; ((with_reducible refine (eqInts_same A5 A10 _ _ xs _ (((((O5.out.below X6.out).below X7.out).below X8.out).below X9.out).below X10.out).rd O10.out.rd hn4).mono ?_); rintro e w11 ⟨rfl, hb11⟩; have X11 := Lib.hid hb11; have B11 := Lib.hid (bl_trans B10.out hb11); clear hb11))
  go_wp2_with (go_at_call 18; ((with_reducible refine (toInts_any E _ ys _ (HQ.out.below B11.out) hn2).mono ?_); rintro e w12 ⟨A12, c12, rfl, ho12, hb12⟩; have O12 := Lib.hid ho12; have B12 := Lib.hid (bl_trans B11.out hb12); have X12 := Lib.hid hb12; clear ho12 hb12))
  go_wp2_with (go_at_call 19; ((with_reducible refine (eqInts_same A6 A12 _ _ ys _ ((((((O6.out.below X7.out).below X8.out).below X9.out).below X10.out).below X11.out).below X12.out).rd O12.out.rd hm4).mono ?_); rintro e w13 ⟨rfl, hb13⟩; have X13 := Lib.hid hb13; have B13 := Lib.hid (bl_trans B12.out hb13); clear hb13))
  have X8d : Hid (Below w8.heap.size w8 w13) := Lib.hid (bl_trans (bl_trans (bl_trans (bl_trans X9.out X10.out) X11.out) X12.out) X13.out)
  have E5 : Hid (Own w13 w4.heap.size (.slice A5 xs.length c5) xs) := Lib.hid ((((O5.out.below X6.out).below X7.out).below X8.out).below X8d.out)
  have E6 : Hid (Own w13 w5.heap.size (.slice A6 ys.length c6) ys) := Lib.hid (((O6.out.below X7.out).below X8.out).below X8d.out)
  have D4 : Hid (Row w13 w3.heap.size A4 zs) := Lib.hid (((((F4.out.below X5.out).below X6.out).below X7.out).below X8.out).below X8d.out)
  have D8 : Hid (Row w13 w7.heap.size A8 zs) := Lib.hid (F8.out.below X8d.out)
  have N13 := Lib.hid (((N6.out.below X7.out).below X8.out).below X8d.out)
  have S1 : Hid (w.heap.size + 1 ≤ w3.heap.size ∧ w3.heap.size ≤ w4.heap.size ∧ w4.heap.size ≤ w5.heap.size ∧ w5.heap.size ≤ w6.heap.size ∧ w6.heap.size ≤ w7.heap.size ∧ w7.heap.size ≤ w13.heap.size) := Lib.hid ⟨by
    have := X1.out.size; have := X2.out.size; have := X3.out.size
    simp at *
    omega, X4.out.size, X5.out.size, X6.out.size, X7.out.size, Nat.le_trans X8.out.size X8d.out.size⟩
  have NE1 : Hid (∀ a, A4 = some a → some a.block ≠ (Value.slice A5 xs.length c5).ownBlock) := Lib.hid (row_ne F4.out (Row.of_own E5.out) (Nat.le_refl _))
  have NE2 : Hid (∀ a, A4 = some a → some a.block ≠ (Value.slice A6 ys.length c6).ownBlock) := Lib.hid (row_ne F4.out (Row.of_own E6.out) S1.out.2.2.1)
  have NE3 : Hid (∀ a, A8 = some a → some a.block ≠ (Value.slice A5 xs.length c5).ownBlock) := Lib.hid (row_ne' F8.out (Row.of_own O5.out) (Nat.le_trans S1.out.2.2.2.1 S1.out.2.2.2.2.1))
  have NE4 : Hid (∀ a, A8 = some a → some a.block ≠ (Value.slice A6 ys.length c6).ownBlock) := Lib.hid (row_ne' F8.out (Row.of_own O6.out) S1.out.2.2.2.2.1)
  have NE5 : Hid (∀ a, A6 = some a → some a.block ≠ (Value.slice A5 xs.length c5).ownBlock) := Lib.hid (row_ne' (Row.of_own E6.out) (Row.of_own O5.out) (Nat.le_refl _))
  have NE6 : Hid (∀ a, A4 = some a → some a.block ≠ (Value.slice A8 zs.length c8).ownBlock) := Lib.hid (row_ne F4.out F8.out (by have := S1.out; omega))
  have NE8 := Lib.hid (own_ne' E6.out O5.out (Nat.le_refl _))
  go_wp2_with (go_at_call 20; ((with_reducible refine (mark_any A5 c5 _ xs _ _ E5.out hn4 (by omega) (by omega)).mono ?_); rintro e w14 ⟨rfl, ho14, hg14⟩; have B14 := Lib.hid (bl_mark B13.out hg14 E5.out (by have := S1.out; omega)); have D4b := Lib.hid (D4.out.grown hg14 NE1.out); have D8b := Lib.hid (D8.out.grown hg14 NE3.out); have E6b := Lib.hid (E6.out.grown hg14 NE8.out); have N14 := Lib.hid (N13.out.grown hg14 (fun e => by have := (World.ownsRow.lt E5.out _ e.symm).1; have := S1.out; omega)); have Z14 := Lib.hid hg14.size; clear ho14 hg14))
  go_wp2_with (go_at_call 20; ((with_reducible refine (mark_any A6 c6 _ ys _ _ E6b.out hm4 (by omega) (by omega)).mono ?_); rintro e w15 ⟨rfl, ho15, hg15⟩; have B15 := Lib.hid (bl_mark B14.out hg15 E6b.out (by have := S1.out; omega)); have D4c := Lib.hid (D4b.out.grown hg15 NE2.out); have D8c := Lib.hid (D8b.out.grown hg15 NE4.out); have N15 := Lib.hid (N14.out.grown hg15 (fun e => by have := (World.ownsRow.lt E6b.out _ e.symm).1; have := S1.out; omega)); have Z15 := Lib.hid hg15.size; clear ho15 hg15))
  go_wp2_with (go_at_call 19; ((with_reducible refine (eqInts_same A8 A4 _ _ zs _ D8c.out.rd D4c.out.rd hzl).mono ?_); rintro e w16 ⟨rfl, hb16⟩; have X16 := Lib.hid hb16; have B16 := Lib.hid (bl_trans B15.out hb16); clear hb16))
  have G8 := Lib.hid (D8c.out.below X16.out)
  have G4 := Lib.hid (D4c.out.below X16.out)
  have N16 := Lib.hid (N15.out.below X16.out)
  go_wp2_with (go_at_call 20; ((with_reducible refine (markRow_any A8 c8 _ zs _ _ G8.out hzl (by omega) (by omega)).mono ?_); rintro e w17 ⟨rfl, ho17, hg17⟩; have B17 := Lib.hid (bl_markR B16.out hg17 G8.out (by have := S1.out; omega)); have D17 := Lib.hid (G4.out.grown hg17 NE6.out); have G17 := Lib.hid ho17; have N17 : Hid (Blk w17 w.heap.size 38 [.int .i64 h, .int .i64 l, .int .i64 m, .int .i64 b, .bool hi, .int .i64 lo]) := Lib.hid (N16.out.grown hg17 (row_ne_blk F8.out (by have := S1.out; omega))); clear ho17 hg17; obtain ⟨q0, _⟩ := N17.out.cell 0 _ rfl; obtain ⟨q1, _⟩ := N17.out.cell 1 _ rfl; obtain ⟨q2, _⟩ := N17.out.cell 2 _ rfl; obtain ⟨q3, _⟩ := N17.out.cell 3 _ rfl; obtain ⟨q4, _⟩ := N17.out.cell 4 _ rfl; obtain ⟨q5, _⟩ := N17.out.cell 5 _ rfl))
  go_wp2_with (go_at_call 21; ((with_reducible refine (held_any A8 c8 1 zs.length _ G17.out.rd hzl (by omega) (by omega)).mono ?_); rintro e w17b ⟨rfl, rfl⟩))
  go_wp2_with (go_at_call 17; ((with_reducible refine (KT.out _).mono ?_); rintro e w18 ⟨rfl, hb18⟩; have X18 := Lib.hid hb18; have B18 := Lib.hid (bl_trans B17.out hb18); clear hb18))
  clear q0 q1 q2 q3 q4 q5
  go_wp2_with (go_at_call 18; ((with_reducible refine (toInts_any A _ xs _ (HR.out.below B18.out) hn).mono ?_); rintro e w19 ⟨A19, c19, rfl, ho19, hb19⟩; have O19 := Lib.hid ho19; have B19 := Lib.hid (bl_trans B18.out hb19); have X19 := Lib.hid hb19; clear ho19 hb19))
  go_wp2_with (go_at_call 18; ((with_reducible refine (toInts_any E _ ys _ (HQ.out.below B19.out) hn2).mono ?_); rintro e w20 ⟨A20, c20, rfl, ho20, hb20⟩; have O20 := Lib.hid ho20; have B20 := Lib.hid (bl_trans B19.out hb20); have X20 := Lib.hid hb20; clear ho20 hb20))
  go_wp2_with (go_at_call 7; ((with_reducible refine (K2.out A19 _ A20 _ _ B20.out (O19.out.below X20.out).rd O20.out.rd).mono ?_); rintro e w21 ⟨A21, c21, rfl, ho21, hb21⟩; have F21 := Lib.hid ho21; have X21 := Lib.hid hb21; have B21 := Lib.hid (bl_trans B20.out hb21); clear ho21 hb21))
  have X17d : Hid (Below w17.heap.size w17 w21) := Lib.hid (bl_trans (bl_trans (bl_trans X18.out X19.out) X20.out) X21.out)
  go_wp2_with (go_at_call 19; ((with_reducible refine (eqInts_same A21 A4 _ _ zs _ F21.out.rd (D17.out.below X17d.out).rd hzl).mono ?_); rintro e w22 ⟨rfl, hb22⟩; have X22 := Lib.hid hb22; have B22 := Lib.hid (bl_trans B21.out hb22); clear hb22))
  have G22 := Lib.hid ((G17.out.below X17d.out).below X22.out)
  go_wp2_with (go_at_call 21; ((with_reducible refine (held_any A8 c8 1 zs.length _ G22.out.rd hzl (by omega) (by omega)).mono ?_); rintro e w23 ⟨rfl, rfl⟩))
  go_ret
  exact ⟨rfl, B22.out⟩

theorem walkBestHandIn (h l m b : Int) (hi : Bool) (lo : Int) (A : Option Addr) (c : Nat) (xs : List Int) (E : Option Addr) (d : Nat) (ys : List Int) (w : World) (HT : Hid (Low w.heap.size w)) (hm64 : i64B m) (hm : xs.length ≤ maxLen) (hr : Rd w A xs) (hm2 : ys.length ≤ maxLen) (hr2 : Rd w E ys) :
    Calls Tryz.prog 4 #[vV h l m b hi lo, .slice A xs.length c, .slice E ys.length d] w (Fresh (.bool true) w) := by
  by_cases hx : xs.length ≤ 1048576
  · by_cases h2 : ys.length ≤ 1048576
    · exact walkBestHandIn_in h l m b hi lo A c xs E d ys w HT hm64 hr hx hr2 h2
    · exact walkBestHandIn_big2 h l m b hi lo A c xs E d ys w hx hm2 (by omega)
  · exact walkBestHandIn_big h l m b hi lo A c xs E d ys w hm hm2 (by omega)

theorem fnExactBestHandIn_met (os : Os) (args : Array Value) : laidMetH Tryz.prog Rows.fnExactBestHandInRow.laid ((World.doorLaid Tryz.prog 400 os).forCall (fun _ _ => 0) ⟨#[], args, []⟩).memory :=
  laidMetH_of_parts3 (fuel := 8) (laidMet_of_run' 8 (by kernel_rfl) (by kernel_rfl)) (by kernel_rfl) (by kernel_rfl)

set_option maxRecDepth 100000 in
theorem fnExactBestHandIn_lifted (os : Os) (started : os.Started) (H : Type) (enc : TypeId × Value → H) :
    ReturnsInHanded {} Tryz.checked os 4 .any (fun w args => (Rows.fnExactBestHandInSpec.pre enc Tryz.prog Tryz.f4 [] false w args ∧ laidMetH Tryz.prog Rows.fnExactBestHandInRow.laid w) ∧ sizedMet enc Tryz.prog Tryz.f4 (OpenSpec.ofChange Rows.fnExactBestHandInSpec) false w args)
      (Rows.fnExactBestHandInSpec.post enc Tryz.prog Tryz.f4 false true false false) := by
  refine law_lifted_vars started (by kernel_rfl) Tryz.func4 (by kernel_rfl) (by kernel_rfl) (fun ds gs h hg => ?_) ?_
    (ChangeSpec.witness_shaped (enc := enc) (C := Tryz.checked) (os := os) (X := fun w _ => laidMetH Tryz.prog Rows.fnExactBestHandInRow.laid w) false (World.doorLaid Tryz.prog 400 os) #[.agg #[.int .i64 0, .int .i64 0, .int .i64 0, .int .i64 0, .bool false, .int .i64 0], .slice none 0 0, .slice none 0 0] 8 rfl (World.shaped_of_RefB (by kernel_rfl) (by kernel_rfl)) (by kernel_rfl) (by kernel_rfl) (by kernel_rfl) (fnExactBestHandIn_met os _)) ?_
  · match ds, h, gs, hg with
    | [d0, d1, d2], _, [g0], _ => rfl
  · rw [Tryz.params4]
    intro t ht
    rcases (show t = 38 ∨ t = 26 by simpa using ht) with rfl | rfl <;> exact ⟨by kernel_rfl, of_decide_eq_true (by kernel_rfl)⟩
  · intro W base args ds ps hval hA hL hSh
    rw [Tryz.params4] at hA hval
    obtain ⟨v0, v1, v2, d0, d1, d2, p0, p1, p2, rfl, rfl, rfl, h0, h1, h2⟩ := trodAll_three hA
    obtain ⟨vh, vl, vm, vb, vhi, vlo, rfl, wvh, wvl, wvm, wvb, wvlo⟩ := open_variant (hval 0 38 v0 rfl rfl) h0
    obtain ⟨A1, c1, xs1, rfl, m1, r1⟩ := open_list (hval 1 26 v1 rfl rfl) h1
    obtain ⟨A2, c2, xs2, rfl, m2, r2⟩ := open_list (hval 2 26 v2 rfl rfl) h2
    rw [MakeChecks.laidMetH_plain _ _ _ (by kernel_rfl)] at hL
    exact walkBestHandIn vh vl vm vb vhi vlo A1 c1 xs1 A2 c2 xs2 W (Lib.hid (low_of hL)) wvm m1 r1 m2 r2

theorem fnExactBestHandIn_holds : Rows.FnExactBestHandInSaid :=
  OpenClaim.holds_of_wide 4 Tryz.f4 rfl rfl rfl rfl rfl rfl rfl ⟨rfl, rfl, rfl, rfl, rfl⟩ rfl rfl rfl rfl rfl (by kernel_rfl) Tryz.func4 (by kernel_rfl)
    (of_decide_eq_true (by kernel_rfl)) (by unfold Func.isWrapper; first | (rw [if_pos (by decide +kernel)]; kernel_rfl) | (rw [if_neg (by decide +kernel)]; exact ⟨rfl, rfl⟩))
    (fun os started H enc _ => fnExactBestHandIn_lifted os started H enc)

/-- The tied card: BestHandIn answers as its model, for every variant and all two lists. -/
theorem fnExactBestHandIn_card : Rows.FnExactBestHandInCardSaid :=
  Claim7.holds_tied_plain_at .later [] [.data] true (true, "8ca721143568d16c11eb33eae4a3199461e9e4f7424bafd2c736627e202f11b7") false
    fnExactBestHandIn_holds (fun _ h => by cases h) (by kernel_rfl) (fun _ h => by cases h) fnExactBestHandIn_row_tie rfl ⟨rfl, rfl⟩ (by kernel_rfl) rfl
    (fun f fn hf hfn => by
      obtain rfl : f = 4 := Option.some.inj ((show Tryz.prog.funcNamed "loop.example/g00910/laws.FnExactBestHandIn" = some 4 by kernel_rfl).symm.trans hf) |>.symm
      obtain rfl : fn = Tryz.f4 := (Option.some.inj (Tryz.func4.symm.trans hfn)).symm
      exact ⟨by kernel_rfl, fun j t ht => by
        rw [Tryz.params4] at ht
        have hm : t ∈ [38, 26, 26] := by simpa using Array.mem_of_getElem? ht
        have hall : ([38, 26, 26].all fun u => !Tryz.prog.wantsStandIn u) = true := by kernel_rfl
        exact (show Tryz.prog.wantsStandIn t = false by simpa using List.all_eq_true.1 hall t hm)⟩)
    (by kernel_rfl)

end Go.Proofs.YtlpkaflmhdgmmaaGreatDoor
