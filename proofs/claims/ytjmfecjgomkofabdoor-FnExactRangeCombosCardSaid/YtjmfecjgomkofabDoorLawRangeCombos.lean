/-
  The card of the law FnExactRangeCombos: it returns true for all two lists of numbers, and leaves the lists as they were: RangeCombos answers as its model, in new memory, no two combinations of which share any.
  Condition: the table math/bits.deBruijn64tab reads as the program lays it (the card ties it).
-/
import Derived.Test.YtjmfecjgomkofabDoorRngLive
import Derived.Test.YtjmfecjgomkofabDoorRngSpec
import Derived.Test.YtjmfecjgomkofabDoorFamLaw
import Derived.Test.YtjmfecjgomkofabDoorMark
import Derived.Test.YtjmfecjgomkofabDoorTzLaid
import Derived.Test.YtjmfecjgomkofabDoorCards
import Derived.SevenTiedAt
import Derived.Lib.SmallJoins
namespace Go.Proofs.YtjmfecjgomkofabDoor
open Go.ChangeShapes Go.WideShapes Go.ChangeAt Go.RowKit Go.Joins
set_option linter.unusedVariables false

set_option maxRecDepth 100000 in
set_option maxHeartbeats 400000 in
theorem walkRangeCombos_big (A : Option Addr) (c : Nat) (xs : List Int) (E : Option Addr) (d : Nat) (ys : List Int) (w : World) (hm : xs.length ≤ maxLen) (hm2 : ys.length ≤ maxLen) (hx : 1048576 < xs.length) :
    Calls Tryd.prog 8 #[.slice A xs.length c, .slice E ys.length d] w (Fresh (.bool true) w) := by
  unfold maxLen at hm hm2
  have h' : (1048576 : Int) < xs.length := by omega
  go_enter Tryd.func8, Tryd.ntmps8
  go_wp2_with fail
  go_ret
  exact ⟨rfl, bl_refl _⟩
set_option maxRecDepth 100000 in
set_option maxHeartbeats 400000 in
theorem walkRangeCombos_big2 (A : Option Addr) (c : Nat) (xs : List Int) (E : Option Addr) (d : Nat) (ys : List Int) (w : World) (hm : xs.length ≤ 1048576) (hm2 : ys.length ≤ maxLen) (hx : 1048576 < ys.length) :
    Calls Tryd.prog 8 #[.slice A xs.length c, .slice E ys.length d] w (Fresh (.bool true) w) := by
  unfold maxLen at hm2
  have h' : (1048576 : Int) < ys.length := by omega
  have h2' : (xs.length : Int) ≤ 1048576 := by omega
  go_enter Tryd.func8, Tryd.ntmps8
  go_wp2_with fail
  go_ret
  exact ⟨rfl, bl_refl _⟩

set_option maxRecDepth 100000 in
set_option maxHeartbeats 4000000 in
theorem walkRangeCombos_in (A : Option Addr) (c : Nat) (xs : List Int) (E : Option Addr) (d : Nat) (ys : List Int) (w : World) (HT : Hid (Tz w.heap.size w)) (hr : Rd w A xs) (hn : xs.length ≤ 1048576) (hr2 : Rd w E ys) (hn2 : ys.length ≤ 1048576) :
    Calls Tryd.prog 8 #[.slice A xs.length c, .slice E ys.length d] w (Fresh (.bool true) w) := by
  have HR := Lib.hid hr
  have HQ := Lib.hid hr2
  have hn4 : xs.length ≤ 4000000 := by omega
  have hm4 : ys.length ≤ 4000000 := by omega
  have hn' : (xs.length : Int) ≤ 1048576 := by omega
  have hm' : (ys.length : Int) ≤ 1048576 := by omega
  have B0 := Lib.hid (bl_refl w)
  obtain ⟨H, R, ky, hH, hof, hrw, K1, K2⟩ : ∃ (H : Nat) (R : Nat → List Int) (ky : Int), H ≤ 4000000 ∧ offs R H ≤ 4000000 ∧ Hid (∀ h, h < H → (R h).length ≤ 4000000) ∧ Hid (∀ (A : Option Addr) (c : Nat) (E : Option Addr) (d : Nat) (W : World), Rd W A xs → Rd W E ys → Calls Tryd.prog 33 #[.slice A xs.length c, .slice E ys.length d] W (NewFam H R ky W)) ∧ Hid (∀ (A : Option Addr) (c : Nat) (E : Option Addr) (d : Nat) (W : World), Rd W A xs → Rd W E ys → Below w.heap.size w W → Calls Tryd.prog 34 #[.slice A xs.length c, .slice E ys.length d] W (NewFam H R ky W)) := by
    have hbd := live_bd xs ys
    have bo1 : (liveP xs ys).length ≤ 4000000 := by omega
    have bo2 : offs (liveR xs ys) (liveP xs ys).length ≤ 4000000 := by rw [offs_two _ (fun j => rfl)]; omega
    have bo3 : ∀ h, h < (liveP xs ys).length → (liveR xs ys h).length ≤ 4000000 := fun h _ => by show (2 : Nat) ≤ 4000000; omega
    refine ⟨_, _, _, bo1, bo2, Lib.hid bo3, Lib.hid (fun A c E d W h h2 => specRangeCombos_any A c xs E d ys W h h2 hn4 hm4), Lib.hid (fun A c E d W h h2 hb => implRangeCombos_any A c xs E d ys w.heap.size w W h h2 hn4 hm4 HT (Lib.hid hb) (Lib.hid hb.size))⟩
  have k1 : decide ((1 : Int) + (xs.length : Int) + (ys.length : Int) < 0) = false := by simp; omega
  have k2 : decide ((1 : Int) + (offs R H : Int) < 0) = false := by simp; omega
  have hofI : (offs R H : Int) ≤ 4000000 := by omega
  clear hr hr2
  go_enter Tryd.func8, Tryd.ntmps8
  go_wp2_with (go_at_call 24; ((with_reducible refine (toInts_any A _ xs _ (HR.out.below B0.out) hn).mono ?_); rintro e w1 ⟨A1, c1, rfl, ho1, hb1⟩; have O1 := Lib.hid ho1; have B1 := Lib.hid (bl_trans B0.out hb1); have X1 := Lib.hid hb1; clear ho1 hb1))
  go_wp2_with (go_at_call 24; ((with_reducible refine (toInts_any E _ ys _ (HQ.out.below B1.out) hn2).mono ?_); rintro e w2 ⟨A2, c2, rfl, ho2, hb2⟩; have O2 := Lib.hid ho2; have B2 := Lib.hid (bl_trans B1.out hb2); have X2 := Lib.hid hb2; clear ho2 hb2))
  go_wp2_with (go_at_call 33; ((with_reducible refine (K1.out A1 _ A2 _ _ (O1.out.below X2.out).rd O2.out.rd).mono ?_); rintro e w3 ⟨A3, c3, AA3, CC3, rfl, hf3, hb3⟩; have F3 := Lib.hid hf3; have X3 := Lib.hid hb3; have B3 := Lib.hid (bl_trans B2.out hb3); clear hf3 hb3))
  go_wp2_with (go_at_call 24; ((with_reducible refine (toInts_any A _ xs _ (HR.out.below B3.out) hn).mono ?_); rintro e w4 ⟨A4, c4, rfl, ho4, hb4⟩; have O4 := Lib.hid ho4; have B4 := Lib.hid (bl_trans B3.out hb4); have X4 := Lib.hid hb4; clear ho4 hb4))
  go_wp2_with (go_at_call 24; ((with_reducible refine (toInts_any E _ ys _ (HQ.out.below B4.out) hn2).mono ?_); rintro e w5 ⟨A5, c5, rfl, ho5, hb5⟩; have O5 := Lib.hid ho5; have B5 := Lib.hid (bl_trans B4.out hb5); have X5 := Lib.hid hb5; clear ho5 hb5))
  go_wp2_with (go_at_call 34; ((with_reducible refine (K2.out A4 _ A5 _ _ (O4.out.below X5.out).rd O5.out.rd B5.out).mono ?_); rintro e w6 ⟨A6, c6, AA6, CC6, rfl, hf6, hb6⟩; have F6 := Lib.hid hf6; have X6 := Lib.hid hb6; have B6 := Lib.hid (bl_trans B5.out hb6); clear hf6 hb6))
  go_wp2_with (go_at_call 27; ((with_reducible refine (eqFam_same A6 A3 _ _ H R AA6 AA3 CC6 CC3 _ _ _ F6.out (((F3.out.below X4.out).below X5.out).below X6.out) hH hrw.out).mono ?_); rintro e w7 ⟨rfl, hb7⟩; have X7 := Lib.hid hb7; have B7 := Lib.hid (bl_trans B6.out hb7); clear hb7))
  go_wp2_with (go_at_call 24; ((with_reducible refine (toInts_any A _ xs _ (HR.out.below B7.out) hn).mono ?_); rintro e w8 ⟨A8, c8, rfl, ho8, hb8⟩; have O8 := Lib.hid ho8; have B8 := Lib.hid (bl_trans B7.out hb8); have X8 := Lib.hid hb8; clear ho8 hb8))
  go_wp2_with (go_at_call 26; ((with_reducible refine (eqInts_same A4 A8 _ _ xs _ ((((O4.out.below X5.out).below X6.out).below X7.out).below X8.out).rd O8.out.rd hn4).mono ?_); rintro e w9 ⟨rfl, hb9⟩; have X9 := Lib.hid hb9; have B9 := Lib.hid (bl_trans B8.out hb9); clear hb9))
  go_wp2_with (go_at_call 24; ((with_reducible refine (toInts_any E _ ys _ (HQ.out.below B9.out) hn2).mono ?_); rintro e w10 ⟨A10, c10, rfl, ho10, hb10⟩; have O10 := Lib.hid ho10; have B10 := Lib.hid (bl_trans B9.out hb10); have X10 := Lib.hid hb10; clear ho10 hb10))
  go_wp2_with (go_at_call 26; ((with_reducible refine (eqInts_same A5 A10 _ _ ys _ (((((O5.out.below X6.out).below X7.out).below X8.out).below X9.out).below X10.out).rd O10.out.rd hm4).mono ?_); rintro e w11 ⟨rfl, hb11⟩; have X11 := Lib.hid hb11; have B11 := Lib.hid (bl_trans B10.out hb11); clear hb11))
  have Y6 : Hid (Below w6.heap.size w6 w11) := Lib.hid (bl_trans (bl_trans (bl_trans (bl_trans X7.out X8.out) X9.out) X10.out) X11.out)
  have E4 : Hid (Own w11 w3.heap.size (.slice A4 xs.length c4) xs) := Lib.hid (((O4.out.below X5.out).below X6.out).below Y6.out)
  have E5 : Hid (Own w11 w4.heap.size (.slice A5 ys.length c5) ys) := Lib.hid ((O5.out.below X6.out).below Y6.out)
  have D3 : Hid (Fam w11 w2.heap.size A3 H R AA3 CC3) := Lib.hid ((((F3.out.below X4.out).below X5.out).below X6.out).below Y6.out)
  have D6 : Hid (Fam w11 w5.heap.size A6 H R AA6 CC6) := Lib.hid (F6.out.below Y6.out)
  have S1 : Hid (w.heap.size ≤ w2.heap.size ∧ w2.heap.size ≤ w3.heap.size ∧ w3.heap.size ≤ w4.heap.size ∧ w4.heap.size ≤ w5.heap.size ∧ w5.heap.size ≤ w11.heap.size) := Lib.hid ⟨Nat.le_trans X1.out.size X2.out.size, X3.out.size, X4.out.size, X5.out.size, Nat.le_trans X6.out.size Y6.out.size⟩
  have N1 := Lib.hid (fam_ne F3.out E4.out (Nat.le_refl _))
  have N2 := Lib.hid (fam_ne F3.out E5.out S1.out.2.2.1)
  have N3 := Lib.hid (fam_ne' F6.out O4.out S1.out.2.2.2.1)
  have N4 := Lib.hid (fam_ne' F6.out O5.out (Nat.le_refl _))
  have N5 : Hid (_ ∨ _) := Lib.hid (own_ne' E5.out O4.out (Nat.le_refl _))
  have L3 := Lib.hid F3.out.lt
  go_wp2_with (go_at_call 30; ((with_reducible refine (mark_any A4 c4 _ xs _ _ E4.out hn4 (by omega) (by omega)).mono ?_); rintro e w12 ⟨rfl, ho12, hg12⟩; have B12 := Lib.hid (bl_mark B11.out hg12 E4.out (Nat.le_trans S1.out.1 S1.out.2.1)); have E5b := Lib.hid (E5.out.grown hg12 N5.out); have D3b := Lib.hid (D3.out.grown hg12 N1.out.1 N1.out.2); have D6b := Lib.hid (D6.out.grown hg12 N3.out.1 N3.out.2); have Z12 := Lib.hid hg12.size; clear ho12 hg12))
  go_wp2_with (go_at_call 30; ((with_reducible refine (mark_any A5 c5 _ ys _ _ E5b.out hm4 (by omega) (by omega)).mono ?_); rintro e w13 ⟨rfl, ho13, hg13⟩; have B13 := Lib.hid (bl_mark B12.out hg13 E5b.out (Nat.le_trans S1.out.1 (Nat.le_trans S1.out.2.1 S1.out.2.2.1))); have D3c := Lib.hid (D3b.out.grown hg13 N2.out.1 N2.out.2); have D6c := Lib.hid (D6b.out.grown hg13 N4.out.1 N4.out.2); have Z13 := Lib.hid hg13.size; clear ho13 hg13))
  go_wp2_with (go_at_call 27; ((with_reducible refine (eqFam_same A6 A3 _ _ H R AA6 AA3 CC6 CC3 _ _ _ D6c.out D3c.out hH hrw.out).mono ?_); rintro e w14 ⟨rfl, hb14⟩; have B14 := Lib.hid (bl_trans B13.out hb14); have D3d := Lib.hid (D3c.out.below hb14); have D6d := Lib.hid (D6c.out.below hb14); have Z14 : Hid (w5.heap.size ≤ w14.heap.size) := Lib.hid (Nat.le_trans S1.out.2.2.2.2 (Nat.le_trans Z12.out (Nat.le_trans Z13.out hb14.size))); clear hb14))
  go_wp2_with (go_at_call 28; ((with_reducible refine (markFam_any A6 c6 H _ R AA6 CC6 _ _ D6d.out hH hof (by omega) (by omega)).mono ?_); rintro e w15 ⟨rfl, hm15⟩; have G6 := Lib.hid hm15.1; have U15 := Lib.hid (markFam_below D6d.out Z14.out hm15); have B15 := Lib.hid (bl_mono B14.out B5.out.size U15.out); have D3e := Lib.hid (D3d.out.keep (fun a e => Nat.lt_of_lt_of_le (L3.out.1 a e) (Nat.le_trans S1.out.2.2.1 S1.out.2.2.2.1)) (fun k hk a e => Nat.lt_of_lt_of_le (L3.out.2 k hk a e) (Nat.le_trans S1.out.2.2.1 S1.out.2.2.2.1)) U15.out); clear hm15))
  go_wp2_with (go_at_call 29; ((with_reducible refine (heldFam_any A6 c6 H _ R AA6 CC6 1 _ G6.out hH hof (by omega) (by omega)).mono ?_); rintro e w15b ⟨rfl, rfl⟩))
  go_wp2_with (go_at_call 24; ((with_reducible refine (toInts_any A _ xs _ (HR.out.below B15.out) hn).mono ?_); rintro e w16 ⟨A16, c16, rfl, ho16, hb16⟩; have O16 := Lib.hid ho16; have B16 := Lib.hid (bl_trans B15.out hb16); have X16 := Lib.hid hb16; clear ho16 hb16))
  go_wp2_with (go_at_call 24; ((with_reducible refine (toInts_any E _ ys _ (HQ.out.below B16.out) hn2).mono ?_); rintro e w17 ⟨A17, c17, rfl, ho17, hb17⟩; have O17 := Lib.hid ho17; have B17 := Lib.hid (bl_trans B16.out hb17); have X17 := Lib.hid hb17; clear ho17 hb17))
  go_wp2_with (go_at_call 34; ((with_reducible refine (K2.out A16 _ A17 _ _ (O16.out.below X17.out).rd O17.out.rd B17.out).mono ?_); rintro e w18 ⟨A18, c18, AA18, CC18, rfl, hf18, hb18⟩; have F18 := Lib.hid hf18; have X18 := Lib.hid hb18; have B18 := Lib.hid (bl_trans B17.out hb18); clear hf18 hb18))
  have Y15 : Hid (Below w15.heap.size w15 w18) := Lib.hid (bl_trans (bl_trans X16.out X17.out) X18.out)
  go_wp2_with (go_at_call 27; ((with_reducible refine (eqFam_same A18 A3 _ _ H R AA18 AA3 CC18 CC3 _ _ _ F18.out (D3e.out.below Y15.out) hH hrw.out).mono ?_); rintro e w19 ⟨rfl, hb19⟩; have X19 := Lib.hid hb19; have B19 := Lib.hid (bl_trans B18.out hb19); clear hb19))
  have G19 := Lib.hid ((G6.out.below Y15.out).below X19.out)
  go_wp2_with (go_at_call 29; ((with_reducible refine (heldFam_any A6 c6 H _ R AA6 CC6 1 _ G19.out hH hof (by omega) (by omega)).mono ?_); rintro e w20 ⟨rfl, rfl⟩))
  go_ret
  exact ⟨rfl, B19.out⟩

theorem walkRangeCombos (A : Option Addr) (c : Nat) (xs : List Int) (E : Option Addr) (d : Nat) (ys : List Int) (w : World) (HT : Hid (Tz w.heap.size w)) (hm : xs.length ≤ maxLen) (hr : Rd w A xs) (hm2 : ys.length ≤ maxLen) (hr2 : Rd w E ys) :
    Calls Tryd.prog 8 #[.slice A xs.length c, .slice E ys.length d] w (Fresh (.bool true) w) := by
  by_cases hx : xs.length ≤ 1048576
  · by_cases h2 : ys.length ≤ 1048576
    · exact walkRangeCombos_in A c xs E d ys w HT hr hx hr2 h2
    · exact walkRangeCombos_big2 A c xs E d ys w hx hm2 (by omega)
  · exact walkRangeCombos_big A c xs E d ys w hm hm2 (by omega)

theorem fnExactRangeCombos_met (os : Os) (args : Array Value) : laidMetH Tryd.prog Rows.fnExactRangeCombosRow.laid ((World.doorLaid Tryd.prog 400 os).forCall (fun _ _ => 0) ⟨#[], args, []⟩).memory :=
  laidMetH_of_parts3 (fuel := 8) (laidMet_of_run' 8 (by kernel_rfl) (by kernel_rfl)) (by kernel_rfl) (by kernel_rfl)

set_option maxRecDepth 100000 in
theorem fnExactRangeCombos_lifted (os : Os) (started : os.Started) (H : Type) (enc : TypeId × Value → H) :
    ReturnsInHanded {} Tryd.checked os 8 .any (fun w args => (Rows.fnExactRangeCombosSpec.pre enc Tryd.prog Tryd.f8 [] false w args ∧ laidMetH Tryd.prog Rows.fnExactRangeCombosRow.laid w) ∧ sizedMet enc Tryd.prog Tryd.f8 (OpenSpec.ofChange Rows.fnExactRangeCombosSpec) false w args)
      (Rows.fnExactRangeCombosSpec.post enc Tryd.prog Tryd.f8 false true false false) := by
  refine law_lifted_laid started (by kernel_rfl) Tryd.func8 (by kernel_rfl) rfl (fun ds h => ?_) ?_
    (ChangeSpec.witness_shaped (enc := enc) (C := Tryd.checked) (os := os) (X := fun w _ => laidMetH Tryd.prog Rows.fnExactRangeCombosRow.laid w) false (World.doorLaid Tryd.prog 400 os) #[.slice none 0 0, .slice none 0 0] 8 rfl (World.shaped_of_RefB (by kernel_rfl) (by kernel_rfl)) (by kernel_rfl) (by kernel_rfl) (by kernel_rfl) (fnExactRangeCombos_met os _)) ?_
  · match ds, h with
    | [d0, d1], _ => rfl
  · rw [Tryd.params8]
    intro t ht
    obtain rfl : t = 24 := by simpa using ht
    exact ⟨by kernel_rfl, of_decide_eq_true (by kernel_rfl)⟩
  · intro W base args ds ps hval hA hL hSh
    rw [Tryd.params8] at hA hval
    obtain ⟨v0, v1, d0, d1, p0, p1, rfl, rfl, rfl, h0, h1⟩ := trodAll_two hA
    obtain ⟨A0, c0, xs0, rfl, m0, r0⟩ := open_list (hval 0 24 v0 rfl rfl) h0
    obtain ⟨A1, c1, xs1, rfl, m1, r1⟩ := open_list (hval 1 24 v1 rfl rfl) h1
    rw [MakeChecks.laidMetH_plain _ _ _ (by kernel_rfl)] at hL
    exact walkRangeCombos A0 c0 xs0 A1 c1 xs1 W (Lib.hid (tz_of hL)) m0 r0 m1 r1

theorem fnExactRangeCombos_holds : Rows.FnExactRangeCombosSaid :=
  OpenClaim.holds_of_wide 8 Tryd.f8 rfl rfl rfl rfl rfl rfl rfl ⟨rfl, rfl, rfl, rfl, rfl⟩ rfl rfl rfl rfl rfl (by kernel_rfl) Tryd.func8 (by kernel_rfl)
    (of_decide_eq_true (by kernel_rfl)) (by unfold Func.isWrapper; first | (rw [if_pos (by decide +kernel)]; kernel_rfl) | (rw [if_neg (by decide +kernel)]; exact ⟨rfl, rfl⟩))
    (fun os started H enc _ => fnExactRangeCombos_lifted os started H enc)

/-- The tied card: RangeCombos answers as its model, for all two lists. -/
theorem fnExactRangeCombos_card : Rows.FnExactRangeCombosCardSaid :=
  Claim7.holds_tied_plain_at .later [] [.data] true (true, "bc26f97cd89a4ca2f3e239068703a34373eebc1043810bf7239c68db41b7c6ca") false
    fnExactRangeCombos_holds (fun _ h => by cases h) (by kernel_rfl) (fun _ h => by cases h) fnExactRangeCombos_row_tie rfl ⟨rfl, rfl⟩ (by kernel_rfl) rfl
    (fun f fn hf hfn => by
      obtain rfl : f = 8 := Option.some.inj ((show Tryd.prog.funcNamed "loop.example/g00910/laws.FnExactRangeCombos" = some 8 by kernel_rfl).symm.trans hf) |>.symm
      obtain rfl : fn = Tryd.f8 := (Option.some.inj (Tryd.func8.symm.trans hfn)).symm
      exact ⟨by kernel_rfl, fun j t ht => by
        rw [Tryd.params8] at ht
        have hm : t ∈ [24, 24] := by simpa using Array.mem_of_getElem? ht
        have hall : ([24, 24].all fun u => !Tryd.prog.wantsStandIn u) = true := by kernel_rfl
        exact (show Tryd.prog.wantsStandIn t = false by simpa using List.all_eq_true.1 hall t hm)⟩)
    (by kernel_rfl)

end Go.Proofs.YtjmfecjgomkofabDoor
