/-
  The card of the law FnExactCombosWithout: it returns true for every number and every list of numbers, and leaves the list as it was: CombosWithout answers as its model, in new memory, no two combinations of which share any.
  Condition: the table math/bits.deBruijn64tab reads as the program lays it (the card ties it).
-/
import Derived.Test.YtjmfecjgomkofabDoorComBound
import Derived.Test.YtjmfecjgomkofabDoorFamLaw
import Derived.Test.YtjmfecjgomkofabDoorTzLaid
import Derived.Test.YtjmfecjgomkofabDoorCards
import Derived.SevenTiedAt
import Derived.Lib.SmallJoins
namespace Go.Proofs.YtjmfecjgomkofabDoor
open Go.ChangeShapes Go.WideShapes Go.ChangeAt Go.RowKit Go.Joins
set_option linter.unusedVariables false

set_option maxRecDepth 100000 in
set_option maxHeartbeats 400000 in
theorem walkCombosWithout_big (A : Option Addr) (c : Nat) (xs : List Int) (n1 : Int) (w : World) (HT : Hid (Tz w.heap.size w)) (hm : xs.length ≤ maxLen) (h : 1048576 < xs.length) :
    Calls Tryd.prog 6 #[.int .i64 n1, .slice A xs.length c] w (Fresh (.bool true) w) := by
  unfold maxLen at hm
  have h' : (1048576 : Int) < xs.length := by omega
  go_enter Tryd.func6, Tryd.ntmps6
  go_wp2_with fail
  go_ret
  exact ⟨rfl, bl_refl _⟩

set_option maxRecDepth 100000 in
set_option maxHeartbeats 2000000 in
theorem walkCombosWithout_in (A : Option Addr) (c : Nat) (xs : List Int) (n1 : Int) (w : World) (HT : Hid (Tz w.heap.size w)) (hr : Rd w A xs) (hn : xs.length ≤ 1048576) :
    Calls Tryd.prog 6 #[.int .i64 n1, .slice A xs.length c] w (Fresh (.bool true) w) := by
  have HR := Lib.hid hr
  have hn4 : xs.length ≤ 4000000 := by omega
  have hn' : (xs.length : Int) ≤ 1048576 := by omega
  have B0 := Lib.hid (bl_refl w)
  obtain ⟨H, R, ky, hH, hof, hrw, K1, K2⟩ : ∃ (H : Nat) (R : Nat → List Int) (ky : Int), H ≤ 4000000 ∧ offs R H ≤ 4000000 ∧ Hid (∀ h, h < H → (R h).length ≤ 4000000) ∧ Hid (∀ (A : Option Addr) (c : Nat) (W : World), Rd W A xs → Calls Tryd.prog 14 #[.int .i64 n1, .slice A xs.length c] W (NewFam H R ky W)) ∧ Hid (∀ (A : Option Addr) (c : Nat) (W : World), Rd W A xs → Below w.heap.size w W → Calls Tryd.prog 13 #[.int .i64 n1, .slice A xs.length c] W (NewFam H R ky W)) := by
    have hbd := com_bd n1 xs
    refine ⟨(comP n1 xs).length, comR n1 xs, comC n1 xs, by omega, ?_, Lib.hid (fun h hh => ?_), Lib.hid (fun A c W h => specCombosWithout_any n1 A c xs W h hn4), Lib.hid (fun A c W h hb => implCombosWithout_any n1 A c xs w.heap.size w W h hn4 HT (Lib.hid hb) (Lib.hid hb.size))⟩
    · rw [offs_two _ (com_two n1 xs)]; omega
    · rw [com_two]; omega
  have k1 : decide ((1 : Int) + (xs.length : Int) < 0) = false := by simp; omega
  have k2 : decide ((1 : Int) + (offs R H : Int) < 0) = false := by simp; omega
  clear hr
  go_enter Tryd.func6, Tryd.ntmps6
  go_wp2_with (go_at_call 24; ((with_reducible refine (toInts_any A _ xs _ (HR.out.below B0.out) hn).mono ?_); rintro e w1 ⟨A1, c1, rfl, ho1, hb1⟩; have O1 := Lib.hid ho1; have B1 := Lib.hid (bl_trans B0.out hb1); have X1 := Lib.hid hb1; clear ho1 hb1))
  go_wp2_with (go_at_call 14; ((with_reducible refine (K1.out A1 _ _ O1.out.rd).mono ?_); rintro e w2 ⟨A2, c2, AA2, CC2, rfl, ho2, hb2⟩; have O2 := Lib.hid ho2; have X2 := Lib.hid hb2; have B2 := Lib.hid (bl_trans B1.out hb2); clear ho2 hb2))
  go_wp2_with (go_at_call 24; ((with_reducible refine (toInts_any A _ xs _ (HR.out.below B2.out) hn).mono ?_); rintro e w3 ⟨A3, c3, rfl, ho3, hb3⟩; have O3 := Lib.hid ho3; have B3 := Lib.hid (bl_trans B2.out hb3); have X3 := Lib.hid hb3; clear ho3 hb3))
  go_wp2_with (go_at_call 13; ((with_reducible refine (K2.out A3 _ _ O3.out.rd B3.out).mono ?_); rintro e w4 ⟨A4, c4, AA4, CC4, rfl, ho4, hb4⟩; have O4 := Lib.hid ho4; have X4 := Lib.hid hb4; have B4 := Lib.hid (bl_trans B3.out hb4); clear ho4 hb4))
  go_wp2_with (go_at_call 27; ((with_reducible refine (eqFam_same A4 A2 _ _ H R AA4 AA2 CC4 CC2 _ _ _ O4.out ((O2.out.below X3.out).below X4.out) hH hrw.out).mono ?_); rintro e w5 ⟨rfl, hb5⟩; have X5 := Lib.hid hb5; have B5 := Lib.hid (bl_trans B4.out hb5); clear hb5))
  go_wp2_with (go_at_call 24; ((with_reducible refine (toInts_any A _ xs _ (HR.out.below B5.out) hn).mono ?_); rintro e w6 ⟨A6, c6, rfl, ho6, hb6⟩; have O6 := Lib.hid ho6; have B6 := Lib.hid (bl_trans B5.out hb6); have X6 := Lib.hid hb6; clear ho6 hb6))
  go_wp2_with (go_at_call 26; ((with_reducible refine (eqInts_same A3 A6 _ _ xs _ (((O3.out.below X4.out).below X5.out).below X6.out).rd O6.out.rd hn4).mono ?_); rintro e w7 ⟨rfl, hb7⟩; have X7 := Lib.hid hb7; have B7 := Lib.hid (bl_trans B6.out hb7); clear hb7))
  have E7 : Hid (Own w7 w2.heap.size (.slice A3 xs.length c3) xs) := Lib.hid ((((O3.out.below X4.out).below X5.out).below X6.out).below X7.out)
  have D7 : Hid (Fam w7 w1.heap.size A2 H R AA2 CC2) := Lib.hid ((((((O2.out.below X3.out).below X4.out).below X5.out).below X6.out)).below X7.out)
  have G7 : Hid (Fam w7 w3.heap.size A4 H R AA4 CC4) := Lib.hid ((((O4.out.below X5.out).below X6.out)).below X7.out)
  have N1 := Lib.hid (fam_ne O2.out E7.out (Nat.le_refl _))
  have N2 := Lib.hid (fam_ne' G7.out O3.out (Nat.le_refl _))
  have N3 := Lib.hid O2.out.lt
  have Z7 : Hid (w3.heap.size ≤ w7.heap.size) := Lib.hid (Nat.le_trans X4.out.size (Nat.le_trans X5.out.size (Nat.le_trans X6.out.size X7.out.size)))
  go_wp2_with (go_at_call 30; ((with_reducible refine (mark_any A3 c3 _ xs _ _ E7.out hn4 (by omega) (by omega)).mono ?_); rintro e w8 ⟨rfl, ho8, hg8⟩; have B8 := Lib.hid (bl_mark B7.out hg8 E7.out (Nat.le_trans B1.out.size X2.out.size)); have D8 := Lib.hid (D7.out.grown hg8 N1.out.1 N1.out.2); have G8 := Lib.hid (G7.out.grown hg8 N2.out.1 N2.out.2); have Z8 := Lib.hid (Nat.le_trans Z7.out hg8.size); clear ho8 hg8))
  go_wp2_with (go_at_call 27; ((with_reducible refine (eqFam_same A4 A2 _ _ H R AA4 AA2 CC4 CC2 _ _ _ G8.out D8.out hH hrw.out).mono ?_); rintro e w9 ⟨rfl, hb9⟩; have X9 := Lib.hid hb9; have B9 := Lib.hid (bl_trans B8.out hb9); clear hb9))
  have G9 := Lib.hid (G8.out.below X9.out)
  have D9 := Lib.hid (D8.out.below X9.out)
  have Z9 := Lib.hid (Nat.le_trans Z8.out X9.out.size)
  go_wp2_with (go_at_call 28; ((with_reducible refine (markFam_any A4 c4 H _ R AA4 CC4 _ _ G9.out hH hof (by omega) (by omega)).mono ?_); rintro e w10 ⟨rfl, hm10⟩; have F10 := Lib.hid hm10.1; have U10 := Lib.hid (markFam_below G9.out Z9.out hm10); have B10 := Lib.hid (bl_mono B9.out B3.out.size U10.out); have D10 := Lib.hid (D9.out.keep (fun a e => Nat.lt_of_lt_of_le (N3.out.1 a e) X3.out.size) (fun k hk a e => Nat.lt_of_lt_of_le (N3.out.2 k hk a e) X3.out.size) U10.out); clear hm10))
  go_wp2_with (go_at_call 29; ((with_reducible refine (heldFam_any A4 c4 H _ R AA4 CC4 1 _ F10.out hH hof (by omega) (by omega)).mono ?_); rintro e w10b ⟨rfl, rfl⟩))
  go_wp2_with (go_at_call 24; ((with_reducible refine (toInts_any A _ xs _ (HR.out.below B10.out) hn).mono ?_); rintro e w11 ⟨A11, c11, rfl, ho11, hb11⟩; have O11 := Lib.hid ho11; have B11 := Lib.hid (bl_trans B10.out hb11); have X11 := Lib.hid hb11; clear ho11 hb11))
  go_wp2_with (go_at_call 13; ((with_reducible refine (K2.out A11 _ _ O11.out.rd B11.out).mono ?_); rintro e w12 ⟨A12, c12, AA12, CC12, rfl, ho12, hb12⟩; have O12 := Lib.hid ho12; have X12 := Lib.hid hb12; have B12 := Lib.hid (bl_trans B11.out hb12); clear ho12 hb12))
  go_wp2_with (go_at_call 27; ((with_reducible refine (eqFam_same A12 A2 _ _ H R AA12 AA2 CC12 CC2 _ _ _ O12.out ((D10.out.below X11.out).below X12.out) hH hrw.out).mono ?_); rintro e w13 ⟨rfl, hb13⟩; have X13 := Lib.hid hb13; have B13 := Lib.hid (bl_trans B12.out hb13); clear hb13))
  have G13 := Lib.hid (((F10.out.below X11.out).below X12.out).below X13.out)
  go_wp2_with (go_at_call 29; ((with_reducible refine (heldFam_any A4 c4 H _ R AA4 CC4 1 _ G13.out hH hof (by omega) (by omega)).mono ?_); rintro e w14 ⟨rfl, rfl⟩))
  go_ret
  exact ⟨rfl, B13.out⟩

theorem walkCombosWithout (A : Option Addr) (c : Nat) (xs : List Int) (n1 : Int) (w : World) (HT : Hid (Tz w.heap.size w)) (hm : xs.length ≤ maxLen) (hr : Rd w A xs) :
    Calls Tryd.prog 6 #[.int .i64 n1, .slice A xs.length c] w (Fresh (.bool true) w) := by
  by_cases h : xs.length ≤ 1048576
  · exact walkCombosWithout_in A c xs n1 w HT hr h
  · exact walkCombosWithout_big A c xs n1 w HT hm (by omega)

theorem fnExactCombosWithout_met (os : Os) (args : Array Value) : laidMetH Tryd.prog Rows.fnExactCombosWithoutRow.laid ((World.doorLaid Tryd.prog 400 os).forCall (fun _ _ => 0) ⟨#[], args, []⟩).memory :=
  laidMetH_of_parts3 (fuel := 8) (laidMet_of_run' 8 (by kernel_rfl) (by kernel_rfl)) (by kernel_rfl) (by kernel_rfl)

set_option maxRecDepth 100000 in
theorem fnExactCombosWithout_lifted (os : Os) (started : os.Started) (H : Type) (enc : TypeId × Value → H) :
    ReturnsInHanded {} Tryd.checked os 6 .any (fun w args => (Rows.fnExactCombosWithoutSpec.pre enc Tryd.prog Tryd.f6 [] false w args ∧ laidMetH Tryd.prog Rows.fnExactCombosWithoutRow.laid w) ∧ sizedMet enc Tryd.prog Tryd.f6 (OpenSpec.ofChange Rows.fnExactCombosWithoutSpec) false w args)
      (Rows.fnExactCombosWithoutSpec.post enc Tryd.prog Tryd.f6 false true false false) := by
  refine law_lifted_laid started (by kernel_rfl) Tryd.func6 (by kernel_rfl) rfl (fun ds h => ?_) ?_
    (ChangeSpec.witness_shaped (enc := enc) (C := Tryd.checked) (os := os) (X := fun w _ => laidMetH Tryd.prog Rows.fnExactCombosWithoutRow.laid w) false (World.doorLaid Tryd.prog 400 os) #[.int .i64 0, .slice none 0 0] 8 rfl (World.shaped_of_RefB (by kernel_rfl) (by kernel_rfl)) (by kernel_rfl) (by kernel_rfl) (by kernel_rfl) (fnExactCombosWithout_met os _)) ?_
  · match ds, h with
    | [d0, d1], _ => rfl
  · rw [Tryd.params6]
    intro t ht
    rcases (show t = 2 ∨ t = 24 by simpa using ht) with rfl | rfl <;> exact ⟨by kernel_rfl, of_decide_eq_true (by kernel_rfl)⟩
  · intro W base args ds ps hval hA hL hSh
    rw [Tryd.params6] at hA hval
    obtain ⟨v0, v1, d0, d1, p0, p1, rfl, rfl, rfl, h0, h1⟩ := trodAll_two hA
    obtain ⟨n0, rfl, rfl, rfl, wa0⟩ := open_int Tryd.underlying2 (hval 0 2 v0 rfl rfl) h0
    obtain ⟨A1, c1, xs1, rfl, m1, r1⟩ := open_list (hval 1 24 v1 rfl rfl) h1
    rw [MakeChecks.laidMetH_plain _ _ _ (by kernel_rfl)] at hL
    exact walkCombosWithout A1 c1 xs1 n0 W (Lib.hid (tz_of hL)) m1 r1

theorem fnExactCombosWithout_holds : Rows.FnExactCombosWithoutSaid :=
  OpenClaim.holds_of_wide 6 Tryd.f6 rfl rfl rfl rfl rfl rfl rfl ⟨rfl, rfl, rfl, rfl, rfl⟩ rfl rfl rfl rfl rfl (by kernel_rfl) Tryd.func6 (by kernel_rfl)
    (of_decide_eq_true (by kernel_rfl)) (by unfold Func.isWrapper; first | (rw [if_pos (by decide +kernel)]; kernel_rfl) | (rw [if_neg (by decide +kernel)]; exact ⟨rfl, rfl⟩))
    (fun os started H enc _ => fnExactCombosWithout_lifted os started H enc)

/-- The tied card: CombosWithout answers as its model, for every number and every list. -/
theorem fnExactCombosWithout_card : Rows.FnExactCombosWithoutCardSaid :=
  Claim7.holds_tied_plain_at .later [] [.data] true (true, "bc26f97cd89a4ca2f3e239068703a34373eebc1043810bf7239c68db41b7c6ca") false
    fnExactCombosWithout_holds (fun _ h => by cases h) (by kernel_rfl) (fun _ h => by cases h) fnExactCombosWithout_row_tie rfl ⟨rfl, rfl⟩ (by kernel_rfl) rfl
    (fun f fn hf hfn => by
      obtain rfl : f = 6 := Option.some.inj ((show Tryd.prog.funcNamed "loop.example/g00910/laws.FnExactCombosWithout" = some 6 by kernel_rfl).symm.trans hf) |>.symm
      obtain rfl : fn = Tryd.f6 := (Option.some.inj (Tryd.func6.symm.trans hfn)).symm
      exact ⟨by kernel_rfl, fun j t ht => by
        rw [Tryd.params6] at ht
        have hm : t ∈ [2, 24] := by simpa using Array.mem_of_getElem? ht
        have hall : ([2, 24].all fun u => !Tryd.prog.wantsStandIn u) = true := by kernel_rfl
        exact (show Tryd.prog.wantsStandIn t = false by simpa using List.all_eq_true.1 hall t hm)⟩)
    (by kernel_rfl)

end Go.Proofs.YtjmfecjgomkofabDoor
