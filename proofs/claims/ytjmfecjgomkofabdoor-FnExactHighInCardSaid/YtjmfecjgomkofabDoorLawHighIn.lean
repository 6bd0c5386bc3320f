/-
  The card of the law FnExactHighIn: it returns true for every variant and all two lists of numbers, and leaves the lists as they were: HighIn answers as its model.
  Condition: the variable impl.lowestStraight reads as the program lays it (the card ties it).
-/
import Derived.Test.YtjmfecjgomkofabDoorHighInSpec
import Derived.Test.YtjmfecjgomkofabDoorMark
import Derived.Test.YtjmfecjgomkofabDoorHand
import Derived.Test.YtjmfecjgomkofabDoorCards
import Derived.SevenTiedAt
import Derived.Lib.SmallJoins
namespace Go.Proofs.YtjmfecjgomkofabDoor
open Go.ChangeShapes Go.WideShapes Go.ChangeAt Go.RowKit Go.Joins
set_option linter.unusedVariables false

set_option maxRecDepth 100000 in
set_option maxHeartbeats 400000 in
theorem walkHighIn_big (h l m b : Int) (hi : Bool) (lo : Int) (A : Option Addr) (c : Nat) (xs : List Int) (E : Option Addr) (d : Nat) (ys : List Int) (w : World) (hm : xs.length ≤ maxLen) (hm2 : ys.length ≤ maxLen) (hx : 1048576 < xs.length) :
    Calls Tryd.prog 4 #[vV h l m b hi lo, .slice A xs.length c, .slice E ys.length d] w (Fresh (.bool true) w) := by
  unfold maxLen at *
  have h' : (1048576 : Int) < xs.length := by omega
  skip
  have B0 := Lib.hid (bl_alloc (bl_refl w) (.cells #[.int .i64 h, .int .i64 l, .int .i64 m, .int .i64 b, .bool hi, .int .i64 lo] 37))
  unfold vV
  go_enter Tryd.func4, Tryd.ntmps4
  go_wp2_with fail
  go_ret
  exact ⟨rfl, B0.out⟩
set_option maxRecDepth 100000 in
set_option maxHeartbeats 400000 in
theorem walkHighIn_big2 (h l m b : Int) (hi : Bool) (lo : Int) (A : Option Addr) (c : Nat) (xs : List Int) (E : Option Addr) (d : Nat) (ys : List Int) (w : World) (hm : xs.length ≤ 1048576) (hm2 : ys.length ≤ maxLen) (hx : 1048576 < ys.length) :
    Calls Tryd.prog 4 #[vV h l m b hi lo, .slice A xs.length c, .slice E ys.length d] w (Fresh (.bool true) w) := by
  unfold maxLen at *
  have h' : (1048576 : Int) < ys.length := by omega
  have h2' : (xs.length : Int) ≤ 1048576 := by omega
  have B0 := Lib.hid (bl_alloc (bl_refl w) (.cells #[.int .i64 h, .int .i64 l, .int .i64 m, .int .i64 b, .bool hi, .int .i64 lo] 37))
  unfold vV
  go_enter Tryd.func4, Tryd.ntmps4
  go_wp2_with fail
  go_ret
  exact ⟨rfl, B0.out⟩

set_option maxRecDepth 100000 in
set_option maxHeartbeats 4000000 in
theorem walkHighIn_in (h l m b : Int) (hi : Bool) (lo : Int) (A : Option Addr) (c : Nat) (xs : List Int) (E : Option Addr) (d : Nat) (ys : List Int) (w : World) (HT : Hid (Low w.heap.size w)) (hm64 : i64B m) (hr : Rd w A xs) (hn : xs.length ≤ 1048576) (hr2 : Rd w E ys) (hn2 : ys.length ≤ 1048576) :
    Calls Tryd.prog 4 #[vV h l m b hi lo, .slice A xs.length c, .slice E ys.length d] w (Fresh (.bool true) w) := by
  have HR := Lib.hid hr
  have HQ := Lib.hid hr2
  have hn4 : xs.length ≤ 4000000 := by omega
  have hm4 : ys.length ≤ 4000000 := by omega
  have hn' : (xs.length : Int) ≤ 1048576 := by omega
  have hm' : (ys.length : Int) ≤ 1048576 := by omega
  have N0 := Lib.hid (blk_new w 37 [.int .i64 h, .int .i64 l, .int .i64 m, .int .i64 b, .bool hi, .int .i64 lo])
  have B0 := Lib.hid (bl_alloc (bl_refl w) (.cells #[.int .i64 h, .int .i64 l, .int .i64 m, .int .i64 b, .bool hi, .int .i64 lo] 37))
  have KT := Lib.hid (fun W : World => toVariant_any h l m b hi lo W)
  obtain ⟨p, q, K1, K2⟩ : ∃ (p q : Int), Hid (∀ (A : Option Addr) (c : Nat) (E : Option Addr) (d : Nat) (W : World), Rd W A xs → xs.length ≤ c → Rd W E ys → ys.length ≤ d → Calls Tryd.prog 22 #[vV h l m b hi lo, .slice A xs.length c, .slice E ys.length d] W (Fresh (pairV p q) W)) ∧ Hid (∀ (A : Option Addr) (c : Nat) (E : Option Addr) (d : Nat) (W : World), Below w.heap.size w W → Rd W A xs → Rd W E ys → Calls Tryd.prog 25 #[vV h l m b hi lo, .slice A xs.length c, .slice E ys.length d] W (Fresh (pairV p q) W)) :=
    ⟨_, _, Lib.hid (fun A c E d W h1 hc h2 hc2 => specHighIn_any h l m b hi lo A c xs E d ys W hm64 h1 h2 (by omega) (by omega) hc hc2), Lib.hid (fun A c E d W hb h1 h2 => implHighIn_any h l m b hi lo A c xs E d ys w.heap.size w W HT (Lib.hid hb) (Lib.hid hb.size) hm64 h1 h2 (by omega) (by omega))⟩
  clear hr hr2
  unfold vV at *
  go_enter Tryd.func4, Tryd.ntmps4
  go_wp2_with (go_at_call 23; ((with_reducible refine (KT.out _).mono ?_); rintro e w1 ⟨rfl, hb1⟩; have X1 := Lib.hid hb1; have B1 := Lib.hid (bl_trans B0.out hb1); clear hb1))
  go_wp2_with (go_at_call 24; ((with_reducible refine (toInts_any A _ xs _ (HR.out.below B1.out) hn).mono ?_); rintro e w2 ⟨A2, c2, rfl, ho2, hb2⟩; have O2 := Lib.hid ho2; have B2 := Lib.hid (bl_trans B1.out hb2); have X2 := Lib.hid hb2; clear ho2 hb2))
  go_wp2_with (go_at_call 24; ((with_reducible refine (toInts_any E _ ys _ (HQ.out.below B2.out) hn2).mono ?_); rintro e w3 ⟨A3, c3, rfl, ho3, hb3⟩; have O3 := Lib.hid ho3; have B3 := Lib.hid (bl_trans B2.out hb3); have X3 := Lib.hid hb3; clear ho3 hb3))
  go_wp2_with (go_at_call 22; ((with_reducible refine (K1.out A2 _ A3 _ _ (O2.out.below X3.out).rd (own_cap O2.out) O3.out.rd (own_cap O3.out)).mono ?_); rintro e w4 ⟨rfl, hb4⟩; have X4 := Lib.hid hb4; have B4 := Lib.hid (bl_trans B3.out hb4); clear hb4))
  go_wp2_with (go_at_call 24; ((with_reducible refine (toInts_any A _ xs _ (HR.out.below B4.out) hn).mono ?_); rintro e w5 ⟨A5, c5, rfl, ho5, hb5⟩; have O5 := Lib.hid ho5; have B5 := Lib.hid (bl_trans B4.out hb5); have X5 := Lib.hid hb5; clear ho5 hb5))
  have N5 := Lib.hid (((((N0.out.below X1.out).below X2.out).below X3.out).below X4.out).below X5.out)
  go_wp2_with (go_at_call 24; ((with_reducible refine (toInts_any E _ ys _ (HQ.out.below B5.out) hn2).mono ?_); rintro e w6 ⟨A6, c6, rfl, ho6, hb6⟩; have O6 := Lib.hid ho6; have B6 := Lib.hid (bl_trans B5.out hb6); have X6 := Lib.hid hb6; clear ho6 hb6; have N6 := Lib.hid (N5.out.below X6.out); obtain ⟨q0, _⟩ := N6.out.cell 0 _ rfl; obtain ⟨q1, _⟩ := N6.out.cell 1 _ rfl; obtain ⟨q2, _⟩ := N6.out.cell 2 _ rfl; obtain ⟨q3, _⟩ := N6.out.cell 3 _ rfl; obtain ⟨q4, _⟩ := N6.out.cell 4 _ rfl; obtain ⟨q5, _⟩ := N6.out.cell 5 _ rfl))
  go_wp2_with (go_at_call 23; ((with_reducible refine (KT.out _).mono ?_); rintro e w7 ⟨rfl, hb7⟩; have X7 := Lib.hid hb7; have B7 := Lib.hid (bl_trans B6.out hb7); clear hb7))
  clear q0 q1 q2 q3 q4 q5
  go_wp2_with (go_at_call 25; ((with_reducible refine (K2.out A5 _ A6 _ _ B7.out ((O5.out.below X6.out).below X7.out).rd (O6.out.below X7.out).rd).mono ?_); rintro e w8 ⟨rfl, hb8⟩; have X8 := Lib.hid hb8; have B8 := Lib.hid (bl_trans B7.out hb8); clear hb8))
  go_wp2_with (go_at_call 24; ((with_reducible refine (toInts_any A _ xs _ (HR.out.below B8.out) hn).mono ?_); rintro e w9 ⟨A9, c9, rfl, ho9, hb9⟩; have O9 := Lib.hid ho9; have B9 := Lib.hid (bl_trans B8.out hb9); have X9 := Lib.hid hb9; clear ho9 hb9))
  go_wp2_with (go_at_call 26; ((with_reducible refine (eqInts_same A5 A9 _ _ xs _ ((((O5.out.below X6.out).below X7.out).below X8.out).below X9.out).rd O9.out.rd hn4).mono ?_); rintro e w10 ⟨rfl, hb10⟩; have X10 := Lib.hid hb10; have B10 := Lib.hid (bl_trans B9.out hb10); clear hb10))
  go_wp2_with (go_at_call 24; ((with_reducible refine (toInts_any E _ ys _ (HQ.out.below B10.out) hn2).mono ?_); rintro e w11 ⟨A11, c11, rfl, ho11, hb11⟩; have O11 := Lib.hid ho11; have B11 := Lib.hid (bl_trans B10.out hb11); have X11 := Lib.hid hb11; clear ho11 hb11))
  go_wp2_with (go_at_call 26; ((with_reducible refine (eqInts_same A6 A11 _ _ ys _ (((((O6.out.below X7.out).below X8.out).below X9.out).below X10.out).below X11.out).rd O11.out.rd hm4).mono ?_); rintro e w12 ⟨rfl, hb12⟩))
  go_ret
  exact ⟨rfl, bl_trans B11.out hb12⟩

theorem walkHighIn (h l m b : Int) (hi : Bool) (lo : Int) (A : Option Addr) (c : Nat) (xs : List Int) (E : Option Addr) (d : Nat) (ys : List Int) (w : World) (HT : Hid (Low w.heap.size w)) (hm64 : i64B m) (hm : xs.length ≤ maxLen) (hr : Rd w A xs) (hm2 : ys.length ≤ maxLen) (hr2 : Rd w E ys) :
    Calls Tryd.prog 4 #[vV h l m b hi lo, .slice A xs.length c, .slice E ys.length d] w (Fresh (.bool true) w) := by
  by_cases hx : xs.length ≤ 1048576
  · by_cases h2 : ys.length ≤ 1048576
    · exact walkHighIn_in h l m b hi lo A c xs E d ys w HT hm64 hr hx hr2 h2
    · exact walkHighIn_big2 h l m b hi lo A c xs E d ys w hx hm2 (by omega)
  · exact walkHighIn_big h l m b hi lo A c xs E d ys w hm hm2 (by omega)

theorem fnExactHighIn_met (os : Os) (args : Array Value) : laidMetH Tryd.prog Rows.fnExactHighInRow.laid ((World.doorLaid Tryd.prog 400 os).forCall (fun _ _ => 0) ⟨#[], args, []⟩).memory :=
  laidMetH_of_parts3 (fuel := 8) (laidMet_of_run' 8 (by kernel_rfl) (by kernel_rfl)) (by kernel_rfl) (by kernel_rfl)

set_option maxRecDepth 100000 in
theorem fnExactHighIn_lifted (os : Os) (started : os.Started) (H : Type) (enc : TypeId × Value → H) :
    ReturnsInHanded {} Tryd.checked os 4 .any (fun w args => (Rows.fnExactHighInSpec.pre enc Tryd.prog Tryd.f4 [] false w args ∧ laidMetH Tryd.prog Rows.fnExactHighInRow.laid w) ∧ sizedMet enc Tryd.prog Tryd.f4 (OpenSpec.ofChange Rows.fnExactHighInSpec) false w args)
      (Rows.fnExactHighInSpec.post enc Tryd.prog Tryd.f4 false true false false) := by
  refine law_lifted_vars started (by kernel_rfl) Tryd.func4 (by kernel_rfl) (by kernel_rfl) (fun ds gs h hg => ?_) ?_
    (ChangeSpec.witness_shaped (enc := enc) (C := Tryd.checked) (os := os) (X := fun w _ => laidMetH Tryd.prog Rows.fnExactHighInRow.laid w) false (World.doorLaid Tryd.prog 400 os) #[.agg #[.int .i64 0, .int .i64 0, .int .i64 0, .int .i64 0, .bool false, .int .i64 0], .slice none 0 0, .slice none 0 0] 8 rfl (World.shaped_of_RefB (by kernel_rfl) (by kernel_rfl)) (by kernel_rfl) (by kernel_rfl) (by kernel_rfl) (fnExactHighIn_met os _)) ?_
  · match ds, h, gs, hg with
    | [d0, d1, d2], _, [g0], _ => rfl
  · rw [Tryd.params4]
    intro t ht
    rcases (show t = 37 ∨ t = 24 by simpa using ht) with rfl | rfl <;> exact ⟨by kernel_rfl, of_decide_eq_true (by kernel_rfl)⟩
  · intro W base args ds ps hval hA hL hSh
    rw [Tryd.params4] at hA hval
    obtain ⟨v0, v1, v2, d0, d1, d2, p0, p1, p2, rfl, rfl, rfl, h0, h1, h2⟩ := trodAll_three hA
    obtain ⟨vh, vl, vm, vb, vhi, vlo, rfl, wvh, wvl, wvm, wvb, wvlo⟩ := open_variant (hval 0 37 v0 rfl rfl) h0
    obtain ⟨A1, c1, xs1, rfl, m1, r1⟩ := open_list (hval 1 24 v1 rfl rfl) h1
    obtain ⟨A2, c2, xs2, rfl, m2, r2⟩ := open_list (hval 2 24 v2 rfl rfl) h2
    rw [MakeChecks.laidMetH_plain _ _ _ (by kernel_rfl)] at hL
    exact walkHighIn vh vl vm vb vhi vlo A1 c1 xs1 A2 c2 xs2 W (Lib.hid (low_of hL)) wvm m1 r1 m2 r2

theorem fnExactHighIn_holds : Rows.FnExactHighInSaid :=
  OpenClaim.holds_of_wide 4 Tryd.f4 rfl rfl rfl rfl rfl rfl rfl ⟨rfl, rfl, rfl, rfl, rfl⟩ rfl rfl rfl rfl rfl (by kernel_rfl) Tryd.func4 (by kernel_rfl)
    (of_decide_eq_true (by kernel_rfl)) (by unfold Func.isWrapper; first | (rw [if_pos (by decide +kernel)]; kernel_rfl) | (rw [if_neg (by decide +kernel)]; exact ⟨rfl, rfl⟩))
    (fun os started H enc _ => fnExactHighIn_lifted os started H enc)

/-- The tied card: HighIn answers as its model, for every variant and all two lists. -/
theorem fnExactHighIn_card : Rows.FnExactHighInCardSaid :=
  Claim7.holds_tied_plain_at .later [] [.data] true (true, "bc26f97cd89a4ca2f3e239068703a34373eebc1043810bf7239c68db41b7c6ca") false
    fnExactHighIn_holds (fun _ h => by cases h) (by kernel_rfl) (fun _ h => by cases h) fnExactHighIn_row_tie rfl ⟨rfl, rfl⟩ (by kernel_rfl) rfl
    (fun f fn hf hfn => by
      obtain rfl : f = 4 := Option.some.inj ((show Tryd.prog.funcNamed "loop.example/g00910/laws.FnExactHighIn" = some 4 by kernel_rfl).symm.trans hf) |>.symm
      obtain rfl : fn = Tryd.f4 := (Option.some.inj (Tryd.func4.symm.trans hfn)).symm
      exact ⟨by kernel_rfl, fun j t ht => by
        rw [Tryd.params4] at ht
        have hm : t ∈ [37, 24, 24] := by simpa using Array.mem_of_getElem? ht
        have hall : ([37, 24, 24].all fun u => !Tryd.prog.wantsStandIn u) = true := by kernel_rfl
        exact (show Tryd.prog.wantsStandIn t = false by simpa using List.all_eq_true.1 hall t hm)⟩)
    (by kernel_rfl)

end Go.Proofs.YtjmfecjgomkofabDoor
