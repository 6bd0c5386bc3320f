/-
  The card of the law FnExactShareOf: it returns true for every list of numbers, and leaves it as it was: ShareOf answers as its model.
  Condition: the table math/bits.deBruijn64tab reads as the program lays it (the card ties it).
-/
import Derived.Test.YtjmfecjgomkofabDoorRngShare
import Derived.Test.YtjmfecjgomkofabDoorMark
import Derived.Test.YtjmfecjgomkofabDoorTzLaid
import Derived.Test.YtjmfecjgomkofabDoorCards
import Derived.SevenTiedAt
import Derived.Lib.SmallJoins
namespace Go.Proofs.YtjmfecjgomkofabDoor
open Go.ChangeShapes Go.WideShapes Go.ChangeAt Go.RowKit Go.Joins
set_option linter.unusedVariables false

set_option maxRecDepth 100000 in
set_option maxHeartbeats 400000 in
theorem walkShareOf_big (A : Option Addr) (c : Nat) (xs : List Int) (w : World) (hm : xs.length ≤ maxLen) (h : 1048576 < xs.length) :
    Calls Tryd.prog 9 #[.slice A xs.length c] w (Fresh (.bool true) w) := by
  unfold maxLen at hm
  have h' : (1048576 : Int) < xs.length := by omega
  go_enter Tryd.func9, Tryd.ntmps9
  go_wp2_with fail
  go_ret
  exact ⟨rfl, bl_refl _⟩

set_option maxRecDepth 100000 in
set_option maxHeartbeats 2000000 in
theorem walkShareOf_in (A : Option Addr) (c : Nat) (xs : List Int) (w : World) (HT : Hid (Tz w.heap.size w)) (hr : Rd w A xs) (hn : xs.length ≤ 1048576) :
    Calls Tryd.prog 9 #[.slice A xs.length c] w (Fresh (.bool true) w) := by
  have HR := Lib.hid hr
  have hn4 : xs.length ≤ 4000000 := by omega
  have hn' : (xs.length : Int) ≤ 1048576 := by omega
  have B0 := Lib.hid (bl_refl w)
  obtain ⟨a, b, k, K1, K2⟩ : ∃ (a b k : Int), Hid (∀ (A : Option Addr) (c : Nat) (W : World), Rd W A xs → Calls Tryd.prog 35 #[.slice A xs.length c] W (Fresh (tripV (a, b, k)) W)) ∧ Hid (∀ (A : Option Addr) (c : Nat) (W : World), Rd W A xs → Below w.heap.size w W → Calls Tryd.prog 36 #[.slice A xs.length c] W (Fresh (tripV (a, b, k)) W)) :=
    ⟨(shareR xs).1, (shareR xs).2.1, (shareR xs).2.2, Lib.hid (fun A c W h => specShareOf_any A c xs W h hn4), Lib.hid (fun A c W h hb => implShareOf_any A c xs w.heap.size w W h hn4 HT (Lib.hid hb) (Lib.hid hb.size))⟩
  clear hr
  go_enter Tryd.func9, Tryd.ntmps9
  go_wp2_with (go_at_call 24; ((with_reducible refine (toInts_any A _ xs _ (HR.out.below B0.out) hn).mono ?_); rintro e w1 ⟨A1, c1, rfl, ho1, hb1⟩; have O1 := Lib.hid ho1; have B1 := Lib.hid (bl_trans B0.out hb1); have X1 := Lib.hid hb1; clear ho1 hb1))
  go_wp2_with (go_at_call 35; ((with_reducible refine (K1.out A1 _ _ O1.out.rd).mono ?_); rintro e w2 ⟨rfl, hb2⟩; have B2 := Lib.hid (bl_trans B1.out hb2); clear hb2))
  go_wp2_with (go_at_call 24; ((with_reducible refine (toInts_any A _ xs _ (HR.out.below (bl_alloc B2.out _)) hn).mono ?_); rintro e w3 ⟨A3, c3, rfl, ho3, hb3⟩; have O3 := Lib.hid ho3; have B3 := Lib.hid (bl_trans (bl_alloc B2.out _) hb3); have hz3 : w2.heap.size < w3.heap.size := sz_new hb3; have P0 : Hid (w3.cell? ⟨w2.heap.size, 0, none⟩ = some (.int .i64 a) ∧ w3.cell? ⟨w2.heap.size, 1, none⟩ = some (.int .i64 b)) := Lib.hid ⟨((bcell hb3).1 _ _ (by simp)).trans (by simp [go_sem]), ((bcell hb3).1 _ _ (by simp)).trans (by simp [go_sem])⟩; clear ho3 hb3))
  go_wp2_with (go_at_call 36; ((with_reducible refine (K2.out A3 _ _ O3.out.rd B3.out).mono ?_); rintro e w4 ⟨rfl, hb4⟩; have X4 := Lib.hid hb4; have B4 := Lib.hid (bl_trans B3.out hb4); have q0 := ((bcell hb4).1 w2.heap.size 0 hz3).trans P0.out.1; have q1 := ((bcell hb4).1 w2.heap.size 1 hz3).trans P0.out.2; have hz4 : w2.heap.size < w4.heap.size := Nat.lt_of_lt_of_le hz3 hb4.size; clear hb4))
  go_wp2_with (go_at_call 37; ((with_reducible refine (eqRatio_eq _ _ _).mono ?_); rintro e w5 ⟨rfl, hb5⟩; have X5 := Lib.hid (bl_trans (bl_alloc (bl_refl _) _) hb5); have B5 := Lib.hid (bl_trans (bl_alloc B4.out _) hb5); clear hb5 q0 q1))
  go_wp2_with (go_at_call 24; ((with_reducible refine (toInts_any A _ xs _ (HR.out.below B5.out) hn).mono ?_); rintro e w6 ⟨A6, c6, rfl, ho6, hb6⟩; have O6 := Lib.hid ho6; have B6 := Lib.hid (bl_trans B5.out hb6); have X6 := Lib.hid hb6; clear ho6 hb6))
  go_wp2_with (go_at_call 26; ((with_reducible refine (eqInts_same A3 A6 _ _ xs _ (((O3.out.below X4.out).below X5.out).below X6.out).rd O6.out.rd hn4).mono ?_); rintro e w7 ⟨rfl, hb7⟩))
  go_ret
  exact ⟨rfl, bl_trans B6.out hb7⟩

theorem walkShareOf (A : Option Addr) (c : Nat) (xs : List Int) (w : World) (HT : Hid (Tz w.heap.size w)) (hm : xs.length ≤ maxLen) (hr : Rd w A xs) :
    Calls Tryd.prog 9 #[.slice A xs.length c] w (Fresh (.bool true) w) := by
  by_cases h : xs.length ≤ 1048576
  · exact walkShareOf_in A c xs w HT hr h
  · exact walkShareOf_big A c xs w hm (by omega)

theorem fnExactShareOf_met (os : Os) (args : Array Value) : laidMetH Tryd.prog Rows.fnExactShareOfRow.laid ((World.doorLaid Tryd.prog 400 os).forCall (fun _ _ => 0) ⟨#[], args, []⟩).memory :=
  laidMetH_of_parts3 (fuel := 8) (laidMet_of_run' 8 (by kernel_rfl) (by kernel_rfl)) (by kernel_rfl) (by kernel_rfl)

set_option maxRecDepth 100000 in
theorem fnExactShareOf_lifted (os : Os) (started : os.Started) (H : Type) (enc : TypeId × Value → H) :
    ReturnsInHanded {} Tryd.checked os 9 .any (fun w args => (Rows.fnExactShareOfSpec.pre enc Tryd.prog Tryd.f9 [] false w args ∧ laidMetH Tryd.prog Rows.fnExactShareOfRow.laid w) ∧ sizedMet enc Tryd.prog Tryd.f9 (OpenSpec.ofChange Rows.fnExactShareOfSpec) false w args)
      (Rows.fnExactShareOfSpec.post enc Tryd.prog Tryd.f9 false true false false) := by
  refine law_lifted_laid started (by kernel_rfl) Tryd.func9 (by kernel_rfl) rfl (fun ds h => ?_) ?_
    (ChangeSpec.witness_shaped (enc := enc) (C := Tryd.checked) (os := os) (X := fun w _ => laidMetH Tryd.prog Rows.fnExactShareOfRow.laid w) false (World.doorLaid Tryd.prog 400 os) #[.slice none 0 0] 8 rfl (World.shaped_of_RefB (by kernel_rfl) (by kernel_rfl)) (by kernel_rfl) (by kernel_rfl) (by kernel_rfl) (fnExactShareOf_met os _)) ?_
  · match ds, h with
    | [d0], _ => rfl
  · rw [Tryd.params9]
    intro t ht
    obtain rfl : t = 24 := by simpa using ht
    exact ⟨by kernel_rfl, of_decide_eq_true (by kernel_rfl)⟩
  · intro W base args ds ps hval hA hL hSh
    rw [Tryd.params9] at hA hval
    obtain ⟨v0, d0, rfl, rfl, h0⟩ := trodAll_one hA
    obtain ⟨A0, c0, xs0, rfl, m0, r0⟩ := open_list (hval 0 24 v0 rfl rfl) h0
    rw [MakeChecks.laidMetH_plain _ _ _ (by kernel_rfl)] at hL
    exact walkShareOf A0 c0 xs0 W (Lib.hid (tz_of hL)) m0 r0

theorem fnExactShareOf_holds : Rows.FnExactShareOfSaid :=
  OpenClaim.holds_of_wide 9 Tryd.f9 rfl rfl rfl rfl rfl rfl rfl ⟨rfl, rfl, rfl, rfl, rfl⟩ rfl rfl rfl rfl rfl (by kernel_rfl) Tryd.func9 (by kernel_rfl)
    (of_decide_eq_true (by kernel_rfl)) (by unfold Func.isWrapper; first | (rw [if_pos (by decide +kernel)]; kernel_rfl) | (rw [if_neg (by decide +kernel)]; exact ⟨rfl, rfl⟩))
    (fun os started H enc _ => fnExactShareOf_lifted os started H enc)

/-- The tied card: ShareOf answers as its model, for every list. -/
theorem fnExactShareOf_card : Rows.FnExactShareOfCardSaid :=
  Claim7.holds_tied_plain_at .later [] [.data] true (true, "bc26f97cd89a4ca2f3e239068703a34373eebc1043810bf7239c68db41b7c6ca") false
    fnExactShareOf_holds (fun _ h => by cases h) (by kernel_rfl) (fun _ h => by cases h) fnExactShareOf_row_tie rfl ⟨rfl, rfl⟩ (by kernel_rfl) rfl
    (fun f fn hf hfn => by
      obtain rfl : f = 9 := Option.some.inj ((show Tryd.prog.funcNamed "loop.example/g00910/laws.FnExactShareOf" = some 9 by kernel_rfl).symm.trans hf) |>.symm
      obtain rfl : fn = Tryd.f9 := (Option.some.inj (Tryd.func9.symm.trans hfn)).symm
      exact ⟨by kernel_rfl, fun j t ht => by
        rw [Tryd.params9] at ht
        have hm : t ∈ [24] := by simpa using Array.mem_of_getElem? ht
        have hall : ([24].all fun u => !Tryd.prog.wantsStandIn u) = true := by kernel_rfl
        exact (show Tryd.prog.wantsStandIn t = false by simpa using List.all_eq_true.1 hall t hm)⟩)
    (by kernel_rfl)

end Go.Proofs.YtjmfecjgomkofabDoor
