/-
  OtherCards: the walks of the program's and of the model's function.
-/
import Derived.Test.YtoidchkgibngiaaDoorOtherImpl
import Derived.Test.YtoidchkgibngiaaDoorSpecAre
namespace Go.Proofs.YtoidchkgibngiaaDoor
open Go.RowKit
set_option linter.unusedVariables false

/-- All cards but those of a set. -/
def restM (m : Nat) : Nat := (2 ^ 52 - 1) &&& (2 ^ 64 - 1 - m)
theorem u64_andNot (a b : Nat) (ha : a < 2 ^ 64) (hb : b < 2 ^ 64) : bits .andNot .u64 (a : Int) (b : Int) = ((a &&& (2 ^ 64 - 1 - b) : Nat) : Int) := by
  have h1 : (BitVec.ofInt 64 (a : Int)).toNat = a := by rw [BitVec.ofInt_natCast, BitVec.toNat_ofNat]; exact Nat.mod_eq_of_lt ha
  have h2 : (BitVec.ofInt 64 (b : Int)).toNat = b := by rw [BitVec.ofInt_natCast, BitVec.toNat_ofNat]; exact Nat.mod_eq_of_lt hb
  show IntKind.u64.wrap ((BitVec.ofInt 64 (a : Int) &&& ~~~ BitVec.ofInt 64 (b : Int)).toNat : Int) = _
  rw [BitVec.toNat_and, BitVec.toNat_not, h1, h2]
  have hl : a &&& (2 ^ 64 - 1 - b) ≤ a := Nat.and_le_left
  exact wraps_u64 _ (by omega) (by omega)
theorem restM_lt (m : Nat) : restM m < 2 ^ 53 := by
  have : restM m ≤ 2 ^ 52 - 1 := Nat.and_le_left
  omega
theorem restM_bit (m i : Nat) (hm : m < 2 ^ 64) : (restM m).testBit i = (decide (i < 52) && !m.testBit i) := by
  unfold restM
  have e : 2 ^ 64 - 1 - m = 2 ^ 64 - (m + 1) := by omega
  rw [Nat.testBit_and, Nat.testBit_two_pow_sub_one, e, Nat.testBit_two_pow_sub_succ hm]
  by_cases h : i < 52
  · have : i < 64 := by omega
    simp [h, this]
  · simp [h]
theorem u64_rest (m : Nat) (hm : m < 2 ^ 64) : bits .andNot .u64 4503599627370495 (m : Int) = ((restM m : Nat) : Int) := by
  have h := u64_andNot 4503599627370495 m (by decide) hm
  have e : (2 ^ 52 - 1 : Nat) = 4503599627370495 := by decide
  simp only [Int.cast_ofNat_Int] at h
  unfold restM
  rw [e]
  exact h
theorem rest_others (xs : List Int) (h : cardsB xs = true) : bitsI (restM (maskOf xs)) = othersN 52 xs := by
  have hm := mask_lt xs h
  unfold bitsI othersN
  rw [bitsFrom_filter, List.map_map, List.filter_map]
  have e64 : List.range 64 = List.range 52 ++ (List.range 12).map (52 + ·) := by decide +kernel
  rw [e64, List.filter_append]
  have hz : (((List.range 12).map (52 + ·)).filter (fun i => (restM (maskOf xs)).testBit i)) = [] := by
    rw [List.filter_eq_nil_iff]
    intro i hi
    obtain ⟨j, _, rfl⟩ := List.mem_map.1 hi
    rw [restM_bit _ _ (by omega)]
    have : decide (52 + j < 52) = false := decide_eq_false (by omega)
    rw [this]; simp
  rw [hz, List.append_nil]
  have hf : (List.range 52).filter (fun i => (restM (maskOf xs)).testBit i) = (List.range 52).filter ((fun c => !hasB xs c) ∘ (fun i : Nat => (i : Int))) := by
    apply List.filter_congr
    intro i hi
    have hi' : i < 52 := by simpa using hi
    rw [restM_bit _ _ (by omega)]
    have k := mask_mem xs (i : Int) h (by omega)
    have e : ((i : Int)).toNat = i := by omega
    rw [e] at k
    show _ = !hasB xs (i : Int)
    have k2 : hasB xs (i : Int) = (maskOf xs).testBit i := by
      rw [Bool.eq_iff_iff, k]
      unfold hasB
      simp
    rw [k2]
    simp [hi']
  rw [hf]
  apply List.map_congr_left
  intro i _
  simp

/-- What OtherCards answers. -/
def othersR (xs : List Int) : List Int := if cardsB xs = true then othersN 52 xs else []
theorem othersR_yes {xs : List Int} (h : cardsB xs = true) : othersR xs = othersN 52 xs := by unfold othersR; rw [if_pos h]
theorem othersR_no {xs : List Int} (h : cardsB xs = false) : othersR xs = [] := by unfold othersR; rw [h]; rfl
theorem othersR_len (xs : List Int) : (othersR xs).length ≤ 4000000 := by
  unfold othersR
  split
  · have := othersN_len 52 xs; omega
  · simp
theorem codeC_yes' {xs : List Int} (h : cardsB xs = true) : codeC xs = 0 := by unfold codeC; rw [if_pos h]
theorem codeC_no' {xs : List Int} (h : cardsB xs = false) : codeC xs = 1 := by unfold codeC; rw [h]; rfl

set_option maxRecDepth 100000 in
set_option maxHeartbeats 1000000 in
theorem implOther_any (A : Option Addr) (c : Nat) (xs : List Int) (B : Nat) (wt w : World) (hr : Rd w A xs) (hn : xs.length ≤ 4000000) (ht : Hid (Tz B wt)) (hB : Hid (Below B wt w)) (hBw : Hid (B ≤ w.heap.size)) :
    Calls Tryd.prog 14 #[.slice A xs.length c] w (NewLC (othersR xs) (codeC xs) w) := by
  have KS := Lib.hid (fun (c : Nat) => setOf_any A c xs w hr hn)
  unfold setV at KS
  by_cases h : cardsB xs = true
  · rw [othersR_yes h, codeC_yes' h]
    rw [setI_yes h, h] at KS
    have hm := mask_lt xs h
    have E1 := Lib.hid (u64_rest (maskOf xs) (by omega))
    have KL : Hid (Calls Tryd.prog 34 #[.int .u64 (restM (maskOf xs) : Nat)] w (NewL (othersN 52 xs) w)) := Lib.hid (by
      have := list_any (restM (maskOf xs)) B wt w (restM_lt _) ht hB hBw
      rwa [rest_others xs h] at this)
    clear hm h hr
    generalize restM (maskOf xs) = r at *
    generalize maskOf xs = m at *
    have e1 := E1.out
    go_enter Tryd.func14, Tryd.ntmps14
    go_wp2_with (first
      | (go_at_call 33; refine (KS.out _).mono ?_; rintro e w1 ⟨rfl, rfl⟩)
      | (go_at_call 34; refine KL.out.mono ?_; rintro e w1 ⟨A1, c1, rfl, ho, hb⟩))
    go_ret2
    exact ⟨_, _, rfl, ho, hb⟩
  · have hf : cardsB xs = false := by simpa using h
    rw [othersR_no hf, codeC_no' hf]
    rw [setI_no hf, hf] at KS
    clear h hf hr
    go_enter Tryd.func14, Tryd.ntmps14
    go_wp2_with (go_at_call 33; refine (KS.out _).mono ?_; rintro e w1 ⟨rfl, rfl⟩)
    go_ret2
    exact ⟨none, 0, rfl, Own.nil _ _, bl_refl _⟩

set_option maxRecDepth 100000 in
set_option maxHeartbeats 400000 in
theorem specOther_any (A : Option Addr) (c : Nat) (xs : List Int) (w : World) (hr : Rd w A xs) (hn : xs.length ≤ 4000000) :
    Calls Tryd.prog 15 #[.slice A xs.length c] w (NewLC (othersR xs) (codeC xs) w) := by
  have K := Lib.hid (fun (c : Nat) => specAre_any A c xs w hr hn)
  have K2 := Lib.hid (fun (c : Nat) (W : World) (hb : Below w.heap.size w W) => others_any A c xs W (hr.below hb) hn)
  by_cases h : cardsB xs = true
  · rw [othersR_yes h, codeC_yes' h]
    rw [h] at K
    clear h hr
    go_enter Tryd.func15, Tryd.ntmps15
    go_wp2_with (go_at_call 25; refine (K.out _).mono ?_; rintro e w1 ⟨rfl, hb1⟩; have B1 := Lib.hid hb1; clear hb1)
    go_wp2_with (go_at_call 35; refine (K2.out _ _ B1.out).mono ?_; rintro e w2 ⟨A2, c2, rfl, ho2, hb2⟩)
    go_ret2
    exact ⟨_, _, rfl, ho2.less B1.out.size, bl_trans B1.out hb2⟩
  · have hf : cardsB xs = false := by simpa using h
    rw [othersR_no hf, codeC_no' hf]
    rw [hf] at K
    clear h hf hr
    go_enter Tryd.func15, Tryd.ntmps15
    go_wp2_with (go_at_call 25; refine (K.out _).mono ?_; rintro e w1 ⟨rfl, hb1⟩)
    go_ret2
    exact ⟨none, 0, rfl, Own.nil _ _, hb1⟩
end Go.Proofs.YtoidchkgibngiaaDoor
