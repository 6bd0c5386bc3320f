/-
  OtherCards: the walks of the program's and of the model's function.
-/
import Derived.Test.YtjmfecjgomkofabDoorOtherImpl
import Derived.Test.YtjmfecjgomkofabDoorBase
namespace Go.Proofs.YtjmfecjgomkofabDoor
open Go.RowKit
set_option linter.unusedVariables false

/-- All cards but those of a set. -/
def restM (m : Nat) : Nat := (2 ^ 52 - 1) &&& (2 ^ 64 - 1 - m)
theorem u64_andNot (a b : Nat) (ha : a < 2 ^ 64) (hb : b < 2 ^ 64) : bits .andNot .u64 (a : Int) (b : Int) = ((a &&& (2 ^ 64 - 1 - b) : Nat) : Int) := by
  have h1 : (BitVec.ofInt 64 (a : Int)).toNat = a := by rw [BitVec.ofInt_natCast, BitVec.toNat_ofNat]; exact Nat.mod_eq_of_lt ha
  have h2 : (BitVec.ofInt 64 (b : Int)).toNat = b := by rw [BitVec.ofInt_natCast, BitVec.toNat_ofNat]; exact Nat.mod_eq_of_lt hb
  show IntKind.u64.wrap ((BitVec.ofInt 64 (a : Int) &&& ~~~ BitVec.ofInt 64 (b : Int)).toNat : Int) = _
  rw [BitVec.toNat_and, BitVec.toNat_not, h1, h2]
  have hl : a &&& (2 ^ 64 - 1 - b) ≤ a := Nat.and_le_left
  exact wraps_u64 _ (by omega) (by omega)
theorem restM_lt (m : Nat) : restM m < 2 ^ 53 := by
  have : restM m ≤ 2 ^ 52 - 1 := Nat.and_le_left
  omega
theorem restM_bit (m i : Nat) (hm : m < 2 ^ 64) : (restM m).testBit i = (decide (i < 52) && !m.testBit i) := by
  unfold restM
  have e : 2 ^ 64 - 1 - m = 2 ^ 64 - (m + 1) := by omega
  rw [Nat.testBit_and, Nat.testBit_two_pow_sub_one, e, Nat.testBit_two_pow_sub_succ hm]
  by_cases h : i < 52
  · have : i < 64 := by omega
    simp [h, this]
  · simp [h]
theorem u64_rest (m : Nat) (hm : m < 2 ^ 64) : bits .andNot .u64 4503599627370495 (m : Int) = ((restM m : Nat) : Int) := by
  have h := u64_andNot 4503599627370495 m (by decide) hm
  have e : (2 ^ 52 - 1 : Nat) = 4503599627370495 := by decide
  simp only [Int.cast_ofNat_Int] at h
  unfold restM
  rw [e]
  exact h
theorem rest_others (xs : List Int) (h : cardsB xs = true) : bitsI (restM (maskOf xs)) = othersN 52 xs := by
  have hm := mask_lt xs h
  unfold bitsI othersN
  rw [bitsFrom_filter, List.map_map, List.filter_map]
  have e64 : List.range 64 = List.range 52 ++ (List.range 12).map (52 + ·) := by decide +kernel
  rw [e64, List.filter_append]
  have hz : (((List.range 12).map (52 + ·)).filter (fun i => (restM (maskOf xs)).testBit i)) = [] := by
    rw [List.filter_eq_nil_iff]
    intro i hi
    obtain ⟨j, _, rfl⟩ := List.mem_map.1 hi
    rw [restM_bit _ _ (by omega)]
    have : decide (52 + j < 52) = false := decide_eq_false (by omega)
    rw [this]; simp
  rw [hz, List.append_nil]
  have hf : (List.range 52).filter (fun i => (restM (maskOf xs)).testBit i) = (List.range 52).filter ((fun c => !hasB xs c) ∘ (fun i : Nat => (i : Int))) := by
    apply List.filter_congr
    intro i hi
    have hi' : i < 52 := by simpa using hi
    rw [restM_bit _ _ (by omega)]
    have k := mask_mem xs (i : Int) h (by omega)
    have e : ((i : Int)).toNat = i := by omega
    rw [e] at k
    show _ = !hasB xs (i : Int)
    have k2 : hasB xs (i : Int) = (maskOf xs).testBit i := by
      rw [Bool.eq_iff_iff, k]
      unfold hasB
      simp
    rw [k2]
    simp [hi']
  rw [hf]
  apply List.map_congr_left
  intro i _
  simp

/-- What OtherCards answers. -/
def othersR (xs : List Int) : List Int := if cardsB xs = true then othersN 52 xs else []
theorem othersR_yes {xs : List Int} (h : cardsB xs = true) : othersR xs = othersN 52 xs := by unfold othersR; rw [if_pos h]
theorem othersR_no {xs : List Int} (h : cardsB xs = false) : othersR xs = [] := by unfold othersR; rw [h]; rfl
theorem othersR_len (xs : List Int) : (othersR xs).length ≤ 4000000 := by
  unfold othersR
  split
  · have := othersN_len 52 xs; omega
  · simp
theorem codeC_yes' {xs : List Int} (h : cardsB xs = true) : codeC xs = 0 := by unfold codeC; rw [if_pos h]
theorem codeC_no' {xs : List Int} (h : cardsB xs = false) : codeC xs = 1 := by unfold codeC; rw [h]; rfl

end Go.Proofs.YtjmfecjgomkofabDoor
