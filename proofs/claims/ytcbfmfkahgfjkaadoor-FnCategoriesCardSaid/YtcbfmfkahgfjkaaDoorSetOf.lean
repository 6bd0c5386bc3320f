/-
  The set of a list of cards: the program's asSet, setOf and AreCards.
-/
import Derived.Test.YtcbfmfkahgfjkaaDoorList
import Derived.Test.YtcbfmfkahgfjkaaDoorIsCard
import Derived.Laws.BitsLemmas
import Derived.Laws.Bits64
namespace Go.Proofs.YtcbfmfkahgfjkaaDoor
open Go.RowKit
set_option linter.unusedVariables false

theorem wraps_u64 (n : Int) (h₀ : 0 ≤ n) (h₁ : n < 2 ^ 64) : IntKind.u64.wrap n = n := by rw [IntKind.wrap_u64]; omega
theorem u64_and (a b : Nat) (ha : a < 2 ^ 64) (hb : b < 2 ^ 64) : bits .and .u64 (a : Int) (b : Int) = ((a &&& b : Nat) : Int) := (bits_nat .u64 64 (by decide) wraps_u64 a b ha hb).1
theorem u64_or (a b : Nat) (ha : a < 2 ^ 64) (hb : b < 2 ^ 64) : bits .or .u64 (a : Int) (b : Int) = ((a ||| b : Nat) : Int) := (bits_nat .u64 64 (by decide) wraps_u64 a b ha hb).2
theorem pow_lt (n : Nat) (h : n < 52) : 2 ^ n < 2 ^ 52 := Nat.pow_lt_pow_right (by omega) h
/-- A card's bit. -/
def bitOf (x : Int) : Nat := 2 ^ x.toNat
theorem bitOf_lt (x : Int) (h0 : 0 ≤ x) (h1 : x < 52) : bitOf x < 2 ^ 52 := pow_lt _ (by omega)
theorem bitOf_shift (x : Int) (h0 : 0 ≤ x) (h1 : x < 52) : IntKind.u64.wrap (2 ^ x.toNat) = ((bitOf x : Nat) : Int) := by
  have h := bitOf_lt x h0 h1
  have e : (2 : Int) ^ x.toNat = ((bitOf x : Nat) : Int) := by unfold bitOf; simp
  rw [e]
  exact wraps_u64 _ (by omega) (by omega)

set_option maxHeartbeats 400000 in
theorem asSet_any (x : Int) (w : World) (h0 : 0 ≤ x) (h1 : x < 52) :
    Calls Tryd.prog 104 #[.int .i64 x] w (Same (.int .u64 (bitOf x : Nat)) w) := by
  have H := Lib.hid (bitOf_shift x h0 h1)
  go_enter Tryd.func104, Tryd.ntmps104
  go_wp2
  go_ret
  exact ⟨ret_int (by have := H.out; simpa using this), rfl⟩

/-- The set and whether it is one, as a result. -/
def setI (xs : List Int) : Int := if cardsB xs = true then (maskOf xs : Int) else 0
abbrev setV (xs : List Int) : Value := .tuple #[.int .u64 (setI xs), .bool (cardsB xs)]
theorem set_ret {xs : List Int} {n : Int} {b : Bool} (hb : cardsB xs = b) (hn : setI xs = n) : Ending.returned (.tuple #[.int .u64 n, .bool b]) = .returned (setV xs) := by rw [← hb, ← hn]
theorem setI_no {xs : List Int} (h : cardsB xs = false) : setI xs = 0 := by unfold setI; rw [h]; rfl
theorem setI_yes {xs : List Int} (h : cardsB xs = true) : setI xs = (maskOf xs : Int) := by unfold setI; rw [if_pos h]
/-- Whether the next card lies in the set: its bit. -/
theorem mask_and (xs : List Int) (x : Int) (h : cardsB xs = true) (h0 : 0 ≤ x) (h1 : x < 52) : bits .and .u64 (maskOf xs : Nat) (bitOf x : Nat) = ((maskOf xs &&& bitOf x : Nat) : Int) ∧ (maskOf xs &&& bitOf x = 0 ↔ x ∉ xs) := by
  have hm := mask_lt xs h
  have hb := bitOf_lt x h0 h1
  refine ⟨u64_and _ _ (by omega) (by omega), ?_⟩
  have k := mask_mem xs x h h0
  constructor
  · intro e hx
    have t := k.2 hx
    have : (maskOf xs &&& bitOf x).testBit x.toNat = true := by rw [Nat.testBit_and, t]; unfold bitOf; rw [testBit_one_shift]; simp
    rw [e] at this
    simp at this
  · intro hx
    apply Nat.eq_of_testBit_eq
    intro i
    rw [Nat.testBit_and, Nat.zero_testBit]
    unfold bitOf
    rw [testBit_one_shift]
    by_cases e : x.toNat = i
    · subst e
      have : (maskOf xs).testBit x.toNat = false := by
        by_cases c : (maskOf xs).testBit x.toNat = true
        · exact absurd (k.1 c) hx
        · simpa using c
      rw [this]; rfl
    · simp [e]
theorem mask_next (xs : List Int) (k : Nat) (hk : k < xs.length) (h : cardsB (xs.take k) = true) (h0 : 0 ≤ nth xs k) (h1 : nth xs k < 52) :
    bits .or .u64 (maskOf (xs.take k) : Nat) (bitOf (nth xs k) : Nat) = ((maskOf (xs.take (k + 1)) : Nat) : Int) := by
  have hm := mask_lt (xs.take k) h
  have hb := bitOf_lt _ h0 h1
  rw [u64_or _ _ (by omega) (by omega), take_nth xs k hk, mask_snoc]; rfl

/-- ErrInvalid where the list is none of cards. -/
def codeC (xs : List Int) : Int := if cardsB xs = true then 0 else 1
set_option maxRecDepth 100000 in
set_option maxHeartbeats 1000000 in
theorem setOf_any (A : Option Addr) (c : Nat) (xs : List Int) (w : World) (hr : Rd w A xs) (hn : xs.length ≤ 4000000) :
    Calls Tryd.prog 95 #[.slice A xs.length c] w (Same (setV xs) w) := by
  have HR := Lib.hid hr
  clear hr
  go_enter Tryd.func95, Tryd.ntmps95
  go_wp2_with fail
  go_loop [4, 10] (fun m i => ∃ k : Nat, k ≤ xs.length ∧ i = .int .i64 k ∧ m = .int .u64 (maskOf (xs.take k) : Nat) ∧ Hid (cardsB (xs.take k) = true)) (fun _ i => xs.length - (intOf i).toNat)
  case atStart => exact ⟨0, Nat.zero_le _, rfl, rfl, Lib.hid (by rw [List.take_zero]; exact cards_nil)⟩
  case round =>
    obtain ⟨k, hk, rfl, rfl, hs⟩ := hrel
    by_cases hlt : k < xs.length
    · obtain ⟨b, off, rfl, hc⟩ := HR.out.at_ (bl_refl _) k hlt
      have hlt' : (k : Int) < xs.length := by omega
      have hmem := nth_mem xs k hlt
      have HT : Hid (nth xs k ∈ xs.take k → cardsB xs = false) := Lib.hid (fun h => by rw [nth_eq xs k hlt] at h; exact cards_no_twice xs k hlt h)
      have HX := Lib.hid (mask_next xs k hlt hs.out)
      by_cases hx : 0 ≤ nth xs k ∧ nth xs k < 52
      · obtain ⟨h0, h1⟩ := hx
        have HC := Lib.hid (take_nth xs k hlt)
        obtain ⟨x, ex⟩ : ∃ x, x = nth xs k := ⟨_, rfl⟩
        rw [← ex] at hc HX HC h0 h1 hmem HT
        have M := mask_and (xs.take k) x hs.out h0 h1
        have HM := Lib.hid M.2
        have e1 := M.1
        have e2 := HX.out h0 h1
        clear M ex
        by_cases hin : x ∈ xs.take k
        · have HN := Lib.hid (HT.out hin)
          have q0 : ((((maskOf (xs.take k) &&& bitOf x : Nat) : Int)) == 0) = false := by
            have : maskOf (xs.take k) &&& bitOf x ≠ 0 := fun e => (HM.out.1 e) hin
            simp; omega
          clear hin hmem HC
          go_wp2_with (first | (go_at_call 103; refine (isCard_yes _ _ h0 h1).mono ?_; rintro e w1 ⟨rfl, rfl⟩) | (go_at_call 104; refine (asSet_any _ _ h0 h1).mono ?_; rintro e w1 ⟨rfl, rfl⟩))
          go_ret2
          exact ⟨set_ret HN.out (setI_no HN.out), rfl⟩
        · have q0 : maskOf (xs.take k) &&& bitOf x = 0 := HM.out.2 hin
          have HN : Hid (cardsB (xs.take (k + 1)) = true) := Lib.hid (by rw [HC.out]; exact cards_snoc _ _ hs.out h0 h1 hin)
          clear hin hmem HC
          go_wp2_with (first | (go_at_call 103; refine (isCard_yes _ _ h0 h1).mono ?_; rintro e w1 ⟨rfl, rfl⟩) | (go_at_call 104; refine (asSet_any _ _ h0 h1).mono ?_; rintro e w1 ⟨rfl, rfl⟩))
          go_round
          case rel => exact ⟨k + 1, by omega, by go_num, rfl, HN⟩
          case measure => simp [intOf]; omega
      · have hx' : nth xs k < 0 ∨ 52 ≤ nth xs k := by omega
        have HN := Lib.hid (cards_no_out xs (nth xs k) hmem hx)
        have HO := Lib.hid hx'
        clear hx hx' hmem
        go_wp2_with (go_at_call 103; refine (isCard_no _ _ HO.out).mono ?_; rintro e w1 ⟨rfl, rfl⟩)
        go_ret2
        exact ⟨set_ret HN.out (setI_no HN.out), rfl⟩
    · obtain rfl : k = xs.length := by omega
      have HF := hs.out
      rw [take_len] at HF
      have HN := Lib.hid HF
      clear HF
      go_wp2_with fail
      go_ret2
      exact ⟨set_ret HN.out (by rw [setI_yes HN.out]), rfl⟩

set_option maxHeartbeats 400000 in
theorem implAre_any (A : Option Addr) (c : Nat) (xs : List Int) (w : World) (hr : Rd w A xs) (hn : xs.length ≤ 4000000) :
    Calls Tryd.prog 73 #[.slice A xs.length c] w (Same (.bool (cardsB xs)) w) := by
  have K := Lib.hid (fun (c : Nat) => setOf_any A c xs w hr hn)
  clear hr
  go_enter Tryd.func73, Tryd.ntmps73
  go_wp2_with (go_at_call 95; refine (K.out _).mono ?_; rintro e w1 ⟨rfl, rfl⟩)
  go_ret
  exact ⟨rfl, rfl⟩

end Go.Proofs.YtcbfmfkahgfjkaaDoor
