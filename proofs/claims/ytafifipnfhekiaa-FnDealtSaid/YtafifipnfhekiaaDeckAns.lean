/-
  What chapter 3's functions of a deck answer; the program's test of a number of cards.
-/
import Derived.Test.YtafifipnfhekiaaDeckIs
import Derived.Test.YtafifipnfhekiaaRearr
import Derived.Test.YtafifipnfhekiaaRow
namespace Go.Proofs.Ytafifipnfhekiaa
open Go.RowKit
set_option linter.unusedVariables false

theorem Row.of_arr {w : World} {g lo : Nat} {xs : List Int} (h : Arr w g xs) (hl : lo ≤ g) : Row w lo (some ⟨g, 0, none⟩) xs := by
  refine ⟨fun a e => ?_, fun h0 => ⟨g, 0, rfl, fun i hi => by rw [Nat.zero_add]; exact h.cell i hi⟩⟩
  obtain rfl := Option.some.inj e
  exact ⟨hl, h.lt⟩
/-- A deck's cells, as an array is loaded. -/
theorem rd_range {w : World} {b off : Nat} {xs : List Int} (h : ∀ i, i < xs.length → w.cell? ⟨b, off + i, none⟩ = some (.int .i64 (nth xs i))) : w.rangeAt b off (ints xs) := fun j v hv => by
  have hj : j < xs.length := by have := (List.getElem?_eq_some_iff.1 hv).1; rwa [ints_length] at this
  rw [ints_get xs j hj] at hv
  injection hv with hv
  rw [h j hj, hv]

theorem isCount_in (n : Int) (h0 : 0 ≤ n) (h1 : n ≤ 52) : inB n 0 52 = true := inB_yes _ _ _ h0 h1
set_option maxHeartbeats 400000 in
theorem isCount_any (n : Int) (w : World) :
    Calls Try.prog 59 #[.int .i64 n] w (Same (.bool (inB n 0 52)) w) := by
  by_cases h1 : n < 0
  · have H := Lib.hid (inB_lo n 0 52 h1)
    go_enter Try.func59, Try.ntmps59
    go_wp2
    go_ret
    exact ⟨ret_bool (by rw [H.out]), rfl⟩
  · by_cases h2 : 52 < n
    · have H := Lib.hid (inB_hi n 0 52 h2)
      have h2' : ¬ n ≤ 52 := by omega
      go_enter Try.func59, Try.ntmps59
      go_wp2
      go_ret
      exact ⟨ret_bool (by rw [H.out]), rfl⟩
    · have H := Lib.hid (isCount_in n (by omega) (by omega))
      go_enter Try.func59, Try.ntmps59
      go_wp2
      go_ret
      exact ⟨ret_bool (by rw [H.out]), rfl⟩
theorem count_bd {n : Int} (h : inB n 0 52 = true) : 0 ≤ n ∧ n ≤ 52 := by unfold inB at h; simpa using h

/-! What the functions answer. -/
def rifR (xs : List Int) : List Int := if deckB xs = true then perm rifF xs else []
def unrR (xs : List Int) : List Int := if deckB xs = true then perm unrF xs else []
def cutR (xs : List Int) (n : Int) : List Int := if (deckB xs && inB n 0 52) = true then perm (cutF n.toNat) xs else []
def restR (xs : List Int) (n : Int) : List Int := if (deckB xs && inB n 0 52) = true then xs.drop n.toNat else []
/-- The code of a function of a deck alone. -/
def codeK (xs : List Int) : Int := if deckB xs = true then 0 else 1
theorem rifR_yes {xs : List Int} (h : deckB xs = true) : rifR xs = perm rifF xs := by unfold rifR; rw [if_pos h]
theorem rifR_no {xs : List Int} (h : deckB xs = false) : rifR xs = [] := by unfold rifR; rw [h]; rfl
theorem unrR_yes {xs : List Int} (h : deckB xs = true) : unrR xs = perm unrF xs := by unfold unrR; rw [if_pos h]
theorem unrR_no {xs : List Int} (h : deckB xs = false) : unrR xs = [] := by unfold unrR; rw [h]; rfl
theorem codeK_yes {xs : List Int} (h : deckB xs = true) : codeK xs = 0 := by unfold codeK; rw [if_pos h]
theorem codeK_no {xs : List Int} (h : deckB xs = false) : codeK xs = 1 := by unfold codeK; rw [h]; rfl
theorem cutR_yes {xs : List Int} {n : Int} (h : deckB xs = true) (h2 : inB n 0 52 = true) : cutR xs n = perm (cutF n.toNat) xs := by unfold cutR; rw [h, h2]; rfl
theorem cutR_no {xs : List Int} (n : Int) (h : deckB xs = false) : cutR xs n = [] := by unfold cutR; rw [h]; rfl
theorem cutR_out (xs : List Int) {n : Int} (h : inB n 0 52 = false) : cutR xs n = [] := by unfold cutR; rw [h, Bool.and_false]; rfl
theorem restR_yes {xs : List Int} {n : Int} (h : deckB xs = true) (h2 : inB n 0 52 = true) : restR xs n = xs.drop n.toNat := by unfold restR; rw [h, h2]; rfl
theorem restR_no {xs : List Int} (n : Int) (h : deckB xs = false) : restR xs n = [] := by unfold restR; rw [h]; rfl
theorem restR_out (xs : List Int) {n : Int} (h : inB n 0 52 = false) : restR xs n = [] := by unfold restR; rw [h, Bool.and_false]; rfl
theorem rifR_len (xs : List Int) : (rifR xs).length ≤ 52 := by unfold rifR; split <;> simp [perm_length]
theorem unrR_len (xs : List Int) : (unrR xs).length ≤ 52 := by unfold unrR; split <;> simp [perm_length]
theorem cutR_len (xs : List Int) (n : Int) : (cutR xs n).length ≤ 52 := by unfold cutR; split <;> simp [perm_length]
theorem restR_len (xs : List Int) (n : Int) : (restR xs n).length ≤ 52 := by
  unfold restR
  split
  · next h =>
    rw [Bool.and_eq_true] at h
    have := ((deck_iff xs).1 h.1).1
    rw [List.length_drop]; omega
  · simp

end Go.Proofs.Ytafifipnfhekiaa
