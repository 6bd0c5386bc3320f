/-
  Plain facts on the texts of cards. Nothing of the program is imported.
-/
import Derived.Test.YtlpkaflmhdgmmaaBase
import Derived.Lib.Strings
namespace Go.Proofs.Ytlpkaflmhdgmmaa

def rankL : List UInt8 := [50, 51, 52, 53, 54, 55, 56, 57, 84, 74, 81, 75, 65]
def suitL : List UInt8 := [99, 100, 104, 115]
def rankCh (r : Nat) : UInt8 := rankL.getD r 0
def suitCh (s : Nat) : UInt8 := suitL.getD s 0
/-- A card's text. -/
def cardT (x : Int) : List UInt8 := [rankCh (x.toNat / 4), suitCh (x.toNat % 4)]
/-- The text of cards. -/
def textT : List Int → List UInt8
  | [] => []
  | x :: xs => cardT x ++ textT xs
theorem textT_append : ∀ (xs ys : List Int), textT (xs ++ ys) = textT xs ++ textT ys
  | [], ys => rfl
  | x :: xs, ys => by rw [List.cons_append, textT, textT_append xs ys, textT, List.append_assoc]
theorem textT_snoc (xs : List Int) (x : Int) : textT (xs ++ [x]) = textT xs ++ cardT x := by
  rw [textT_append, textT, textT, List.append_nil]
theorem cardT_length (x : Int) : (cardT x).length = 2 := rfl
theorem textT_length : ∀ (xs : List Int), (textT xs).length = 2 * xs.length
  | [] => rfl
  | x :: xs => by rw [textT, List.length_append, cardT_length, textT_length xs, List.length_cons]; omega
theorem cut_card : ∀ r : Fin 13, ∀ s : Fin 4,
    ((rankL.drop r.val).take (r.val + 1 - r.val)) ++ ((suitL.drop s.val).take (s.val + 1 - s.val)) = [rankCh r.val, suitCh s.val] := by decide +kernel
theorem cut_bytes (r s : Nat) (hr : r < 13) (hs : s < 4) :
    (⟨#[50, 51, 52, 53, 54, 55, 56, 57, 84, 74, 81, 75, 65]⟩ : ByteArray).extract r (r + 1) ++ (⟨#[99, 100, 104, 115]⟩ : ByteArray).extract s (s + 1) = ⟨[rankCh r, suitCh s].toArray⟩ := by
  rw [Lib.extract_eq, Lib.extract_eq]
  have h := cut_card ⟨r, hr⟩ ⟨s, hs⟩
  simp only at h
  rw [← h]
  rfl
end Go.Proofs.Ytlpkaflmhdgmmaa
