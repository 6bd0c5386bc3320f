/-
  math/bits.OnesCount64: how many bits a word has.
-/
import Derived.Test.YtimdgaclmejjhaaBase
namespace Go.Proofs.Ytimdgaclmejjhaa
open Go.RowKit
set_option linter.unusedVariables false

theorem half_and (x d m : Nat) (hx : x < 2 ^ 64) (hm : m < 2 ^ 64) : bits .and .u64 ((x : Int) / (d : Nat)) (m : Nat) = ((x / d &&& m : Nat) : Int) := by
  rw [← Int.natCast_ediv]
  exact u64_and _ _ (Nat.lt_of_le_of_lt (Nat.div_le_self x d) hx) hm
theorem ones1 (x : Nat) (h : x < 2 ^ 64) : IntKind.u64.wrap (bits .and .u64 ((x : Int) / 2) 6148914691236517205 + bits .and .u64 (x : Int) 6148914691236517205) = ((w1 x : Nat) : Int) := by
  have a := half_and x 2 6148914691236517205 h (by decide)
  have b := u64_and x 6148914691236517205 h (by decide)
  have l1 : x / 2 &&& 6148914691236517205 ≤ 6148914691236517205 := Nat.and_le_right
  have l2 : x &&& 6148914691236517205 ≤ 6148914691236517205 := Nat.and_le_right
  simp only [Int.cast_ofNat_Int] at a b
  rw [a, b, ← Int.natCast_add]
  exact wraps_u64 _ (by omega) (by omega)
theorem w1_lt (x : Nat) : w1 x < 2 ^ 64 := by
  have l1 : x / 2 &&& 6148914691236517205 ≤ 6148914691236517205 := Nat.and_le_right
  have l2 : x &&& 6148914691236517205 ≤ 6148914691236517205 := Nat.and_le_right
  unfold w1; omega
theorem ones2 (x : Nat) (h : x < 2 ^ 64) : IntKind.u64.wrap (bits .and .u64 ((x : Int) / 4) 3689348814741910323 + bits .and .u64 (x : Int) 3689348814741910323) = ((w2 x : Nat) : Int) := by
  have a := half_and x 4 3689348814741910323 h (by decide)
  have b := u64_and x 3689348814741910323 h (by decide)
  have l1 : x / 4 &&& 3689348814741910323 ≤ 3689348814741910323 := Nat.and_le_right
  have l2 : x &&& 3689348814741910323 ≤ 3689348814741910323 := Nat.and_le_right
  simp only [Int.cast_ofNat_Int] at a b
  rw [a, b, ← Int.natCast_add]
  exact wraps_u64 _ (by omega) (by omega)
theorem w2_lt (x : Nat) : w2 x ≤ 7378697629483820646 := by
  have l1 : x / 4 &&& 3689348814741910323 ≤ 3689348814741910323 := Nat.and_le_right
  have l2 : x &&& 3689348814741910323 ≤ 3689348814741910323 := Nat.and_le_right
  unfold w2; omega
theorem ones3 (x : Nat) (h : x ≤ 7378697629483820646) : bits .and .u64 (IntKind.u64.wrap ((x : Int) / 16 + (x : Int))) 1085102592571150095 = ((w3 x : Nat) : Int) := by
  have e : IntKind.u64.wrap ((x : Int) / 16 + (x : Int)) = ((x / 16 + x : Nat) : Int) := by
    rw [wraps_u64 _ (by omega) (by omega)]; omega
  rw [e]
  exact u64_and (x / 16 + x) 1085102592571150095 (by omega) (by decide)
theorem ones4 (c d : Nat) (k : Nat) (hd : d = c + c / k) (hlt : d < 1000000000000000000) : IntKind.u64.wrap ((c : Int) + (c : Int) / (k : Nat)) = (d : Int) := by
  rw [← Int.natCast_ediv, ← Int.natCast_add, ← hd]
  exact wraps_u64 _ (by omega) (by omega)
theorem ones5 (f : Nat) (h : f < 1000000000000000000) : bits .and .i64 (wrap64 (f : Int)) 127 = ((f % 128 : Nat) : Int) := by
  have e : wrap64 (f : Int) = (f : Int) := by unfold wrap64; omega
  have k := bits_mask .i64 63 (by decide) (fun n h0 h1 => by rw [IntKind.wrap_i64]; omega) 7 (by decide) (f : Int) (by omega) (by omega)
  have e2 : ((2 : Int) ^ 7 - 1) = 127 := by decide
  have e3 : ((2 : Int) ^ 7) = 128 := by decide
  rw [e2, e3] at k
  rw [e, k]; omega

end Go.Proofs.Ytimdgaclmejjhaa
