/-
  The program on a round: what is missing, calls, raises, who has to act, and which rounds are valid.
-/
import Derived.Test.YtlcimofhpphefaaBetB
namespace Go.Proofs.Ytlcimofhpphefaa
open Go.RowKit
set_option linter.unusedVariables false

/-- The lists have one element for each seat, and the bets are chips. -/
structure Sd (b : Bt) : Prop where
  n2 : 2 ≤ b.st.length
  n6 : b.st.length ≤ 6
  l2 : b.bt.length = b.st.length
  l3 : b.pd.length = b.st.length
  l4 : b.fo.length = b.st.length
  l5 : b.ac.length = b.st.length
  s2 : inC b.bt
theorem Ok.sd {b : Bt} (k : Ok b) : Sd b := ⟨k.n2, k.n6, k.l2, k.l3, k.l4, k.l5, k.s2⟩
theorem top_bd {b : Bt} (k : Sd b) : 0 ≤ topI b ∧ topI b ≤ 600000 := maxK_bd b.bt k.s2 _ (Nat.le_refl _)
theorem top_ge {b : Bt} (i : Nat) (hi : i < b.bt.length) : nth b.bt i ≤ topI b := maxK_ge b.bt _ i hi
theorem miss_bd {b : Bt} (k : Ok b) : 0 ≤ missI b ∧ missI b ≤ 600000 := by
  have u1 := top_bd k.sd
  have ht := k.t1
  have h0 := k.t0
  have l2 := k.l2
  have u2 := k.s2 b.tu.toNat (by omega)
  have u3 := top_ge (b := b) b.tu.toNat (by omega)
  unfold missI
  omega
/-- What makes a round one of seats. -/
abbrev SeatsP (b : Bt) : Prop := 2 ≤ b.st.length ∧ b.st.length ≤ 6 ∧ 0 ≤ b.tu ∧ b.tu < b.st.length ∧ b.bt.length = b.st.length ∧ b.pd.length = b.st.length ∧ b.fo.length = b.st.length ∧ b.ac.length = b.st.length
def seatsB (b : Bt) : Bool := decide (2 ≤ b.st.length ∧ b.st.length ≤ 6 ∧ 0 ≤ b.tu ∧ b.tu < b.st.length ∧ b.bt.length = b.st.length ∧ b.pd.length = b.st.length ∧ b.fo.length = b.st.length ∧ b.ac.length = b.st.length) && someF b.fo
theorem seatsB_no {b : Bt} (h : ¬ SeatsP b) : seatsB b = false := by unfold seatsB; rw [decide_eq_false h]; rfl
theorem seatsB_yes {b : Bt} (h : SeatsP b) : seatsB b = someF b.fo := by unfold seatsB; rw [decide_eq_true h]; rfl
/-- The four lengths. -/
def lnB (b : Bt) : Nat → Nat
  | 0 => b.bt.length
  | 1 => b.pd.length
  | 2 => b.fo.length
  | _ => b.ac.length
theorem i4i : (Try.prog.info? 3).map (·.size) = some 1 := by kernel_rfl
end Go.Proofs.Ytlcimofhpphefaa
