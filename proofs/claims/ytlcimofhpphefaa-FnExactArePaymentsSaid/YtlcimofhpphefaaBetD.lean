/-
  The program: which rounds are valid.
-/
import Derived.Test.YtlcimofhpphefaaBetC
namespace Go.Proofs.Ytlcimofhpphefaa
open Go.RowKit
set_option linter.unusedVariables false

/-- The three lists of chips. -/
def lsB (b : Bt) : Nat → List Int
  | 0 => b.st
  | 1 => b.bt
  | _ => b.pd
def slB (L : At5) (b : Bt) : Nat → Value
  | 0 => .slice L.a1 b.st.length L.c1
  | 1 => .slice L.a2 b.bt.length L.c2
  | _ => .slice L.a3 b.pd.length L.c3
theorem i3s : (Try.prog.info? 22).map (·.size) = some 1 := by kernel_rfl
def hcB (b : Bt) : Bool := (sumsB (lsB b 0) && sumsB (lsB b 1) && sumsB (lsB b 2)) && inB (allI b) 0 600000
theorem hcB_no {b : Bt} (k : Nat) (hk : k < 3) (h : sumsB (lsB b k) = false) : hcB b = false := by
  unfold hcB
  rcases (by omega : k = 0 ∨ k = 1 ∨ k = 2) with rfl | rfl | rfl <;> simp [h]
theorem hcB_yes {b : Bt} (h : ∀ k, k < 3 → sumsB (lsB b k) = true) : hcB b = inB (allI b) 0 600000 := by
  unfold hcB; rw [h 0 (by omega), h 1 (by omega), h 2 (by omega)]; rfl
/-- Which rounds are valid, in the program's order. -/
theorem okB_parts {b : Bt} : okB b = (seatsB b && hcB b && inB b.un 1 100000 && inB b.ra 0 4 && inB b.li 0 2) := by
  rcases h : (seatsB b && hcB b && inB b.un 1 100000 && inB b.ra 0 4 && inB b.li 0 2) with _ | _
  · refine ok_no fun k => ?_
    have s : seatsB b = true := by
      rw [seatsB_yes ⟨k.n2, k.n6, k.t0, k.t1, k.l2, k.l3, k.l4, k.l5⟩]
      unfold someF
      obtain ⟨i, hi, e⟩ := k.live
      rw [decide_eq_false (fun q => by have := q i (by rw [k.l4]; exact hi); rw [e] at this; cases this)]; rfl
    have c : hcB b = true := by
      rw [hcB_yes (fun j hj => by
        rcases (by omega : j = 0 ∨ j = 1 ∨ j = 2) with rfl | rfl | rfl
        · exact sumsB_iff.2 k.s1
        · exact sumsB_iff.2 k.s2
        · exact sumsB_iff.2 k.s3)]
      have u1 := sumT_bdC b.st k.s1 _ (Nat.le_refl _)
      have u2 := sumT_bdC b.bt k.s2 _ (Nat.le_refl _)
      have u3 := sumT_bdC b.pd k.s3 _ (Nat.le_refl _)
      exact inB_yes _ _ _ (by unfold allI potI; omega) k.sum
    rw [s, c, inB_yes _ _ _ k.u0 k.u1, inB_yes _ _ _ k.r0 k.r1, inB_yes _ _ _ k.i0 k.i1] at h
    cases h
  · simp only [Bool.and_eq_true] at h
    obtain ⟨⟨⟨⟨h1, h2⟩, h3⟩, h4⟩, h5⟩ := h
    unfold seatsB at h1
    rw [Bool.and_eq_true] at h1
    obtain ⟨h1, h6⟩ := h1
    obtain ⟨n2, n6, t0, t1, l2, l3, l4, l5⟩ := of_decide_eq_true h1
    unfold hcB at h2
    rw [Bool.and_eq_true] at h2
    obtain ⟨h2, h7⟩ := h2
    rw [Bool.and_eq_true, Bool.and_eq_true] at h2
    obtain ⟨⟨g0, g1⟩, g2⟩ := h2
    have h3 : 1 ≤ b.un ∧ b.un ≤ 100000 := by unfold inB at h3; exact of_decide_eq_true h3
    have h4 : 0 ≤ b.ra ∧ b.ra ≤ 4 := by unfold inB at h4; exact of_decide_eq_true h4
    have h5 : 0 ≤ b.li ∧ b.li ≤ 2 := by unfold inB at h5; exact of_decide_eq_true h5
    have h7 : 0 ≤ allI b ∧ allI b ≤ 600000 := by unfold inB at h7; exact of_decide_eq_true h7
    refine ok_yes ⟨n2, n6, t0, t1, l2, l3, l4, l5, ?_, sumsB_iff.1 g0, sumsB_iff.1 g1, sumsB_iff.1 g2, h7.2, h3.1, h3.2, h4.1, h4.2, h5.1, h5.2⟩
    refine Classical.byContradiction fun q => ?_
    unfold someF at h6
    rw [decide_eq_true (fun i hi => by
      rcases e : nthB b.fo i with _ | _
      · exact absurd ⟨i, by omega, e⟩ q
      · rfl)] at h6
    cases h6
end Go.Proofs.Ytlcimofhpphefaa
