/-
  Plain facts on fractions: a reduced fraction is the only one of its quotient; subtracting undoes adding, dividing undoes multiplying.
-/
import Derived.Test.YtohhjcnkbifdbaaOps
import Derived.Test.YtohhjcnkbifdbaaDiv
namespace Go.Proofs.Ytohhjcnkbifdbaa

theorem isR_gcd (n d : Int) (h : isR n d = true) : gcdI (absI n) d = 1 := by
  unfold isR at h; simp only [decide_eq_true_eq] at h; exact h.2.2.2.2
/-- With no common divisor, a denominator divides whatever its numerator makes up. -/
theorem dvd_of_frac (p q x y : Int) (hq : 0 < q) (hg : gcdI (absI p) q = 1) (h : p * y = x * q) : q ∣ y := by
  have hc : Nat.Coprime (absI p).toNat q.toNat := by
    unfold gcdI at hg
    have : Nat.gcd (absI p).toNat q.toNat = 1 := by omega
    exact this
  have e : p.natAbs = (absI p).toNat := by have := absI_bd p; unfold absI; split <;> omega
  have h1 : q.natAbs ∣ p.natAbs * y.natAbs := by
    rw [← Int.natAbs_mul, h, Int.natAbs_mul]
    exact Nat.dvd_mul_left _ _
  have e2 : q.natAbs = q.toNat := by omega
  rw [e, e2] at h1
  have h2 : q.toNat ∣ y.natAbs := Nat.Coprime.dvd_of_dvd_mul_left hc.symm h1
  rw [← e2] at h2
  exact Int.natAbs_dvd_natAbs.1 h2
theorem frac_unique (p q x y : Int) (hq : 0 < q) (hy : 0 < y) (hg : gcdI (absI p) q = 1) (hg' : gcdI (absI x) y = 1) (h : p * y = x * q) : p = x ∧ q = y := by
  have h1 := dvd_of_frac p q x y hq hg h
  have h2 := dvd_of_frac x y p q hy hg' h.symm
  have e : q = y := Int.dvd_antisymm (by omega) (by omega) h1 h2
  subst e
  exact ⟨Int.eq_of_mul_eq_mul_right (by omega) h, rfl⟩
theorem rat_unique (N D p q : Int) (hD : 0 < D) (hp : isR p q = true) (h : p * D = N * q) : rat N D = (p, q, 0) := by
  have h1 := ratN_mul N D hD
  have h2 := ratD_mul N D hD
  have h3 := ratD_pos N D hD
  have g := (gcd_facts N D hD).1
  obtain ⟨_, _, hq, _⟩ := isR_bd p q hp
  have e : p * ratD N D = ratN N D * q := by
    apply Int.eq_of_mul_eq_mul_right (a := gcdI (absI N) D) (by omega)
    calc p * ratD N D * gcdI (absI N) D = p * (ratD N D * gcdI (absI N) D) := by rw [Int.mul_assoc]
      _ = p * D := by rw [h2]
      _ = N * q := h
      _ = ratN N D * gcdI (absI N) D * q := by rw [h1]
      _ = ratN N D * q * gcdI (absI N) D := by rw [Int.mul_assoc, Int.mul_assoc, Int.mul_comm q]
  obtain ⟨e1, e2⟩ := frac_unique p q (ratN N D) (ratD N D) (by omega) h3 (isR_gcd p q hp) (rat_gcd N D hD) e
  have hok : ratOk N D = true := by unfold ratOk; rw [← e1, ← e2]; exact hp
  rw [rat_yes N D hok, ← e1, ← e2]
/-- What a sum, a product and their like are, where there is no error. -/
theorem rat_ok (N D : Int) (hD : 0 < D) (h : (rat N D).2.2 = 0) : isR (rat N D).1 (rat N D).2.1 = true ∧ (rat N D).1 * D = N * (rat N D).2.1 := by
  rcases hok : ratOk N D with _ | _
  · rw [rat_no N D hok] at h; simp at h
  · rw [rat_yes N D hok]
    refine ⟨hok, ?_⟩
    have h1 := ratN_mul N D hD
    have h2 := ratD_mul N D hD
    show ratN N D * D = N * ratD N D
    calc ratN N D * D = ratN N D * (ratD N D * gcdI (absI N) D) := by rw [h2]
      _ = ratN N D * gcdI (absI N) D * ratD N D := by rw [Int.mul_comm (ratD N D), ← Int.mul_assoc]
      _ = N * ratD N D := by rw [h1]
theorem opR_ok (ok : Int × Int × Int) (n d m e : Int) (h : (opR ok n d m e).2.2 = 0) : isR n d = true ∧ isR m e = true ∧ opR ok n d m e = ok := by
  rcases h1 : isR n d with _ | _
  · rw [opR_no1 ok n d m e h1] at h; simp at h
  · rcases h2 : isR m e with _ | _
    · rw [opR_no2 ok n d m e h2] at h; simp at h
    · exact ⟨rfl, rfl, (opR_yes ok n d m e h1 h2).symm⟩
/-- Subtracting undoes adding. -/
theorem sub_undoes (n d m e : Int) (T : Int × Int × Int) (hT : T = opR (rat (n * e + m * d) (d * e)) n d m e) (h : T.2.2 = 0) :
    opR (rat (T.1 * e - m * T.2.1) (T.2.1 * e)) T.1 T.2.1 m e = (n, d, 0) := by
  subst hT
  obtain ⟨h1, h2, h3⟩ := opR_ok _ _ _ _ _ h
  rw [h3] at h ⊢
  obtain ⟨_, _, a3, _⟩ := isR_bd n d h1
  obtain ⟨_, _, b3, _⟩ := isR_bd m e h2
  have hD : 0 < d * e := Int.mul_pos (by omega) (by omega)
  obtain ⟨k1, k2⟩ := rat_ok _ _ hD h
  obtain ⟨_, _, c3, _⟩ := isR_bd _ _ k1
  rw [← opR_yes _ _ _ _ _ k1 h2]
  refine rat_unique _ _ n d (Int.mul_pos (by omega) (by omega)) h1 ?_
  generalize (rat (n * e + m * d) (d * e)).1 = x at *
  generalize (rat (n * e + m * d) (d * e)).2.1 = y at *
  have : x * (d * e) = (n * e + m * d) * y := k2
  have e1 : (x * e - m * y) * d = x * (d * e) - m * y * d := by rw [Int.sub_mul, Int.mul_assoc, Int.mul_comm e d]
  rw [e1, this, Int.add_mul]
  have e2 : m * d * y = m * y * d := by rw [Int.mul_assoc, Int.mul_comm d y, ← Int.mul_assoc]
  have e3 : n * e * y = n * (y * e) := by rw [Int.mul_assoc, Int.mul_comm e y]
  rw [e2, e3]
  omega
/-- Sums do not depend on the order. -/
theorem add_comm' (n d m e : Int) : opR (rat (m * d + n * e) (e * d)) m e n d = opR (rat (n * e + m * d) (d * e)) n d m e := by
  unfold opR
  rw [Int.add_comm (m * d), Int.mul_comm e d, Bool.and_comm]
/-- Dividing undoes multiplying. -/
theorem div_undoes (n d m e : Int) (T : Int × Int × Int) (hT : T = opR (rat (n * m) (d * e)) n d m e) (h : T.2.2 = 0) (hm : m ≠ 0) :
    opR (divQ T.1 T.2.1 m e) T.1 T.2.1 m e = (n, d, 0) := by
  subst hT
  obtain ⟨h1, h2, h3⟩ := opR_ok _ _ _ _ _ h
  rw [h3] at h ⊢
  obtain ⟨_, _, a3, _⟩ := isR_bd n d h1
  obtain ⟨_, _, b3, _⟩ := isR_bd m e h2
  have hD : 0 < d * e := Int.mul_pos (by omega) (by omega)
  obtain ⟨k1, k2⟩ := rat_ok _ _ hD h
  obtain ⟨_, _, c3, _⟩ := isR_bd _ _ k1
  rw [← opR_yes _ _ _ _ _ k1 h2]
  generalize (rat (n * m) (d * e)).1 = x at *
  generalize (rat (n * m) (d * e)).2.1 = y at *
  have k3 : n * (y * m) = x * e * d := by
    have e1 : n * (y * m) = n * m * y := by rw [Int.mul_comm y m, Int.mul_assoc]
    have e2 : x * e * d = x * (d * e) := by rw [Int.mul_assoc, Int.mul_comm e d]
    rw [e1, e2, k2]
  rcases Int.lt_trichotomy m 0 with hs | hs | hs
  · rw [divQ_neg' _ _ _ _ hs]
    refine rat_unique _ _ n d ?_ h1 ?_
    · have := Int.mul_pos (a := y) (b := -m) (by omega) (by omega)
      rw [Int.mul_neg] at this; exact this
    · rw [Int.mul_neg, Int.neg_mul, k3]
  · exact absurd hs hm
  · rw [divQ_pos _ _ _ _ hs]
    exact rat_unique _ _ n d (Int.mul_pos (by omega) hs) h1 k3
/-- Comparisons of exchanged ratios are opposite. -/
theorem cmp_swap (n d m e : Int) (h1 : isR n d = true) (h2 : isR m e = true) : cmpR m e n d = (-(cmpR n d m e).1, 0) := by
  unfold cmpR
  rw [h1, h2]
  simp only [Bool.and_self, if_true]
  have : sgn (m * d - n * e) = -sgn (n * e - m * d) := by unfold sgn; split <;> split <;> (try split) <;> omega
  rw [this]

end Go.Proofs.Ytohhjcnkbifdbaa
