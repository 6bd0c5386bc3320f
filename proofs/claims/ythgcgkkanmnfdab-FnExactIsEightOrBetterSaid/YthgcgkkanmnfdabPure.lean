/-
  Plain facts on integers: the greatest common divisor. Nothing of the program is imported.
-/
import Derived.Below
import Derived.Lib.Hide
namespace Go.Proofs.Ythgcgkkanmnfdab

theorem ret_int {k : IntKind} {a b : Int} (h : a = b) : Ending.returned (.int k a) = .returned (.int k b) := by rw [h]
/-- Two numbers as a result. -/
abbrev pairV (a b : Int) : Value := .tuple #[.int .i64 a, .int .i64 b]
theorem pair_eq {t : Int × Int} {a b : Int} (h : t = (a, b)) : pairV a b = pairV t.1 t.2 := by rw [h]

/-- A text as a result. -/
abbrev strV (l : List UInt8) : Value := .string ⟨l.toArray⟩
/-- The greatest common divisor of two integers, as an integer. -/
def gcdI (a b : Int) : Int := (Nat.gcd a.toNat b.toNat : Nat)
theorem gcdI_zero (a : Int) (h : 0 ≤ a) : gcdI a 0 = a := by
  unfold gcdI; simp; omega
theorem gcdI_step (a b : Int) (ha : 0 ≤ a) (hb : 0 < b) : gcdI b (a % b) = gcdI a b := by
  unfold gcdI
  have e : (a % b).toNat = a.toNat % b.toNat := by
    have := Int.toNat_emod ha (Int.le_of_lt hb)
    exact this
  rw [e, Nat.gcd_comm b.toNat, ← Nat.gcd_rec, Nat.gcd_comm]
theorem gcdI_nonneg (a b : Int) : 0 ≤ gcdI a b := by unfold gcdI; omega
theorem gcdI_pos (a b : Int) (hb : 0 < b) : 0 < gcdI a b := by
  unfold gcdI
  have : 0 < Nat.gcd a.toNat b.toNat := Nat.gcd_pos_of_pos_right _ (by omega)
  omega
theorem gcdI_le (a b : Int) (hb : 0 < b) : gcdI a b ≤ b := by
  unfold gcdI
  have : Nat.gcd a.toNat b.toNat ≤ b.toNat := Nat.gcd_le_right _ (by omega)
  omega
def absI (n : Int) : Int := if n < 0 then -n else n
theorem absI_neg (n : Int) (h : n < 0) : absI n = -n := by unfold absI; rw [if_pos h]
theorem absI_pos (n : Int) (h : ¬ n < 0) : absI n = n := by unfold absI; rw [if_neg h]
theorem absI_bd (n : Int) : 0 ≤ absI n ∧ n ≤ absI n ∧ -n ≤ absI n ∧ (absI n = n ∨ absI n = -n) := by unfold absI; split <;> omega

/-- Both parts are within their limits. -/
def inR (n d : Int) : Prop := -1000000000 ≤ n ∧ n ≤ 1000000000 ∧ 1 ≤ d ∧ d ≤ 1000000000
/-- The ratio is valid. -/
def isR (n d : Int) : Bool := decide (-1000000000 ≤ n ∧ n ≤ 1000000000 ∧ 1 ≤ d ∧ d ≤ 1000000000 ∧ gcdI (absI n) d = 1)
theorem isR_lo (n d : Int) (h : n < -1000000000) : isR n d = false := by unfold isR; simp; omega
theorem isR_hi (n d : Int) (h : 1000000000 < n) : isR n d = false := by unfold isR; simp; omega
theorem isR_dlo (n d : Int) (h : d < 1) : isR n d = false := by unfold isR; simp; omega
theorem isR_dhi (n d : Int) (h : 1000000000 < d) : isR n d = false := by unfold isR; simp; omega
theorem isR_in (n d : Int) (h1 : -1000000000 ≤ n) (h2 : n ≤ 1000000000) (h3 : 1 ≤ d) (h4 : d ≤ 1000000000) : isR n d = (gcdI (absI n) d == 1) := by
  unfold isR; simp [h1, h2, h3, h4]; rfl

/-- A number lies in a range. -/
def inB (n lo hi : Int) : Bool := decide (lo ≤ n ∧ n ≤ hi)
theorem inB_yes (n lo hi : Int) (h : lo ≤ n) (h' : n ≤ hi) : inB n lo hi = true := by unfold inB; simp [h, h']
theorem inB_lo (n lo hi : Int) (h : n < lo) : inB n lo hi = false := by unfold inB; simp; omega
theorem inB_hi (n lo hi : Int) (h : hi < n) : inB n lo hi = false := by unfold inB; simp; omega

/-- A number lies outside a range. -/
def outB (n lo hi : Int) : Prop := n < lo ∨ hi < n
theorem outB_inB (n lo hi : Int) (h : outB n lo hi) : inB n lo hi = false := by
  unfold outB at h; unfold inB; simp; omega
theorem isR_n (n d : Int) (h : outB n (-1000000000) 1000000000) : isR n d = false := by
  unfold outB at h; unfold isR; simp only [decide_eq_false_iff_not]; omega
theorem isR_d (n d : Int) (h : outB d 1 1000000000) : isR n d = false := by
  unfold outB at h; unfold isR; simp only [decide_eq_false_iff_not]; omega
theorem in_or_out (n lo hi : Int) : (lo ≤ n ∧ n ≤ hi) ∨ outB n lo hi := by unfold outB; omega


/-- The parts of the reduced quotient, before they are held against their limits. -/
def ratN (n d : Int) : Int := n.tdiv (gcdI (absI n) d)
def ratD (n d : Int) : Int := d / gcdI (absI n) d
theorem gcd_facts (n d : Int) (hd : 0 < d) : 0 < gcdI (absI n) d ∧ gcdI (absI n) d ∣ n ∧ gcdI (absI n) d ∣ d := by
  refine ⟨gcdI_pos _ _ hd, ?_, ?_⟩
  · have h : (gcdI (absI n) d) ∣ absI n := by
      have : ((Nat.gcd (absI n).toNat d.toNat : Nat) : Int) ∣ (((absI n).toNat : Nat) : Int) := Int.ofNat_dvd.2 (Nat.gcd_dvd_left _ _)
      have e : (((absI n).toNat : Nat) : Int) = absI n := by have := absI_bd n; omega
      rw [e] at this; exact this
    by_cases hn : n < 0
    · rw [absI_neg n hn] at h ⊢; exact (Int.dvd_neg).1 h
    · rw [absI_pos n hn] at h ⊢; exact h
  · have : ((Nat.gcd (absI n).toNat d.toNat : Nat) : Int) ∣ ((d.toNat : Nat) : Int) := Int.ofNat_dvd.2 (Nat.gcd_dvd_right _ _)
    have e : ((d.toNat : Nat) : Int) = d := by omega
    rw [e] at this; exact this
theorem ratN_mul (n d : Int) (hd : 0 < d) : ratN n d * gcdI (absI n) d = n := Int.tdiv_mul_cancel (gcd_facts n d hd).2.1
theorem ratD_mul (n d : Int) (hd : 0 < d) : ratD n d * gcdI (absI n) d = d := Int.ediv_mul_cancel (gcd_facts n d hd).2.2
theorem ratD_pos (n d : Int) (hd : 0 < d) : 0 < ratD n d := by
  have h := ratD_mul n d hd
  have g := (gcd_facts n d hd).1
  by_cases hz : 0 < ratD n d
  · exact hz
  · exfalso
    have : ratD n d * gcdI (absI n) d ≤ 0 := Int.mul_nonpos_of_nonpos_of_nonneg (by omega) (by omega)
    omega
theorem absI_mul (a g : Int) (hg : 0 < g) : absI (a * g) = absI a * g := by
  by_cases ha : a < 0
  · have : a * g < 0 := Int.mul_neg_of_neg_of_pos ha hg
    rw [absI_neg _ ha, absI_neg _ this, Int.neg_mul]
  · have : 0 ≤ a * g := Int.mul_nonneg (by omega) (by omega)
    rw [absI_pos _ ha, absI_pos _ (by omega)]
theorem gcdI_mul (a b g : Int) (ha : 0 ≤ a) (hb : 0 ≤ b) (hg : 0 < g) : gcdI (a * g) (b * g) = gcdI a b * g := by
  unfold gcdI
  obtain ⟨a', rfl⟩ := Int.eq_ofNat_of_zero_le ha
  obtain ⟨b', rfl⟩ := Int.eq_ofNat_of_zero_le hb
  obtain ⟨g', rfl⟩ := Int.eq_ofNat_of_zero_le (Int.le_of_lt hg)
  have e1 : ((a' : Int) * (g' : Int)).toNat = a' * g' := by rw [← Int.natCast_mul]; rfl
  have e2 : ((b' : Int) * (g' : Int)).toNat = b' * g' := by rw [← Int.natCast_mul]; rfl
  rw [e1, e2, Nat.gcd_mul_right, Int.natCast_mul]; rfl
/-- The parts of the reduced quotient have no common divisor. -/
theorem rat_gcd (n d : Int) (hd : 0 < d) : gcdI (absI (ratN n d)) (ratD n d) = 1 := by
  have g := (gcd_facts n d hd).1
  have h1 := ratN_mul n d hd
  have h2 := ratD_mul n d hd
  have h3 := ratD_pos n d hd
  have h4 := gcdI_mul (absI (ratN n d)) (ratD n d) (gcdI (absI n) d) (absI_bd _).1 (by omega) g
  rw [h2, ← absI_mul _ _ g, h1] at h4
  have h5 : 1 * gcdI (absI n) d = gcdI (absI (ratN n d)) (ratD n d) * gcdI (absI n) d := by rw [Int.one_mul]; exact h4
  exact (Int.eq_of_mul_eq_mul_right (by omega) h5).symm
/-- The reduced quotient is within the limits. -/
def ratOk (n d : Int) : Bool := isR (ratN n d) (ratD n d)
theorem ratOk_in (n d : Int) (hd : 0 < d) : ratOk n d = (inB (ratN n d) (-1000000000) 1000000000 && inB (ratD n d) 1 1000000000) := by
  unfold ratOk
  rcases in_or_out (ratN n d) (-1000000000) 1000000000 with ⟨h1, h2⟩ | h
  · rcases in_or_out (ratD n d) 1 1000000000 with ⟨h3, h4⟩ | h'
    · rw [isR_in _ _ h1 h2 h3 h4, rat_gcd n d hd, inB_yes _ _ _ h1 h2, inB_yes _ _ _ h3 h4]; rfl
    · rw [isR_d _ _ h', outB_inB _ _ _ h', Bool.and_false]
  · rw [isR_n _ _ h, outB_inB _ _ _ h, Bool.false_and]
/-- The ratio of two integers: numerator, denominator, code. -/
def rat (n d : Int) : Int × Int × Int := if ratOk n d = true then (ratN n d, ratD n d, 0) else (0, 0, 3)
theorem rat_yes (n d : Int) (h : ratOk n d = true) : rat n d = (ratN n d, ratD n d, 0) := by unfold rat; rw [if_pos h]
theorem rat_no (n d : Int) (h : ratOk n d = false) : rat n d = (0, 0, 3) := by unfold rat; rw [h]; rfl
theorem ratN_bd (n d : Int) (hd : 0 < d) (h : -4000000000000000000 ≤ n) (h' : n ≤ 4000000000000000000) : -4000000000000000000 ≤ ratN n d ∧ ratN n d ≤ 4000000000000000000 := by
  have g := (gcd_facts n d hd).1
  have h1 := ratN_mul n d hd
  generalize ratN n d = q at *
  generalize gcdI (absI n) d = k at *
  constructor
  · by_cases hq : q < 0
    · have : q * k ≤ q * 1 := Int.mul_le_mul_of_nonpos_left (Int.le_of_lt hq) (by omega)
      omega
    · omega
  · by_cases hq : 0 < q
    · have : q * 1 ≤ q * k := Int.mul_le_mul_of_nonneg_left (by omega) (Int.le_of_lt hq)
      omega
    · omega
theorem ratD_bd (n d : Int) (hd : 0 < d) : ratD n d ≤ d := by
  have g := (gcd_facts n d hd).1
  have h1 := ratD_mul n d hd
  have h2 := ratD_pos n d hd
  have : ratD n d * 1 ≤ ratD n d * gcdI (absI n) d := Int.mul_le_mul_of_nonneg_left (by omega) (Int.le_of_lt h2)
  omega
theorem prod_bd (a b c d : Int) (ha : -c ≤ a) (ha' : a ≤ c) (hb : -d ≤ b) (hb' : b ≤ d) : -(c * d) ≤ a * b ∧ a * b ≤ c * d := by
  have k1 : 0 ≤ (c - a) * (d + b) := Int.mul_nonneg (by omega) (by omega)
  have k2 : 0 ≤ (c + a) * (d - b) := Int.mul_nonneg (by omega) (by omega)
  have k3 : 0 ≤ (c - a) * (d - b) := Int.mul_nonneg (by omega) (by omega)
  have k4 : 0 ≤ (c + a) * (d + b) := Int.mul_nonneg (by omega) (by omega)
  simp only [Int.sub_mul, Int.add_mul, Int.mul_sub, Int.mul_add] at k1 k2 k3 k4
  omega
end Go.Proofs.Ythgcgkkanmnfdab
