/-
  Plain facts on hands of five: straights, categories and values, in the program's words and in the model's. Nothing of the program is imported.
-/
import Derived.Test.YtcbfmfkahgfjkaaDoorHighPure
namespace Go.Proofs.YtcbfmfkahgfjkaaDoor
set_option linter.unusedSimpArgs false

/-! Straights, in the model's words. -/
def hit (rs : List Int) (t : Int) : Bool := decide (occ rs t = 1 ∧ occ rs (t - 1) = 1 ∧ occ rs (t - 2) = 1 ∧ occ rs (t - 3) = 1 ∧ occ rs (t - 4) = 1)
def wheel (rs : List Int) : Bool := decide (occ rs 0 = 1 ∧ occ rs 1 = 1 ∧ occ rs 2 = 1 ∧ occ rs 3 = 1 ∧ occ rs 12 = 1)
def strFrom (rs : List Int) : Nat → Int
  | 0 => if wheel rs = true then 3 else -1
  | k + 1 => if hit rs ((k : Int) + 4) = true then (k : Int) + 4 else strFrom rs k
def strT (rs : List Int) : Int := strFrom rs 9
theorem hit_perm {rs L : List Int} (h : L.Perm rs) (t : Int) : hit L t = hit rs t := by unfold hit; simp only [occ_perm h]
theorem wheel_perm {rs L : List Int} (h : L.Perm rs) : wheel L = wheel rs := by unfold wheel; simp only [occ_perm h]
theorem strFrom_perm {rs L : List Int} (h : L.Perm rs) : ∀ k, strFrom L k = strFrom rs k
  | 0 => by unfold strFrom; rw [wheel_perm h]
  | k + 1 => by unfold strFrom; rw [hit_perm h, strFrom_perm h k]
theorem mem_five {a b c d e r : Int} (h : occ [a, b, c, d, e] r = 1) : r = a ∨ r = b ∨ r = c ∨ r = d ∨ r = e := by
  by_cases hm : r ∈ [a, b, c, d, e]
  · simpa using hm
  · have h0 : occ [a, b, c, d, e] r = 0 := by rw [occ_count, List.count_eq_zero]; exact hm
    omega
theorem pigeon {a b c d p q r s u : Int} (n1 : p ≠ q) (n2 : p ≠ r) (n3 : p ≠ s) (n4 : p ≠ u) (n5 : q ≠ r) (n6 : q ≠ s) (n7 : q ≠ u) (n8 : r ≠ s) (n9 : r ≠ u) (n0 : s ≠ u)
    (hp : p = a ∨ p = b ∨ p = c ∨ p = d) (hq : q = a ∨ q = b ∨ q = c ∨ q = d) (hr : r = a ∨ r = b ∨ r = c ∨ r = d) (hs : s = a ∨ s = b ∨ s = c ∨ s = d) (hu : u = a ∨ u = b ∨ u = c ∨ u = d) : False := by
  rcases hp with h | h | h | h <;> subst h
  all_goals
    rcases hq with h | h | h | h <;> subst h
    all_goals first
      | exact n1 rfl
      | (rcases hr with h | h | h | h <;> subst h
         all_goals first
           | exact n2 rfl
           | exact n5 rfl
           | (rcases hs with h | h | h | h <;> subst h
              all_goals first
                | exact n3 rfl
                | exact n6 rfl
                | exact n8 rfl
                | (rcases hu with h | h | h | h <;> subst h
                   all_goals first
                     | exact n4 rfl
                     | exact n7 rfl
                     | exact n9 rfl
                     | exact n0 rfl)))
theorem hit_twice (a c d e t : Int) : hit [a, a, c, d, e] t = false := by
  unfold hit
  rw [decide_eq_false_iff_not]
  rintro ⟨h0, h1, h2, h3, h4⟩
  have k0 := mem_five h0
  have k1 := mem_five h1
  have k2 := mem_five h2
  have k3 := mem_five h3
  have k4 := mem_five h4
  exact pigeon (a := a) (b := c) (c := d) (d := e) (p := t) (q := t - 1) (r := t - 2) (s := t - 3) (u := t - 4) (by omega) (by omega) (by omega) (by omega) (by omega) (by omega) (by omega) (by omega) (by omega) (by omega)
    (by omega) (by omega) (by omega) (by omega) (by omega)
theorem wheel_twice (a c d e : Int) : wheel [a, a, c, d, e] = false := by
  unfold wheel
  rw [decide_eq_false_iff_not]
  rintro ⟨h0, h1, h2, h3, h4⟩
  have k0 := mem_five h0
  have k1 := mem_five h1
  have k2 := mem_five h2
  have k3 := mem_five h3
  have k4 := mem_five h4
  exact pigeon (a := a) (b := c) (c := d) (d := e) (p := 0) (q := 1) (r := 2) (s := 3) (u := 12) (by omega) (by omega) (by omega) (by omega) (by omega) (by omega) (by omega) (by omega) (by omega) (by omega)
    (by omega) (by omega) (by omega) (by omega) (by omega)
theorem str_twice (a c d e : Int) : ∀ k, strFrom [a, a, c, d, e] k = -1
  | 0 => by unfold strFrom; rw [wheel_twice]; rfl
  | k + 1 => by unfold strFrom; rw [hit_twice, str_twice a c d e k]; rfl
theorem occ_falling {a b c d e : Int} (h1 : b < a) (h2 : c < b) (h3 : d < c) (h4 : e < d) (r : Int) (h : r = a ∨ r = b ∨ r = c ∨ r = d ∨ r = e) : occ [a, b, c, d, e] r = 1 := by
  rw [occ_five]
  rcases h with rfl | rfl | rfl | rfl | rfl
  all_goals
    repeat (first | rw [if_pos rfl] | rw [if_neg (by omega)])
theorem hit_falling {a b c d e : Int} (h1 : b < a) (h2 : c < b) (h3 : d < c) (h4 : e < d) (t : Int) : hit [a, b, c, d, e] t = decide (a = t ∧ a - e = 4) := by
  unfold hit
  rw [decide_eq_decide]
  constructor
  · rintro ⟨g0, g1, g2, g3, g4⟩
    have k0 := mem_five g0
    have k1 := mem_five g1
    have k2 := mem_five g2
    have k3 := mem_five g3
    have k4 := mem_five g4
    clear g0 g1 g2 g3 g4
    have e0 : a = t := by
      by_cases q : a = t
      · exact q
      · exfalso
        have m0 : t ≤ b := by omega
        have m1 : t - 1 ≤ c := by omega
        have m2 : t - 2 ≤ d := by omega
        have m3 : t - 3 ≤ e := by omega
        omega
    have m1 : t - 1 ≤ b := by omega
    have m2 : t - 2 ≤ c := by omega
    have m3 : t - 3 ≤ d := by omega
    have m4 : t - 4 ≤ e := by omega
    clear k0 k1 k2 k3 k4
    omega
  · rintro ⟨g0, g1⟩
    refine ⟨?_, ?_, ?_, ?_, ?_⟩ <;> exact occ_falling h1 h2 h3 h4 _ (by omega)
theorem wheel_falling {a b c d e : Int} (h1 : b < a) (h2 : c < b) (h3 : d < c) (h4 : e < d) (ha : a < 13) : wheel [a, b, c, d, e] = decide ([a, b, c, d, e] = [12, 3, 2, 1, 0]) := by
  unfold wheel
  rw [decide_eq_decide]
  constructor
  · rintro ⟨g0, g1, g2, g3, g4⟩
    have k0 := mem_five g0
    have k1 := mem_five g1
    have k2 := mem_five g2
    have k3 := mem_five g3
    have k4 := mem_five g4
    clear g0 g1 g2 g3 g4
    have e0 : a = 12 := by omega
    have e1 : b = 3 := by
      by_cases q : 3 < b
      · exfalso
        have m0 : 3 ≤ c := by omega
        have m1 : 2 ≤ d := by omega
        have m2 : 1 ≤ e := by omega
        omega
      · omega
    have m2 : 2 ≤ c := by omega
    have m3 : 1 ≤ d := by omega
    have m4 : 0 ≤ e := by omega
    have e2 : c = 2 := by omega
    have e3 : d = 1 := by omega
    have e4 : e = 0 := by omega
    rw [e0, e1, e2, e3, e4]
  · intro h
    injection h with q0 h; injection h with q1 h; injection h with q2 h; injection h with q3 h; injection h with q4 h
    subst q0 q1 q2 q3 q4
    decide
theorem str_falling {a b c d e : Int} (h1 : b < a) (h2 : c < b) (h3 : d < c) (h4 : e < d) (ha : a < 13) :
    ∀ k : Nat, strFrom [a, b, c, d, e] k = if a - e = 4 ∧ 4 ≤ a ∧ a < (k : Int) + 4 then a else if [a, b, c, d, e] = [12, 3, 2, 1, 0] then 3 else -1
  | 0 => by
    unfold strFrom
    rw [wheel_falling h1 h2 h3 h4 ha, if_neg (by omega : ¬ (a - e = 4 ∧ 4 ≤ a ∧ a < ((0 : Nat) : Int) + 4))]
    simp only [decide_eq_true_eq]
  | k + 1 => by
    unfold strFrom
    rw [hit_falling h1 h2 h3 h4, str_falling h1 h2 h3 h4 ha k]
    simp only [decide_eq_true_eq]
    by_cases q : a = (k : Int) + 4 ∧ a - e = 4
    · rw [if_pos q, if_pos (by omega)]; omega
    · rw [if_neg q]
      by_cases q2 : a - e = 4 ∧ 4 ≤ a ∧ a < (k : Int) + 4
      · rw [if_pos q2, if_pos (by omega)]
      · rw [if_neg q2, if_neg (by omega : ¬ (a - e = 4 ∧ 4 ≤ a ∧ a < ((k + 1 : Nat) : Int) + 4))]

/-! The program's words. -/
def mostK (L : List Int) : Nat := occ L (L.getD 0 0)
def nextK (L : List Int) : Nat := occ L (L.getD (mostK L) 0)
def lowK (L : List Int) : List Int := if L = [12, 3, 2, 1, 0] then [3, 2, 1, 0, 12] else L
def strI (L : List Int) (most : Nat) : Bool := (most == 1 && L.getD 0 0 - L.getD 4 0 == 4) || L == [3, 2, 1, 0, 12]
def catI (L : List Int) (most next : Nat) (one : Bool) : Int :=
  if (strI L most && one) = true then 8 else if most = 4 then 7 else if most = 3 ∧ next = 2 then 6 else if one = true then 5 else if strI L most = true then 4
  else if 3 ≤ most then 3 else if 2 ≤ most ∧ 2 ≤ next then 2 else if 2 ≤ most then 1 else 0
/-! The model's words. -/
def many (rs : List Int) (n : Nat) : Nat := ((List.range 13).filter (fun r : Nat => occ rs (r : Int) == n)).length
def catS (rs : List Int) (one : Bool) : Int :=
  if (decide (0 ≤ strT rs) && one) = true then 8 else if many rs 4 = 1 then 7 else if many rs 3 = 1 ∧ many rs 2 = 1 then 6 else if one = true then 5 else if decide (0 ≤ strT rs) = true then 4
  else if many rs 3 = 1 then 3 else if many rs 2 = 2 then 2 else if many rs 2 = 1 then 1 else 0
def kickS (rs : List Int) : List Int := if strT rs = 3 then [3, 2, 1, 0, 12] else kk rs
theorem many_perm {rs L : List Int} (h : L.Perm rs) (n : Nat) : many L n = many rs n := by unfold many; simp only [occ_perm h]

theorem one_of (f : Nat → Nat) (n : Nat) (a : Nat) (ha : a < 13) (h : ∀ r, r < 13 → ((f r == n) = (r == a))) : ((List.range 13).filter (fun r => f r == n)).length = 1 := by
  rw [List.filter_congr (q := fun r => r == a) (fun r hr => h r (List.mem_range.1 hr))]
  have : ∀ a : Fin 13, ((List.range 13).filter (fun r => r == a.val)).length = 1 := by decide +kernel
  exact this ⟨a, ha⟩
theorem two_of (f : Nat → Nat) (n : Nat) (a b : Nat) (ha : a < 13) (hb : b < 13) (hn : a ≠ b) (h : ∀ r, r < 13 → ((f r == n) = (r == a || r == b))) : ((List.range 13).filter (fun r => f r == n)).length = 2 := by
  rw [List.filter_congr (q := fun r => r == a || r == b) (fun r hr => h r (List.mem_range.1 hr))]
  have : ∀ a b : Fin 13, a ≠ b → ((List.range 13).filter (fun r => r == a.val || r == b.val)).length = 2 := by decide +kernel
  exact this ⟨a, ha⟩ ⟨b, hb⟩ (fun q => hn (by injection q))
theorem none_of (f : Nat → Nat) (n : Nat) (h : ∀ r, r < 13 → ((f r == n) = false)) : ((List.range 13).filter (fun r => f r == n)).length = 0 := by
  rw [List.length_eq_zero_iff, List.filter_eq_nil_iff]
  intro r hr
  rw [h r (List.mem_range.1 hr)]; simp
/-- The numbers of a shape. -/
def Tab (L : List Int) : Prop := (mostK L = 4 ∧ many L 4 = 1) ∨ (mostK L = 3 ∧ nextK L = 2 ∧ many L 4 = 0 ∧ many L 3 = 1 ∧ many L 2 = 1) ∨ (mostK L = 3 ∧ nextK L = 1 ∧ many L 4 = 0 ∧ many L 3 = 1 ∧ many L 2 = 0) ∨
  (mostK L = 2 ∧ nextK L = 2 ∧ many L 4 = 0 ∧ many L 3 = 0 ∧ many L 2 = 2) ∨ (mostK L = 2 ∧ nextK L = 1 ∧ many L 4 = 0 ∧ many L 3 = 0 ∧ many L 2 = 1) ∨ (mostK L = 1 ∧ many L 4 = 0 ∧ many L 3 = 0 ∧ many L 2 = 0)
theorem natA {a : Int} (h : 0 ≤ a ∧ a < 13) : ∃ n : Nat, a = (n : Int) ∧ n < 13 := ⟨a.toNat, by omega, by omega⟩
theorem beq_of_iff {p q : Nat} {b : Bool} (h : p = q ↔ b = true) : (p == q) = b := by
  cases b
  · simp at h ⊢; exact h
  · simp at h ⊢; exact h
end Go.Proofs.YtcbfmfkahgfjkaaDoor
