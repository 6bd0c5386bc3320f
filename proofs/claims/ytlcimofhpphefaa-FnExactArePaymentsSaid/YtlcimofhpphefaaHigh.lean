/-
  Put together: HighPure, HighCat, HighTab
-/
import Derived.Test.YtlcimofhpphefaaBase

/-! Plain facts on hands of five: how often ranks occur, the ranks in the order of kickers, shapes, straights. Nothing of the program is imported. -/
namespace Go.Proofs.Ytlcimofhpphefaa
set_option linter.unusedSimpArgs false

/-! How often a rank occurs, and the order of kickers. -/
def occ (rs : List Int) (r : Int) : Nat := cnt (fun x => x == r) rs
theorem occ_count (rs : List Int) (r : Int) : occ rs r = rs.count r := by
  unfold occ cnt; rw [List.count, List.countP_eq_length_filter]
theorem occ_perm {rs L : List Int} (h : L.Perm rs) (r : Int) : occ L r = occ rs r := by
  rw [occ_count, occ_count]; exact h.count_eq r
theorem occ_le (rs : List Int) (r : Int) : occ rs r ≤ rs.length := cnt_le _ _
theorem occ_five (a b c d e r : Int) : occ [a, b, c, d, e] r = (if a = r then 1 else 0) + (if b = r then 1 else 0) + (if c = r then 1 else 0) + (if d = r then 1 else 0) + (if e = r then 1 else 0) := by
  rw [occ_count]
  simp only [List.count_cons, List.count_nil, beq_iff_eq]
  omega
/-- x may stand before y. -/
def leK (rs : List Int) (x y : Int) : Prop := occ rs y < occ rs x ∨ (occ rs x = occ rs y ∧ y ≤ x)
/-- The steps of the model: how often, and which rank. -/
def steps : List (Nat × Nat) := (List.range 4).flatMap fun i => (List.range 13).map fun j => (4 - i, 12 - j)
def piece (rs : List Int) (p : Nat × Nat) : List Int := if occ rs (p.2 : Int) = p.1 then List.replicate p.1 (p.2 : Int) else []
def runK (rs : List Int) (m : Nat) : List Int := (steps.take m).flatMap (piece rs)
/-- The ranks in the order of kickers. -/
def kk (rs : List Int) : List Int := runK rs 52
/-- Ranks of cards. -/
def ranksOk (rs : List Int) : Prop := ∀ r ∈ rs, 0 ≤ r ∧ r < 13
theorem occ_out {rs : List Int} (h : ranksOk rs) (x : Int) (hx : ¬ (0 ≤ x ∧ x < 13)) : occ rs x = 0 := by
  rw [occ_count, List.count_eq_zero]
  exact fun hm => hx (h x hm)
theorem steps_len : steps.length = 52 := by decide
theorem kk_eq (rs : List Int) : kk rs = steps.flatMap (piece rs) := by unfold kk runK; rw [List.take_of_length_le (by rw [steps_len]; omega)]
theorem piece_count (rs : List Int) (p : Nat × Nat) (x : Nat) : (piece rs p).count (x : Int) = if p == (occ rs (x : Int), x) then occ rs (x : Int) else 0 := by
  unfold piece
  obtain ⟨n, r⟩ := p
  by_cases e : r = x
  · subst e
    by_cases h : occ rs (r : Int) = n
    · simp [h]
    · have h' : ¬ n = occ rs (r : Int) := fun q => h q.symm
      simp [h, h']
  · have e' : ¬ (r : Int) = (x : Int) := by omega
    by_cases h : occ rs (r : Int) = n
    · simp [h, List.count_replicate, e, e']
    · simp [h, e]
theorem steps_sum : ∀ n : Fin 5, ∀ x : Fin 13, (steps.map (fun p => if p == (n.val, x.val) then n.val else 0)).sum = n.val := by decide +kernel
theorem kk_perm (rs : List Int) (h : ranksOk rs) (h4 : ∀ r, occ rs r ≤ 4) : (kk rs).Perm rs := by
  rw [List.perm_iff_count]
  intro x
  rw [kk_eq, List.count_flatMap]
  by_cases hx : 0 ≤ x ∧ x < 13
  · obtain ⟨y, rfl⟩ := Int.eq_ofNat_of_zero_le hx.1
    have e : (List.count (y : Int) ∘ piece rs) = fun p => if p == (occ rs (y : Int), y) then occ rs (y : Int) else 0 := by
      funext p; exact piece_count rs p y
    rw [e]
    have := steps_sum ⟨occ rs (y : Int), by have := h4 (y : Int); omega⟩ ⟨y, by omega⟩
    simp only at this
    rw [this, occ_count]
  · have h0 := occ_out h x hx
    rw [occ_count] at h0
    rw [h0]
    have : ∀ p ∈ steps, (List.count x ∘ piece rs) p = 0 := by
      intro p hp
      have hb : p.2 < 13 := by
        have : ∀ q ∈ steps, q.2 < 13 := by decide
        exact this p hp
      simp only [Function.comp]
      rw [List.count_eq_zero]
      intro hm
      unfold piece at hm
      split at hm
      · have := List.eq_of_mem_replicate hm; omega
      · simp at hm
    rw [List.map_congr_left (g := fun _ => 0) this]
    decide
theorem steps_pw : steps.Pairwise (fun p q => q.1 < p.1 ∨ (p.1 = q.1 ∧ q.2 ≤ p.2)) := by decide
theorem kk_sorted (rs : List Int) : (kk rs).Pairwise (leK rs) := by
  rw [kk_eq, List.pairwise_flatMap]
  refine ⟨fun p _ => ?_, steps_pw.imp ?_⟩
  · unfold piece
    split
    · rw [List.pairwise_replicate]; right; unfold leK; right; exact ⟨rfl, Int.le_refl _⟩
    · exact List.Pairwise.nil
  · intro p q hpq x hx y hy
    unfold piece at hx hy
    split at hx
    · next hp =>
      split at hy
      · next hq =>
        have ex := List.eq_of_mem_replicate hx
        have ey := List.eq_of_mem_replicate hy
        unfold leK
        rw [ex, ey, hp, hq]
        omega
      · simp at hy
    · simp at hx
theorem leK_anti {rs : List Int} (x y : Int) (h : leK rs x y) (h' : leK rs y x) : x = y := by unfold leK at h h'; omega
/-- What is sorted is the list of the kickers. -/
theorem kk_unique (rs L : List Int) (h : ranksOk rs) (h4 : ∀ r, occ rs r ≤ 4) (hp : L.Perm rs) (hs : L.Pairwise (leK rs)) : L = kk rs :=
  List.Perm.eq_of_pairwise (fun a b _ _ => leK_anti a b) hs (kk_sorted rs) (hp.trans (kk_perm rs h h4).symm)

/-! The shapes of five sorted ranks. -/
theorem le_between {f : Int → Nat} {x y z : Int} (h1 : f y < f x ∨ (f x = f y ∧ y ≤ x)) (h2 : f z < f y ∨ (f y = f z ∧ z ≤ y)) (e : x = z) : x = y := by subst e; omega
/-- The shapes of ranks: which are equal. -/
inductive Shape : Int → Int → Int → Int → Int → Prop
  | p5 (a : Int) : Shape a a a a a
  | p41 (a e : Int) (h : a ≠ e) : Shape a a a a e
  | p32 (a d : Int) (h : a ≠ d) : Shape a a a d d
  | p311 (a d e : Int) (h1 : a ≠ d) (h2 : a ≠ e) (h : e < d) : Shape a a a d e
  | p221 (a c e : Int) (h1 : c < a) (h2 : a ≠ e) (h3 : c ≠ e) : Shape a a c c e
  | p2111 (a c d e : Int) (h1 : a ≠ c) (h2 : a ≠ d) (h3 : a ≠ e) (h4 : d < c) (h5 : e < d) : Shape a a c d e
  | p1 (a b c d e : Int) (h1 : b < a) (h2 : c < b) (h3 : d < c) (h4 : e < d) : Shape a b c d e
set_option maxHeartbeats 2000000 in
theorem shape_of (a b c d e : Int) (h : [a, b, c, d, e].Pairwise (leK [a, b, c, d, e])) : Shape a b c d e := by
  simp only [List.pairwise_cons, List.mem_cons, List.not_mem_nil, or_false, forall_eq_or_imp, forall_eq] at h
  obtain ⟨⟨ab, ac, ad, ae⟩, ⟨bc, bd, be⟩, ⟨cd, ce⟩, de, _⟩ := h
  unfold leK at *
  by_cases e1 : a = b <;> by_cases e2 : b = c <;> by_cases e3 : c = d <;> by_cases e4 : d = e
  all_goals
    have n1 : a = c → a = b := fun q => le_between ab bc q
    have n2 : b = d → b = c := fun q => le_between bc cd q
    have n3 : c = e → c = d := fun q => le_between cd de q
    have n4 : a = d → a = b := fun q => le_between ab bd q
    have n5 : b = e → b = c := fun q => le_between bc ce q
    have n6 : a = e → a = b := fun q => le_between ab be q
    have m4 : a = d → c = d := fun q => by have := le_between ac cd q; omega
    have m5 : b = e → d = e := fun q => by have := le_between bd de q; omega
    have m6 : a = e → d = e := fun q => by have := le_between ad de q; omega
    simp only [occ_five] at ab bc cd de
    clear ac ad ae bd be ce
  · subst e1 e2 e3 e4; exact .p5 _
  · subst e1 e2 e3; exact .p41 _ _ e4
  · subst e1 e2 e4; exact .p32 _ _ e3
  · subst e1 e2
    have h1 : a ≠ d := e3
    have h2 : a ≠ e := fun q => e4 (m6 q)
    have h3 : d ≠ e := e4
    simp [h1, Ne.symm h1, h2, h3, Ne.symm h2, Ne.symm h3] at de
    exact .p311 _ _ _ h1 h2 (by omega)
  · exfalso
    subst e1 e3 e4
    have h1 : a ≠ c := e2
    simp [h1, Ne.symm h1] at bc
  · subst e1 e3
    have h1 : a ≠ c := e2
    have h2 : c ≠ e := e4
    have h3 : a ≠ e := fun q => e2 (n5 q)
    simp [h1, Ne.symm h1, h2, h3, Ne.symm h2, Ne.symm h3] at bc
    exact .p221 _ _ _ (by omega) h3 h2
  · exfalso
    subst e1 e4
    have h1 : a ≠ c := e2
    have h2 : c ≠ d := e3
    have h3 : a ≠ d := fun q => e2 (n2 q)
    simp [h1, Ne.symm h1, h2, h3, Ne.symm h2, Ne.symm h3] at cd
  · subst e1
    have h1 : a ≠ c := e2
    have h2 : c ≠ d := e3
    have h3 : a ≠ d := fun q => e2 (n2 q)
    have h4 : d ≠ e := e4
    have h5 : c ≠ e := fun q => e3 (n3 q)
    have h6 : a ≠ e := fun q => e2 (n5 q)
    simp [h1, Ne.symm h1, h2, h3, Ne.symm h2, Ne.symm h3, h4, h5, h6, Ne.symm h4, Ne.symm h5, Ne.symm h6] at cd de
    exact .p2111 _ _ _ _ h1 h3 h6 (by omega) (by omega)
  · exfalso
    subst e2 e3 e4
    have h1 : a ≠ b := e1
    simp [h1, Ne.symm h1] at ab
  · exfalso
    subst e2 e3
    have h1 : a ≠ b := e1
    have h2 : b ≠ e := e4
    have h3 : a ≠ e := fun q => e1 (n6 q)
    simp [h1, Ne.symm h1, h2, h3, Ne.symm h2, Ne.symm h3] at ab
  · exfalso
    subst e2 e4
    have h1 : a ≠ b := e1
    have h2 : b ≠ d := e3
    have h3 : a ≠ d := fun q => e1 (n4 q)
    simp [h1, Ne.symm h1, h2, h3, Ne.symm h2, Ne.symm h3] at ab
  · exfalso
    subst e2
    have h1 : a ≠ b := e1
    have h2 : b ≠ d := e3
    have h3 : a ≠ d := fun q => e1 (n4 q)
    have h4 : d ≠ e := e4
    have h5 : b ≠ e := fun q => e4 (m5 q)
    have h6 : a ≠ e := fun q => e1 (n6 q)
    simp [h1, Ne.symm h1, h2, h3, Ne.symm h2, Ne.symm h3, h4, h5, h6, Ne.symm h4, Ne.symm h5, Ne.symm h6] at ab
  · exfalso
    subst e3 e4
    have h1 : a ≠ b := e1
    have h2 : b ≠ c := e2
    have h3 : a ≠ c := fun q => e1 (n1 q)
    simp [h1, Ne.symm h1, h2, h3, Ne.symm h2, Ne.symm h3] at bc
  · exfalso
    subst e3
    have h1 : a ≠ b := e1
    have h2 : b ≠ c := e2
    have h3 : a ≠ c := fun q => e1 (n1 q)
    have h4 : c ≠ e := e4
    have h5 : b ≠ e := fun q => e2 (n5 q)
    have h6 : a ≠ e := fun q => e1 (n6 q)
    simp [h1, Ne.symm h1, h2, h3, Ne.symm h2, Ne.symm h3, h4, h5, h6, Ne.symm h4, Ne.symm h5, Ne.symm h6] at bc
  · exfalso
    subst e4
    have h1 : a ≠ b := e1
    have h2 : b ≠ c := e2
    have h3 : a ≠ c := fun q => e1 (n1 q)
    have h4 : c ≠ d := e3
    have h5 : b ≠ d := fun q => e2 (n2 q)
    have h6 : a ≠ d := fun q => e1 (n4 q)
    simp [h1, Ne.symm h1, h2, h3, Ne.symm h2, Ne.symm h3, h4, h5, h6, Ne.symm h4, Ne.symm h5, Ne.symm h6] at cd
  · have h1 : a ≠ b := e1
    have h2 : b ≠ c := e2
    have h3 : a ≠ c := fun q => e1 (n1 q)
    have h4 : c ≠ d := e3
    have h5 : b ≠ d := fun q => e2 (n2 q)
    have h6 : a ≠ d := fun q => e1 (n4 q)
    have h7 : d ≠ e := e4
    have h8 : c ≠ e := fun q => e3 (n3 q)
    have h9 : b ≠ e := fun q => e2 (n5 q)
    have h0 : a ≠ e := fun q => e1 (n6 q)
    simp [h1, Ne.symm h1, h2, h3, Ne.symm h2, Ne.symm h3, h4, h5, h6, Ne.symm h4, Ne.symm h5, Ne.symm h6, h7, h8, h9, h0, Ne.symm h7, Ne.symm h8, Ne.symm h9, Ne.symm h0] at ab bc cd de
    exact .p1 _ _ _ _ _ (by omega) (by omega) (by omega) (by omega)
end Go.Proofs.Ytlcimofhpphefaa

/-! Plain facts on hands of five: straights, categories and values, in the program's words and in the model's. Nothing of the program is imported. -/
namespace Go.Proofs.Ytlcimofhpphefaa
set_option linter.unusedSimpArgs false

/-! Straights, in the model's words. -/
def hit (rs : List Int) (t : Int) : Bool := decide (occ rs t = 1 ∧ occ rs (t - 1) = 1 ∧ occ rs (t - 2) = 1 ∧ occ rs (t - 3) = 1 ∧ occ rs (t - 4) = 1)
def wheel (rs : List Int) : Bool := decide (occ rs 0 = 1 ∧ occ rs 1 = 1 ∧ occ rs 2 = 1 ∧ occ rs 3 = 1 ∧ occ rs 12 = 1)
def strFrom (rs : List Int) : Nat → Int
  | 0 => if wheel rs = true then 3 else -1
  | k + 1 => if hit rs ((k : Int) + 4) = true then (k : Int) + 4 else strFrom rs k
def strT (rs : List Int) : Int := strFrom rs 9
theorem hit_perm {rs L : List Int} (h : L.Perm rs) (t : Int) : hit L t = hit rs t := by unfold hit; simp only [occ_perm h]
theorem wheel_perm {rs L : List Int} (h : L.Perm rs) : wheel L = wheel rs := by unfold wheel; simp only [occ_perm h]
theorem strFrom_perm {rs L : List Int} (h : L.Perm rs) : ∀ k, strFrom L k = strFrom rs k
  | 0 => by unfold strFrom; rw [wheel_perm h]
  | k + 1 => by unfold strFrom; rw [hit_perm h, strFrom_perm h k]
theorem mem_five {a b c d e r : Int} (h : occ [a, b, c, d, e] r = 1) : r = a ∨ r = b ∨ r = c ∨ r = d ∨ r = e := by
  by_cases hm : r ∈ [a, b, c, d, e]
  · simpa using hm
  · have h0 : occ [a, b, c, d, e] r = 0 := by rw [occ_count, List.count_eq_zero]; exact hm
    omega
theorem pigeon {a b c d p q r s u : Int} (n1 : p ≠ q) (n2 : p ≠ r) (n3 : p ≠ s) (n4 : p ≠ u) (n5 : q ≠ r) (n6 : q ≠ s) (n7 : q ≠ u) (n8 : r ≠ s) (n9 : r ≠ u) (n0 : s ≠ u)
    (hp : p = a ∨ p = b ∨ p = c ∨ p = d) (hq : q = a ∨ q = b ∨ q = c ∨ q = d) (hr : r = a ∨ r = b ∨ r = c ∨ r = d) (hs : s = a ∨ s = b ∨ s = c ∨ s = d) (hu : u = a ∨ u = b ∨ u = c ∨ u = d) : False := by
  rcases hp with h | h | h | h <;> subst h
  all_goals
    rcases hq with h | h | h | h <;> subst h
    all_goals first
      | exact n1 rfl
      | (rcases hr with h | h | h | h <;> subst h
         all_goals first
           | exact n2 rfl
           | exact n5 rfl
           | (rcases hs with h | h | h | h <;> subst h
              all_goals first
                | exact n3 rfl
                | exact n6 rfl
                | exact n8 rfl
                | (rcases hu with h | h | h | h <;> subst h
                   all_goals first
                     | exact n4 rfl
                     | exact n7 rfl
                     | exact n9 rfl
                     | exact n0 rfl)))
theorem hit_twice (a c d e t : Int) : hit [a, a, c, d, e] t = false := by
  unfold hit
  rw [decide_eq_false_iff_not]
  rintro ⟨h0, h1, h2, h3, h4⟩
  have k0 := mem_five h0
  have k1 := mem_five h1
  have k2 := mem_five h2
  have k3 := mem_five h3
  have k4 := mem_five h4
  exact pigeon (a := a) (b := c) (c := d) (d := e) (p := t) (q := t - 1) (r := t - 2) (s := t - 3) (u := t - 4) (by omega) (by omega) (by omega) (by omega) (by omega) (by omega) (by omega) (by omega) (by omega) (by omega)
    (by omega) (by omega) (by omega) (by omega) (by omega)
theorem wheel_twice (a c d e : Int) : wheel [a, a, c, d, e] = false := by
  unfold wheel
  rw [decide_eq_false_iff_not]
  rintro ⟨h0, h1, h2, h3, h4⟩
  have k0 := mem_five h0
  have k1 := mem_five h1
  have k2 := mem_five h2
  have k3 := mem_five h3
  have k4 := mem_five h4
  exact pigeon (a := a) (b := c) (c := d) (d := e) (p := 0) (q := 1) (r := 2) (s := 3) (u := 12) (by omega) (by omega) (by omega) (by omega) (by omega) (by omega) (by omega) (by omega) (by omega) (by omega)
    (by omega) (by omega) (by omega) (by omega) (by omega)
theorem str_twice (a c d e : Int) : ∀ k, strFrom [a, a, c, d, e] k = -1
  | 0 => by unfold strFrom; rw [wheel_twice]; rfl
  | k + 1 => by unfold strFrom; rw [hit_twice, str_twice a c d e k]; rfl
theorem occ_falling {a b c d e : Int} (h1 : b < a) (h2 : c < b) (h3 : d < c) (h4 : e < d) (r : Int) (h : r = a ∨ r = b ∨ r = c ∨ r = d ∨ r = e) : occ [a, b, c, d, e] r = 1 := by
  rw [occ_five]
  rcases h with rfl | rfl | rfl | rfl | rfl
  all_goals
    repeat (first | rw [if_pos rfl] | rw [if_neg (by omega)])
theorem hit_falling {a b c d e : Int} (h1 : b < a) (h2 : c < b) (h3 : d < c) (h4 : e < d) (t : Int) : hit [a, b, c, d, e] t = decide (a = t ∧ a - e = 4) := by
  unfold hit
  rw [decide_eq_decide]
  constructor
  · rintro ⟨g0, g1, g2, g3, g4⟩
    have k0 := mem_five g0
    have k1 := mem_five g1
    have k2 := mem_five g2
    have k3 := mem_five g3
    have k4 := mem_five g4
    clear g0 g1 g2 g3 g4
    have e0 : a = t := by
      by_cases q : a = t
      · exact q
      · exfalso
        have m0 : t ≤ b := by omega
        have m1 : t - 1 ≤ c := by omega
        have m2 : t - 2 ≤ d := by omega
        have m3 : t - 3 ≤ e := by omega
        omega
    have m1 : t - 1 ≤ b := by omega
    have m2 : t - 2 ≤ c := by omega
    have m3 : t - 3 ≤ d := by omega
    have m4 : t - 4 ≤ e := by omega
    clear k0 k1 k2 k3 k4
    omega
  · rintro ⟨g0, g1⟩
    refine ⟨?_, ?_, ?_, ?_, ?_⟩ <;> exact occ_falling h1 h2 h3 h4 _ (by omega)
theorem wheel_falling {a b c d e : Int} (h1 : b < a) (h2 : c < b) (h3 : d < c) (h4 : e < d) (ha : a < 13) : wheel [a, b, c, d, e] = decide ([a, b, c, d, e] = [12, 3, 2, 1, 0]) := by
  unfold wheel
  rw [decide_eq_decide]
  constructor
  · rintro ⟨g0, g1, g2, g3, g4⟩
    have k0 := mem_five g0
    have k1 := mem_five g1
    have k2 := mem_five g2
    have k3 := mem_five g3
    have k4 := mem_five g4
    clear g0 g1 g2 g3 g4
    have e0 : a = 12 := by omega
    have e1 : b = 3 := by
      by_cases q : 3 < b
      · exfalso
        have m0 : 3 ≤ c := by omega
        have m1 : 2 ≤ d := by omega
        have m2 : 1 ≤ e := by omega
        omega
      · omega
    have m2 : 2 ≤ c := by omega
    have m3 : 1 ≤ d := by omega
    have m4 : 0 ≤ e := by omega
    have e2 : c = 2 := by omega
    have e3 : d = 1 := by omega
    have e4 : e = 0 := by omega
    rw [e0, e1, e2, e3, e4]
  · intro h
    injection h with q0 h; injection h with q1 h; injection h with q2 h; injection h with q3 h; injection h with q4 h
    subst q0 q1 q2 q3 q4
    decide
theorem str_falling {a b c d e : Int} (h1 : b < a) (h2 : c < b) (h3 : d < c) (h4 : e < d) (ha : a < 13) :
    ∀ k : Nat, strFrom [a, b, c, d, e] k = if a - e = 4 ∧ 4 ≤ a ∧ a < (k : Int) + 4 then a else if [a, b, c, d, e] = [12, 3, 2, 1, 0] then 3 else -1
  | 0 => by
    unfold strFrom
    rw [wheel_falling h1 h2 h3 h4 ha, if_neg (by omega : ¬ (a - e = 4 ∧ 4 ≤ a ∧ a < ((0 : Nat) : Int) + 4))]
    simp only [decide_eq_true_eq]
  | k + 1 => by
    unfold strFrom
    rw [hit_falling h1 h2 h3 h4, str_falling h1 h2 h3 h4 ha k]
    simp only [decide_eq_true_eq]
    by_cases q : a = (k : Int) + 4 ∧ a - e = 4
    · rw [if_pos q, if_pos (by omega)]; omega
    · rw [if_neg q]
      by_cases q2 : a - e = 4 ∧ 4 ≤ a ∧ a < (k : Int) + 4
      · rw [if_pos q2, if_pos (by omega)]
      · rw [if_neg q2, if_neg (by omega : ¬ (a - e = 4 ∧ 4 ≤ a ∧ a < ((k + 1 : Nat) : Int) + 4))]

/-! The program's words. -/
def mostK (L : List Int) : Nat := occ L (L.getD 0 0)
def nextK (L : List Int) : Nat := occ L (L.getD (mostK L) 0)
def lowK (L : List Int) : List Int := if L = [12, 3, 2, 1, 0] then [3, 2, 1, 0, 12] else L
def strI (L : List Int) (most : Nat) : Bool := (most == 1 && L.getD 0 0 - L.getD 4 0 == 4) || L == [3, 2, 1, 0, 12]
def catI (L : List Int) (most next : Nat) (one : Bool) : Int :=
  if (strI L most && one) = true then 8 else if most = 4 then 7 else if most = 3 ∧ next = 2 then 6 else if one = true then 5 else if strI L most = true then 4
  else if 3 ≤ most then 3 else if 2 ≤ most ∧ 2 ≤ next then 2 else if 2 ≤ most then 1 else 0
/-! The model's words. -/
def many (rs : List Int) (n : Nat) : Nat := ((List.range 13).filter (fun r : Nat => occ rs (r : Int) == n)).length
def catS (rs : List Int) (one : Bool) : Int :=
  if (decide (0 ≤ strT rs) && one) = true then 8 else if many rs 4 = 1 then 7 else if many rs 3 = 1 ∧ many rs 2 = 1 then 6 else if one = true then 5 else if decide (0 ≤ strT rs) = true then 4
  else if many rs 3 = 1 then 3 else if many rs 2 = 2 then 2 else if many rs 2 = 1 then 1 else 0
def kickS (rs : List Int) : List Int := if strT rs = 3 then [3, 2, 1, 0, 12] else kk rs
theorem many_perm {rs L : List Int} (h : L.Perm rs) (n : Nat) : many L n = many rs n := by unfold many; simp only [occ_perm h]

theorem one_of (f : Nat → Nat) (n : Nat) (a : Nat) (ha : a < 13) (h : ∀ r, r < 13 → ((f r == n) = (r == a))) : ((List.range 13).filter (fun r => f r == n)).length = 1 := by
  rw [List.filter_congr (q := fun r => r == a) (fun r hr => h r (List.mem_range.1 hr))]
  have : ∀ a : Fin 13, ((List.range 13).filter (fun r => r == a.val)).length = 1 := by decide +kernel
  exact this ⟨a, ha⟩
theorem two_of (f : Nat → Nat) (n : Nat) (a b : Nat) (ha : a < 13) (hb : b < 13) (hn : a ≠ b) (h : ∀ r, r < 13 → ((f r == n) = (r == a || r == b))) : ((List.range 13).filter (fun r => f r == n)).length = 2 := by
  rw [List.filter_congr (q := fun r => r == a || r == b) (fun r hr => h r (List.mem_range.1 hr))]
  have : ∀ a b : Fin 13, a ≠ b → ((List.range 13).filter (fun r => r == a.val || r == b.val)).length = 2 := by decide +kernel
  exact this ⟨a, ha⟩ ⟨b, hb⟩ (fun q => hn (by injection q))
theorem none_of (f : Nat → Nat) (n : Nat) (h : ∀ r, r < 13 → ((f r == n) = false)) : ((List.range 13).filter (fun r => f r == n)).length = 0 := by
  rw [List.length_eq_zero_iff, List.filter_eq_nil_iff]
  intro r hr
  rw [h r (List.mem_range.1 hr)]; simp
/-- The numbers of a shape. -/
def Tab (L : List Int) : Prop := (mostK L = 4 ∧ many L 4 = 1) ∨ (mostK L = 3 ∧ nextK L = 2 ∧ many L 4 = 0 ∧ many L 3 = 1 ∧ many L 2 = 1) ∨ (mostK L = 3 ∧ nextK L = 1 ∧ many L 4 = 0 ∧ many L 3 = 1 ∧ many L 2 = 0) ∨
  (mostK L = 2 ∧ nextK L = 2 ∧ many L 4 = 0 ∧ many L 3 = 0 ∧ many L 2 = 2) ∨ (mostK L = 2 ∧ nextK L = 1 ∧ many L 4 = 0 ∧ many L 3 = 0 ∧ many L 2 = 1) ∨ (mostK L = 1 ∧ many L 4 = 0 ∧ many L 3 = 0 ∧ many L 2 = 0)
theorem natA {a : Int} (h : 0 ≤ a ∧ a < 13) : ∃ n : Nat, a = (n : Int) ∧ n < 13 := ⟨a.toNat, by omega, by omega⟩
theorem beq_of_iff {p q : Nat} {b : Bool} (h : p = q ↔ b = true) : (p == q) = b := by
  cases b
  · simp at h ⊢; exact h
  · simp at h ⊢; exact h
end Go.Proofs.Ytlcimofhpphefaa

/-! Plain facts on hands of five: the program's category, kickers and value are the model's. Nothing of the program is imported. -/
namespace Go.Proofs.Ytlcimofhpphefaa
set_option linter.unusedSimpArgs false
set_option linter.unusedVariables false

theorem tab_p41 (a e : Nat) (nae : a ≠ e) (ha : a < 13) (he : e < 13) : Tab [(a : Int), (a : Int), (a : Int), (a : Int), (e : Int)] := by
  have iae : (a : Int) ≠ (e : Int) := by omega
  have jae : (e : Int) ≠ (a : Int) := by omega
  have em : mostK [(a : Int), (a : Int), (a : Int), (a : Int), (e : Int)] = 4 := by
    unfold mostK
    show occ _ (a : Int) = _
    rw [occ_five]
    simp [iae, jae]
  have em4 : many [(a : Int), (a : Int), (a : Int), (a : Int), (e : Int)] 4 = 1 := by
    refine one_of (fun r => occ [(a : Int), (a : Int), (a : Int), (a : Int), (e : Int)] (r : Int)) 4 a ha (fun r hr => beq_of_iff ?_)
    simp only [occ_five, Int.natCast_inj]
    by_cases qa : a = r
    · subst qa; simp [nae, Ne.symm nae]
    · by_cases qe : e = r
      · subst qe; simp [nae, Ne.symm nae]
      · simp [qa, Ne.symm qa, qe, Ne.symm qe]
  exact .inl ⟨em, em4⟩
theorem tab_p32 (a d : Nat) (nad : a ≠ d) (ha : a < 13) (hd : d < 13) : Tab [(a : Int), (a : Int), (a : Int), (d : Int), (d : Int)] := by
  have iad : (a : Int) ≠ (d : Int) := by omega
  have jad : (d : Int) ≠ (a : Int) := by omega
  have em : mostK [(a : Int), (a : Int), (a : Int), (d : Int), (d : Int)] = 3 := by
    unfold mostK
    show occ _ (a : Int) = _
    rw [occ_five]
    simp [iad, jad]
  have en : nextK [(a : Int), (a : Int), (a : Int), (d : Int), (d : Int)] = 2 := by
    unfold nextK
    rw [em]
    show occ _ (d : Int) = _
    rw [occ_five]
    simp [iad, jad]
  have em4 : many [(a : Int), (a : Int), (a : Int), (d : Int), (d : Int)] 4 = 0 := by
    refine none_of (fun r => occ [(a : Int), (a : Int), (a : Int), (d : Int), (d : Int)] (r : Int)) 4 (fun r hr => beq_of_iff ?_)
    simp only [occ_five, Int.natCast_inj]
    by_cases qa : a = r
    · subst qa; simp [nad, Ne.symm nad]
    · by_cases qd : d = r
      · subst qd; simp [nad, Ne.symm nad]
      · simp [qa, Ne.symm qa, qd, Ne.symm qd]
  have em3 : many [(a : Int), (a : Int), (a : Int), (d : Int), (d : Int)] 3 = 1 := by
    refine one_of (fun r => occ [(a : Int), (a : Int), (a : Int), (d : Int), (d : Int)] (r : Int)) 3 a ha (fun r hr => beq_of_iff ?_)
    simp only [occ_five, Int.natCast_inj]
    by_cases qa : a = r
    · subst qa; simp [nad, Ne.symm nad]
    · by_cases qd : d = r
      · subst qd; simp [nad, Ne.symm nad]
      · simp [qa, Ne.symm qa, qd, Ne.symm qd]
  have em2 : many [(a : Int), (a : Int), (a : Int), (d : Int), (d : Int)] 2 = 1 := by
    refine one_of (fun r => occ [(a : Int), (a : Int), (a : Int), (d : Int), (d : Int)] (r : Int)) 2 d hd (fun r hr => beq_of_iff ?_)
    simp only [occ_five, Int.natCast_inj]
    by_cases qa : a = r
    · subst qa; simp [nad, Ne.symm nad]
    · by_cases qd : d = r
      · subst qd; simp [nad, Ne.symm nad]
      · simp [qa, Ne.symm qa, qd, Ne.symm qd]
  exact .inr (.inl ⟨em, en, em4, em3, em2⟩)
theorem tab_p311 (a d e : Nat) (nad : a ≠ d) (nae : a ≠ e) (nde : d ≠ e) (ha : a < 13) (hd : d < 13) (he : e < 13) : Tab [(a : Int), (a : Int), (a : Int), (d : Int), (e : Int)] := by
  have iad : (a : Int) ≠ (d : Int) := by omega
  have jad : (d : Int) ≠ (a : Int) := by omega
  have iae : (a : Int) ≠ (e : Int) := by omega
  have jae : (e : Int) ≠ (a : Int) := by omega
  have ide : (d : Int) ≠ (e : Int) := by omega
  have jde : (e : Int) ≠ (d : Int) := by omega
  have em : mostK [(a : Int), (a : Int), (a : Int), (d : Int), (e : Int)] = 3 := by
    unfold mostK
    show occ _ (a : Int) = _
    rw [occ_five]
    simp [iad, jad, iae, jae, ide, jde]
  have en : nextK [(a : Int), (a : Int), (a : Int), (d : Int), (e : Int)] = 1 := by
    unfold nextK
    rw [em]
    show occ _ (d : Int) = _
    rw [occ_five]
    simp [iad, jad, iae, jae, ide, jde]
  have em4 : many [(a : Int), (a : Int), (a : Int), (d : Int), (e : Int)] 4 = 0 := by
    refine none_of (fun r => occ [(a : Int), (a : Int), (a : Int), (d : Int), (e : Int)] (r : Int)) 4 (fun r hr => beq_of_iff ?_)
    simp only [occ_five, Int.natCast_inj]
    by_cases qa : a = r
    · subst qa; simp [nad, Ne.symm nad, nae, Ne.symm nae]
    · by_cases qd : d = r
      · subst qd; simp [nad, Ne.symm nad, nde, Ne.symm nde]
      · by_cases qe : e = r
        · subst qe; simp [nae, Ne.symm nae, nde, Ne.symm nde]
        · simp [qa, Ne.symm qa, qd, Ne.symm qd, qe, Ne.symm qe]
  have em3 : many [(a : Int), (a : Int), (a : Int), (d : Int), (e : Int)] 3 = 1 := by
    refine one_of (fun r => occ [(a : Int), (a : Int), (a : Int), (d : Int), (e : Int)] (r : Int)) 3 a ha (fun r hr => beq_of_iff ?_)
    simp only [occ_five, Int.natCast_inj]
    by_cases qa : a = r
    · subst qa; simp [nad, Ne.symm nad, nae, Ne.symm nae]
    · by_cases qd : d = r
      · subst qd; simp [nad, Ne.symm nad, nde, Ne.symm nde]
      · by_cases qe : e = r
        · subst qe; simp [nae, Ne.symm nae, nde, Ne.symm nde]
        · simp [qa, Ne.symm qa, qd, Ne.symm qd, qe, Ne.symm qe]
  have em2 : many [(a : Int), (a : Int), (a : Int), (d : Int), (e : Int)] 2 = 0 := by
    refine none_of (fun r => occ [(a : Int), (a : Int), (a : Int), (d : Int), (e : Int)] (r : Int)) 2 (fun r hr => beq_of_iff ?_)
    simp only [occ_five, Int.natCast_inj]
    by_cases qa : a = r
    · subst qa; simp [nad, Ne.symm nad, nae, Ne.symm nae]
    · by_cases qd : d = r
      · subst qd; simp [nad, Ne.symm nad, nde, Ne.symm nde]
      · by_cases qe : e = r
        · subst qe; simp [nae, Ne.symm nae, nde, Ne.symm nde]
        · simp [qa, Ne.symm qa, qd, Ne.symm qd, qe, Ne.symm qe]
  exact .inr (.inr (.inl ⟨em, en, em4, em3, em2⟩))
theorem tab_p221 (a c e : Nat) (nac : a ≠ c) (nae : a ≠ e) (nce : c ≠ e) (ha : a < 13) (hc : c < 13) (he : e < 13) : Tab [(a : Int), (a : Int), (c : Int), (c : Int), (e : Int)] := by
  have iac : (a : Int) ≠ (c : Int) := by omega
  have jac : (c : Int) ≠ (a : Int) := by omega
  have iae : (a : Int) ≠ (e : Int) := by omega
  have jae : (e : Int) ≠ (a : Int) := by omega
  have ice : (c : Int) ≠ (e : Int) := by omega
  have jce : (e : Int) ≠ (c : Int) := by omega
  have em : mostK [(a : Int), (a : Int), (c : Int), (c : Int), (e : Int)] = 2 := by
    unfold mostK
    show occ _ (a : Int) = _
    rw [occ_five]
    simp [iac, jac, iae, jae, ice, jce]
  have en : nextK [(a : Int), (a : Int), (c : Int), (c : Int), (e : Int)] = 2 := by
    unfold nextK
    rw [em]
    show occ _ (c : Int) = _
    rw [occ_five]
    simp [iac, jac, iae, jae, ice, jce]
  have em4 : many [(a : Int), (a : Int), (c : Int), (c : Int), (e : Int)] 4 = 0 := by
    refine none_of (fun r => occ [(a : Int), (a : Int), (c : Int), (c : Int), (e : Int)] (r : Int)) 4 (fun r hr => beq_of_iff ?_)
    simp only [occ_five, Int.natCast_inj]
    by_cases qa : a = r
    · subst qa; simp [nac, Ne.symm nac, nae, Ne.symm nae]
    · by_cases qc : c = r
      · subst qc; simp [nac, Ne.symm nac, nce, Ne.symm nce]
      · by_cases qe : e = r
        · subst qe; simp [nae, Ne.symm nae, nce, Ne.symm nce]
        · simp [qa, Ne.symm qa, qc, Ne.symm qc, qe, Ne.symm qe]
  have em3 : many [(a : Int), (a : Int), (c : Int), (c : Int), (e : Int)] 3 = 0 := by
    refine none_of (fun r => occ [(a : Int), (a : Int), (c : Int), (c : Int), (e : Int)] (r : Int)) 3 (fun r hr => beq_of_iff ?_)
    simp only [occ_five, Int.natCast_inj]
    by_cases qa : a = r
    · subst qa; simp [nac, Ne.symm nac, nae, Ne.symm nae]
    · by_cases qc : c = r
      · subst qc; simp [nac, Ne.symm nac, nce, Ne.symm nce]
      · by_cases qe : e = r
        · subst qe; simp [nae, Ne.symm nae, nce, Ne.symm nce]
        · simp [qa, Ne.symm qa, qc, Ne.symm qc, qe, Ne.symm qe]
  have em2 : many [(a : Int), (a : Int), (c : Int), (c : Int), (e : Int)] 2 = 2 := by
    refine two_of (fun r => occ [(a : Int), (a : Int), (c : Int), (c : Int), (e : Int)] (r : Int)) 2 a c ha hc nac (fun r hr => beq_of_iff ?_)
    simp only [occ_five, Int.natCast_inj]
    by_cases qa : a = r
    · subst qa; simp [nac, Ne.symm nac, nae, Ne.symm nae]
    · by_cases qc : c = r
      · subst qc; simp [nac, Ne.symm nac, nce, Ne.symm nce]
      · by_cases qe : e = r
        · subst qe; simp [nae, Ne.symm nae, nce, Ne.symm nce]
        · simp [qa, Ne.symm qa, qc, Ne.symm qc, qe, Ne.symm qe]
  exact .inr (.inr (.inr (.inl ⟨em, en, em4, em3, em2⟩)))
theorem tab_p2111 (a c d e : Nat) (nac : a ≠ c) (nad : a ≠ d) (nae : a ≠ e) (ncd : c ≠ d) (nce : c ≠ e) (nde : d ≠ e) (ha : a < 13) (hc : c < 13) (hd : d < 13) (he : e < 13) : Tab [(a : Int), (a : Int), (c : Int), (d : Int), (e : Int)] := by
  have iac : (a : Int) ≠ (c : Int) := by omega
  have jac : (c : Int) ≠ (a : Int) := by omega
  have iad : (a : Int) ≠ (d : Int) := by omega
  have jad : (d : Int) ≠ (a : Int) := by omega
  have iae : (a : Int) ≠ (e : Int) := by omega
  have jae : (e : Int) ≠ (a : Int) := by omega
  have icd : (c : Int) ≠ (d : Int) := by omega
  have jcd : (d : Int) ≠ (c : Int) := by omega
  have ice : (c : Int) ≠ (e : Int) := by omega
  have jce : (e : Int) ≠ (c : Int) := by omega
  have ide : (d : Int) ≠ (e : Int) := by omega
  have jde : (e : Int) ≠ (d : Int) := by omega
  have em : mostK [(a : Int), (a : Int), (c : Int), (d : Int), (e : Int)] = 2 := by
    unfold mostK
    show occ _ (a : Int) = _
    rw [occ_five]
    simp [iac, jac, iad, jad, iae, jae, icd, jcd, ice, jce, ide, jde]
  have en : nextK [(a : Int), (a : Int), (c : Int), (d : Int), (e : Int)] = 1 := by
    unfold nextK
    rw [em]
    show occ _ (c : Int) = _
    rw [occ_five]
    simp [iac, jac, iad, jad, iae, jae, icd, jcd, ice, jce, ide, jde]
  have em4 : many [(a : Int), (a : Int), (c : Int), (d : Int), (e : Int)] 4 = 0 := by
    refine none_of (fun r => occ [(a : Int), (a : Int), (c : Int), (d : Int), (e : Int)] (r : Int)) 4 (fun r hr => beq_of_iff ?_)
    simp only [occ_five, Int.natCast_inj]
    by_cases qa : a = r
    · subst qa; simp [nac, Ne.symm nac, nad, Ne.symm nad, nae, Ne.symm nae]
    · by_cases qc : c = r
      · subst qc; simp [nac, Ne.symm nac, ncd, Ne.symm ncd, nce, Ne.symm nce]
      · by_cases qd : d = r
        · subst qd; simp [nad, Ne.symm nad, ncd, Ne.symm ncd, nde, Ne.symm nde]
        · by_cases qe : e = r
          · subst qe; simp [nae, Ne.symm nae, nce, Ne.symm nce, nde, Ne.symm nde]
          · simp [qa, Ne.symm qa, qc, Ne.symm qc, qd, Ne.symm qd, qe, Ne.symm qe]
  have em3 : many [(a : Int), (a : Int), (c : Int), (d : Int), (e : Int)] 3 = 0 := by
    refine none_of (fun r => occ [(a : Int), (a : Int), (c : Int), (d : Int), (e : Int)] (r : Int)) 3 (fun r hr => beq_of_iff ?_)
    simp only [occ_five, Int.natCast_inj]
    by_cases qa : a = r
    · subst qa; simp [nac, Ne.symm nac, nad, Ne.symm nad, nae, Ne.symm nae]
    · by_cases qc : c = r
      · subst qc; simp [nac, Ne.symm nac, ncd, Ne.symm ncd, nce, Ne.symm nce]
      · by_cases qd : d = r
        · subst qd; simp [nad, Ne.symm nad, ncd, Ne.symm ncd, nde, Ne.symm nde]
        · by_cases qe : e = r
          · subst qe; simp [nae, Ne.symm nae, nce, Ne.symm nce, nde, Ne.symm nde]
          · simp [qa, Ne.symm qa, qc, Ne.symm qc, qd, Ne.symm qd, qe, Ne.symm qe]
  have em2 : many [(a : Int), (a : Int), (c : Int), (d : Int), (e : Int)] 2 = 1 := by
    refine one_of (fun r => occ [(a : Int), (a : Int), (c : Int), (d : Int), (e : Int)] (r : Int)) 2 a ha (fun r hr => beq_of_iff ?_)
    simp only [occ_five, Int.natCast_inj]
    by_cases qa : a = r
    · subst qa; simp [nac, Ne.symm nac, nad, Ne.symm nad, nae, Ne.symm nae]
    · by_cases qc : c = r
      · subst qc; simp [nac, Ne.symm nac, ncd, Ne.symm ncd, nce, Ne.symm nce]
      · by_cases qd : d = r
        · subst qd; simp [nad, Ne.symm nad, ncd, Ne.symm ncd, nde, Ne.symm nde]
        · by_cases qe : e = r
          · subst qe; simp [nae, Ne.symm nae, nce, Ne.symm nce, nde, Ne.symm nde]
          · simp [qa, Ne.symm qa, qc, Ne.symm qc, qd, Ne.symm qd, qe, Ne.symm qe]
  exact .inr (.inr (.inr (.inr (.inl ⟨em, en, em4, em3, em2⟩))))
theorem tab_p1 (a b c d e : Nat) (nab : a ≠ b) (nac : a ≠ c) (nad : a ≠ d) (nae : a ≠ e) (nbc : b ≠ c) (nbd : b ≠ d) (nbe : b ≠ e) (ncd : c ≠ d) (nce : c ≠ e) (nde : d ≠ e) (ha : a < 13) (hb : b < 13) (hc : c < 13) (hd : d < 13) (he : e < 13) : Tab [(a : Int), (b : Int), (c : Int), (d : Int), (e : Int)] := by
  have iab : (a : Int) ≠ (b : Int) := by omega
  have jab : (b : Int) ≠ (a : Int) := by omega
  have iac : (a : Int) ≠ (c : Int) := by omega
  have jac : (c : Int) ≠ (a : Int) := by omega
  have iad : (a : Int) ≠ (d : Int) := by omega
  have jad : (d : Int) ≠ (a : Int) := by omega
  have iae : (a : Int) ≠ (e : Int) := by omega
  have jae : (e : Int) ≠ (a : Int) := by omega
  have ibc : (b : Int) ≠ (c : Int) := by omega
  have jbc : (c : Int) ≠ (b : Int) := by omega
  have ibd : (b : Int) ≠ (d : Int) := by omega
  have jbd : (d : Int) ≠ (b : Int) := by omega
  have ibe : (b : Int) ≠ (e : Int) := by omega
  have jbe : (e : Int) ≠ (b : Int) := by omega
  have icd : (c : Int) ≠ (d : Int) := by omega
  have jcd : (d : Int) ≠ (c : Int) := by omega
  have ice : (c : Int) ≠ (e : Int) := by omega
  have jce : (e : Int) ≠ (c : Int) := by omega
  have ide : (d : Int) ≠ (e : Int) := by omega
  have jde : (e : Int) ≠ (d : Int) := by omega
  have em : mostK [(a : Int), (b : Int), (c : Int), (d : Int), (e : Int)] = 1 := by
    unfold mostK
    show occ _ (a : Int) = _
    rw [occ_five]
    simp [iab, jab, iac, jac, iad, jad, iae, jae, ibc, jbc, ibd, jbd, ibe, jbe, icd, jcd, ice, jce, ide, jde]
  have em4 : many [(a : Int), (b : Int), (c : Int), (d : Int), (e : Int)] 4 = 0 := by
    refine none_of (fun r => occ [(a : Int), (b : Int), (c : Int), (d : Int), (e : Int)] (r : Int)) 4 (fun r hr => beq_of_iff ?_)
    simp only [occ_five, Int.natCast_inj]
    by_cases qa : a = r
    · subst qa; simp [nab, Ne.symm nab, nac, Ne.symm nac, nad, Ne.symm nad, nae, Ne.symm nae]
    · by_cases qb : b = r
      · subst qb; simp [nab, Ne.symm nab, nbc, Ne.symm nbc, nbd, Ne.symm nbd, nbe, Ne.symm nbe]
      · by_cases qc : c = r
        · subst qc; simp [nac, Ne.symm nac, nbc, Ne.symm nbc, ncd, Ne.symm ncd, nce, Ne.symm nce]
        · by_cases qd : d = r
          · subst qd; simp [nad, Ne.symm nad, nbd, Ne.symm nbd, ncd, Ne.symm ncd, nde, Ne.symm nde]
          · by_cases qe : e = r
            · subst qe; simp [nae, Ne.symm nae, nbe, Ne.symm nbe, nce, Ne.symm nce, nde, Ne.symm nde]
            · simp [qa, Ne.symm qa, qb, Ne.symm qb, qc, Ne.symm qc, qd, Ne.symm qd, qe, Ne.symm qe]
  have em3 : many [(a : Int), (b : Int), (c : Int), (d : Int), (e : Int)] 3 = 0 := by
    refine none_of (fun r => occ [(a : Int), (b : Int), (c : Int), (d : Int), (e : Int)] (r : Int)) 3 (fun r hr => beq_of_iff ?_)
    simp only [occ_five, Int.natCast_inj]
    by_cases qa : a = r
    · subst qa; simp [nab, Ne.symm nab, nac, Ne.symm nac, nad, Ne.symm nad, nae, Ne.symm nae]
    · by_cases qb : b = r
      · subst qb; simp [nab, Ne.symm nab, nbc, Ne.symm nbc, nbd, Ne.symm nbd, nbe, Ne.symm nbe]
      · by_cases qc : c = r
        · subst qc; simp [nac, Ne.symm nac, nbc, Ne.symm nbc, ncd, Ne.symm ncd, nce, Ne.symm nce]
        · by_cases qd : d = r
          · subst qd; simp [nad, Ne.symm nad, nbd, Ne.symm nbd, ncd, Ne.symm ncd, nde, Ne.symm nde]
          · by_cases qe : e = r
            · subst qe; simp [nae, Ne.symm nae, nbe, Ne.symm nbe, nce, Ne.symm nce, nde, Ne.symm nde]
            · simp [qa, Ne.symm qa, qb, Ne.symm qb, qc, Ne.symm qc, qd, Ne.symm qd, qe, Ne.symm qe]
  have em2 : many [(a : Int), (b : Int), (c : Int), (d : Int), (e : Int)] 2 = 0 := by
    refine none_of (fun r => occ [(a : Int), (b : Int), (c : Int), (d : Int), (e : Int)] (r : Int)) 2 (fun r hr => beq_of_iff ?_)
    simp only [occ_five, Int.natCast_inj]
    by_cases qa : a = r
    · subst qa; simp [nab, Ne.symm nab, nac, Ne.symm nac, nad, Ne.symm nad, nae, Ne.symm nae]
    · by_cases qb : b = r
      · subst qb; simp [nab, Ne.symm nab, nbc, Ne.symm nbc, nbd, Ne.symm nbd, nbe, Ne.symm nbe]
      · by_cases qc : c = r
        · subst qc; simp [nac, Ne.symm nac, nbc, Ne.symm nbc, ncd, Ne.symm ncd, nce, Ne.symm nce]
        · by_cases qd : d = r
          · subst qd; simp [nad, Ne.symm nad, nbd, Ne.symm nbd, ncd, Ne.symm ncd, nde, Ne.symm nde]
          · by_cases qe : e = r
            · subst qe; simp [nae, Ne.symm nae, nbe, Ne.symm nbe, nce, Ne.symm nce, nde, Ne.symm nde]
            · simp [qa, Ne.symm qa, qb, Ne.symm qb, qc, Ne.symm qc, qd, Ne.symm qd, qe, Ne.symm qe]
  exact .inr (.inr (.inr (.inr (.inr (⟨em, em4, em3, em2⟩)))))

theorem list_five {α : Type} (L : List α) (h : L.length = 5) : ∃ a b c d e, L = [a, b, c, d, e] := by
  match L, h with
  | [a, b, c, d, e], _ => exact ⟨a, b, c, d, e, rfl⟩
theorem shape_kk (rs : List Int) (h : ranksOk rs) (h4 : ∀ r, occ rs r ≤ 4) (hl : rs.length = 5) : ∃ a b c d e, kk rs = [a, b, c, d, e] ∧ Shape a b c d e ∧ [a, b, c, d, e].Perm rs := by
  have hp := kk_perm rs h h4
  obtain ⟨a, b, c, d, e, q⟩ := list_five (kk rs) (by rw [hp.length_eq, hl])
  refine ⟨a, b, c, d, e, q, ?_, q ▸ hp⟩
  have hs := kk_sorted rs
  rw [q] at hs hp
  have e2 : leK rs = leK [a, b, c, d, e] := by funext x y; unfold leK; rw [occ_perm hp, occ_perm hp]
  rw [e2] at hs
  exact shape_of a b c d e hs
theorem lt_ne {x y : Int} (h : y < x) : x.toNat ≠ y.toNat ∨ x < 0 ∨ y < 0 := by omega
theorem nat_list (a b c d e : Int) (ha : 0 ≤ a) (hb : 0 ≤ b) (hc : 0 ≤ c) (hd : 0 ≤ d) (he : 0 ≤ e) : [a, b, c, d, e] = [(a.toNat : Int), (b.toNat : Int), (c.toNat : Int), (d.toNat : Int), (e.toNat : Int)] := by
  rw [Int.toNat_of_nonneg ha, Int.toNat_of_nonneg hb, Int.toNat_of_nonneg hc, Int.toNat_of_nonneg hd, Int.toNat_of_nonneg he]
theorem lowK_twice (a c d e : Int) : lowK [a, a, c, d, e] = [a, a, c, d, e] := by
  unfold lowK
  rw [if_neg]
  intro h
  injection h with q0 h; injection h with q1 h
  omega
theorem strI_twice (a c d e : Int) : strI [a, a, c, d, e] (mostK [a, a, c, d, e]) = false := by
  have em : 2 ≤ mostK [a, a, c, d, e] := by
    unfold mostK
    show 2 ≤ occ _ a
    rw [occ_five, if_pos rfl]
    omega
  have e1 : (mostK [a, a, c, d, e] == 1) = false := by rw [beq_eq_false_iff_ne]; omega
  have e2 : ([a, a, c, d, e] == [3, 2, 1, 0, 12]) = false := by
    rw [beq_eq_false_iff_ne]
    intro h
    injection h with q0 h; injection h with q1 h
    omega
  unfold strI
  rw [e1, e2]; rfl
/-- Both tables of numbers, and the straights. -/
theorem five_facts (rs : List Int) (h : ranksOk rs) (h4 : ∀ r, occ rs r ≤ 4) (hl : rs.length = 5) :
    Tab (kk rs) ∧ lowK (kk rs) = kickS rs ∧ strI (lowK (kk rs)) (mostK (kk rs)) = decide (0 ≤ strT rs) := by
  obtain ⟨a, b, c, d, e, q, hs, hp⟩ := shape_kk rs h h4 hl
  have hb : ∀ x ∈ [a, b, c, d, e], 0 ≤ x ∧ x < 13 := fun x hx => h x (hp.subset hx)
  have ba := hb a (by simp)
  have bb := hb b (by simp)
  have bc := hb c (by simp)
  have bd := hb d (by simp)
  have be := hb e (by simp)
  have h4' : ∀ r, occ [a, b, c, d, e] r ≤ 4 := fun r => by rw [occ_perm hp]; exact h4 r
  have hT : strT rs = strFrom [a, b, c, d, e] 9 := (strFrom_perm hp 9).symm
  unfold kickS
  rw [hT, q]
  clear hb hp q hl h4 hT h
  have key : Tab [a, b, c, d, e] := by
    cases hs with
    | p5 =>
      have := h4' a
      rw [occ_five] at this
      simp at this
    | p41 _ _ =>
      rw [nat_list a a a a e ba.1 ba.1 ba.1 ba.1 be.1]
      exact tab_p41 a.toNat e.toNat (by omega) (by omega) (by omega)
    | p32 _ _ =>
      rw [nat_list a a a d d ba.1 ba.1 ba.1 bd.1 bd.1]
      exact tab_p32 a.toNat d.toNat (by omega) (by omega) (by omega)
    | p311 _ _ _ =>
      rw [nat_list a a a d e ba.1 ba.1 ba.1 bd.1 be.1]
      exact tab_p311 a.toNat d.toNat e.toNat (by omega) (by omega) (by omega) (by omega) (by omega) (by omega)
    | p221 _ _ _ =>
      rw [nat_list a a c c e ba.1 ba.1 bc.1 bc.1 be.1]
      exact tab_p221 a.toNat c.toNat e.toNat (by omega) (by omega) (by omega) (by omega) (by omega) (by omega)
    | p2111 _ _ _ _ =>
      rw [nat_list a a c d e ba.1 ba.1 bc.1 bd.1 be.1]
      exact tab_p2111 a.toNat c.toNat d.toNat e.toNat (by omega) (by omega) (by omega) (by omega) (by omega) (by omega) (by omega) (by omega) (by omega) (by omega)
    | p1 _ _ _ _ _ =>
      rw [nat_list a b c d e ba.1 bb.1 bc.1 bd.1 be.1]
      exact tab_p1 a.toNat b.toNat c.toNat d.toNat e.toNat (by omega) (by omega) (by omega) (by omega) (by omega) (by omega) (by omega) (by omega) (by omega) (by omega) (by omega) (by omega) (by omega) (by omega) (by omega)
  refine ⟨key, ?_⟩
  by_cases hab : a = b
  · subst hab
    rw [str_twice, lowK_twice, strI_twice, if_neg (by omega)]
    exact ⟨rfl, rfl⟩
  · cases hs with
    | p1 _ _ _ _ n1 n2 n3 n4 =>
      have em : mostK [a, b, c, d, e] = 1 := occ_falling n1 n2 n3 n4 a (by simp)
      rw [str_falling n1 n2 n3 n4 ba.2, em]
      by_cases hw : [a, b, c, d, e] = [12, 3, 2, 1, 0]
      · have hw' := hw
        injection hw' with q0 hw'; injection hw' with q1 hw'; injection hw' with q2 hw'; injection hw' with q3 hw'; injection hw' with q4 hw'
        subst q0 q1 q2 q3 q4
        decide
      · have hl : lowK [a, b, c, d, e] = [a, b, c, d, e] := by unfold lowK; rw [if_neg hw]
        rw [hl]
        have hn : ¬ [a, b, c, d, e] = [3, 2, 1, 0, 12] := by
          intro hw'
          injection hw' with q0 hw'; injection hw' with q1 hw'; injection hw' with q2 hw'; injection hw' with q3 hw'; injection hw' with q4 hw'
          omega
        by_cases hr : a - e = 4
        · rw [if_pos (⟨hr, by omega, by omega⟩ : a - e = 4 ∧ 4 ≤ a ∧ a < ((9 : Nat) : Int) + 4), if_neg (by omega)]
          refine ⟨rfl, ?_⟩
          have : strI [a, b, c, d, e] 1 = true := by unfold strI; simp [hr]
          rw [this]; simp; omega
        · rw [if_neg (fun q : a - e = 4 ∧ 4 ≤ a ∧ a < ((9 : Nat) : Int) + 4 => hr q.1), if_neg hw, if_neg (by omega)]
          refine ⟨rfl, ?_⟩
          have : strI [a, b, c, d, e] 1 = false := by
            unfold strI
            have e1 : (([a, b, c, d, e].getD 0 0 - [a, b, c, d, e].getD 4 0 == 4) = false) := by simpa using hr
            have e2 : ([a, b, c, d, e] == [3, 2, 1, 0, 12]) = false := by rw [beq_eq_false_iff_ne]; exact hn
            rw [e1, e2]; rfl
          rw [this]; rfl
    | _ => exact absurd rfl hab

theorem cat_same (rs : List Int) (one : Bool) (h : ranksOk rs) (h4 : ∀ r, occ rs r ≤ 4) (hl : rs.length = 5) :
    catI (lowK (kk rs)) (mostK (kk rs)) (nextK (kk rs)) one = catS rs one := by
  obtain ⟨t, _, e2⟩ := five_facts rs h h4 hl
  have hp := kk_perm rs h h4
  unfold catI catS
  rw [e2]
  unfold Tab at t
  rw [many_perm hp, many_perm hp, many_perm hp] at t
  generalize decide (0 ≤ strT rs) = s
  rcases t with ⟨t1, t2⟩ | ⟨t1, t2, t3, t4, t5⟩ | ⟨t1, t2, t3, t4, t5⟩ | ⟨t1, t2, t3, t4, t5⟩ | ⟨t1, t2, t3, t4, t5⟩ | ⟨t1, t2, t3, t4⟩
  · simp [t1, t2]
  · simp [t1, t2, t3, t4, t5]
  · simp [t1, t2, t3, t4, t5]
  · simp [t1, t2, t3, t4, t5]
  · simp [t1, t2, t3, t4, t5]
  · simp [t1, t2, t3, t4]
end Go.Proofs.Ytlcimofhpphefaa
