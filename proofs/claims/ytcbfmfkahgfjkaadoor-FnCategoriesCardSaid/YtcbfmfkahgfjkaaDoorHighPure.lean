/-
  Plain facts on hands of five: how often ranks occur, the ranks in the order of kickers, shapes, straights. Nothing of the program is imported.
-/
import Derived.Test.YtcbfmfkahgfjkaaDoorCardSet
namespace Go.Proofs.YtcbfmfkahgfjkaaDoor
set_option linter.unusedSimpArgs false

/-! How often a rank occurs, and the order of kickers. -/
def occ (rs : List Int) (r : Int) : Nat := cnt (fun x => x == r) rs
theorem occ_count (rs : List Int) (r : Int) : occ rs r = rs.count r := by
  unfold occ cnt; rw [List.count, List.countP_eq_length_filter]
theorem occ_perm {rs L : List Int} (h : L.Perm rs) (r : Int) : occ L r = occ rs r := by
  rw [occ_count, occ_count]; exact h.count_eq r
theorem occ_le (rs : List Int) (r : Int) : occ rs r ≤ rs.length := cnt_le _ _
theorem occ_five (a b c d e r : Int) : occ [a, b, c, d, e] r = (if a = r then 1 else 0) + (if b = r then 1 else 0) + (if c = r then 1 else 0) + (if d = r then 1 else 0) + (if e = r then 1 else 0) := by
  rw [occ_count]
  simp only [List.count_cons, List.count_nil, beq_iff_eq]
  omega
/-- x may stand before y. -/
def leK (rs : List Int) (x y : Int) : Prop := occ rs y < occ rs x ∨ (occ rs x = occ rs y ∧ y ≤ x)
/-- The steps of the model: how often, and which rank. -/
def steps : List (Nat × Nat) := (List.range 4).flatMap fun i => (List.range 13).map fun j => (4 - i, 12 - j)
def piece (rs : List Int) (p : Nat × Nat) : List Int := if occ rs (p.2 : Int) = p.1 then List.replicate p.1 (p.2 : Int) else []
def runK (rs : List Int) (m : Nat) : List Int := (steps.take m).flatMap (piece rs)
/-- The ranks in the order of kickers. -/
def kk (rs : List Int) : List Int := runK rs 52
/-- Ranks of cards. -/
def ranksOk (rs : List Int) : Prop := ∀ r ∈ rs, 0 ≤ r ∧ r < 13
theorem occ_out {rs : List Int} (h : ranksOk rs) (x : Int) (hx : ¬ (0 ≤ x ∧ x < 13)) : occ rs x = 0 := by
  rw [occ_count, List.count_eq_zero]
  exact fun hm => hx (h x hm)
theorem steps_len : steps.length = 52 := by decide
theorem kk_eq (rs : List Int) : kk rs = steps.flatMap (piece rs) := by unfold kk runK; rw [List.take_of_length_le (by rw [steps_len]; omega)]
theorem piece_count (rs : List Int) (p : Nat × Nat) (x : Nat) : (piece rs p).count (x : Int) = if p == (occ rs (x : Int), x) then occ rs (x : Int) else 0 := by
  unfold piece
  obtain ⟨n, r⟩ := p
  by_cases e : r = x
  · subst e
    by_cases h : occ rs (r : Int) = n
    · simp [h]
    · have h' : ¬ n = occ rs (r : Int) := fun q => h q.symm
      simp [h, h']
  · have e' : ¬ (r : Int) = (x : Int) := by omega
    by_cases h : occ rs (r : Int) = n
    · simp [h, List.count_replicate, e, e']
    · simp [h, e]
theorem steps_sum : ∀ n : Fin 5, ∀ x : Fin 13, (steps.map (fun p => if p == (n.val, x.val) then n.val else 0)).sum = n.val := by decide +kernel
theorem kk_perm (rs : List Int) (h : ranksOk rs) (h4 : ∀ r, occ rs r ≤ 4) : (kk rs).Perm rs := by
  rw [List.perm_iff_count]
  intro x
  rw [kk_eq, List.count_flatMap]
  by_cases hx : 0 ≤ x ∧ x < 13
  · obtain ⟨y, rfl⟩ := Int.eq_ofNat_of_zero_le hx.1
    have e : (List.count (y : Int) ∘ piece rs) = fun p => if p == (occ rs (y : Int), y) then occ rs (y : Int) else 0 := by
      funext p; exact piece_count rs p y
    rw [e]
    have := steps_sum ⟨occ rs (y : Int), by have := h4 (y : Int); omega⟩ ⟨y, by omega⟩
    simp only at this
    rw [this, occ_count]
  · have h0 := occ_out h x hx
    rw [occ_count] at h0
    rw [h0]
    have : ∀ p ∈ steps, (List.count x ∘ piece rs) p = 0 := by
      intro p hp
      have hb : p.2 < 13 := by
        have : ∀ q ∈ steps, q.2 < 13 := by decide
        exact this p hp
      simp only [Function.comp]
      rw [List.count_eq_zero]
      intro hm
      unfold piece at hm
      split at hm
      · have := List.eq_of_mem_replicate hm; omega
      · simp at hm
    rw [List.map_congr_left (g := fun _ => 0) this]
    decide
theorem steps_pw : steps.Pairwise (fun p q => q.1 < p.1 ∨ (p.1 = q.1 ∧ q.2 ≤ p.2)) := by decide
theorem kk_sorted (rs : List Int) : (kk rs).Pairwise (leK rs) := by
  rw [kk_eq, List.pairwise_flatMap]
  refine ⟨fun p _ => ?_, steps_pw.imp ?_⟩
  · unfold piece
    split
    · rw [List.pairwise_replicate]; right; unfold leK; right; exact ⟨rfl, Int.le_refl _⟩
    · exact List.Pairwise.nil
  · intro p q hpq x hx y hy
    unfold piece at hx hy
    split at hx
    · next hp =>
      split at hy
      · next hq =>
        have ex := List.eq_of_mem_replicate hx
        have ey := List.eq_of_mem_replicate hy
        unfold leK
        rw [ex, ey, hp, hq]
        omega
      · simp at hy
    · simp at hx
theorem leK_anti {rs : List Int} (x y : Int) (h : leK rs x y) (h' : leK rs y x) : x = y := by unfold leK at h h'; omega
/-- What is sorted is the list of the kickers. -/
theorem kk_unique (rs L : List Int) (h : ranksOk rs) (h4 : ∀ r, occ rs r ≤ 4) (hp : L.Perm rs) (hs : L.Pairwise (leK rs)) : L = kk rs :=
  List.Perm.eq_of_pairwise (fun a b _ _ => leK_anti a b) hs (kk_sorted rs) (hp.trans (kk_perm rs h h4).symm)

/-! The shapes of five sorted ranks. -/
theorem le_between {f : Int → Nat} {x y z : Int} (h1 : f y < f x ∨ (f x = f y ∧ y ≤ x)) (h2 : f z < f y ∨ (f y = f z ∧ z ≤ y)) (e : x = z) : x = y := by subst e; omega
/-- The shapes of ranks: which are equal. -/
inductive Shape : Int → Int → Int → Int → Int → Prop
  | p5 (a : Int) : Shape a a a a a
  | p41 (a e : Int) (h : a ≠ e) : Shape a a a a e
  | p32 (a d : Int) (h : a ≠ d) : Shape a a a d d
  | p311 (a d e : Int) (h1 : a ≠ d) (h2 : a ≠ e) (h : e < d) : Shape a a a d e
  | p221 (a c e : Int) (h1 : c < a) (h2 : a ≠ e) (h3 : c ≠ e) : Shape a a c c e
  | p2111 (a c d e : Int) (h1 : a ≠ c) (h2 : a ≠ d) (h3 : a ≠ e) (h4 : d < c) (h5 : e < d) : Shape a a c d e
  | p1 (a b c d e : Int) (h1 : b < a) (h2 : c < b) (h3 : d < c) (h4 : e < d) : Shape a b c d e
set_option maxHeartbeats 2000000 in
theorem shape_of (a b c d e : Int) (h : [a, b, c, d, e].Pairwise (leK [a, b, c, d, e])) : Shape a b c d e := by
  simp only [List.pairwise_cons, List.mem_cons, List.not_mem_nil, or_false, forall_eq_or_imp, forall_eq] at h
  obtain ⟨⟨ab, ac, ad, ae⟩, ⟨bc, bd, be⟩, ⟨cd, ce⟩, de, _⟩ := h
  unfold leK at *
  by_cases e1 : a = b <;> by_cases e2 : b = c <;> by_cases e3 : c = d <;> by_cases e4 : d = e
  all_goals
    have n1 : a = c → a = b := fun q => le_between ab bc q
    have n2 : b = d → b = c := fun q => le_between bc cd q
    have n3 : c = e → c = d := fun q => le_between cd de q
    have n4 : a = d → a = b := fun q => le_between ab bd q
    have n5 : b = e → b = c := fun q => le_between bc ce q
    have n6 : a = e → a = b := fun q => le_between ab be q
    have m4 : a = d → c = d := fun q => by have := le_between ac cd q; omega
    have m5 : b = e → d = e := fun q => by have := le_between bd de q; omega
    have m6 : a = e → d = e := fun q => by have := le_between ad de q; omega
    simp only [occ_five] at ab bc cd de
    clear ac ad ae bd be ce
  · subst e1 e2 e3 e4; exact .p5 _
  · subst e1 e2 e3; exact .p41 _ _ e4
  · subst e1 e2 e4; exact .p32 _ _ e3
  · subst e1 e2
    have h1 : a ≠ d := e3
    have h2 : a ≠ e := fun q => e4 (m6 q)
    have h3 : d ≠ e := e4
    simp [h1, Ne.symm h1, h2, h3, Ne.symm h2, Ne.symm h3] at de
    exact .p311 _ _ _ h1 h2 (by omega)
  · exfalso
    subst e1 e3 e4
    have h1 : a ≠ c := e2
    simp [h1, Ne.symm h1] at bc
  · subst e1 e3
    have h1 : a ≠ c := e2
    have h2 : c ≠ e := e4
    have h3 : a ≠ e := fun q => e2 (n5 q)
    simp [h1, Ne.symm h1, h2, h3, Ne.symm h2, Ne.symm h3] at bc
    exact .p221 _ _ _ (by omega) h3 h2
  · exfalso
    subst e1 e4
    have h1 : a ≠ c := e2
    have h2 : c ≠ d := e3
    have h3 : a ≠ d := fun q => e2 (n2 q)
    simp [h1, Ne.symm h1, h2, h3, Ne.symm h2, Ne.symm h3] at cd
  · subst e1
    have h1 : a ≠ c := e2
    have h2 : c ≠ d := e3
    have h3 : a ≠ d := fun q => e2 (n2 q)
    have h4 : d ≠ e := e4
    have h5 : c ≠ e := fun q => e3 (n3 q)
    have h6 : a ≠ e := fun q => e2 (n5 q)
    simp [h1, Ne.symm h1, h2, h3, Ne.symm h2, Ne.symm h3, h4, h5, h6, Ne.symm h4, Ne.symm h5, Ne.symm h6] at cd de
    exact .p2111 _ _ _ _ h1 h3 h6 (by omega) (by omega)
  · exfalso
    subst e2 e3 e4
    have h1 : a ≠ b := e1
    simp [h1, Ne.symm h1] at ab
  · exfalso
    subst e2 e3
    have h1 : a ≠ b := e1
    have h2 : b ≠ e := e4
    have h3 : a ≠ e := fun q => e1 (n6 q)
    simp [h1, Ne.symm h1, h2, h3, Ne.symm h2, Ne.symm h3] at ab
  · exfalso
    subst e2 e4
    have h1 : a ≠ b := e1
    have h2 : b ≠ d := e3
    have h3 : a ≠ d := fun q => e1 (n4 q)
    simp [h1, Ne.symm h1, h2, h3, Ne.symm h2, Ne.symm h3] at ab
  · exfalso
    subst e2
    have h1 : a ≠ b := e1
    have h2 : b ≠ d := e3
    have h3 : a ≠ d := fun q => e1 (n4 q)
    have h4 : d ≠ e := e4
    have h5 : b ≠ e := fun q => e4 (m5 q)
    have h6 : a ≠ e := fun q => e1 (n6 q)
    simp [h1, Ne.symm h1, h2, h3, Ne.symm h2, Ne.symm h3, h4, h5, h6, Ne.symm h4, Ne.symm h5, Ne.symm h6] at ab
  · exfalso
    subst e3 e4
    have h1 : a ≠ b := e1
    have h2 : b ≠ c := e2
    have h3 : a ≠ c := fun q => e1 (n1 q)
    simp [h1, Ne.symm h1, h2, h3, Ne.symm h2, Ne.symm h3] at bc
  · exfalso
    subst e3
    have h1 : a ≠ b := e1
    have h2 : b ≠ c := e2
    have h3 : a ≠ c := fun q => e1 (n1 q)
    have h4 : c ≠ e := e4
    have h5 : b ≠ e := fun q => e2 (n5 q)
    have h6 : a ≠ e := fun q => e1 (n6 q)
    simp [h1, Ne.symm h1, h2, h3, Ne.symm h2, Ne.symm h3, h4, h5, h6, Ne.symm h4, Ne.symm h5, Ne.symm h6] at bc
  · exfalso
    subst e4
    have h1 : a ≠ b := e1
    have h2 : b ≠ c := e2
    have h3 : a ≠ c := fun q => e1 (n1 q)
    have h4 : c ≠ d := e3
    have h5 : b ≠ d := fun q => e2 (n2 q)
    have h6 : a ≠ d := fun q => e1 (n4 q)
    simp [h1, Ne.symm h1, h2, h3, Ne.symm h2, Ne.symm h3, h4, h5, h6, Ne.symm h4, Ne.symm h5, Ne.symm h6] at cd
  · have h1 : a ≠ b := e1
    have h2 : b ≠ c := e2
    have h3 : a ≠ c := fun q => e1 (n1 q)
    have h4 : c ≠ d := e3
    have h5 : b ≠ d := fun q => e2 (n2 q)
    have h6 : a ≠ d := fun q => e1 (n4 q)
    have h7 : d ≠ e := e4
    have h8 : c ≠ e := fun q => e3 (n3 q)
    have h9 : b ≠ e := fun q => e2 (n5 q)
    have h0 : a ≠ e := fun q => e1 (n6 q)
    simp [h1, Ne.symm h1, h2, h3, Ne.symm h2, Ne.symm h3, h4, h5, h6, Ne.symm h4, Ne.symm h5, Ne.symm h6, h7, h8, h9, h0, Ne.symm h7, Ne.symm h8, Ne.symm h9, Ne.symm h0] at ab bc cd de
    exact .p1 _ _ _ _ _ (by omega) (by omega) (by omega) (by omega)
end Go.Proofs.YtcbfmfkahgfjkaaDoor
