/-
  A range text part by part: plain facts.
-/
import Derived.Test.YtlpkaflmhdgmmaaPartPure
namespace Go.Proofs.Ytlpkaflmhdgmmaa

theorem jn_more (b : UInt8) (ps : List (List UInt8)) (k : Nat) (h : k < ps.length) : jnB b (ps.drop k) = b :: (ps[k] ++ jnB b (ps.drop (k + 1))) := by
  rw [List.drop_eq_getElem_cons h]
  unfold jnB
  rw [List.flatMap_cons]; rfl
theorem jn_end (b : UInt8) (ps : List (List UInt8)) (k : Nat) (h : ps.length ≤ k) : jnB b (ps.drop k) = [] := by
  rw [List.drop_of_length_le h]; rfl
theorem jn_head (b : UInt8) : ∀ qs : List (List UInt8), jnB b qs = [] ∨ ∃ u, jnB b qs = b :: u
  | [] => .inl rfl
  | q :: qs => .inr ⟨q ++ jnB b qs, by unfold jnB; rw [List.flatMap_cons]; rfl⟩
theorem grpR_len {l : List UInt8} {g : Grp} {r : List UInt8} (h : grpR l = some (g, r)) : r.length ≤ l.length := by
  obtain ⟨a, rfl⟩ := grpR_rest h
  rw [List.length_append]; omega
theorem partR_rest {l : List UInt8} {x : Grp × Int} {r : List UInt8} (h : partR l = some (x, r)) : ∃ a, l = a ++ r := by
  rcases hg : grpR l with _ | ⟨g, m⟩
  · rw [partR_none hg] at h; cases h
  · obtain ⟨a, rfl⟩ := grpR_rest hg
    cases m with
    | nil =>
      rw [partR_end hg] at h
      injection h with h; injection h with _ h; subst h; exact ⟨a, rfl⟩
    | cons e m =>
      by_cases h1 : e = 43
      · subst h1
        rw [partR_plus hg] at h
        injection h with h; injection h with _ h; subst h; exact ⟨a ++ [43], by simp⟩
      · by_cases h2 : e = 45
        · subst h2
          rcases hg2 : grpR m with _ | ⟨g2, r2⟩
          · rw [partR_bad hg hg2] at h; cases h
          · rw [partR_minus hg hg2] at h
            split at h
            · injection h with h; injection h with _ h; subst h
              obtain ⟨b, rfl⟩ := grpR_rest hg2
              exact ⟨a ++ 45 :: b, by simp⟩
            · cases h
        · rw [partR_other hg h1 h2] at h
          injection h with h; injection h with _ h; subst h; exact ⟨a, rfl⟩
theorem pieceR_yes {p : List UInt8} {x : Grp × Int} (hx : partM p = some x) (qs : List (List UInt8)) : partR (p ++ jnB 44 qs) = some (x, jnB 44 qs) := by
  rw [partR_app p _ (jn_head 44 qs), partM_some hx]; rfl
theorem pieceR_no {p : List UInt8} (h44 : (44 : UInt8) ∉ p) (hx : partM p = none) (qs : List (List UInt8)) :
    partR (p ++ jnB 44 qs) = none ∨ ∃ x e r, e ≠ 44 ∧ partR (p ++ jnB 44 qs) = some (x, e :: r) ∧ (e :: r).length ≤ (p ++ jnB 44 qs).length := by
  rw [partR_app p _ (jn_head 44 qs)]
  rcases hp : partR p with _ | ⟨x, m⟩
  · exact .inl rfl
  · cases m with
    | nil => unfold partM at hx; rw [hp] at hx; cases hx
    | cons e r =>
      obtain ⟨a, rfl⟩ := partR_rest hp
      refine .inr ⟨x, e, r ++ jnB 44 qs, fun q => h44 (by rw [q]; simp), rfl, ?_⟩
      simp only [List.length_append, List.length_cons]
      omega
/-- What is left of the text, and the classes found, when the reader has read some parts: all of them parts, or the last one none. -/
def PSt (ps : List (List UInt8)) (rest : List UInt8) (q : Int → Bool) : Prop :=
  (∃ k, k ≤ ps.length ∧ okK ps k ∧ rest = jnB 44 (ps.drop k) ∧ q = hasB (accK ps k)) ∨ (¬ okK ps ps.length ∧ ∃ e r, rest = e :: r ∧ e ≠ 44)
theorem hasB_two (xs ys : List Int) : (fun c => hasB xs c || hasB ys c) = hasB (xs ++ ys) := by
  funext c; unfold hasB; simp
theorem part_step (ps : List (List UInt8)) (k : Nat) (hk : k < ps.length) (ho : okK ps k) (h44 : ∀ p ∈ ps, (44 : UInt8) ∉ p) :
    (partR (ps[k] ++ jnB 44 (ps.drop (k + 1))) = none ∧ ¬ okK ps ps.length) ∨
    (∃ x rest, partR (ps[k] ++ jnB 44 (ps.drop (k + 1))) = some (x, rest) ∧ PSt ps rest (fun c => hasB (accK ps k) c || hasB (rowG x) c) ∧ rest.length ≤ (ps[k] ++ jnB 44 (ps.drop (k + 1))).length) := by
  rcases hx : partM ps[k] with _ | x
  · have hno : ¬ okK ps ps.length := fun h => by
      have := h ps[k] (by rw [List.take_of_length_le (Nat.le_refl _)]; exact List.getElem_mem hk)
      rw [hx] at this; cases this
    rcases pieceR_no (h44 _ (List.getElem_mem hk)) hx (ps.drop (k + 1)) with h | ⟨x, e, r, he, h, hl⟩
    · exact .inl ⟨h, hno⟩
    · exact .inr ⟨x, e :: r, h, .inr ⟨hno, e, r, rfl, he⟩, hl⟩
  · refine .inr ⟨x, _, pieceR_yes hx _, .inl ⟨k + 1, by omega, okK_succ ho hk hx, rfl, ?_⟩, ?_⟩
    · rw [accK_succ ps k hk hx, hasB_two]
    · rw [List.length_append]; omega
/-- What the reader stands at ahead of a part: the loop's three ends. -/
theorem pst_cases {ps : List (List UInt8)} {rest : List UInt8} {q : Int → Bool} (h : PSt ps rest q) :
    (rest = [] ∧ okK ps ps.length ∧ q = hasB (accK ps ps.length)) ∨
    (∃ k, ∃ hk : k < ps.length, okK ps k ∧ rest = 44 :: (ps[k] ++ jnB 44 (ps.drop (k + 1))) ∧ q = hasB (accK ps k)) ∨
    (¬ okK ps ps.length ∧ ∃ e r, rest = e :: r ∧ e ≠ 44) := by
  rcases h with ⟨k, hk, ho, e1, e2⟩ | h
  · by_cases hl : k < ps.length
    · exact .inr (.inl ⟨k, hl, ho, by rw [e1, jn_more 44 ps k hl], e2⟩)
    · obtain rfl : k = ps.length := by omega
      exact .inl ⟨by rw [e1, jn_end 44 ps _ (Nat.le_refl _)], ho, e2⟩
  · exact .inr (.inr h)
theorem jn_len (b : UInt8) (q : List UInt8) : ∀ ps : List (List UInt8), q ∈ ps → q.length ≤ (jnB b ps).length
  | [], h => by cases h
  | p :: ps, h => by
    have e : jnB b (p :: ps) = b :: (p ++ jnB b ps) := by unfold jnB; rw [List.flatMap_cons]; rfl
    rw [e, List.length_cons, List.length_append]
    rcases List.mem_cons.1 h with h | h
    · rw [h]; omega
    · have := jn_len b q ps h; omega
theorem pieceB_len (b : UInt8) (l q : List UInt8) (h : q ∈ splitB b l) : q.length ≤ l.length := by
  obtain ⟨p, ps, e1, e2, _, _⟩ := splitB_jn b l.length l (Nat.le_refl _)
  rw [e1] at h
  have e3 : l.length = p.length + (jnB b ps).length := by rw [← List.length_append, ← e2]
  rcases List.mem_cons.1 h with h | h
  · rw [h]; omega
  · have := jn_len b q ps h; omega
/-- How the text begins. -/
theorem split_start (l : List UInt8) : ∃ h : 0 < (splitB 44 l).length, l = (splitB 44 l)[0] ++ jnB 44 ((splitB 44 l).drop 1) ∧ (∀ p ∈ splitB 44 l, (44 : UInt8) ∉ p) ∧ (splitB 44 l).length ≤ l.length + 1 := by
  obtain ⟨p, ps, e1, e2, e3, e4⟩ := splitB_jn 44 l.length l (Nat.le_refl _)
  refine ⟨by rw [e1]; simp, ?_, by rw [e1]; exact e3, by rw [e1, List.length_cons]; omega⟩
  have : ∀ (qs : List (List UInt8)) (h : 0 < qs.length), qs = p :: ps → l = qs[0] ++ jnB 44 (qs.drop 1) := fun qs h e => by subst e; exact e2
  exact this _ _ e1
end Go.Proofs.Ytlpkaflmhdgmmaa
