/-
  Plain facts on low hands: low ranks, the ace-to-five and the deuce-to-seven value, the least of some lists. Nothing of the program is imported.
-/
import Derived.Test.YtlpkaflmhdgmmaaGreatDoorHigh
namespace Go.Proofs.YtlpkaflmhdgmmaaGreatDoor
set_option linter.unusedVariables false

/-- The low rank of a card; the low ranks of cards. -/
def lr (x : Int) : Int := (x / 4 + 1) % 13
def lrs (xs : List Int) : List Int := xs.map lr
theorem lr_bd (x : Int) : 0 ≤ lr x ∧ lr x < 13 := by unfold lr; omega
theorem lrs_len (xs : List Int) : (lrs xs).length = xs.length := by simp [lrs]
theorem lrs_ok (xs : List Int) : ranksOk (lrs xs) := fun r hr => by
  obtain ⟨x, _, rfl⟩ := List.mem_map.1 hr
  exact lr_bd x
/-- No low rank occurs more than four times. -/
theorem lrs_occ (xs : List Int) (rs : List Int) (hr : rs = xs.map (fun x => x / 4)) (h4 : ∀ r, occ rs r ≤ 4) (hrk : ranksOk rs) (r : Int) : occ (lrs xs) r ≤ 4 := by
  subst hr
  have e : lrs xs = (xs.map (fun x => x / 4)).map (fun q => (q + 1) % 13) := by unfold lrs lr; rw [List.map_map]; rfl
  rw [e]
  have hle : occ ((xs.map (fun x => x / 4)).map (fun q => (q + 1) % 13)) r ≤ occ (xs.map (fun x => x / 4)) ((r + 12) % 13) := by
    generalize xs.map (fun x => x / 4) = rs at hrk ⊢
    clear h4 e
    induction rs with
    | nil => simp [occ, cnt]
    | cons q rs ih =>
      have hq := hrk q (List.mem_cons_self ..)
      have ih := ih (fun y hy => hrk y (List.mem_cons_of_mem _ hy))
      rw [occ_count, occ_count] at *
      rw [List.map_cons, List.count_cons, List.count_cons]
      by_cases h : (q + 1) % 13 = r
      · have h2 : q = (r + 12) % 13 := by omega
        simp [h, ← h2]; rw [h2]; exact ih
      · simp [h]; omega
  exact Nat.le_trans hle (h4 _)

/-- The pattern: by the model's counts; by the program's shape. -/
def patS (rs : List Int) : Int := if many rs 4 = 1 then 5 else if many rs 3 = 1 ∧ many rs 2 = 1 then 4 else if many rs 3 = 1 then 3 else (many rs 2 : Int)
def patI (most next : Nat) : Int := if most = 4 then 5 else if most = 3 ∧ next = 2 then 4 else if 3 ≤ most then 3 else if 2 ≤ most ∧ 2 ≤ next then 2 else if 2 ≤ most then 1 else 0
theorem pat_same (rs : List Int) (h : ranksOk rs) (h4 : ∀ r, occ rs r ≤ 4) (hl : rs.length = 5) : patI (mostK (kk rs)) (nextK (kk rs)) = patS rs := by
  obtain ⟨t, _⟩ := five_facts rs h h4 hl
  have hp := kk_perm rs h h4
  unfold Tab at t
  rw [many_perm hp, many_perm hp, many_perm hp] at t
  unfold patI patS
  rcases t with ⟨t1, t2⟩ | ⟨t1, t2, t3, t4, t5⟩ | ⟨t1, t2, t3, t4, t5⟩ | ⟨t1, t2, t3, t4, t5⟩ | ⟨t1, t2, t3, t4, t5⟩ | ⟨t1, t2, t3, t4⟩
  · simp [t1, t2]
  · simp [t1, t2, t3, t4, t5]
  · simp [t1, t2, t3, t4, t5]
  · simp [t1, t2, t3, t4, t5]
  · simp [t1, t2, t3, t4, t5]
  · simp [t1, t2, t3, t4]
theorem pat_bd (rs : List Int) (h : ranksOk rs) (h4 : ∀ r, occ rs r ≤ 4) (hl : rs.length = 5) : 0 ≤ patS rs ∧ patS rs ≤ 5 := by
  rw [← pat_same rs h h4 hl]
  unfold patI
  repeat' split
  all_goals omega

/-- The category of the deuce-to-seven value: by the program's shape, where the ace is above the king. -/
def catD (rs : List Int) (one : Bool) : Int := if strT rs = 3 then (if one = true then 5 else 0) else catS rs one
def kickD (rs : List Int) : List Int := kk rs
theorem five_wheel (rs : List Int) (h : ranksOk rs) (h4 : ∀ r, occ rs r ≤ 4) (hl : rs.length = 5) (hT : strT rs = 3) : kk rs = [12, 3, 2, 1, 0] := by
  obtain ⟨_, e, _⟩ := five_facts rs h h4 hl
  unfold kickS at e
  rw [if_pos hT] at e
  by_cases hw : kk rs = [12, 3, 2, 1, 0]
  · exact hw
  · exfalso
    have e2 : lowK (kk rs) = kk rs := by unfold lowK; rw [if_neg hw]
    rw [e2] at e
    obtain ⟨a, b, c, d, f, q, hs, _⟩ := shape_kk rs h h4 hl
    rw [q] at e
    injection e with q0 e; injection e with q1 e; injection e with q2 e; injection e with q3 e; injection e with q4 e
    subst q0 q1 q2 q3 q4
    cases hs <;> omega
theorem catD_same (rs : List Int) (one : Bool) (h : ranksOk rs) (h4 : ∀ r, occ rs r ≤ 4) (hl : rs.length = 5) :
    catI (kk rs) (mostK (kk rs)) (nextK (kk rs)) one = catD rs one := by
  unfold catD
  by_cases hT : strT rs = 3
  · rw [if_pos hT, five_wheel rs h h4 hl hT]
    cases one <;> decide
  · rw [if_neg hT, ← cat_same rs one h h4 hl]
    have e : lowK (kk rs) = kk rs := by
      obtain ⟨_, e, _⟩ := five_facts rs h h4 hl
      rw [e]; unfold kickS; rw [if_neg hT]
    rw [e]
theorem catD_perm {rs L : List Int} (h : L.Perm rs) (o : Bool) (hs : strT L = strT rs) (hc : catS L o = catS rs o) : catD L o = catD rs o := by unfold catD; rw [hs, hc]

/-- The least value of the first k lists. -/
def lowV (f : List Int → Int) (L : List (List Int)) : Nat → Int
  | 0 => 9223372036854775807
  | k + 1 => if f (L.getD k []) < lowV f L k then f (L.getD k []) else lowV f L k
theorem lowV_yes {f : List Int → Int} {L : List (List Int)} {k : Nat} (h : f (L.getD k []) < lowV f L k) : lowV f L (k + 1) = f (L.getD k []) := by rw [lowV, if_pos h]
theorem lowV_no {f : List Int → Int} {L : List (List Int)} {k : Nat} (h : ¬ f (L.getD k []) < lowV f L k) : lowV f L (k + 1) = lowV f L k := by rw [lowV, if_neg h]
theorem lowV_le (f : List Int → Int) (L : List (List Int)) : ∀ k i, i < k → lowV f L k ≤ f (L.getD i [])
  | 0, i, h => by omega
  | k + 1, i, h => by
    by_cases c : f (L.getD k []) < lowV f L k
    · rw [lowV_yes c]
      by_cases e : i = k
      · subst e; exact Int.le_refl _
      · have := lowV_le f L k i (by omega); omega
    · rw [lowV_no c]
      by_cases e : i = k
      · subst e; omega
      · exact lowV_le f L k i (by omega)
theorem lowV_bd (f : List Int → Int) (L : List (List Int)) (b : Int) (hb : b < 9223372036854775807) (hf : ∀ i, i < L.length → 0 ≤ f (L.getD i []) ∧ f (L.getD i []) ≤ b) : ∀ k, k ≤ L.length → 0 ≤ lowV f L k ∧ (0 < k → lowV f L k ≤ b) ∧ (k = 0 → lowV f L k = 9223372036854775807)
  | 0, _ => ⟨by show (0 : Int) ≤ 9223372036854775807; omega, fun h => by omega, fun _ => rfl⟩
  | k + 1, hk => by
    have ih := lowV_bd f L b hb hf k (by omega)
    have hf' := hf k (by omega)
    refine ⟨?_, fun _ => ?_, fun h => by omega⟩
    · by_cases c : f (L.getD k []) < lowV f L k
      · rw [lowV_yes c]; exact hf'.1
      · rw [lowV_no c]; exact ih.1
    · by_cases c : f (L.getD k []) < lowV f L k
      · rw [lowV_yes c]; exact hf'.2
      · rw [lowV_no c]; omega
end Go.Proofs.YtlpkaflmhdgmmaaGreatDoor
