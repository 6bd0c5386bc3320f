/-
  Plain facts: the hands that are dealt and the rest of the deck are the whole deck. Nothing of the program is imported.
-/
import Derived.Test.YtafifipnfhekiaaDeckPure
namespace Go.Proofs.Ytafifipnfhekiaa

/-- The places of the rest, then of the first hands. -/
def placesTo (hands n i : Nat) : List Nat := ((List.range (52 - hands * n)).map (hands * n + ·)) ++ (List.range i).flatMap (fun h => (List.range n).map (fun k => k * hands + h))
def goodPlaces (hands n : Nat) : Bool := decide ((placesTo hands n hands).Nodup) && ((placesTo hands n hands).all (· < 52)) && decide ((placesTo hands n hands).length = 52)
theorem all_good : (List.range 11).all (fun hands => (List.range 53).all (fun n => decide (52 < hands * n) || hands == 0 || goodPlaces hands n)) = true := by decide +kernel
theorem good_at (hands n : Nat) (h1 : 1 ≤ hands) (h2 : hands ≤ 10) (h3 : hands * n ≤ 52) : goodPlaces hands n = true := by
  have hn : n ≤ 52 := Nat.le_trans (Nat.le_mul_of_pos_left n h1) h3
  have a := List.all_eq_true.1 all_good hands (by simp; omega)
  have b := List.all_eq_true.1 a n (by simp; omega)
  simp only [Bool.or_eq_true, decide_eq_true_eq, beq_iff_eq] at b
  rcases b with (b | b) | b
  · omega
  · omega
  · exact b
def atPlaces (xs : List Int) (l : List Nat) : List Int := l.map (ix xs)
theorem dealt_places (hands n h : Nat) (xs : List Int) : dealt hands n h xs = atPlaces xs ((List.range n).map (fun k => k * hands + h)) := by simp [dealt, atPlaces, permN]
theorem rest_places (m : Nat) (xs : List Int) (hl : xs.length = 52) (_hm : m ≤ 52) : xs.drop m = atPlaces xs ((List.range (52 - m)).map (m + ·)) := by
  apply ix_ext
  · simp [atPlaces, hl]
  · intro i hi
    rw [List.length_drop, hl] at hi
    rw [ix_drop, ix_eq (atPlaces _ _) i (by simp [atPlaces]; exact hi)]
    simp [atPlaces]
/-- The rest, then the first i hands. -/
def restAnd (hands n i : Nat) (xs : List Int) : List Int := atPlaces xs (placesTo hands n i)
theorem restAnd_zero (hands n : Nat) (xs : List Int) (hl : xs.length = 52) (hm : hands * n ≤ 52) : restAnd hands n 0 xs = xs.drop (hands * n) := by
  rw [rest_places _ xs hl hm]; simp [restAnd, placesTo]
theorem restAnd_snoc (hands n i : Nat) (xs : List Int) : restAnd hands n (i + 1) xs = restAnd hands n i xs ++ dealt hands n i xs := by
  rw [dealt_places]
  simp [restAnd, placesTo, atPlaces, List.range_succ, List.flatMap_append]
theorem restAnd_len (hands n i : Nat) (xs : List Int) : (restAnd hands n i xs).length = (placesTo hands n i).length := by simp [restAnd, atPlaces]
theorem placesTo_len (hands n : Nat) : ∀ i, (placesTo hands n i).length = (52 - hands * n) + i * n
  | 0 => by simp [placesTo]
  | i + 1 => by
    have ih := placesTo_len hands n i
    have e : placesTo hands n (i + 1) = placesTo hands n i ++ (List.range n).map (fun k => k * hands + i) := by simp [placesTo, List.range_succ, List.flatMap_append]
    rw [e, List.length_append, ih]
    simp [Nat.succ_mul]; omega
theorem restAnd_deck (hands n : Nat) (xs : List Int) (h : deckB xs = true) (h1 : 1 ≤ hands) (h2 : hands ≤ 10) (h3 : hands * n ≤ 52) : deckB (restAnd hands n hands xs) = true := by
  obtain ⟨hl, hc⟩ := (deck_iff xs).1 h
  have hg := good_at hands n h1 h2 h3
  unfold goodPlaces at hg
  simp only [Bool.and_eq_true, decide_eq_true_eq, List.all_eq_true] at hg
  obtain ⟨⟨g1, g2⟩, g3⟩ := hg
  have hc' := (cards_iff xs).1 hc
  rw [deck_iff, restAnd_len, cards_iff]
  refine ⟨g3, fun x hx => ?_, ?_⟩
  · obtain ⟨p, hp, rfl⟩ := List.mem_map.1 hx
    exact hc'.1 _ (ix_mem xs _ (by rw [hl]; exact g2 p hp))
  · unfold restAnd atPlaces List.Nodup
    rw [List.pairwise_map]
    have hm : (placesTo hands n hands).Pairwise (fun a b => a < 52 ∧ b < 52 ∧ a ≠ b) := by
      rw [List.pairwise_iff_getElem]
      intro i j hi hj hij
      exact ⟨g2 _ (List.getElem_mem hi), g2 _ (List.getElem_mem hj), fun e => by have := (List.getElem_inj g1).1 e; omega⟩
    exact hm.imp (fun {a b} hab e => hab.2.2 (ix_inj xs hc'.2 a b (by omega) (by omega) e))
end Go.Proofs.Ytafifipnfhekiaa
