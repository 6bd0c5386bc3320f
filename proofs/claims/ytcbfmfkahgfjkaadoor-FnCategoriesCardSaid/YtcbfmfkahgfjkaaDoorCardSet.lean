/-
  Plain facts on lists of cards: which are cards, their set, how many have a property. Nothing of the program is imported.
-/
import Derived.Test.YtcbfmfkahgfjkaaDoorBits
namespace Go.Proofs.YtcbfmfkahgfjkaaDoor

/-! Lists of cards. -/
/-- The numbers are cards, and none occurs twice. -/
def cardsB (l : List Int) : Bool := decide ((∀ x ∈ l, 0 ≤ x ∧ x < 52) ∧ l.Nodup)
theorem cards_nil : cardsB [] = true := by unfold cardsB; simp
theorem cards_iff (l : List Int) : cardsB l = true ↔ (∀ x ∈ l, 0 ≤ x ∧ x < 52) ∧ l.Nodup := by unfold cardsB; simp
theorem cards_snoc (l : List Int) (x : Int) (h : cardsB l = true) (h0 : 0 ≤ x) (h1 : x < 52) (hx : x ∉ l) : cardsB (l ++ [x]) = true := by
  rw [cards_iff] at h ⊢
  refine ⟨fun y hy => ?_, ?_⟩
  · rcases List.mem_append.1 hy with hy | hy
    · exact h.1 y hy
    · obtain rfl : y = x := by simpa using hy
      exact ⟨h0, h1⟩
  · rw [List.nodup_append]
    exact ⟨h.2, by simp, fun a ha b hb e => by subst e; obtain rfl : a = x := by simpa using hb
                                               exact hx ha⟩
theorem cards_take (l : List Int) (k : Nat) (h : cardsB l = true) : cardsB (l.take k) = true := by
  rw [cards_iff] at h ⊢
  exact ⟨fun x hx => h.1 x (List.mem_of_mem_take hx), h.2.sublist (List.take_sublist ..)⟩
theorem cards_no_out (l : List Int) (x : Int) (hx : x ∈ l) (h : ¬ (0 ≤ x ∧ x < 52)) : cardsB l = false := by
  by_cases c : cardsB l = true
  · exact absurd ((cards_iff l).1 c |>.1 x hx) h
  · simpa using c
theorem take_snocI (l : List Int) (k : Nat) (h : k < l.length) : l.take (k + 1) = l.take k ++ [l[k]] := by
  rw [List.take_succ_eq_append_getElem h]
theorem cards_no_twice (l : List Int) (k : Nat) (hk : k < l.length) (h : l[k] ∈ l.take k) : cardsB l = false := by
  by_cases c : cardsB l = true
  · have := (cards_iff _).1 (cards_take l (k + 1) c) |>.2
    rw [take_snocI l k hk, List.nodup_append] at this
    exact absurd rfl (this.2.2 _ h _ (by simp))
  · simpa using c

/-- The set of a list of cards: bit x for each card x. -/
def maskOf (l : List Int) : Nat := l.foldl (fun m x => m ||| 2 ^ x.toNat) 0
theorem mask_nil : maskOf [] = 0 := rfl
theorem mask_snoc (l : List Int) (x : Int) : maskOf (l ++ [x]) = maskOf l ||| 2 ^ x.toNat := by unfold maskOf; rw [List.foldl_append]; rfl
theorem mask_bit_from : ∀ (l : List Int) (m i : Nat), (l.foldl (fun m x => m ||| 2 ^ x.toNat) m).testBit i = (m.testBit i || l.any (fun x => x.toNat == i))
  | [], m, i => by simp
  | x :: l, m, i => by
    rw [List.foldl_cons, mask_bit_from l, Nat.testBit_or, testBit_one_shift, List.any_cons, Bool.or_assoc]
    rfl
theorem mask_bit (l : List Int) (i : Nat) : (maskOf l).testBit i = l.any (fun x => x.toNat == i) := by
  unfold maskOf; rw [mask_bit_from]; simp
theorem mask_mem (l : List Int) (x : Int) (h : cardsB l = true) (hx : 0 ≤ x) : (maskOf l).testBit x.toNat = true ↔ x ∈ l := by
  rw [mask_bit, List.any_eq_true]
  constructor
  · rintro ⟨y, hy, e⟩
    have h2 := (cards_iff l).1 h |>.1 y hy
    have : y = x := by simp at e; omega
    subst this; exact hy
  · exact fun hm => ⟨x, hm, by simp⟩
theorem mask_lt (l : List Int) (h : cardsB l = true) : maskOf l < 2 ^ 52 := by
  apply Nat.lt_pow_two_of_testBit
  intro i hi
  rw [mask_bit]
  by_cases c : l.any (fun x => x.toNat == i) = true
  · obtain ⟨y, hy, e⟩ := List.any_eq_true.1 c
    have h2 := (cards_iff l).1 h |>.1 y hy
    simp at e; omega
  · simpa using c

/-- How many numbers of a list have a property. -/
def cnt (p : Int → Bool) (l : List Int) : Nat := (l.filter p).length
theorem cnt_nil (p : Int → Bool) : cnt p [] = 0 := rfl
theorem cnt_snoc (p : Int → Bool) (l : List Int) (x : Int) : cnt p (l ++ [x]) = cnt p l + if p x = true then 1 else 0 := by
  unfold cnt
  rw [List.filter_append, List.length_append]
  by_cases h : p x = true <;> simp [h]
theorem cnt_le (p : Int → Bool) (l : List Int) : cnt p l ≤ l.length := List.length_filter_le ..
/-- The bits of the set within K count the cards whose bit lies in K. -/
theorem pop_mask (K : Nat) (l : List Int) (h : cardsB l = true) : ∀ k, k ≤ l.length → pop 64 (maskOf (l.take k) &&& K) = cnt (fun x => K.testBit x.toNat) (l.take k)
  | 0, _ => by rw [List.take_zero, mask_nil, Nat.zero_and, pop_zero]; rfl
  | k + 1, hk => by
    have ih := pop_mask K l h k (by omega)
    have hb := (cards_iff l).1 h |>.1 l[k] (List.getElem_mem _)
    have hn : l[k] ∉ l.take k := fun hm => by rw [cards_no_twice l k (by omega) hm] at h; cases h
    have hf : (maskOf (l.take k)).testBit (l[k]).toNat = false := by
      by_cases c : (maskOf (l.take k)).testBit (l[k]).toNat = true
      · exact absurd ((mask_mem _ _ (cards_take l k h) hb.1).1 c) hn
      · simpa using c
    rw [take_snocI l k (by omega), mask_snoc, cnt_snoc, pop_put_and _ _ _ _ (by omega) hf, ih]


end Go.Proofs.YtcbfmfkahgfjkaaDoor
