/-
  Of a player's hands: how many of its cards are hole cards. Plain facts.
-/
import Derived.Test.YtjmfecjgomkofaaHandsPure
import Derived.Test.YtjmfecjgomkofaaBase
namespace Go.Proofs.Ytjmfecjgomkofaa
set_option linter.unusedVariables false

theorem apart_cards {hs bs : List Int} (h : cardsB (hs ++ bs) = true) : ∀ y ∈ bs, y ∉ hs := fun y hy hq => by
  have := ((cards_iff _).1 h).2
  rw [List.nodup_append] at this
  exact this.2.2 y hq y hy rfl
/-- How many of x are in hs. -/
def ownN (hs x : List Int) : Nat := x.countP (fun y => hs.contains y)
theorem pickL_sub (xs : List Int) (c : List Int) (hc : ∀ y ∈ c, 0 ≤ y ∧ y < (xs.length : Int)) : ∀ z ∈ pickL xs c, z ∈ xs := fun z hz => by
  unfold pickL at hz
  obtain ⟨i, hi, rfl⟩ := List.mem_map.1 hz
  obtain ⟨h0, h1⟩ := hc i hi
  have hl : i.toNat < xs.length := by omega
  rw [List.getD_eq_getElem?_getD, List.getElem?_eq_getElem hl]
  exact List.getElem_mem hl
theorem idxC_mem_bd (n s : Nat) (hn : n ≤ 7) (hs : s ≤ 5) : ∀ c ∈ idxC n s, c.length = s ∧ ∀ y ∈ c, 0 ≤ y ∧ y < (n : Int) := fun c hc => by
  obtain ⟨i, hi, e⟩ := List.getElem_of_mem hc
  have f := idxC_facts n s hn hs i hi
  rw [List.getD_eq_getElem?_getD, List.getElem?_eq_getElem hi, Option.getD_some, e] at f
  exact ⟨f.1, f.2.1⟩
theorem countP_all {α : Type} (p : α → Bool) : ∀ (L : List α), (∀ a ∈ L, p a = true) → L.countP p = L.length := fun L h => List.countP_eq_length.2 h
/-- Every card of a hand with o hole cards is a hole card or one of the board's; o of them are hole cards, if no card is both. -/
theorem hRow_own (hs bs : List Int) (o : Nat) (hh : hs.length ≤ 7) (hb : bs.length ≤ 7) (ho : o ≤ 5) (hd : ∀ y ∈ bs, y ∉ hs) : ∀ x ∈ hRow hs bs o, ownN hs x = o ∧ ∀ y ∈ x, y ∈ hs ∨ y ∈ bs := fun x hx => by
  unfold hRow at hx
  obtain ⟨c1, h1, h2⟩ := List.mem_flatMap.1 hx
  obtain ⟨c2, h3, rfl⟩ := List.mem_map.1 h2
  obtain ⟨l1, b1⟩ := idxC_mem_bd _ _ hh ho c1 h1
  obtain ⟨l2, b2⟩ := idxC_mem_bd _ _ hb (by omega) c2 h3
  have s1 := pickL_sub hs c1 b1
  have s2 := pickL_sub bs c2 b2
  refine ⟨?_, fun y hy => ?_⟩
  · unfold ownN
    rw [List.countP_append, countP_all _ _ (fun a ha => by simpa using s1 a ha), List.countP_eq_zero.2 (fun a ha => by simpa using hd a (s2 a ha)), pickL_len, l1]
    rfl
  · rcases List.mem_append.1 hy with h | h
    · exact .inl (s1 y h)
    · exact .inr (s2 y h)
theorem hRows_own (hs bs : List Int) (l M : Nat) (hh : hs.length ≤ 7) (hb : bs.length ≤ 7) (hM : l + M ≤ 6) (hd : ∀ y ∈ bs, y ∉ hs) : ∀ x ∈ hRows hs bs l M, (l ≤ ownN hs x ∧ ownN hs x < l + M) ∧ ∀ y ∈ x, y ∈ hs ∨ y ∈ bs := fun x hx => by
  unfold hRows at hx
  obtain ⟨j, hj, h⟩ := List.mem_flatMap.1 hx
  have := List.mem_range.1 hj
  have k := hRow_own hs bs (l + j) hh hb (by omega) hd x h
  exact ⟨by omega, k.2⟩
end Go.Proofs.Ytjmfecjgomkofaa
