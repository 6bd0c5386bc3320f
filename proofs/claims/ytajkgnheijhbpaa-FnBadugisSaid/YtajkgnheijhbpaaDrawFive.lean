/-
  l04DrawFive: five different cards.
-/
import Derived.Test.YtajkgnheijhbpaaDraws
import Derived.Test.YtajkgnheijhbpaaHigh
namespace Go.Proofs.Ytajkgnheijhbpaa
open Go.RowKit
set_option linter.unusedVariables false

/-- Five different cards, new. -/
def FiveD (w : World) (s : Nat) (a : Option Addr) (L c : Nat) (zs : Nat → Int) (e : Ending) (w' : World) : Prop :=
  ∃ (xs : List Int) (A : Option Addr) (cc : Nat), e = .returned (.slice A xs.length cc) ∧ Own w' w.heap.size (.slice A xs.length cc) xs ∧ Src w' s a L c zs ∧ Only s w w' ∧ xs.length = 5 ∧ cardsB xs = true
theorem nodup_le : ∀ (l bs : List Int), l.Nodup → (∀ x ∈ l, x ∈ bs) → l.length ≤ bs.length
  | [], _, _, _ => Nat.zero_le _
  | x :: l, bs, hn, hs => by
    have hx := hs x (by simp)
    have h2 := List.nodup_cons.1 hn
    have ih := nodup_le l (bs.erase x) h2.2 (fun y hy => (List.mem_erase_of_ne (fun e => h2.1 (by rw [← e]; exact hy))).2 (hs y (by simp [hy])))
    rw [List.length_erase_of_mem hx] at ih
    have : 0 < bs.length := List.length_pos_of_mem hx
    simp only [List.length_cons]
    omega
theorem filt_split (p : Int → Bool) : ∀ l : List Int, (l.filter p).length + (l.filter (fun x => !p x)).length = l.length
  | [] => rfl
  | x :: l => by
    have ih := filt_split p l
    by_cases h : p x = true
    · simp [h]; omega
    · simp [h]; omega
theorem others_facts (bs : List Int) : (othersN 52 bs).Nodup ∧ (∀ x ∈ othersN 52 bs, (0 ≤ x ∧ x < 52) ∧ x ∉ bs) ∧ 52 ≤ (othersN 52 bs).length + bs.length := by
  have hnd : ((List.range 52).map (fun i : Nat => (i : Int))).Nodup := by decide
  refine ⟨hnd.sublist (List.filter_sublist), fun x hx => ⟨othersN_rng 52 bs x hx, ?_⟩, ?_⟩
  · have h := (List.mem_filter.1 hx).2
    unfold hasB at h
    simpa using h
  · have h1 := filt_split (fun c => hasB bs c) ((List.range 52).map (fun i : Nat => (i : Int)))
    have h2 := nodup_le (((List.range 52).map (fun i : Nat => (i : Int))).filter (fun c => hasB bs c)) bs (hnd.sublist List.filter_sublist) (fun x hx => by
      have h := (List.mem_filter.1 hx).2
      unfold hasB at h
      simpa using h)
    have h3 : ((List.range 52).map (fun i : Nat => (i : Int))).length = 52 := by simp
    unfold othersN
    omega
/-- Cards whose ranks go up by d. -/
def Inv (d R : Int) (k : Nat) (os : List Int) : Prop := os.length = k ∧ cardsB os = true ∧ ∀ x ∈ os, ∃ j : Nat, j < k ∧ x / 4 = (R + d * j) % 13
theorem inv_step {d R q : Int} {k : Nat} {os : List Int} (h : Inv d R k os) (hk : k < 5) (hd : d = 1 ∨ d = 2) (h0 : 0 ≤ q) (h4 : q < 4) : Inv d R (k + 1) (os ++ [4 * ((R + d * k) % 13) + q]) := by
  obtain ⟨h1, h2, h3⟩ := h
  have hr : 0 ≤ (R + d * k) % 13 ∧ (R + d * k) % 13 < 13 := by omega
  refine ⟨by simp [h1], cards_snoc _ _ h2 (by omega) (by omega) (fun hm => ?_), fun x hx => ?_⟩
  · obtain ⟨j, hj, e⟩ := h3 _ hm
    rcases hd with rfl | rfl <;> omega
  · rcases List.mem_append.1 hx with hx | hx
    · obtain ⟨j, hj, e⟩ := h3 x hx
      exact ⟨j, by omega, e⟩
    · obtain rfl : x = 4 * ((R + d * k) % 13) + q := by simpa using hx
      exact ⟨k, by omega, by omega⟩
theorem five_cards {xs bs : List Int} {rs : List Int} (hb : cardsB bs = true) (h5 : bs.length ≤ 5) (hp : (xs ++ rs).Perm (othersN 52 bs)) (hl : xs.length = 5 - bs.length ∨ ((othersN 52 bs).length ≤ 5 - bs.length ∧ xs.length = (othersN 52 bs).length)) : (bs ++ xs).length = 5 ∧ cardsB (bs ++ xs) = true := by
  obtain ⟨f1, f2, f3⟩ := others_facts bs
  have hc := (cards_iff bs).1 hb
  have hnd := hp.nodup_iff.2 f1
  have hm : ∀ x ∈ xs, x ∈ othersN 52 bs := fun x hx => hp.mem_iff.1 (List.mem_append.2 (.inl hx))
  constructor
  · rw [List.length_append]; omega
  · refine (cards_iff _).2 ⟨fun x hx => ?_, ?_⟩
    · rcases List.mem_append.1 hx with hx | hx
      · exact hc.1 x hx
      · exact (f2 x (hm x hx)).1
    · exact List.nodup_append.2 ⟨hc.2, (List.nodup_append.1 hnd).1, fun x hx y hy e => (f2 y (hm y hy)).2 (e ▸ hx)⟩
theorem perm_cards {xs ys : List Int} (h : ys.Perm xs) (hb : cardsB xs = true) : cardsB ys = true := by
  have hc := (cards_iff xs).1 hb
  exact (cards_iff ys).2 ⟨fun x hx => hc.1 x (h.mem_iff.1 hx), h.nodup_iff.2 hc.2⟩
theorem own_lit (w : World) (xs : List Int) (hl : xs.length ≤ 100) : Own (w.alloc (.cells (ints xs).toArray 2)) w.heap.size (.slice (some ⟨w.heap.size, 0, none⟩) xs.length xs.length) xs :=
  ⟨by rw [ints_length, Nat.mul_one], .inr ⟨w.heap.size, xs.length, (ints xs).toArray, rfl, Nat.le_refl _, heap_alloc_new w _, Nat.le_refl _, by unfold maxLen; omega, by simp [ints_length], by simp [← ints_length xs]⟩⟩
end Go.Proofs.Ytajkgnheijhbpaa
