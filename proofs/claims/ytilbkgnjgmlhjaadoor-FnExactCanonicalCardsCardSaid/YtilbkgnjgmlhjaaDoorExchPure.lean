/-
  Plain facts on exchanges of suits: the 24 exchanges, what cards become, how many different sets, which is the least. Nothing of the program is imported.
-/
import Derived.Test.YtilbkgnjgmlhjaaDoorInsPure
import Derived.Test.YtilbkgnjgmlhjaaDoorBase
namespace Go.Proofs.YtilbkgnjgmlhjaaDoor
set_option linter.unusedVariables false

/-- The four digits of a number to the base 4. -/
def sdig (n : Nat) : List Int := [((n / 64 : Nat) : Int), ((n / 16 % 4 : Nat) : Int), ((n / 4 % 4 : Nat) : Int), ((n % 4 : Nat) : Int)]
/-- They are four different suits. -/
def okX (n : Nat) : Bool := (sdig n).contains 0 && (sdig n).contains 1 && (sdig n).contains 2 && (sdig n).contains 3
/-- The exchanges among the first n numbers. -/
def exN (n : Nat) : List (List Int) := ((List.range n).filter okX).map sdig
theorem exN_yes {n : Nat} (h : okX n = true) : exN (n + 1) = exN n ++ [sdig n] := by
  unfold exN; rw [List.range_succ, List.filter_append, List.map_append]; simp [h]
theorem exN_no {n : Nat} (h : okX n = false) : exN (n + 1) = exN n := by
  unfold exN; rw [List.range_succ, List.filter_append, List.map_append]; simp [h]
theorem exN_len : (exN 256).length = 24 := by decide +kernel
theorem exN_le (n : Nat) : (exN n).length ≤ n := by unfold exN; rw [List.length_map]; have := List.length_filter_le okX (List.range n); simpa using this
theorem sdig_facts : ∀ n : Fin 256, okX n.val = true → (∀ s : Fin 4, 0 ≤ (sdig n.val).getD s.val 0 ∧ (sdig n.val).getD s.val 0 < 4) ∧ ∀ s t : Fin 4, (sdig n.val).getD s.val 0 = (sdig n.val).getD t.val 0 → s = t := by decide +kernel
/-- An exchange: four numbers in 0 to 3, no two alike. -/
def IsX (e : List Int) : Prop := e.length = 4 ∧ (∀ s, s < 4 → 0 ≤ e.getD s 0 ∧ e.getD s 0 < 4) ∧ ∀ s t, s < 4 → t < 4 → e.getD s 0 = e.getD t 0 → s = t
theorem isX_sdig {n : Nat} (hn : n < 256) (h : okX n = true) : IsX (sdig n) := by
  have k := sdig_facts ⟨n, hn⟩ h
  refine ⟨rfl, fun s hs => k.1 ⟨s, hs⟩, fun s t hs ht e => ?_⟩
  have := k.2 ⟨s, hs⟩ ⟨t, ht⟩ e
  exact congrArg Fin.val this
theorem isX_mem {e : List Int} {n : Nat} (hn : n ≤ 256) (h : e ∈ exN n) : IsX e := by
  unfold exN at h
  obtain ⟨j, hj, rfl⟩ := List.mem_map.1 h
  have := List.mem_filter.1 hj
  exact isX_sdig (by have := List.mem_range.1 this.1; omega) this.2
/-- What a card becomes. -/
def imgC (e : List Int) (x : Int) : Int := 4 * (x / 4) + e.getD (x % 4).toNat 0
theorem img_bd {e : List Int} (he : IsX e) {x : Int} (h0 : 0 ≤ x) (h1 : x < 52) : 0 ≤ imgC e x ∧ imgC e x < 52 ∧ imgC e x / 4 = x / 4 := by
  have := he.2.1 (x % 4).toNat (by omega)
  unfold imgC; omega
theorem img_inj {e : List Int} (he : IsX e) {x y : Int} (hx : 0 ≤ x) (hy : 0 ≤ y) (h : imgC e x = imgC e y) : x = y := by
  have h1 := he.2.1 (x % 4).toNat (by omega)
  have h2 := he.2.1 (y % 4).toNat (by omega)
  have h3 := he.2.2 (x % 4).toNat (y % 4).toNat (by omega) (by omega)
  unfold imgC at h
  have : e.getD (x % 4).toNat 0 = e.getD (y % 4).toNat 0 := by omega
  have := h3 this
  omega
/-- What cards become. -/
def img (e : List Int) (xs : List Int) : List Int := xs.map (imgC e)
theorem img_cards {e : List Int} (he : IsX e) {xs : List Int} (h : cardsB xs = true) : cardsB (img e xs) = true := by
  obtain ⟨h1, h2⟩ := (cards_iff xs).1 h
  refine (cards_iff _).2 ⟨fun x hx => ?_, ?_⟩
  · obtain ⟨y, hy, rfl⟩ := List.mem_map.1 hx
    have := h1 y hy
    have := img_bd he this.1 this.2
    exact ⟨this.1, this.2.1⟩
  · rw [List.nodup_iff_pairwise_ne] at h2 ⊢
    unfold img
    rw [List.pairwise_map]
    refine h2.imp_of_mem fun {a b} ha hb hab e => hab (img_inj he (h1 a ha).1 (h1 b hb).1 e)
/-- Cards of a set, in order (as the program lists them). -/
def inOrder (m : Nat) : List Int := (bitsFrom 64 0 m).map (fun n : Nat => (n : Int))
theorem inOrder_eq (m : Nat) : inOrder m = ((List.range 64).filter (fun i => m.testBit i)).map (fun n : Nat => (n : Int)) := by
  unfold inOrder; rw [bitsFrom_filter]; simp
theorem eq_of_rises : ∀ {a b : List Int}, a.Perm b → rises a → rises b → a = b
  | [], b, h, _, _ => by simpa using h.symm.eq_nil.symm
  | x :: a, [], h, _, _ => by simpa using h.eq_nil
  | x :: a, y :: b, h, h1, h2 => by
    have p1 := List.pairwise_cons.1 h1
    have p2 := List.pairwise_cons.1 h2
    have e : x = y := by
      have hx : x ∈ y :: b := h.mem_iff.1 (by simp)
      have hy : y ∈ x :: a := h.mem_iff.2 (by simp)
      rcases List.mem_cons.1 hx with e | hx
      · exact e
      · rcases List.mem_cons.1 hy with e | hy
        · exact e.symm
        · have := p2.1 x hx
          have := p1.1 y hy
          omega
    subst e
    rw [eq_of_rises (List.Perm.cons_inv h) p1.2 p2.2]
theorem inOrder_rises (m : Nat) : rises (inOrder m) := by
  rw [inOrder_eq]
  unfold rises
  rw [List.pairwise_map]
  have h : (List.range 64).Pairwise (fun a b => a < b) := List.pairwise_lt_range
  exact (h.filter _).imp (fun {a b} hab => by omega)
theorem inOrder_nodup (m : Nat) : (inOrder m).Nodup := by
  rw [inOrder_eq, List.nodup_iff_pairwise_ne, List.pairwise_map]
  have h : (List.range 64).Pairwise (fun a b => a < b) := List.pairwise_lt_range
  exact (h.filter _).imp (fun {a b} hab => by omega)
theorem inOrder_mem (m : Nat) (hm : m < 2 ^ 52) (x : Int) : x ∈ inOrder m ↔ 0 ≤ x ∧ m.testBit x.toNat = true := by
  rw [inOrder_eq]
  constructor
  · intro h
    obtain ⟨i, hi, rfl⟩ := List.mem_map.1 h
    have := (List.mem_filter.1 hi).2
    exact ⟨by omega, by simpa using this⟩
  · rintro ⟨h0, h1⟩
    have hlt : x.toNat < 52 := by
      apply Classical.byContradiction
      intro hc
      have : m < 2 ^ x.toNat := Nat.lt_of_lt_of_le hm (Nat.pow_le_pow_right (by omega) (by omega))
      rw [Nat.testBit_lt_two_pow this] at h1
      cases h1
    refine List.mem_map.2 ⟨x.toNat, List.mem_filter.2 ⟨by simp; omega, h1⟩, by omega⟩
theorem order_mask {ys : List Int} (h : cardsB ys = true) : inOrder (maskOf ys) = sortA ys := by
  obtain ⟨h1, h2⟩ := sortA_facts ys
  obtain ⟨c1, c2⟩ := (cards_iff ys).1 h
  refine eq_of_rises (List.Perm.trans ?_ h1.symm) (inOrder_rises _) h2
  refine (List.perm_ext_iff_of_nodup (inOrder_nodup _) c2).2 fun x => ?_
  rw [inOrder_mem _ (mask_lt ys h)]
  constructor
  · rintro ⟨h0, hb⟩
    exact (mask_mem ys x h h0).1 hb
  · intro hx
    have h0 := (c1 x hx).1
    exact ⟨h0, (mask_mem ys x h h0).2 hx⟩
theorem mask_inOrder (m : Nat) (hm : m < 2 ^ 52) : maskOf (inOrder m) = m := by
  apply Nat.eq_of_testBit_eq
  intro i
  rw [mask_bit]
  rw [Bool.eq_iff_iff, List.any_eq_true]
  constructor
  · rintro ⟨x, hx, he⟩
    have := (inOrder_mem m hm x).1 hx
    have e : x.toNat = i := by simpa using he
    rw [← e]; exact this.2
  · intro h
    exact ⟨(i : Int), (inOrder_mem m hm _).2 ⟨by omega, by simpa using h⟩, by simp⟩
/-- Two sets of cards are alike exactly if their sorted lists are. -/
theorem sort_mask {xs ys : List Int} (hx : cardsB xs = true) (hy : cardsB ys = true) : sortA xs = sortA ys ↔ maskOf xs = maskOf ys := by
  rw [← order_mask hx, ← order_mask hy]
  constructor
  · intro h
    have := congrArg maskOf h
    rwa [mask_inOrder _ (mask_lt xs hx), mask_inOrder _ (mask_lt ys hy)] at this
  · intro h; rw [h]
/-- How many different ones there are among the first n. -/
def distN {α : Type} [DecidableEq α] (f : Nat → α) : Nat → Nat
  | 0 => 0
  | n + 1 => distN f n + if (List.range n).any (fun k => f k == f n) = true then 0 else 1
theorem distN_le {α : Type} [DecidableEq α] (f : Nat → α) : ∀ n, distN f n ≤ n
  | 0 => Nat.le_refl _
  | n + 1 => by rw [distN]; have := distN_le f n; split <;> omega
theorem distN_congr {α β : Type} [DecidableEq α] [DecidableEq β] (f : Nat → α) (g : Nat → β) : ∀ n, (∀ i j, i < n → j < n → (f i = f j ↔ g i = g j)) → distN f n = distN g n
  | 0, _ => rfl
  | n + 1, h => by
    rw [distN, distN, distN_congr f g n (fun i j hi hj => h i j (by omega) (by omega))]
    have : (List.range n).any (fun k => f k == f n) = (List.range n).any (fun k => g k == g n) := by
      rw [Bool.eq_iff_iff, List.any_eq_true, List.any_eq_true]
      constructor <;> rintro ⟨k, hk, e⟩ <;> refine ⟨k, hk, ?_⟩ <;> simp only [beq_iff_eq] at e ⊢
      · exact (h k n (by have := List.mem_range.1 hk; omega) (by omega)).1 e
      · exact (h k n (by have := List.mem_range.1 hk; omega) (by omega)).2 e
    rw [this]
end Go.Proofs.YtilbkgnjgmlhjaaDoor
