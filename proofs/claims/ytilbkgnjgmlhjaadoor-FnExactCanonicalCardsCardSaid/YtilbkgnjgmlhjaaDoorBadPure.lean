/-
  Plain facts on badugis: apart cards, their order, the best of some lists of cards; there is one best badugi. Nothing of the program is imported.
-/
import Derived.Test.YtilbkgnjgmlhjaaDoorLowPure
import Derived.Test.YtilbkgnjgmlhjaaDoorIter
namespace Go.Proofs.YtilbkgnjgmlhjaaDoor
set_option linter.unusedVariables false

/-- Two cards of different ranks and suits. -/
def apart2 (a b : Int) : Prop := a / 4 ≠ b / 4 ∧ a % 4 ≠ b % 4
instance apart2_dec (a b : Int) : Decidable (apart2 a b) := by unfold apart2; infer_instance
theorem apart2_symm {a b : Int} (h : apart2 a b) : apart2 b a := ⟨fun e => h.1 e.symm, fun e => h.2 e.symm⟩
def apartB (xs : List Int) : Bool := decide (xs.Pairwise apart2)
theorem apartB_iff {xs : List Int} : apartB xs = true ↔ xs.Pairwise apart2 := by unfold apartB; rw [decide_eq_true_eq]
theorem apart_perm {xs ys : List Int} (h : ys.Perm xs) : apartB ys = apartB xs := by
  rw [Bool.eq_iff_iff, apartB_iff, apartB_iff]
  exact h.pairwise_iff (fun q => apart2_symm q)
theorem apart_nodup {xs : List Int} (h : apartB xs = true) : xs.Nodup := by
  have h := apartB_iff.1 h
  exact h.imp (fun q e => q.1 (by rw [e]))
/-- By decreasing low ranks. -/
def falls (xs : List Int) : Prop := xs.Pairwise (fun a b => lr b ≤ lr a)
def fallsS (xs : List Int) : Prop := xs.Pairwise (fun a b => lr b < lr a)
theorem lr_ne {a b : Int} (ha : 0 ≤ a ∧ a < 52) (hb : 0 ≤ b ∧ b < 52) (h : a / 4 ≠ b / 4) : lr a ≠ lr b := by unfold lr; omega
theorem falls_strict {xs : List Int} (hc : ∀ x ∈ xs, 0 ≤ x ∧ x < 52) (h : falls xs) (ha : apartB xs = true) : fallsS xs := by
  have hp := apartB_iff.1 ha
  have := List.Pairwise.and hp h
  refine List.Pairwise.imp_of_mem ?_ this
  rintro a b ma mb ⟨h1, h2⟩
  have := lr_ne (hc a ma) (hc b mb) h1.1
  omega

/-- Lists in the order of their numbers. -/
def lexLt : List Int → List Int → Bool
  | [], _ => false
  | _ :: _, [] => false
  | a :: us, b :: bs => if a = b then lexLt us bs else decide (a < b)
theorem lex_irr : ∀ a : List Int, lexLt a a = false
  | [] => rfl
  | a :: us => by rw [lexLt, if_pos rfl]; exact lex_irr us
theorem lex_total : ∀ a b : List Int, a.length = b.length → lexLt a b = false → lexLt b a = false → a = b
  | [], [], _, _, _ => rfl
  | a :: us, b :: bs, hl, h1, h2 => by
    rw [lexLt] at h1 h2
    by_cases e : a = b
    · subst e
      rw [if_pos rfl] at h1 h2
      rw [lex_total us bs (by simpa using hl) h1 h2]
    · rw [if_neg e, decide_eq_false_iff_not] at h1
      rw [if_neg (Ne.symm e), decide_eq_false_iff_not] at h2
      omega
  | [], _ :: _, hl, _, _ => by simp at hl
  | _ :: _, [], hl, _, _ => by simp at hl
theorem lex_trans : ∀ a b c : List Int, a.length = b.length → b.length = c.length → lexLt b a = false → lexLt c b = false → lexLt c a = false
  | [], [], [], _, _, _, _ => rfl
  | a :: us, b :: bs, c :: cs, h1, h2, h3, h4 => by
    rw [lexLt] at h3 h4 ⊢
    by_cases e1 : b = a
    · rw [if_pos e1] at h3
      by_cases e2 : c = b
      · rw [if_pos e2] at h4
        rw [if_pos (e2.trans e1)]
        exact lex_trans us bs cs (by simpa using h1) (by simpa using h2) h3 h4
      · rw [if_neg e2, decide_eq_false_iff_not] at h4
        rw [if_neg (fun e => e2 (e.trans e1.symm)), decide_eq_false_iff_not]
        omega
    · rw [if_neg e1, decide_eq_false_iff_not] at h3
      by_cases e2 : c = b
      · rw [if_pos e2] at h4
        rw [if_neg (fun e => e1 (e2.symm.trans e)), decide_eq_false_iff_not]
        omega
      · rw [if_neg e2, decide_eq_false_iff_not] at h4
        rw [if_neg (by omega), decide_eq_false_iff_not]
        omega
  | [], _ :: _, _, h, _, _, _ => by simp at h
  | _ :: _, [], _, h, _, _, _ => by simp at h
  | [], [], _ :: _, _, h, _, _ => by simp at h
  | _ :: _, _ :: _, [], _, h, _, _ => by simp at h
/-- A badugi before another one: by the low ranks, then by the cards. -/
def ltB (a b : List Int) : Bool := if lrs a = lrs b then lexLt a b else lexLt (lrs a) (lrs b)
theorem ltB_total (a b : List Int) (hl : a.length = b.length) (h1 : ltB a b = false) (h2 : ltB b a = false) : a = b := by
  unfold ltB at h1 h2
  by_cases e : lrs a = lrs b
  · rw [if_pos e] at h1
    rw [if_pos e.symm] at h2
    exact lex_total a b hl h1 h2
  · rw [if_neg e] at h1
    rw [if_neg (Ne.symm e)] at h2
    exact absurd (lex_total _ _ (by rw [lrs_len, lrs_len, hl]) h1 h2) e
theorem ltB_trans (a b c : List Int) (hl : a.length = b.length) (hl2 : b.length = c.length) (h1 : ltB b a = false) (h2 : ltB c b = false) : ltB c a = false := by
  have l1 : (lrs a).length = (lrs b).length := by rw [lrs_len, lrs_len, hl]
  have l2 : (lrs b).length = (lrs c).length := by rw [lrs_len, lrs_len, hl2]
  unfold ltB at *
  by_cases e1 : lrs b = lrs a
  · rw [if_pos e1] at h1
    by_cases e2 : lrs c = lrs b
    · rw [if_pos e2] at h2
      rw [if_pos (e2.trans e1)]
      exact lex_trans a b c hl hl2 h1 h2
    · rw [if_neg e2] at h2
      rw [if_neg (fun e => e2 (e.trans e1.symm)), ← e1]
      exact h2
  · rw [if_neg e1] at h1
    by_cases e2 : lrs c = lrs b
    · rw [if_neg (fun e => e1 (e2.symm.trans e)), e2]
      exact h1
    · rw [if_neg e2] at h2
      have h3 := lex_trans _ _ _ l1 l2 h1 h2
      by_cases e3 : lrs c = lrs a
      · exfalso
        rw [e3] at h2
        exact e1 (lex_total _ _ l1.symm h1 h2)
      · rw [if_neg e3]; exact h3
theorem lex_asymm : ∀ a b : List Int, lexLt a b = true → lexLt b a = false
  | [], _, h => by cases h
  | _ :: _, [], h => by cases h
  | a :: us, b :: bs, h => by
    rw [lexLt] at h ⊢
    by_cases e : a = b
    · rw [if_pos e] at h
      rw [if_pos e.symm]
      exact lex_asymm us bs h
    · rw [if_neg e, decide_eq_true_eq] at h
      rw [if_neg (Ne.symm e), decide_eq_false_iff_not]
      omega
theorem ltB_asymm {a b : List Int} (h : ltB a b = true) : ltB b a = false := by
  unfold ltB at *
  by_cases e : lrs a = lrs b
  · rw [if_pos e] at h
    rw [if_pos e.symm]
    exact lex_asymm _ _ h
  · rw [if_neg e] at h
    rw [if_neg (Ne.symm e)]
    exact lex_asymm _ _ h
theorem ltB_irr (a : List Int) : ltB a a = false := by unfold ltB; rw [if_pos rfl]; exact lex_irr a

/-- A list of n cards that a badugi may take. -/
def Cand (n : Nat) (xs ys : List Int) : Prop := ys.length = n ∧ (∀ y ∈ ys, y ∈ xs) ∧ apartB ys = true ∧ fallsS ys
def Best (n : Nat) (xs ys : List Int) : Prop := Cand n xs ys ∧ ∀ zs, Cand n xs zs → ltB zs ys = false
/-- The cards that the badugi value takes. -/
def IsBad (xs ys : List Int) : Prop := ∃ n, n ≤ 4 ∧ Best n xs ys ∧ ∀ m, n < m → m ≤ 4 → ∀ zs, ¬ Cand m xs zs
theorem isBad_one {xs ys zs : List Int} (h1 : IsBad xs ys) (h2 : IsBad xs zs) : ys = zs := by
  obtain ⟨n, hn, ⟨b1, b2⟩, b3⟩ := h1
  obtain ⟨m, hm, ⟨c1, c2⟩, c3⟩ := h2
  have : n = m := by
    rcases Nat.lt_trichotomy n m with h | h | h
    · exact absurd c1 (b3 m h hm zs)
    · exact h
    · exact absurd b1 (c3 n h hn ys)
  subst this
  exact ltB_total ys zs (b1.1.trans c1.1.symm) (c2 ys b1) (b2 zs c1)
open Classical in
noncomputable def badS (xs : List Int) : List Int := if h : ∃ ys, IsBad xs ys then Classical.choose h else []
theorem badS_eq {xs ys : List Int} (h : IsBad xs ys) : badS xs = ys := by
  have he : ∃ ys, IsBad xs ys := ⟨ys, h⟩
  unfold badS
  rw [dif_pos he]
  exact isBad_one (Classical.choose_spec he) h

/-- The best of the first k lists. -/
def bst (L : List (List Int)) : Nat → Option (List Int)
  | 0 => none
  | k + 1 => if apartB (L.getD k []) = true ∧ (∀ b, bst L k = some b → ltB (L.getD k []) b = true) then some (L.getD k []) else bst L k
theorem bst_first {L : List (List Int)} {k : Nat} (h : apartB (L.getD k []) = true) (hb : bst L k = none) : bst L (k + 1) = some (L.getD k []) := by
  rw [bst, if_pos ⟨h, fun b e => by rw [hb] at e; cases e⟩]
theorem bst_yes {L : List (List Int)} {k : Nat} {b : List Int} (h : apartB (L.getD k []) = true) (hb : bst L k = some b) (hl : ltB (L.getD k []) b = true) : bst L (k + 1) = some (L.getD k []) := by
  rw [bst, if_pos ⟨h, fun b' e => by rw [hb] at e; cases e; exact hl⟩]
theorem bst_no {L : List (List Int)} {k : Nat} (h : apartB (L.getD k []) = false) : bst L (k + 1) = bst L k := by
  rw [bst, if_neg (fun q => by rw [h] at q; cases q.1)]
theorem bst_keep {L : List (List Int)} {k : Nat} {b : List Int} (hb : bst L k = some b) (hl : ltB (L.getD k []) b = false) : bst L (k + 1) = bst L k := by
  rw [bst, if_neg (fun q => by have := q.2 b hb; rw [hl] at this; cases this)]
theorem bst_facts (L : List (List Int)) (n : Nat) (hn : ∀ i, i < L.length → (L.getD i []).length = n) : ∀ k, k ≤ L.length →
    (bst L k = none → ∀ i, i < k → apartB (L.getD i []) = false) ∧
    (∀ b, bst L k = some b → (∃ i, i < k ∧ b = L.getD i []) ∧ apartB b = true ∧ ∀ i, i < k → apartB (L.getD i []) = true → ltB (L.getD i []) b = false)
  | 0, _ => ⟨fun _ i h => by omega, fun b h => by cases h⟩
  | k + 1, hk => by
    obtain ⟨i1, i2⟩ := bst_facts L n hn k (by omega)
    have hlen := hn k (by omega)
    rcases ha : apartB (L.getD k []) with _ | _
    · rw [bst_no ha]
      refine ⟨fun h i hi => ?_, fun b h => ?_⟩
      · by_cases e : i = k
        · subst e; exact ha
        · exact i1 h i (by omega)
      · obtain ⟨⟨i, hi, e⟩, h2, h3⟩ := i2 b h
        refine ⟨⟨i, by omega, e⟩, h2, fun j hj hja => ?_⟩
        by_cases ej : j = k
        · subst ej; rw [ha] at hja; cases hja
        · exact h3 j (by omega) hja
    · rcases hb : bst L k with _ | b
      · rw [bst_first ha hb]
        refine ⟨fun h => (by cases h), fun b h => ?_⟩
        cases h
        refine ⟨⟨k, by omega, rfl⟩, ha, fun j hj hja => ?_⟩
        by_cases ej : j = k
        · subst ej; exact ltB_irr _
        · have := i1 hb j (by omega); rw [this] at hja; cases hja
      · obtain ⟨⟨i, hi, e⟩, h2, h3⟩ := i2 b hb
        have hlb : b.length = n := by rw [e]; exact hn i (by omega)
        rcases hl : ltB (L.getD k []) b with _ | _
        · rw [bst_keep hb hl, hb]
          refine ⟨fun h => (nomatch h), fun b' h => ?_⟩
          cases h
          refine ⟨⟨i, by omega, e⟩, h2, fun j hj hja => ?_⟩
          by_cases ej : j = k
          · subst ej; exact hl
          · exact h3 j (by omega) hja
        · rw [bst_yes ha hb hl]
          refine ⟨fun h => (by cases h), fun b' h => ?_⟩
          cases h
          refine ⟨⟨k, by omega, rfl⟩, ha, fun j hj hja => ?_⟩
          by_cases ej : j = k
          · subst ej; exact ltB_irr _
          · have h4 := h3 j (by omega) hja
            have h5 : ltB b (L.getD k []) = false := by
              rcases h6 : ltB b (L.getD k []) with _ | _
              · rfl
              · exfalso
                -- both ways: the order is strict
                have := ltB_asymm hl
                rw [h6] at this; cases this
            exact ltB_trans _ b _ (by rw [hlen, hlb]) (by rw [hlb, hn j (by omega)]) h5 h4
theorem bst_none {L : List (List Int)} (n : Nat) (hn : ∀ i, i < L.length → (L.getD i []).length = n) (h : bst L L.length = none) (ys : List Int) (hm : ys ∈ L) : apartB ys = false := by
  obtain ⟨i, hi, e⟩ := List.getElem_of_mem hm
  have := (bst_facts L n hn L.length (Nat.le_refl _)).1 h i hi
  rw [List.getD_eq_getElem?_getD, List.getElem?_eq_getElem hi] at this
  rw [← e]; exact this
/-- The best of all lists that hold all candidates is the best candidate. -/
theorem bst_best {L : List (List Int)} (n : Nat) (xs : List Int) (hn : ∀ i, i < L.length → (L.getD i []).length = n) (h1 : ∀ ys ∈ L, apartB ys = true → Cand n xs ys) (h2 : ∀ ys, Cand n xs ys → ys ∈ L) :
    (bst L L.length = none → ∀ ys, ¬ Cand n xs ys) ∧ (∀ b, bst L L.length = some b → Best n xs b) := by
  obtain ⟨f1, f2⟩ := bst_facts L n hn L.length (Nat.le_refl _)
  refine ⟨fun h ys hc => ?_, fun b h => ?_⟩
  · have := bst_none n hn h ys (h2 ys hc)
    rw [hc.2.2.1] at this; cases this
  · obtain ⟨⟨i, hi, e⟩, ha, hl⟩ := f2 b h
    have hm : b ∈ L := by rw [e, List.getD_eq_getElem?_getD, List.getElem?_eq_getElem hi]; exact List.getElem_mem _
    refine ⟨h1 b hm ha, fun zs hz => ?_⟩
    obtain ⟨j, hj, ej⟩ := List.getElem_of_mem (h2 zs hz)
    have e2 : L.getD j [] = zs := by rw [List.getD_eq_getElem?_getD, List.getElem?_eq_getElem hj]; exact ej
    have := hl j hj (by rw [e2]; exact hz.2.2.1)
    rw [e2] at this; exact this

/-! All sublists are choices. -/
theorem ch_all : ∀ (k : Nat) (l t : List Int), t.Sublist l → t.length = k → t ∈ ch k l
  | 0, l, t, _, hl => by
    have : t = [] := List.length_eq_zero_iff.1 hl
    subst this; simp [ch]
  | k + 1, l, t, hs, hl => by
    induction hs with
    | slnil => simp at hl
    | @cons l1 l2 a hs ih =>
      have ih := ih hl
      unfold ch at ih ⊢
      rw [List.mem_flatMap] at ih ⊢
      obtain ⟨j, hj, h⟩ := ih
      have hj' := List.mem_range.1 hj
      exact ⟨j + 1, List.mem_range.2 (by simp only [List.length_cons]; omega), by simpa using h⟩
    | @cons_cons l1 l2 a hs ih =>
      have hl' : l1.length = k := by simpa using hl
      have h2 := hs.length_le
      unfold ch
      rw [List.mem_flatMap]
      exact ⟨0, List.mem_range.2 (by simp only [List.length_cons]; omega), List.mem_map.2 ⟨l1, by simpa using ch_all k l2 l1 hs hl', by simp⟩⟩
/-- Lists that fall strictly and have the same elements are the same. -/
theorem falls_eq {xs ys : List Int} (h : xs.Perm ys) (h1 : fallsS xs) (h2 : falls ys) : xs = ys := by
  have hw : falls xs := h1.imp (fun q => Int.le_of_lt q)
  have hinj : ∀ a ∈ xs, ∀ b ∈ xs, lr a = lr b → a = b := by
    intro a ha b hb e
    by_cases hab : a = b
    · exact hab
    · exfalso
      obtain ⟨i, hi, rfl⟩ := List.getElem_of_mem ha
      obtain ⟨j, hj, rfl⟩ := List.getElem_of_mem hb
      have hp := List.pairwise_iff_getElem.1 h1
      rcases Nat.lt_trichotomy i j with q | q | q
      · have := hp i j hi hj q; omega
      · subst q; exact hab rfl
      · have := hp j i hj hi q; omega
  exact List.Perm.eq_of_pairwise (fun a b ma mb q1 q2 => hinj a ma b (h.mem_iff.2 mb) (by omega)) hw h2 h
/-- A falling list of candidates is a sublist of the falling list of all. -/
theorem cand_sub {n : Nat} {xs os ys : List Int} (hc : cardsB xs = true) (hp : os.Perm xs) (hf : falls os) (h : Cand n xs ys) : ys.Sublist os := by
  obtain ⟨hl, hm, ha, hs⟩ := h
  have hnd := hp.nodup_iff.2 ((cards_iff xs).1 hc).2
  have hys := apart_nodup ha
  have hperm : ys.Perm (os.filter (fun x => decide (x ∈ ys))) := by
    rw [List.perm_ext_iff_of_nodup hys (hnd.sublist List.filter_sublist)]
    intro a
    rw [List.mem_filter, decide_eq_true_eq]
    exact ⟨fun q => ⟨hp.mem_iff.2 (hm a q), q⟩, fun q => q.2⟩
  have hff : falls (os.filter (fun x => decide (x ∈ ys))) := hf.sublist List.filter_sublist
  rw [falls_eq hperm hs hff]
  exact List.filter_sublist
/-- The candidates are the apart choices of the falling list. -/
theorem cand_choices {n : Nat} {xs os : List Int} (hc : cardsB xs = true) (hp : os.Perm xs) (hf : falls os) :
    (∀ ys ∈ ch n os, apartB ys = true → Cand n xs ys) ∧ (∀ ys, Cand n xs ys → ys ∈ ch n os) := by
  have hcs := (cards_iff xs).1 hc
  refine ⟨fun ys hy ha => ?_, fun ys hy => ch_all n os ys (cand_sub hc hp hf hy) hy.1⟩
  obtain ⟨hs, hl⟩ := ch_mem n os ys hy
  have hm : ∀ y ∈ ys, y ∈ xs := fun y q => hp.mem_iff.1 (hs.subset q)
  exact ⟨hl, hm, ha, falls_strict (fun x hx => hcs.1 x (hm x hx)) (hf.sublist hs) ha⟩
/-- A card put into its place by low ranks. -/
def insR (x : Int) : List Int → List Int
  | [] => [x]
  | y :: ys => if lr x < lr y then y :: insR x ys else x :: y :: ys
theorem insR_perm (x : Int) : ∀ ys, (insR x ys).Perm (x :: ys)
  | [] => by simp [insR]
  | y :: ys => by
    unfold insR
    split
    · exact ((insR_perm x ys).cons y).trans (List.Perm.swap x y ys)
    · exact List.Perm.refl _
theorem insR_falls (x : Int) : ∀ ys, falls ys → falls (insR x ys)
  | [], _ => by simp [insR, falls]
  | y :: ys, h => by
    have h := List.pairwise_cons.1 h
    unfold insR
    split
    · next c =>
      refine List.pairwise_cons.2 ⟨fun z hz => ?_, insR_falls x ys h.2⟩
      rcases List.mem_cons.1 ((insR_perm x ys).mem_iff.1 hz) with rfl | hz
      · omega
      · exact h.1 z hz
    · next c =>
      refine List.pairwise_cons.2 ⟨fun z hz => ?_, List.pairwise_cons.2 h⟩
      rcases List.mem_cons.1 hz with rfl | hz
      · omega
      · have := h.1 z hz; omega
/-- The place: behind those with a greater low rank. -/
def placeR (x : Int) : List Int → Nat
  | [] => 0
  | y :: ys => if lr x < lr y then placeR x ys + 1 else 0
theorem placeR_le (x : Int) : ∀ ys, placeR x ys ≤ ys.length
  | [] => by simp [placeR]
  | y :: ys => by
    unfold placeR
    split
    · have := placeR_le x ys; simp; exact this
    · omega
theorem placeR_before (x : Int) : ∀ (ys : List Int) (j : Nat), j < placeR x ys → lr x < lr (ys.getD j 0)
  | [], j, h => by simp [placeR] at h
  | y :: ys, j, h => by
    unfold placeR at h
    split at h
    · next c =>
      rcases j with _ | j
      · simpa using c
      · simpa using placeR_before x ys j (by omega)
    · omega
theorem placeR_at (x : Int) : ∀ (ys : List Int), placeR x ys < ys.length → ¬ lr x < lr (ys.getD (placeR x ys) 0)
  | [], h => by simp at h
  | y :: ys, h => by
    unfold placeR at h ⊢
    by_cases c : lr x < lr y
    · rw [if_pos c] at h ⊢
      have := placeR_at x ys (by simpa using h)
      simpa using this
    · rw [if_neg c]
      simpa using c
theorem insR_place (x : Int) : ∀ ys, insR x ys = (ys.take (placeR x ys) ++ [x]) ++ ys.drop (placeR x ys)
  | [] => by simp [insR, placeR]
  | y :: ys => by
    unfold insR placeR
    split
    · rw [insR_place x ys]; simp
    · simp
/-- The first i cards by decreasing low ranks. -/
def downM (xs : List Int) : Nat → List Int
  | 0 => []
  | i + 1 => insR (xs.getD i 0) (downM xs i)
theorem downM_facts (xs : List Int) : ∀ i, i ≤ xs.length → (downM xs i).Perm (xs.take i) ∧ falls (downM xs i)
  | 0, _ => ⟨by simp [downM], by simp [downM, falls]⟩
  | i + 1, h => by
    obtain ⟨h1, h2⟩ := downM_facts xs i (by omega)
    refine ⟨?_, insR_falls _ _ h2⟩
    rw [downM]
    refine (insR_perm _ _).trans ?_
    have e : xs.take (i + 1) = xs.take i ++ [xs.getD i 0] := by
      rw [List.take_add_one, List.getElem?_eq_getElem (by omega)]
      rw [List.getD_eq_getElem?_getD, List.getElem?_eq_getElem (by omega)]; rfl
    rw [e]
    exact (h1.cons _).trans (List.perm_append_singleton _ _).symm
def downA (xs : List Int) : List Int := downM xs xs.length
theorem downA_facts (xs : List Int) : (downA xs).Perm xs ∧ falls (downA xs) := by
  have := downM_facts xs xs.length (Nat.le_refl _)
  rw [List.take_of_length_le (Nat.le_refl _)] at this
  exact this
/-- The candidates are the apart choices, each put by decreasing low ranks. -/
theorem cand_downs {n : Nat} {xs : List Int} (hc : cardsB xs = true) :
    (∀ ys ∈ (ch n xs).map downA, apartB ys = true → Cand n xs ys) ∧ (∀ ys, Cand n xs ys → ys ∈ (ch n xs).map downA) := by
  have hcs := (cards_iff xs).1 hc
  refine ⟨fun ys hy ha => ?_, fun ys hy => ?_⟩
  · obtain ⟨t, ht, rfl⟩ := List.mem_map.1 hy
    obtain ⟨hs, hl⟩ := ch_mem n xs t ht
    obtain ⟨d1, d2⟩ := downA_facts t
    have hm : ∀ y ∈ downA t, y ∈ xs := fun y q => hs.subset (d1.mem_iff.1 q)
    exact ⟨d1.length_eq.trans hl, hm, ha, falls_strict (fun x hx => hcs.1 x (hm x hx)) d2 ha⟩
  · obtain ⟨hl, hm, ha, hs⟩ := hy
    have hys := apart_nodup ha
    have hperm : ys.Perm (xs.filter (fun x => decide (x ∈ ys))) := by
      rw [List.perm_ext_iff_of_nodup hys (hcs.2.sublist List.filter_sublist)]
      intro a
      rw [List.mem_filter, decide_eq_true_eq]
      exact ⟨fun q => ⟨hm a q, q⟩, fun q => q.2⟩
    obtain ⟨d1, d2⟩ := downA_facts (xs.filter (fun x => decide (x ∈ ys)))
    refine List.mem_map.2 ⟨xs.filter (fun x => decide (x ∈ ys)), ch_all n xs _ List.filter_sublist (hperm.length_eq.symm.trans hl), ?_⟩
    exact (falls_eq (hperm.trans d1.symm) hs d2).symm
/-- One card: the one with the lowest low rank, of these the lowest one. -/
def lt1 (a b : Int) : Bool := decide (lr a < lr b ∨ (lr a = lr b ∧ a < b))
theorem ltB_one (a b : Int) : ltB [a] [b] = lt1 a b := by
  unfold ltB lt1 lrs
  simp only [List.map_cons, List.map_nil, List.cons.injEq, and_true]
  by_cases e : lr a = lr b
  · rw [if_pos e, lexLt]
    by_cases e2 : a = b
    · subst e2; simp [lexLt]
    · rw [if_neg e2, Bool.eq_iff_iff]; simp; omega
  · rw [if_neg e, lexLt, if_neg e, Bool.eq_iff_iff]; simp; omega
theorem cand_one {xs ys : List Int} (h : Cand 1 xs ys) : ∃ y ∈ xs, ys = [y] := by
  obtain ⟨hl, hm, _, _⟩ := h
  match ys, hl with
  | [y], _ => exact ⟨y, hm y (by simp), rfl⟩
theorem cand_of {xs : List Int} {y : Int} (h : y ∈ xs) : Cand 1 xs [y] := ⟨rfl, fun z hz => by simp at hz; subst hz; exact h, by unfold apartB; simp, by unfold fallsS; simp⟩
/-- The lowest card of the first k + 1. -/
def low1 (xs : List Int) : Nat → Int
  | 0 => xs.getD 0 0
  | k + 1 => if lt1 (xs.getD (k + 1) 0) (low1 xs k) = true then xs.getD (k + 1) 0 else low1 xs k
theorem lt1_trans {a b c : Int} (h1 : lt1 b a = false) (h2 : lt1 c b = false) : lt1 c a = false := by
  unfold lt1 at *; simp only [decide_eq_false_iff_not] at *; omega
theorem lt1_asymm {a b : Int} (h : lt1 a b = true) : lt1 b a = false := by
  unfold lt1 at *; simp only [decide_eq_false_iff_not, decide_eq_true_eq] at *; omega
theorem lt1_irr (a : Int) : lt1 a a = false := by unfold lt1; simp
theorem low1_facts (xs : List Int) : ∀ k, k < xs.length → low1 xs k ∈ xs ∧ ∀ i, i ≤ k → lt1 (xs.getD i 0) (low1 xs k) = false
  | 0, h => by
    refine ⟨?_, fun i hi => ?_⟩
    · rw [low1, List.getD_eq_getElem?_getD, List.getElem?_eq_getElem h]; exact List.getElem_mem _
    · have : i = 0 := by omega
      subst this; exact lt1_irr _
  | k + 1, h => by
    obtain ⟨h1, h2⟩ := low1_facts xs k (by omega)
    rw [low1]
    rcases hl : lt1 (xs.getD (k + 1) 0) (low1 xs k) with _ | _
    · rw [if_neg (by simp)]
      refine ⟨h1, fun i hi => ?_⟩
      by_cases e : i = k + 1
      · subst e; exact hl
      · exact h2 i (by omega)
    · rw [if_pos rfl]
      refine ⟨?_, fun i hi => ?_⟩
      · rw [List.getD_eq_getElem?_getD, List.getElem?_eq_getElem h]; exact List.getElem_mem _
      · by_cases e : i = k + 1
        · subst e; exact lt1_irr _
        · exact lt1_trans (lt1_asymm hl) (h2 i (by omega))
theorem best_low1 (xs : List Int) (h : 0 < xs.length) : Best 1 xs [low1 xs (xs.length - 1)] := by
  obtain ⟨h1, h2⟩ := low1_facts xs (xs.length - 1) (by omega)
  refine ⟨cand_of h1, fun zs hz => ?_⟩
  obtain ⟨y, hy, rfl⟩ := cand_one hz
  obtain ⟨i, hi, e⟩ := List.getElem_of_mem hy
  rw [ltB_one]
  have := h2 i (by omega)
  rw [List.getD_eq_getElem?_getD, List.getElem?_eq_getElem hi] at this
  rw [← e]; exact this
theorem isBad_facts {xs ys : List Int} (hl : xs.length ≤ 4) (h : IsBad xs ys) : ys.length ≤ 4 ∧ (∀ y ∈ ys, y ∈ xs) ∧ apartB ys = true ∧ fallsS ys := by
  obtain ⟨n, hn, ⟨⟨a, b, c, d⟩, _⟩, _⟩ := h
  exact ⟨by omega, b, c, d⟩
end Go.Proofs.YtilbkgnjgmlhjaaDoor
