/-
  What the laws ask of values: they don't depend on the order; a value's parts; the best five are among the cards, and more cards are never worse.
-/
import Derived.Test.YtjchjjnmahddiaaDoorBestI
import Derived.Test.YtjchjjnmahddiaaDoorPartsFns
namespace Go.Proofs.YtjchjjnmahddiaaDoor
open Go.RowKit
set_option linter.unusedVariables false

theorem rk_perm {xs ys : List Int} (h : ys.Perm xs) : (rk ys).Perm (rk xs) := h.map _
theorem strT_perm {rs L : List Int} (h : L.Perm rs) : strT L = strT rs := strFrom_perm h 9
theorem catS_perm {rs L : List Int} (h : L.Perm rs) (o : Bool) : catS L o = catS rs o := by unfold catS; simp only [many_perm h, strT_perm h]
theorem piece_perm {rs L : List Int} (h : L.Perm rs) (p : Nat × Nat) : piece L p = piece rs p := by unfold piece; rw [occ_perm h]
theorem kk_perm2 {rs L : List Int} (h : L.Perm rs) : kk L = kk rs := by rw [kk_eq, kk_eq, show piece L = piece rs from funext (piece_perm h)]
theorem kickS_perm {rs L : List Int} (h : L.Perm rs) : kickS L = kickS rs := by unfold kickS; rw [strT_perm h, kk_perm2 h]
theorem flush_iff (xs : List Int) (h5 : xs.length = 5) : flushB xs = true ↔ ∀ a ∈ xs, ∀ b ∈ xs, a % 4 = b % 4 := by
  have hm : nth xs 0 ∈ xs := nth_mem xs 0 (by omega)
  unfold flushB cnt
  rw [decide_eq_true_eq, ← h5, List.length_filter_eq_length_iff]
  simp only [beq_iff_eq]
  exact ⟨fun h a ha b hb => (h a ha).trans (h b hb).symm, fun h a ha => h a ha _ hm⟩
theorem flush_perm {xs ys : List Int} (h : ys.Perm xs) (h5 : xs.length = 5) : flushB ys = flushB xs := by
  have h5' : ys.length = 5 := h.length_eq.trans h5
  rw [Bool.eq_iff_iff, flush_iff ys h5', flush_iff xs h5]
  exact ⟨fun q a ha b hb => q a (h.mem_iff.2 ha) b (h.mem_iff.2 hb), fun q a ha b hb => q a (h.mem_iff.1 ha) b (h.mem_iff.1 hb)⟩
theorem hv_perm {xs ys : List Int} (h : ys.Perm xs) (h5 : xs.length = 5) : hv ys = hv xs := by
  unfold hv
  rw [flush_perm h h5, catS_perm (rk_perm h), kickS_perm (rk_perm h)]
theorem cards_perm {xs ys : List Int} (h : ys.Perm xs) (hb : cardsB xs = true) : cardsB ys = true := by
  have hc := (cards_iff xs).1 hb
  exact (cards_iff ys).2 ⟨fun x hx => hc.1 x (h.mem_iff.1 hx), h.nodup_iff.2 hc.2⟩
/-- A value's parts are the category and the kickers. -/
theorem vp_hv (xs : List Int) (hb : cardsB xs = true) (h5 : xs.length = 5) : vpA (hv xs) = catS (rk xs) (flushB xs) ∧ vpL (hv xs) = kickS (rk xs) ∧ vpC (hv xs) = 0 := by
  have h1 := catS_bd (rk xs) (flushB xs)
  obtain ⟨hl, hr⟩ := kick_facts xs hb h5
  have hd := hv_bd xs hb h5
  have hin : inB (hv xs) 0 3341636 = true := inB_yes _ _ _ (by omega) (by omega)
  rw [vpA_yes hin, vpL_yes hin, vpC_yes hin]
  obtain ⟨a, b, c, d, e, ek⟩ := list_five _ hl
  have ha := hr a (by rw [ek]; simp)
  have hb' := hr b (by rw [ek]; simp)
  have hc := hr c (by rw [ek]; simp)
  have hd' := hr d (by rw [ek]; simp)
  have he := hr e (by rw [ek]; simp)
  have ed : digs [a, b, c, d, e] = 28561 * a + (2197 * b + (169 * c + (13 * d + e))) := by simp [digs]; omega
  have ev : hv xs = 371293 * catS (rk xs) (flushB xs) + (28561 * a + (2197 * b + (169 * c + (13 * d + e)))) := by unfold hv; rw [ek, ed]
  rw [ev, ek]
  generalize catS (rk xs) (flushB xs) = q at *
  have er : (371293 * q + (28561 * a + (2197 * b + (169 * c + (13 * d + e))))) % 371293 = 28561 * a + (2197 * b + (169 * c + (13 * d + e))) := by omega
  refine ⟨by omega, ?_, rfl⟩
  rw [er]
  unfold digs5
  have x1 : (28561 * a + (2197 * b + (169 * c + (13 * d + e)))) / 28561 = a := by omega
  have x2 : (28561 * a + (2197 * b + (169 * c + (13 * d + e)))) / 2197 = 13 * a + b := by omega
  have x3 : (28561 * a + (2197 * b + (169 * c + (13 * d + e)))) / 169 = 169 * a + 13 * b + c := by omega
  have x4 : (28561 * a + (2197 * b + (169 * c + (13 * d + e)))) / 13 = 2197 * a + 169 * b + 13 * c + d := by omega
  rw [x1, x2, x3, x4]
  have y2 : (13 * a + b) % 13 = b := by omega
  have y3 : (169 * a + 13 * b + c) % 13 = c := by omega
  have y4 : (2197 * a + 169 * b + 13 * c + d) % 13 = d := by omega
  have y5 : (28561 * a + (2197 * b + (169 * c + (13 * d + e)))) % 13 = e := by omega
  rw [y2, y3, y4, y5]

theorem ch_pos (xs : List Int) (h5 : 5 ≤ xs.length) (h8 : xs.length ≤ 8) : 0 < (ch 5 xs).length := by rw [ch_len]; exact idx_pos xs.length h5 h8
theorem ch_first (xs : List Int) (h5 : 5 ≤ xs.length) (h8 : xs.length ≤ 8) : (ch 5 xs).getD 0 [] = xs.take 5 := by
  rw [ch_at xs 0 (idx_pos xs.length h5 h8)]
  have e : (idx xs.length).getD 0 [] = [0, 1, 2, 3, 4] := by rw [List.getD_eq_getElem?_getD, idx_first xs.length h5 h8]; rfl
  rw [e]
  match xs, h5 with
  | a :: b :: c :: d :: e :: r, _ => rfl
theorem best_facts {xs : List Int} (h : sizedB xs 5 8 = true) : (bfS xs).Sublist xs ∧ (bfS xs).length = 5 ∧ cardsB (bfS xs) = true ∧ bvS xs = hv (bfS xs) ∧ hv (xs.take 5) ≤ bvS xs := by
  obtain ⟨h5, h8, hb⟩ := sized8 h
  have hp := ch_pos xs h5 h8
  have hlt := bestI_lt hv (ch 5 xs) (ch 5 xs).length (Nat.le_refl _)
  have e : bfS xs = (ch 5 xs).getD (bestI hv (ch 5 xs) (ch 5 xs).length).1 [] := by unfold bfS bestF; rw [if_neg (by omega)]
  have hm : bfS xs ∈ ch 5 xs := by
    rw [e, List.getD_eq_getElem?_getD, List.getElem?_eq_getElem (by omega)]; exact List.getElem_mem _
  obtain ⟨hs, hl⟩ := ch_mem 5 xs _ hm
  have hc := ch_cards xs hb (bestI hv (ch 5 xs) (ch 5 xs).length).1 (by omega)
  obtain ⟨v1, v2⟩ := bestI_val hv (ch 5 xs) (fun i hi => (hv_bd _ (ch_cards xs hb i hi).1 (ch_cards xs hb i hi).2).1) (ch 5 xs).length hp (Nat.le_refl _)
  refine ⟨hs, hl, by rw [e]; exact hc.1, by rw [e]; exact v1, ?_⟩
  have := v2 0 hp
  rw [ch_first xs h5 h8] at this
  exact this
/-- Five cards: the one choice. -/
theorem best_five {xs : List Int} (h5 : xs.length = 5) (hb : cardsB xs = true) : bvS xs = hv xs := by
  have hz : sizedB xs 5 8 = true := sized_iff.2 ⟨by omega, by omega, hb⟩
  obtain ⟨hs, hl, _, hv', _⟩ := best_facts hz
  rw [hv', hs.eq_of_length (by omega)]
end Go.Proofs.YtjchjjnmahddiaaDoor
