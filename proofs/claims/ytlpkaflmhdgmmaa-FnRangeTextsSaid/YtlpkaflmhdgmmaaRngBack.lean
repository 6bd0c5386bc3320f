/-
  A range is recovered from its standard text: plain facts.
-/
import Derived.Test.YtlpkaflmhdgmmaaPartWalk
import Derived.Test.YtlpkaflmhdgmmaaRngText
namespace Go.Proofs.Ytlpkaflmhdgmmaa

theorem splitB_join : ∀ (ps : List (List UInt8)), ps ≠ [] → (∀ p ∈ ps, (44 : UInt8) ∉ p) → splitB 44 (Lib.join ps [44]) = ps
  | [], h, _ => absurd rfl h
  | [p], _, h => by rw [Lib.join_one, splitB_no 44 p (h p (by simp))]
  | p :: q :: r, _, h => by
    have ih := splitB_join (q :: r) (by simp) (fun x hx => h x (by simp [hx]))
    have e : Lib.join (p :: q :: r) [44] = p ++ 44 :: Lib.join (q :: r) [44] := by
      rw [Lib.join_cons, Lib.join_cons]
      simp [Lib.joinTail]
    rw [e, splitB_cut 44 p _ (h p (by simp)), ih]
/-- The text of a class is a part, which stands for that class alone. -/
def clsOk (k : Int) : Bool := (match partM (clsT k) with | some x => decide (rowG x = [k]) | none => false) && !(clsT k).contains 44
theorem cls_all : ∀ k : Fin 169, clsOk (k.val : Int) = true := by decide +kernel
theorem cls_part (k : Int) (h0 : 0 ≤ k) (h1 : k < 169) : (∃ x, partM (clsT k) = some x ∧ rowG x = [k]) ∧ (44 : UInt8) ∉ clsT k := by
  have h := cls_all ⟨k.toNat, by omega⟩
  have e : ((k.toNat : Nat) : Int) = k := by omega
  simp only [e] at h
  unfold clsOk at h
  rw [Bool.and_eq_true] at h
  obtain ⟨h2, h3⟩ := h
  refine ⟨?_, by simpa using h3⟩
  cases hx : partM (clsT k) with
  | none => rw [hx] at h2; cases h2
  | some x => rw [hx] at h2; exact ⟨x, rfl, by simpa using h2⟩
theorem acc_cls : ∀ (ks : List Int), (∀ k ∈ ks, 0 ≤ k ∧ k < 169) → (ks.map clsT).flatMap (fun p => match partM p with | some x => rowG x | none => []) = ks
  | [], _ => rfl
  | k :: ks, h => by
    rw [List.map_cons, List.flatMap_cons, acc_cls ks (fun x hx => h x (by simp [hx]))]
    obtain ⟨⟨x, hx, hr⟩, _⟩ := cls_part k (h k (by simp)).1 (h k (by simp)).2
    rw [hx]
    show rowG x ++ ks = k :: ks
    rw [hr]; rfl
theorem rd_back (xs : List Int) (hx : rngB xs = true) (hne : xs ≠ []) : rdR (rtx xs.reverse) = xs ∧ rdC (rtx xs.reverse) = 0 ∧ (rtx xs.reverse).length ≤ 800 := by
  have hk : ∀ k ∈ xs.reverse, 0 ≤ k ∧ k < 169 := fun k h => rng_mem hx k (by simpa using h)
  have hl : (rtx xs.reverse).length ≤ 800 := by
    have h1 := rtx_len xs.reverse
    have h2 := rng_len hx
    rw [List.length_reverse] at h1
    omega
  have hs : splitB 44 (rtx xs.reverse) = xs.reverse.map clsT := splitB_join _ (by simpa using hne) (fun p hp => by
    obtain ⟨k, h1, rfl⟩ := List.mem_map.1 hp
    exact (cls_part k (hk k h1).1 (hk k h1).2).2)
  have ho : okK (splitB 44 (rtx xs.reverse)) (splitB 44 (rtx xs.reverse)).length := by
    intro p hp
    rw [List.take_of_length_le (Nat.le_refl _), hs] at hp
    obtain ⟨k, h1, rfl⟩ := List.mem_map.1 hp
    obtain ⟨x, h2, _⟩ := (cls_part k (hk k h1).1 (hk k h1).2).1
    rw [h2]; rfl
  obtain ⟨e1, e2⟩ := rd_yes hl ho
  refine ⟨?_, e2, hl⟩
  rw [e1]
  have ha : accK (splitB 44 (rtx xs.reverse)) (splitB 44 (rtx xs.reverse)).length = xs.reverse := by
    unfold accK
    rw [List.take_of_length_le (Nat.le_refl _), hs]
    exact acc_cls _ hk
  rw [ha]
  have hb : hasB xs.reverse = hasB xs := by funext c; unfold hasB; simp
  rw [hb]
  exact (rng_cls hx).symm
theorem rowG_ne {x : Grp × Int} (h : OkP x) : rowG x ≠ [] := by
  have hn : (x.2 + 1 - x.1.2.1).toNat = ((x.2 - x.1.2.1).toNat + 1) := by have := h.2.1; omega
  unfold rowG
  rw [hn, rowN_succ]
  have ho := with_ok h (x.1.2.1 + (x.2 - x.1.2.1).toNat) (by omega) (by have := h.2.1; omega)
  intro e
  have h2 := (List.append_eq_nil_iff.1 e).2
  obtain ⟨q1, q2, q3, q4, q5⟩ := ho
  generalize withG x.1 (x.1.2.1 + (x.2 - x.1.2.1).toNat) = g at *
  unfold clsG at h2
  have h3 := List.append_eq_nil_iff.1 h2
  by_cases e1 : g.2.2 = 111
  · have hlt : g.2.1 < g.1 := by
      by_cases e2 : g.1 = g.2.1
      · have := q4 e2; rw [e1] at this; exact absurd this (by decide)
      · omega
    have := h3.2
    rw [if_pos ⟨by rw [e1]; decide, hlt⟩] at this
    cases this
  · have := h3.1
    rw [if_neg e1] at this
    cases this
/-- What is read is a range that has a class. -/
theorem rd_good {l : List UInt8} (h : rdC l = 0) : rngB (rdR l) = true ∧ 0 < (rdR l).length := by
  have hb : okB l = true := by
    unfold rdC at h
    split at h
    · omega
    · split at h
      · assumption
      · omega
  have e : rdR l = clsIn (hasB (accK (splitB 44 l) (splitB 44 l).length)) := by unfold rdR; rw [if_pos hb]
  refine ⟨by rw [e]; exact clsIn_rng _, ?_⟩
  have hb' := hb
  unfold okB at hb'
  rw [Bool.and_eq_true, List.all_eq_true] at hb'
  obtain ⟨h0, _⟩ := split_start l
  have h1 := hb'.2 _ (List.getElem_mem h0)
  cases hx : partM (splitB 44 l)[0] with
  | none => rw [hx] at h1; cases h1
  | some x =>
    have ho := partM_ok hx
    obtain ⟨c, r, hc⟩ := List.exists_cons_of_ne_nil (rowG_ne ho)
    have hcm : c ∈ rowG x := by rw [hc]; simp
    have hcb := rowG_in ho c hcm
    have hm : c ∈ rdR l := by
      rw [e, clsIn_mem, hasB_mem]
      refine ⟨hcb, ?_⟩
      unfold accK
      rw [List.take_of_length_le (Nat.le_refl _), List.mem_flatMap]
      exact ⟨_, List.getElem_mem h0, by rw [hx]; exact hcm⟩
    exact List.length_pos_of_mem hm
end Go.Proofs.Ytlpkaflmhdgmmaa
