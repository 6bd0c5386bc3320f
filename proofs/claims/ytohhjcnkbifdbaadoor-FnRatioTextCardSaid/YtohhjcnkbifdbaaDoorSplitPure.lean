/-
  A text split at its slashes: plain facts; nothing of the program is imported.
-/
import Derived.Below
import Derived.Lib.Hide
namespace Go.Proofs.YtohhjcnkbifdbaaDoor

def spStep (x : List (List UInt8) × List UInt8) (c : UInt8) : List (List UInt8) × List UInt8 := if c = 47 then (x.1 ++ [x.2], []) else (x.1, x.2 ++ [c])
/-- The pieces before the last slash, and what stands behind it. -/
def sp (l : List UInt8) : List (List UInt8) × List UInt8 := l.foldl spStep ([], [])
/-- All pieces. -/
def splitL (l : List UInt8) : List (List UInt8) := (sp l).1 ++ [(sp l).2]
theorem sp_snoc (l : List UInt8) (c : UInt8) : sp (l ++ [c]) = spStep (sp l) c := by unfold sp; rw [List.foldl_append]; rfl
theorem take_snoc' (l : List UInt8) (k : Nat) (h : k < l.length) : l.take (k + 1) = l.take k ++ [l[k]] := by
  rw [List.take_succ_eq_append_getElem h]
theorem drop_take_snoc (l : List UInt8) (f k : Nat) (hf : f ≤ k) (h : k < l.length) : (l.drop f).take (k + 1 - f) = (l.drop f).take (k - f) ++ [l[k]] := by
  have e : k + 1 - f = (k - f) + 1 := by omega
  have hl : k - f < (l.drop f).length := by rw [List.length_drop]; omega
  rw [e, List.take_succ_eq_append_getElem hl]
  congr 2
  rw [List.getElem_drop]
  congr 1
  omega
/-- What stands behind the last slash begins there. -/
theorem sp_tail (l : List UInt8) : ∀ k, k ≤ l.length → (sp (l.take k)).2.length ≤ k ∧ (sp (l.take k)).2 = (l.drop (k - (sp (l.take k)).2.length)).take ((sp (l.take k)).2.length) ∧ (sp (l.take k)).1.length ≤ k
  | 0, _ => by simp [sp]
  | k + 1, h => by
    obtain ⟨a, b, c⟩ := sp_tail l k (by omega)
    rw [take_snoc' l k (by omega), sp_snoc]
    unfold spStep
    split
    · simp; omega
    · have e : (sp (l.take k)).2 ++ [l[k]] = (l.drop (k - (sp (l.take k)).2.length)).take ((sp (l.take k)).2.length + 1) := by
        have := drop_take_snoc l (k - (sp (l.take k)).2.length) k (by omega) (by omega)
        rw [show k + 1 - (k - (sp (l.take k)).2.length) = (sp (l.take k)).2.length + 1 by omega, show k - (k - (sp (l.take k)).2.length) = (sp (l.take k)).2.length by omega, ← b] at this
        exact this.symm
      refine ⟨by simp; omega, ?_, by simp; omega⟩
      simp only [List.length_append, List.length_cons, List.length_nil, Nat.zero_add]
      rw [show k + 1 - ((sp (l.take k)).2.length + 1) = k - (sp (l.take k)).2.length by omega]
      exact e
/-- The pieces that the loop has gathered when it has come to place k. -/
def pcs (l : List UInt8) (k : Nat) : List (List UInt8) := if k ≤ l.length then (sp (l.take k)).1 else splitL l
/-- Where the next piece begins. -/
def frm (l : List UInt8) (k : Nat) : Nat := if k ≤ l.length then k - (sp (l.take k)).2.length else l.length + 1
theorem pcs_zero (l : List UInt8) : pcs l 0 = [] := by unfold pcs; simp [sp]
theorem frm_zero (l : List UInt8) : frm l 0 = 0 := by unfold frm; simp [sp]
theorem frm_le (l : List UInt8) (k : Nat) (h : k ≤ l.length) : frm l k ≤ k := by unfold frm; rw [if_pos h]; omega
theorem pcs_len (l : List UInt8) (k : Nat) (h : k ≤ l.length) : (pcs l k).length ≤ k := by unfold pcs; rw [if_pos h]; exact (sp_tail l k h).2.2
theorem piece_eq (l : List UInt8) (k : Nat) (h : k ≤ l.length) : (l.drop (frm l k)).take (k - frm l k) = (sp (l.take k)).2 := by
  obtain ⟨a, b, _⟩ := sp_tail l k h
  unfold frm
  rw [if_pos h, show k - (k - (sp (l.take k)).2.length) = (sp (l.take k)).2.length by omega]
  exact b.symm
theorem step_keep (l : List UInt8) (k : Nat) (h : k < l.length) (hc : l[k] ≠ 47) : pcs l (k + 1) = pcs l k ∧ frm l (k + 1) = frm l k := by
  obtain ⟨a, _, _⟩ := sp_tail l k (by omega)
  unfold pcs frm
  rw [if_pos (by omega), if_pos (by omega), if_pos (by omega), if_pos (by omega), take_snoc' l k h, sp_snoc]
  unfold spStep
  rw [if_neg hc]
  refine ⟨rfl, ?_⟩
  simp
theorem step_cut (l : List UInt8) (k : Nat) (h : k < l.length) (hc : l[k] = 47) : pcs l (k + 1) = pcs l k ++ [(l.drop (frm l k)).take (k - frm l k)] ∧ frm l (k + 1) = k + 1 := by
  rw [piece_eq l k (by omega)]
  unfold pcs frm
  rw [if_pos (by omega), if_pos (by omega), if_pos (by omega), take_snoc' l k h, sp_snoc]
  unfold spStep
  rw [if_pos hc]
  exact ⟨rfl, rfl⟩
theorem step_end (l : List UInt8) : pcs l (l.length + 1) = pcs l l.length ++ [(l.drop (frm l l.length)).take (l.length - frm l l.length)] ∧ frm l (l.length + 1) = l.length + 1 := by
  rw [piece_eq l l.length (Nat.le_refl _)]
  unfold pcs frm splitL
  rw [if_neg (by omega), if_pos (Nat.le_refl _), if_neg (by omega), List.take_of_length_le (Nat.le_refl _)]
  exact ⟨rfl, rfl⟩
theorem pcs_end (l : List UInt8) : pcs l (l.length + 1) = splitL l := by unfold pcs; rw [if_neg (by omega)]

theorem fold_no : ∀ (m : List UInt8) (ps : List (List UInt8)) (c : List UInt8), (47 : UInt8) ∉ m → m.foldl spStep (ps, c) = (ps, c ++ m)
  | [], ps, c, _ => by simp
  | x :: m, ps, c, h => by
    have hx : x ≠ 47 := fun e => h (by rw [e]; exact List.mem_cons_self ..)
    rw [List.foldl_cons]
    have e : spStep (ps, c) x = (ps, c ++ [x]) := by unfold spStep; rw [if_neg hx]
    rw [e, fold_no m ps (c ++ [x]) (fun e => h (List.mem_cons_of_mem _ e))]
    simp
theorem fold_pre : ∀ (m : List UInt8) (ps : List (List UInt8)) (c : List UInt8), ∃ qs d, m.foldl spStep (ps, c) = (ps ++ qs, d)
  | [], ps, c => ⟨[], c, by simp⟩
  | x :: m, ps, c => by
    rw [List.foldl_cons]
    by_cases hx : x = 47
    · have e : spStep (ps, c) x = (ps ++ [c], []) := by unfold spStep; rw [if_pos hx]
      rw [e]
      obtain ⟨qs, d, h⟩ := fold_pre m (ps ++ [c]) []
      exact ⟨c :: qs, d, by rw [h]; simp⟩
    · have e : spStep (ps, c) x = (ps, c ++ [x]) := by unfold spStep; rw [if_neg hx]
      rw [e]
      exact fold_pre m ps _
theorem sp_cut (a b : List UInt8) (h : (47 : UInt8) ∉ a) : sp (a ++ 47 :: b) = b.foldl spStep ([a], []) := by
  unfold sp
  rw [List.foldl_append, fold_no a [] [] h, List.foldl_cons]
  rfl
theorem split_no (l : List UInt8) (h : (47 : UInt8) ∉ l) : splitL l = [l] := by
  unfold splitL sp; rw [fold_no l [] [] h]; rfl
theorem split_one (a b : List UInt8) (h : (47 : UInt8) ∉ a) (h' : (47 : UInt8) ∉ b) : splitL (a ++ 47 :: b) = [a, b] := by
  unfold splitL; rw [sp_cut a b h, fold_no b [a] [] h']; rfl
theorem split_more (a b c : List UInt8) (h : (47 : UInt8) ∉ a) (h' : (47 : UInt8) ∉ b) : ∃ qs d, splitL (a ++ 47 :: (b ++ 47 :: c)) = a :: b :: (qs ++ [d]) := by
  have e : (b ++ 47 :: c).foldl spStep ([a], []) = c.foldl spStep ([a, b], []) := by
    rw [List.foldl_append, fold_no b [a] [] h', List.foldl_cons]
    rfl
  obtain ⟨qs, d, h2⟩ := fold_pre c [a, b] []
  refine ⟨qs, d, ?_⟩
  unfold splitL
  rw [sp_cut a _ h, e, h2]
  simp
theorem split_len (l : List UInt8) : (splitL l).length ≤ l.length + 1 := by
  have := pcs_len l l.length (Nat.le_refl _)
  rw [← pcs_end, (step_end l).1]
  simp; omega
end Go.Proofs.YtohhjcnkbifdbaaDoor
