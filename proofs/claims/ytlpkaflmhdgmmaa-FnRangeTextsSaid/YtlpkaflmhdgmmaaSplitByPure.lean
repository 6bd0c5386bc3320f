/-
  A text split at a byte: plain facts; nothing of the program is imported.
-/
import Derived.Below
namespace Go.Proofs.Ytlpkaflmhdgmmaa

def spS (b : UInt8) (x : List (List UInt8) × List UInt8) (c : UInt8) : List (List UInt8) × List UInt8 := if c = b then (x.1 ++ [x.2], []) else (x.1, x.2 ++ [c])
/-- The pieces before the last such byte, and what stands behind it. -/
def spB (b : UInt8) (l : List UInt8) : List (List UInt8) × List UInt8 := l.foldl (spS b) ([], [])
/-- All pieces. -/
def splitB (b : UInt8) (l : List UInt8) : List (List UInt8) := (spB b l).1 ++ [(spB b l).2]
theorem spB_snoc (b : UInt8) (l : List UInt8) (c : UInt8) : spB b (l ++ [c]) = spS b (spB b l) c := by unfold spB; rw [List.foldl_append]; rfl
theorem takeB_snoc (l : List UInt8) (k : Nat) (h : k < l.length) : l.take (k + 1) = l.take k ++ [l[k]] := by
  rw [List.take_succ_eq_append_getElem h]
theorem dropB_snoc (l : List UInt8) (f k : Nat) (hf : f ≤ k) (h : k < l.length) : (l.drop f).take (k + 1 - f) = (l.drop f).take (k - f) ++ [l[k]] := by
  have e : k + 1 - f = (k - f) + 1 := by omega
  have hl : k - f < (l.drop f).length := by rw [List.length_drop]; omega
  rw [e, List.take_succ_eq_append_getElem hl]
  congr 2
  rw [List.getElem_drop]
  congr 1
  omega
theorem spB_tail (b : UInt8) (l : List UInt8) : ∀ k, k ≤ l.length → (spB b (l.take k)).2.length ≤ k ∧ (spB b (l.take k)).2 = (l.drop (k - (spB b (l.take k)).2.length)).take ((spB b (l.take k)).2.length) ∧ (spB b (l.take k)).1.length ≤ k
  | 0, _ => by simp [spB]
  | k + 1, h => by
    obtain ⟨a, b', c⟩ := spB_tail b l k (by omega)
    rw [takeB_snoc l k (by omega), spB_snoc]
    unfold spS
    split
    · simp; omega
    · have e : (spB b (l.take k)).2 ++ [l[k]] = (l.drop (k - (spB b (l.take k)).2.length)).take ((spB b (l.take k)).2.length + 1) := by
        have := dropB_snoc l (k - (spB b (l.take k)).2.length) k (by omega) (by omega)
        rw [show k + 1 - (k - (spB b (l.take k)).2.length) = (spB b (l.take k)).2.length + 1 by omega, show k - (k - (spB b (l.take k)).2.length) = (spB b (l.take k)).2.length by omega, ← b'] at this
        exact this.symm
      refine ⟨by simp; omega, ?_, by simp; omega⟩
      simp only [List.length_append, List.length_cons, List.length_nil, Nat.zero_add]
      rw [show k + 1 - ((spB b (l.take k)).2.length + 1) = k - (spB b (l.take k)).2.length by omega]
      exact e
/-- The pieces that the loop has gathered when it has come to place k. -/
def pcsB (b : UInt8) (l : List UInt8) (k : Nat) : List (List UInt8) := if k ≤ l.length then (spB b (l.take k)).1 else splitB b l
/-- Where the next piece begins. -/
def frmB (b : UInt8) (l : List UInt8) (k : Nat) : Nat := if k ≤ l.length then k - (spB b (l.take k)).2.length else l.length + 1
theorem pcsB_zero (b : UInt8) (l : List UInt8) : pcsB b l 0 = [] := by unfold pcsB; simp [spB]
theorem frmB_zero (b : UInt8) (l : List UInt8) : frmB b l 0 = 0 := by unfold frmB; simp [spB]
theorem frmB_le (b : UInt8) (l : List UInt8) (k : Nat) (h : k ≤ l.length) : frmB b l k ≤ k := by unfold frmB; rw [if_pos h]; omega
theorem pcsB_len (b : UInt8) (l : List UInt8) (k : Nat) (h : k ≤ l.length) : (pcsB b l k).length ≤ k := by unfold pcsB; rw [if_pos h]; exact (spB_tail b l k h).2.2
theorem pieceB_eq (b : UInt8) (l : List UInt8) (k : Nat) (h : k ≤ l.length) : (l.drop (frmB b l k)).take (k - frmB b l k) = (spB b (l.take k)).2 := by
  obtain ⟨a, b', _⟩ := spB_tail b l k h
  unfold frmB
  rw [if_pos h, show k - (k - (spB b (l.take k)).2.length) = (spB b (l.take k)).2.length by omega]
  exact b'.symm
theorem stepB_keep (b : UInt8) (l : List UInt8) (k : Nat) (h : k < l.length) (hc : l[k] ≠ b) : pcsB b l (k + 1) = pcsB b l k ∧ frmB b l (k + 1) = frmB b l k := by
  obtain ⟨a, _, _⟩ := spB_tail b l k (by omega)
  unfold pcsB frmB
  rw [if_pos (by omega), if_pos (by omega), if_pos (by omega), if_pos (by omega), takeB_snoc l k h, spB_snoc]
  unfold spS
  rw [if_neg hc]
  refine ⟨rfl, ?_⟩
  simp
theorem stepB_cut (b : UInt8) (l : List UInt8) (k : Nat) (h : k < l.length) (hc : l[k] = b) : pcsB b l (k + 1) = pcsB b l k ++ [(l.drop (frmB b l k)).take (k - frmB b l k)] ∧ frmB b l (k + 1) = k + 1 := by
  rw [pieceB_eq b l k (by omega)]
  unfold pcsB frmB
  rw [if_pos (by omega), if_pos (by omega), if_pos (by omega), takeB_snoc l k h, spB_snoc]
  unfold spS
  rw [if_pos hc]
  exact ⟨rfl, rfl⟩
theorem stepB_end (b : UInt8) (l : List UInt8) : pcsB b l (l.length + 1) = pcsB b l l.length ++ [(l.drop (frmB b l l.length)).take (l.length - frmB b l l.length)] ∧ frmB b l (l.length + 1) = l.length + 1 := by
  rw [pieceB_eq b l l.length (Nat.le_refl _)]
  unfold pcsB frmB splitB
  rw [if_neg (by omega), if_pos (Nat.le_refl _), if_neg (by omega), List.take_of_length_le (Nat.le_refl _)]
  exact ⟨rfl, rfl⟩
theorem pcsB_end (b : UInt8) (l : List UInt8) : pcsB b l (l.length + 1) = splitB b l := by unfold pcsB; rw [if_neg (by omega)]

theorem foldB_no (b : UInt8) : ∀ (m : List UInt8) (ps : List (List UInt8)) (c : List UInt8), b ∉ m → m.foldl (spS b) (ps, c) = (ps, c ++ m)
  | [], ps, c, _ => by simp
  | x :: m, ps, c, h => by
    have hx : x ≠ b := fun e => h (by rw [e]; exact List.mem_cons_self ..)
    rw [List.foldl_cons]
    have e : spS b (ps, c) x = (ps, c ++ [x]) := by unfold spS; rw [if_neg hx]
    rw [e, foldB_no b m ps (c ++ [x]) (fun e => h (List.mem_cons_of_mem _ e))]
    simp
theorem foldB_pre (b : UInt8) : ∀ (m : List UInt8) (ps : List (List UInt8)) (c : List UInt8), m.foldl (spS b) (ps, c) = (ps ++ (m.foldl (spS b) ([], c)).1, (m.foldl (spS b) ([], c)).2)
  | [], ps, c => by simp
  | x :: m, ps, c => by
    rw [List.foldl_cons, List.foldl_cons]
    by_cases hx : x = b
    · have e : ∀ qs : List (List UInt8), spS b (qs, c) x = (qs ++ [c], []) := fun qs => by unfold spS; rw [if_pos hx]
      rw [e, e, foldB_pre b m (ps ++ [c]) [], foldB_pre b m ([] ++ [c]) []]
      simp
    · have e : ∀ qs : List (List UInt8), spS b (qs, c) x = (qs, c ++ [x]) := fun qs => by unfold spS; rw [if_neg hx]
      rw [e, e]
      exact foldB_pre b m ps _
theorem splitB_no (b : UInt8) (l : List UInt8) (h : b ∉ l) : splitB b l = [l] := by
  unfold splitB spB; rw [foldB_no b l [] [] h]; rfl
theorem splitB_cut (b : UInt8) (a r : List UInt8) (h : b ∉ a) : splitB b (a ++ b :: r) = a :: splitB b r := by
  have e : spB b (a ++ b :: r) = r.foldl (spS b) ([a], []) := by
    unfold spB
    rw [List.foldl_append, foldB_no b a [] [] h, List.foldl_cons]
    have e2 : spS b ([], [] ++ a) b = ([a], []) := by unfold spS; simp
    rw [e2]
  unfold splitB
  rw [e, foldB_pre b r [a] []]
  rfl
/-- A text has no such byte, or a first one. -/
theorem splitB_cases (b : UInt8) : ∀ l : List UInt8, b ∉ l ∨ ∃ a r, l = a ++ b :: r ∧ b ∉ a
  | [] => .inl (by simp)
  | x :: l => by
    by_cases hx : x = b
    · exact .inr ⟨[], l, by rw [hx]; rfl, by simp⟩
    · rcases splitB_cases b l with h | ⟨a, r, rfl, h⟩
      · left
        intro hm
        rcases List.mem_cons.1 hm with e | e
        · exact hx e.symm
        · exact h e
      · refine .inr ⟨x :: a, r, rfl, ?_⟩
        intro hm
        rcases List.mem_cons.1 hm with e | e
        · exact hx e.symm
        · exact h e
/-- Pieces put together again, each with the byte in front. -/
def jnB (b : UInt8) (ps : List (List UInt8)) : List UInt8 := ps.flatMap (fun p => b :: p)
theorem splitB_jn (b : UInt8) : ∀ (n : Nat) (l : List UInt8), l.length ≤ n → ∃ p ps, splitB b l = p :: ps ∧ l = p ++ jnB b ps ∧ (∀ q ∈ p :: ps, b ∉ q) ∧ ps.length ≤ l.length
  | 0, l, h => by
    have : l = [] := List.length_eq_zero_iff.1 (by omega)
    subst this
    exact ⟨[], [], splitB_no b [] (by simp), rfl, by simp, by simp⟩
  | n + 1, l, h => by
    rcases splitB_cases b l with hn | ⟨a, r, rfl, ha⟩
    · exact ⟨l, [], splitB_no b l hn, by simp [jnB], by simpa using hn, by simp⟩
    · have hl : r.length ≤ n := by rw [List.length_append, List.length_cons] at h; omega
      obtain ⟨p, ps, e1, e2, e3, e4⟩ := splitB_jn b n r hl
      refine ⟨a, p :: ps, by rw [splitB_cut b a r ha, e1], ?_, ?_, ?_⟩
      · rw [jnB, List.flatMap_cons, ← jnB]
        rw [List.cons_append, ← e2]
      · intro q hq
        rcases List.mem_cons.1 hq with e | e
        · rw [e]; exact ha
        · exact e3 q e
      · rw [List.length_append, List.length_cons, List.length_cons]; omega
theorem splitB_len (b : UInt8) (l : List UInt8) : (splitB b l).length ≤ l.length + 1 := by
  obtain ⟨p, ps, e, _, _, h⟩ := splitB_jn b l.length l (Nat.le_refl _)
  rw [e, List.length_cons]; omega
end Go.Proofs.Ytlpkaflmhdgmmaa
