/-
  Put together: Choices, StepImpl, Range, IterImpl, ChAt
-/
import Derived.Test.YthgfohdjpfhebaaHigh
import Derived.Test.YthgfohdjpfhebaaBase
import Derived.RangeFuncNested
import Derived.RangeFuncBound
import Derived.RangeFuncCalls
import Derived.RangeFuncLeaves
import Derived.Shelf.Abstract
import Derived.Shelf.RegionOpen
import Derived.OwnWalkIn
import Derived.TacticsInMore
import Derived.LoopNIn
import Derived.LoopIn

/-! Plain facts: all choices of five, by lists and by indices; the best one. Nothing of the program is imported. -/
namespace Go.Proofs.Ythgfohdjpfhebaa
set_option linter.unusedVariables false

/-- All lists of k elements of a list, in its order, those with smaller indices first. -/
def ch : Nat → List Int → List (List Int)
  | 0, _ => [[]]
  | k + 1, l => (List.range (l.length - k)).flatMap fun j => (ch k (l.drop (j + 1))).map (fun t => l.getD j 0 :: t)
theorem ch_map (f : Int → Int) : ∀ (k : Nat) (l : List Int), ch k (l.map f) = (ch k l).map (List.map f)
  | 0, l => by simp [ch]
  | k + 1, l => by
    unfold ch
    rw [List.map_flatMap, List.length_map]
    rw [List.flatMap_def, List.flatMap_def]
    congr 1
    apply List.map_congr_left
    intro j hj
    have hj' : j < l.length := by have := List.mem_range.1 hj; omega
    rw [← List.map_drop, ch_map f k, List.map_map, List.map_map]
    apply List.map_congr_left
    intro t _
    simp only [Function.comp, List.map_cons]
    congr 1
    rw [List.getD_eq_getElem?_getD, List.getD_eq_getElem?_getD, List.getElem?_map, List.getElem?_eq_getElem hj']
    rfl
/-- The choices of five indices. -/
def idx (n : Nat) : List (List Int) := ch 5 ((List.range n).map (fun i : Nat => (i : Int)))
theorem range_get (xs : List Int) : (List.range xs.length).map (fun i : Nat => xs.getD i 0) = xs := by
  apply List.ext_getElem
  · simp
  · intro i h1 h2
    simp at h1
    simp [List.getElem?_eq_getElem h1]
theorem ch_idx (xs : List Int) : ch 5 xs = (idx xs.length).map (List.map (fun i : Int => xs.getD i.toNat 0)) := by
  unfold idx
  rw [← ch_map, List.map_map]
  congr 1
  exact (range_get xs).symm
/-- A choice is made the next one. -/
def bumpN (c : List Int) (i : Nat) : Nat → List Int
  | 0 => c.set i (c.getD i 0 + 1)
  | m + 1 => (bumpN c i m).set (i + 1 + m) ((bumpN c i m).getD (i + m) 0 + 1)
def stepFrom (n : Int) (c : List Int) : Nat → Option (List Int)
  | 0 => none
  | k + 1 => if c.getD k 0 + 5 - (k : Int) = n then stepFrom n c k else some (bumpN c k (4 - k))
/-- What is asked of the choices of indices, for each number of cards. -/
def idxOk (n : Nat) : Bool :=
  (List.range (idx n).length).all (fun i => let c := (idx n).getD i []; decide (c.length = 5) && c.all (fun x => decide (0 ≤ x ∧ x < (n : Int))) && (stepFrom (n : Int) c 5 == (idx n)[i + 1]?)) &&
  decide ((idx n)[0]? = some [0, 1, 2, 3, 4])
theorem idx_ok : idxOk 5 = true ∧ idxOk 6 = true ∧ idxOk 7 = true ∧ idxOk 8 = true := by decide +kernel
theorem idxOk_of (n : Nat) (h5 : 5 ≤ n) (h8 : n ≤ 8) : idxOk n = true := by
  obtain ⟨a, b, c, d⟩ := idx_ok
  have : n = 5 ∨ n = 6 ∨ n = 7 ∨ n = 8 := by omega
  rcases this with rfl | rfl | rfl | rfl
  · exact a
  · exact b
  · exact c
  · exact d
theorem idx_facts (n : Nat) (h5 : 5 ≤ n) (h8 : n ≤ 8) (i : Nat) (hi : i < (idx n).length) :
    ((idx n).getD i []).length = 5 ∧ (∀ x ∈ (idx n).getD i [], 0 ≤ x ∧ x < (n : Int)) ∧ stepFrom (n : Int) ((idx n).getD i []) 5 = (idx n)[i + 1]? := by
  have h := idxOk_of n h5 h8
  unfold idxOk at h
  rw [Bool.and_eq_true, List.all_eq_true] at h
  have h1 := h.1 i (List.mem_range.2 hi)
  simp only [Bool.and_eq_true, decide_eq_true_eq, List.all_eq_true, beq_iff_eq] at h1
  exact ⟨h1.1.1, h1.1.2, h1.2⟩
theorem idx_first (n : Nat) (h5 : 5 ≤ n) (h8 : n ≤ 8) : (idx n)[0]? = some [0, 1, 2, 3, 4] := by
  have h := idxOk_of n h5 h8
  unfold idxOk at h
  rw [Bool.and_eq_true, decide_eq_true_eq] at h
  exact h.2
theorem idx_pos (n : Nat) (h5 : 5 ≤ n) (h8 : n ≤ 8) : 0 < (idx n).length := by
  have := idx_first n h5 h8
  by_cases h : 0 < (idx n).length
  · exact h
  · rw [List.getElem?_eq_none (by omega)] at this; cases this
theorem idx_len : (idx 5).length = 1 ∧ (idx 6).length = 6 ∧ (idx 7).length = 21 ∧ (idx 8).length = 56 := by decide +kernel
theorem idx_le (n : Nat) (h5 : 5 ≤ n) (h8 : n ≤ 8) : (idx n).length ≤ 56 := by
  obtain ⟨a, b, c, d⟩ := idx_len
  have : n = 5 ∨ n = 6 ∨ n = 7 ∨ n = 8 := by omega
  rcases this with rfl | rfl | rfl | rfl <;> omega

def idxNo (n : Nat) : Bool := (List.range (idx n).length).all (fun i => (idx n).idxOf ((idx n).getD i []) == i)
theorem idx_no : idxNo 5 = true ∧ idxNo 6 = true ∧ idxNo 7 = true ∧ idxNo 8 = true := by decide +kernel
theorem idx_nodup (n : Nat) (h5 : 5 ≤ n) (h8 : n ≤ 8) (i : Nat) (hi : i < (idx n).length) : (idx n).idxOf ((idx n).getD i []) = i := by
  obtain ⟨a, b, c, d⟩ := idx_no
  have h : idxNo n = true := by
    have : n = 5 ∨ n = 6 ∨ n = 7 ∨ n = 8 := by omega
    rcases this with rfl | rfl | rfl | rfl
    · exact a
    · exact b
    · exact c
    · exact d
  unfold idxNo at h
  rw [List.all_eq_true] at h
  simpa using h i (List.mem_range.2 hi)
theorem ch_mem : ∀ (k : Nat) (l t : List Int), t ∈ ch k l → t.Sublist l ∧ t.length = k
  | 0, l, t, h => by
    simp [ch] at h
    subst h
    exact ⟨List.nil_sublist l, rfl⟩
  | k + 1, l, t, h => by
    unfold ch at h
    rw [List.mem_flatMap] at h
    obtain ⟨j, hj, ht⟩ := h
    obtain ⟨s, hs, rfl⟩ := List.mem_map.1 ht
    have hj' : j < l.length := by have := List.mem_range.1 hj; omega
    obtain ⟨h1, h2⟩ := ch_mem k _ s hs
    refine ⟨?_, by simp [h2]⟩
    have e : l.drop j = l.getD j 0 :: l.drop (j + 1) := by
      rw [List.drop_eq_getElem_cons hj']
      congr 1
      rw [List.getD_eq_getElem?_getD, List.getElem?_eq_getElem hj']
      rfl
    have : (l.getD j 0 :: s).Sublist (l.drop j) := by rw [e]; exact h1.cons_cons _
    exact this.trans (List.drop_sublist j l)

/-! The best of some lists, by a value: the first one with the greatest. -/
/-- The index of the best of the first k lists, and its value. -/
def bestI (f : List Int → Int) (L : List (List Int)) : Nat → Nat × Int
  | 0 => (0, -1)
  | k + 1 => let v := f (L.getD k []); if (bestI f L k).2 < v then (k, v) else bestI f L k
theorem bestI_yes (f : List Int → Int) (L : List (List Int)) (k : Nat) (h : (bestI f L k).2 < f (L.getD k [])) : bestI f L (k + 1) = (k, f (L.getD k [])) := by rw [bestI]; exact if_pos h
theorem bestI_no (f : List Int → Int) (L : List (List Int)) (k : Nat) (h : ¬ (bestI f L k).2 < f (L.getD k [])) : bestI f L (k + 1) = bestI f L k := by rw [bestI]; exact if_neg h
theorem bestI_lt (f : List Int → Int) (L : List (List Int)) : ∀ k, k ≤ L.length → (bestI f L k).1 ≤ k - 1
  | 0, _ => by simp [bestI]
  | k + 1, h => by
    have ih := bestI_lt f L k (by omega)
    by_cases c : (bestI f L k).2 < f (L.getD k [])
    · rw [bestI_yes f L k c]; simp
    · rw [bestI_no f L k c]; omega
theorem bestI_val (f : List Int → Int) (L : List (List Int)) (hf : ∀ i, i < L.length → 0 ≤ f (L.getD i [])) : ∀ k, 0 < k → k ≤ L.length → (bestI f L k).2 = f (L.getD (bestI f L k).1 []) ∧ ∀ i, i < k → f (L.getD i []) ≤ (bestI f L k).2
  | 0, h, _ => by omega
  | k + 1, _, h => by
    by_cases c : (bestI f L k).2 < f (L.getD k [])
    · rw [bestI_yes f L k c]
      refine ⟨rfl, fun i hi => ?_⟩
      by_cases e : i = k
      · subst e; exact Int.le_refl _
      · by_cases hk : 0 < k
        · have := (bestI_val f L hf k hk (by omega)).2 i (by omega)
          simp only; omega
        · omega
    · rw [bestI_no f L k c]
      by_cases hk : 0 < k
      · obtain ⟨ih1, ih2⟩ := bestI_val f L hf k hk (by omega)
        refine ⟨ih1, fun i hi => ?_⟩
        by_cases e : i = k
        · subst e; omega
        · exact ih2 i (by omega)
      · exfalso
        have : k = 0 := by omega
        subst this
        have h0 := hf 0 (by omega)
        have e : (bestI f L 0).2 = -1 := rfl
        rw [e] at c
        omega
end Go.Proofs.Ythgfohdjpfhebaa

/-! The next choice of indices; the elements at the indices of a choice. -/
namespace Go.Proofs.Ythgfohdjpfhebaa
open Go.RowKit
set_option linter.unusedVariables false

theorem bumpN_len (c : List Int) (i : Nat) : ∀ m, (bumpN c i m).length = c.length
  | 0 => by simp [bumpN]
  | m + 1 => by simp [bumpN, bumpN_len c i m]
theorem set_bd {c : List Int} {i : Nat} {x b : Int} (h : ∀ y ∈ c, 0 ≤ y ∧ y ≤ b) (h0 : 0 ≤ x) (h1 : x ≤ b) : ∀ y ∈ c.set i x, 0 ≤ y ∧ y ≤ b := fun y hy => by
  rcases List.mem_or_eq_of_mem_set hy with h' | rfl
  · exact h y h'
  · exact ⟨h0, h1⟩
theorem getD_bd {c : List Int} {i : Nat} {b : Int} (h : ∀ y ∈ c, 0 ≤ y ∧ y ≤ b) (hb : 0 ≤ b) : 0 ≤ c.getD i 0 ∧ c.getD i 0 ≤ b := by
  by_cases hi : i < c.length
  · have := h c[i] (List.getElem_mem hi)
    rw [List.getD_eq_getElem?_getD, List.getElem?_eq_getElem hi]
    exact this
  · rw [List.getD_eq_getElem?_getD, List.getElem?_eq_none (by omega)]
    exact ⟨Int.le_refl _, hb⟩
theorem bumpN_bd (c : List Int) (i : Nat) (h : ∀ y ∈ c, 0 ≤ y ∧ y ≤ 8) : ∀ m : Nat, ∀ y ∈ bumpN c i m, 0 ≤ y ∧ y ≤ 9 + (m : Int)
  | 0 => by
    have h9 : ∀ y ∈ c, 0 ≤ y ∧ y ≤ 9 := fun y hy => by have := h y hy; omega
    have g := getD_bd (i := i) h (by omega)
    exact set_bd (b := 9) h9 (by omega) (by omega)
  | m + 1 => by
    have ih := bumpN_bd c i h m
    have h9 : ∀ y ∈ bumpN c i m, 0 ≤ y ∧ y ≤ 9 + ((m + 1 : Nat) : Int) := fun y hy => by have := ih y hy; omega
    have g := getD_bd (i := i + m) ih (by omega)
    exact set_bd h9 (by omega) (by omega)

/-- Five numbers are made. -/
theorem infoInt3 : (Try.prog.info? 3).map (fun i => (i.zero, i.size, i.bytes)) = some (some (.int .i64 0), 1, 8) := by kernel_rfl
/-- What stepChoice leaves. -/
def Stepped (o : Option (List Int)) (g : Nat) (c : List Int) (w : World) (e : Ending) (w' : World) : Prop :=
  match o with
  | some c' => e = .returned (.bool true) ∧ Blk w' g 3 (ints c') ∧ w.grownBy w' (some g)
  | none => e = .returned (.bool false) ∧ w' = w

/-! The elements at a choice. -/
def pickL (xs c : List Int) : List Int := c.map (fun i : Int => xs.getD i.toNat 0)
theorem pickL_len (xs c : List Int) : (pickL xs c).length = c.length := by simp [pickL]
theorem pickL_nth (xs c : List Int) (k : Nat) (h : k < c.length) : nth (pickL xs c) k = nth xs (nth c k).toNat := by
  rw [nth_eq _ _ (by rw [pickL_len]; exact h), nth_eq c k h]; simp [pickL, nth]
/-- The first k elements picked, and zeros. -/
def pick0 (xs c : List Int) (k : Nat) : List Int := (pickL xs c).take k ++ List.replicate (5 - k) 0
theorem pick0_step (xs c : List Int) (k : Nat) (h5 : c.length = 5) (hk : k < 5) : (pick0 xs c k).set k (nth xs (nth c k).toNat) = pick0 xs c (k + 1) := by
  unfold pick0
  have hl : ((pickL xs c).take k).length = k := by rw [List.length_take, pickL_len]; omega
  rw [List.set_append_right _ _ (by omega), hl, Nat.sub_self, take_nth _ k (by rw [pickL_len]; omega), pickL_nth xs c k (by omega)]
  have e : List.replicate (5 - k) (0 : Int) = 0 :: List.replicate (5 - (k + 1)) 0 := by
    rw [← List.replicate_succ]; congr 1; omega
  rw [e, List.set_cons_zero, List.append_assoc]
  rfl
theorem pick0_all (xs c : List Int) (h5 : c.length = 5) : pick0 xs c 5 = pickL xs c := by
  unfold pick0; rw [List.take_of_length_le (by rw [pickL_len]; omega)]; simp
theorem pick0_len (xs c : List Int) (k : Nat) (h5 : c.length = 5) (hk : k ≤ 5) : (pick0 xs c k).length = 5 := by
  unfold pick0; rw [List.length_append, List.length_take, pickL_len, List.length_replicate]; omega
/-- What chosenFrom leaves: a new block of five numbers. -/
def New5 (xs : List Int) (w : World) (e : Ending) (w' : World) : Prop := e = .returned (.slice (some ⟨w.heap.size, 0, none⟩) 5 5) ∧ Blk w' w.heap.size 2 (ints xs) ∧ Below w.heap.size w w'
end Go.Proofs.Ythgfohdjpfhebaa

/-! A range over a function whose iterator keeps memory of its own: the caller's walk, for loops that run to their end. -/
namespace Go.Proofs.Ythgfohdjpfhebaa
open Go.RowKit
set_option linter.unusedVariables false

variable {F : Fence} {n : Nat} {P : Program}

/-- How a body that never leaves ends. -/
def endsIn (R : World → Prop) : Exit → Act → World → Prop
  | .normal, _, W => R W
  | _, _, _ => False
theorem putObj_below {n0 : Nat} (W : World) (l : Nat) (o : Obj) (hl : n0 ≤ l) (hlt : l < W.heap.size) : Below n0 W (W.putObj l o) :=
  (Below.refl n0 W).grown (grownBy_putObj' W l o) (by omega) (fun k e => by cases e; exact hl)

/-- What an iterator owes: it calls yield once for each of its N choices, which lie in a block of its own. -/
def Iterates (F : Fence) (n : Nat) (P : Program) (gf : Nat) (lb : Array Value) (N : Nat) (args : Nat → Array Value) (C : Nat → Nat → World → Prop) (I : Nat → World → Prop) (w : World) : Prop :=
  ∀ (l : Nat) (J : Nat → World → Prop) (W : World), Below w.heap.size w W → (∀ i A B, J i A → Below W.heap.size A B → J i B) → (∀ i A, J i A → I i A) →
    (∀ i gb W1, i < N → J i W1 → C i gb W1 → W.heap.size ≤ gb → YieldAt F (n - 1) P l (args gb) W1 fun e W' => e = .returned (.bool true) ∧ J (i + 1) W' ∧ C i gb W' ∧ Below W.heap.size W1 W1) → J 0 W →
    CallsIn F n P gf (#[.func (.yield l) #[] #[]] ++ lb) W fun e W' => (∃ v, e = .returned v) ∧ J N W'

theorem wpIn_range_run {g : Operand} {ps : Array Tmp} {assign body : Code} {Q : Exit → Act → World → Prop} {a : Act} {w : World}
    (hro : F.round = none) (h1 : 1 ≤ n) {gf : Nat} {lb : Array Value} (hg : a.eval g = .func (.func gf) #[] lb) (hFg : F.fn gf) (eg : ∀ args w, (callFunc gf args).run P w = .ok (.enter gf args) w)
    {N : Nat} {args : Nat → Array Value} {C : Nat → Nat → World → Prop} {I : Nat → World → Prop} (hiter : Iterates F (n - 1) P gf lb N args C I w)
    (hps : ∀ gb, (args gb).size = ps.size)
    (hI : ∀ i A B, I i A → Below w.heap.size A B → I i B) (hC : ∀ i gb A B, C i gb A → B.heap[gb]? = A.heap[gb]? → C i gb B) (h0 : I 0 w) (a₁ : Nat → Act)
    (hassign : ∀ (l gb : Nat) (W : World) (K : Act → World → Prop), K (a₁ gb) W →
      assign.wpIn (F.inRound l) (n - 1 - 1) P (Exit.then K (fun _ _ _ => False)) { tmps := (ps.zip (args gb)).foldl (fun t (p, v) => t.setIfInBounds p v) a.tmps, defers := [] } W)
    (hbody : ∀ (l i gb : Nat) (W : World), i < N → I i W → C i gb W → w.heap.size + 1 < gb → gb < W.heap.size → body.wpIn (F.inRound l) (n - 1 - 1) P (endsIn fun W' => I (i + 1) W' ∧ C i gb W' ∧ KeepsOthers W W') (a₁ gb) W)
    (hdone : ∀ (D : Nat) (W : World), w.heap.size ≤ D → I N W → W.heap[D]? = some (.deferred (some [])) → Q .normal { a with defers := { target := .collected D, args := #[] } :: a.defers } W)
    (hClt : ∀ i gb W, C i gb W → gb < W.heap.size) :
    (Code.rangeFunc g ps assign body).wpIn F n P Q a w := by
  refine wpIn_rangeFunc ?_
  intro fn hfn
  rw [hro]
  obtain ⟨rec, hrec⟩ : ∃ rec : LoopState → Option Code → Loop, rec = fun st pe => { state := st, pending := pe, fn, tmps := a.tmps, params := ps, assign, body, defers := w.heap.size } := ⟨_, rfl⟩
  obtain ⟨W1, hW1⟩ : ∃ W1, (w.alloc (.deferred (some []))).alloc (.loop (rec .ready none)) = W1 := ⟨_, rfl⟩
  have hsz : W1.heap.size = w.heap.size + 1 + 1 := by rw [← hW1]; simp
  have hL1 : W1.heap[w.heap.size + 1]? = some (.loop (rec .ready none)) := by
    rw [← hW1]; have := World.alloc_heap_new (w.alloc (.deferred (some []))) (.loop (rec .ready none)); rwa [World.size_alloc] at this
  have hK1 : W1.heap[w.heap.size]? = some (.deferred (some [])) := by
    rw [← hW1]; exact (Below.heap_alloc _ _ _ (by simp)).trans (World.alloc_heap_new w _)
  have hb1 : Below w.heap.size w W1 := by
    rw [← hW1]; exact (((Below.refl _ w).alloc (Nat.le_refl _) _).alloc (by simp) _)
  refine ⟨w.heap.size + 1, [{ target := .collected w.heap.size, args := #[] }], W1, { target := .fn (.func gf) lb, args := #[.func (.yield (w.heap.size + 1)) #[] #[]] }, W1, gf,
    #[.func (.yield (w.heap.size + 1)) #[] #[]] ++ lb, W1, ?_, ?_, ?_, ?_, fun _ => h1, ?_⟩
  · rw [← hW1, hrec]; exact run_enterLoop_outer _ _ _ _ _
  · simp only [resolve, hg]
    simp [go_sem]
  · intro f' hf'; simp [Target.leads] at hf'; subst hf'; exact hFg
  · simp [invoke, go_sem, eg]
  · refine (hiter (w.heap.size + 1) (fun i W => I i W ∧ W.heap[w.heap.size + 1]? = some (.loop (rec .ready none)) ∧ W.heap[w.heap.size]? = some (.deferred (some []))) W1 hb1 ?_ (fun i A h => h.1) ?_ ⟨hI 0 w W1 h0 hb1, hL1, hK1⟩).mono ?_
    · rintro i A B ⟨hi, hl, hk⟩ hb
      exact ⟨hI i A B hi (hb.mono (by omega)), (hb.block (w.heap.size + 1) (by omega)).trans hl, (hb.block w.heap.size (by omega)).trans hk⟩
    · rintro i gb W hlt ⟨hi, hl, hk⟩ hc hgb
      have hllt : w.heap.size + 1 < W.heap.size := (Array.getElem?_eq_some_iff.1 hl).1
      have hy := run_yield (P := P) (args := args gb) hl (by rw [hrec]; exact hps gb)
      rw [hrec] at hy
      refine ⟨fn, _, assign, body, hy, roundIn_of_wpIn hfn (hassign _ gb W _ ⟨_, run_beginRound hl (by rw [hrec]), ?_⟩)⟩
      have hl2 : (W.putObj (w.heap.size + 1) (.loop { rec .ready none with state := .busy })).heap[w.heap.size + 1]? = some (.loop { rec .ready none with state := .busy }) := World.putObj_heap_same hllt
      have hk2 : (W.putObj (w.heap.size + 1) (.loop { rec .ready none with state := .busy })).heap[w.heap.size]? = some (.deferred (some [])) := (World.putObj_heap_other (by omega)).trans hk
      have hw2 := putObj_below (n0 := w.heap.size) W (w.heap.size + 1) (.loop { rec .ready none with state := .busy }) (by omega) hllt
      have hc2 := hC i gb _ (W.putObj (w.heap.size + 1) (.loop { rec .ready none with state := .busy })) hc (World.putObj_heap_other (by omega))
      refine wpIn_mono (hbody _ i gb _ hlt (hI i _ _ hi hw2) hc2 (by omega) (hClt _ _ _ hc2)) ?_
      rintro e a3 W3 hp
      cases e with
      | normal =>
        obtain ⟨hi3, hc3, hk3⟩ := hp
        have hl3 := hk3.same _ _ hl2 rfl
        have hlt3 : w.heap.size + 1 < W3.heap.size := (Array.getElem?_eq_some_iff.1 hl3).1
        have hend := run_endRound (P := P) none hl3
        refine ⟨_, _, hend, rfl, ⟨hI _ _ _ hi3 (putObj_below W3 _ _ (by omega) hlt3), ?_, (World.putObj_heap_other (by omega)).trans (hk3.same _ _ hk2 rfl)⟩, hC i gb _ _ hc3 (World.putObj_heap_other (by omega)), Below.refl _ _⟩
        rw [World.putObj_heap_same hlt3, hrec]
        rfl
      | ret => exact hp.elim
      | exit id => exact hp.elim
      | goto t => exact hp.elim
      | panic ch => exact hp.elim
      | outgrown => exact hp.elim
    · rintro e W2 ⟨⟨v, rfl⟩, hi, hl, hk⟩
      have hlt2 : w.heap.size + 1 < W2.heap.size := (Array.getElem?_eq_some_iff.1 hl).1
      exact ⟨none, _, by have := run_endLoop (P := P) hl (by rw [hrec]; simp); rw [hrec] at this; exact this, hdone _ _ (Nat.le_refl _) (hI _ _ _ hi (putObj_below W2 _ _ (by omega) hlt2)) ((World.putObj_heap_other (by omega)).trans hk)⟩
end Go.Proofs.Ythgfohdjpfhebaa

/-! The program's iterator over all choices of five indices. -/
namespace Go.Proofs.Ythgfohdjpfhebaa
open Go.RowKit
set_option linter.unusedVariables false
attribute [local go_sem] Oper.semAt_some

/-- The i-th choice lies in block gb. -/
def ChoiceAt (n i gb : Nat) (W : World) : Prop := Blk W gb 3 (ints ((idx n).getD i []))
/-- The first k indices, and zeros. -/
def fill5 (k : Nat) : List Int := (List.range k).map (fun i : Nat => (i : Int)) ++ List.replicate (5 - k) 0
theorem fill5_step : ∀ k : Fin 5, (fill5 k.val).set k.val (k.val : Int) = fill5 (k.val + 1) := by decide
theorem fill5_len : ∀ k : Fin 6, (fill5 k.val).length = 5 := by decide

/-- How many choices are left, read off a block. -/
def contentOf (W : World) (gb : Nat) : List Int := match W.heap[gb]? with
  | some (.cells cs _ _) => cs.toList.map (fun v => match v with | .int _ x => x | _ => 0)
  | _ => []
def leftOf (n gb : Nat) (W : World) : Nat := (idx n).length - (idx n).idxOf (contentOf W gb)
theorem leftOf_at {n i gb : Nat} {W : World} (h5 : 5 ≤ n) (h8 : n ≤ 8) (hi : i < (idx n).length) (h : ChoiceAt n i gb W) : leftOf n gb W = (idx n).length - i := by
  have hc : contentOf W gb = (idx n).getD i [] := by
    unfold ChoiceAt Blk at h
    unfold contentOf
    rw [h]
    simp only [ints, List.map_map]
    exact List.map_id' _
  unfold leftOf
  rw [hc, idx_nodup n h5 h8 i hi]
end Go.Proofs.Ythgfohdjpfhebaa

/-! The chosen lists, by their numbers. -/
namespace Go.Proofs.Ythgfohdjpfhebaa
open Go.RowKit
set_option linter.unusedVariables false

theorem getD_map {α β : Type} (f : α → β) (l : List α) (i : Nat) (a : α) (b : β) (h : i < l.length) : (l.map f).getD i b = f (l.getD i a) := by
  rw [List.getD_eq_getElem?_getD, List.getD_eq_getElem?_getD, List.getElem?_map, List.getElem?_eq_getElem h]; rfl
theorem ch_len (xs : List Int) : (ch 5 xs).length = (idx xs.length).length := by rw [ch_idx, List.length_map]
theorem ch_at (xs : List Int) (i : Nat) (h : i < (idx xs.length).length) : (ch 5 xs).getD i [] = pickL xs ((idx xs.length).getD i []) := by
  rw [ch_idx]
  exact getD_map _ _ i [] [] h
/-- The chosen lists are five cards. -/
theorem ch_cards (xs : List Int) (hb : cardsB xs = true) (i : Nat) (h : i < (ch 5 xs).length) : cardsB ((ch 5 xs).getD i []) = true ∧ ((ch 5 xs).getD i []).length = 5 := by
  have hm : (ch 5 xs).getD i [] ∈ ch 5 xs := by
    rw [List.getD_eq_getElem?_getD, List.getElem?_eq_getElem h]; exact List.getElem_mem h
  obtain ⟨hs, hl⟩ := ch_mem 5 xs _ hm
  have hc := (cards_iff xs).1 hb
  exact ⟨(cards_iff _).2 ⟨fun x hx => hc.1 x (hs.subset hx), hc.2.sublist hs⟩, hl⟩
theorem keeps_below {A B : World} (h : Below A.heap.size A B) : KeepsOthers A B := ⟨h.size, fun k o hk _ => (h.block k (Array.getElem?_eq_some_iff.1 hk).1).trans hk⟩
end Go.Proofs.Ythgfohdjpfhebaa
