/-
  A range over a method value: the receiver is handed over ahead of yield.
-/
import Derived.Test.YtimdgaclmejjhaaRangeC
import Derived.Test.YtimdgaclmejjhaaRangeX
namespace Go.Proofs.Ytimdgaclmejjhaa
open Go.RowKit
set_option linter.unusedVariables false

variable {F : Fence} {n : Nat} {P : Program}

def IterCF (F : Fence) (n : Nat) (P : Program) (gf : Nat) (fa lb : Array Value) (N : Nat) (Y : Nat → World → Array Value → Prop) (K : TypeId → Bool) (I : Nat → World → Prop) (w : World) : Prop :=
  ∀ (l : Nat) (J : Nat → World → Prop) (W : World), Below w.heap.size w W → (∀ i A B, J i A → ItW K W.heap.size A B → J i B) → (∀ i A, J i A → I i A) →
    (∀ i ar W1, i < N → J i W1 → Y i W1 ar → W.heap.size ≤ W1.heap.size → YieldAt F (n - 1) P l ar W1 fun e W' => e = .returned (.bool true) ∧ J (i + 1) W' ∧ Con K W1 W') → J 0 W →
    CallsIn F n P gf (fa ++ #[.func (.yield l) #[] #[]] ++ lb) W fun e W' => (∃ v, e = .returned v) ∧ J N W'
theorem wpIn_rangeCF {g : Operand} {ps : Array Tmp} {assign body : Code} {Q : Exit → Act → World → Prop} {a : Act} {w : World}
    (hro : F.round = none) (h1 : 1 ≤ n) {gf : Nat} {fa lb : Array Value} (hg : a.eval g = .func (.func gf) fa lb) (hFg : F.fn gf) (eg : ∀ args w, (callFunc gf args).run P w = .ok (.enter gf args) w)
    {N : Nat} {Y : Nat → World → Array Value → Prop} {K : TypeId → Bool} {I : Nat → World → Prop} (hiter : IterCF F (n - 1) P gf fa lb N Y K I w)
    (hps : ∀ i W ar, Y i W ar → ar.size = ps.size) (hY : ∀ i A B ar, Y i A ar → CellsAs A B → Y i B ar)
    (hI : ∀ i A B, I i A → ItW K w.heap.size A B → I i B) (h0 : I 0 w) (a₁ : Array Value → World → Act) (AW : Array Value → World → World) (hAW : ∀ ar W, Below W.heap.size W (AW ar W))
    (hassign : ∀ (l i : Nat) (ar : Array Value) (W : World) (Kc : Act → World → Prop), Y i W ar → Kc (a₁ ar W) (AW ar W) →
      assign.wpIn (F.inRound l) (n - 1 - 1) P (Exit.then Kc (fun _ _ _ => False)) { tmps := (ps.zip ar).foldl (fun t (p, v) => t.setIfInBounds p v) a.tmps, defers := [] } W)
    (hbody : ∀ (l i : Nat) (ar : Array Value) (W0 W : World), i < N → I i W → Y i W ar → w.heap.size ≤ l → (∃ r, W.heap[l]? = some (.loop r)) → w.heap.size ≤ W0.heap.size → CellsAs (AW ar W0) W → (AW ar W0).heap.size = W.heap.size → body.wpIn (F.inRound l) (n - 1 - 1) P (endsIn fun W' => I (i + 1) W' ∧ Con K W W') (a₁ ar W0) W)
    (hdone : ∀ (D : Nat) (W : World), w.heap.size ≤ D → I N W → W.heap[D]? = some (.deferred (some [])) → Q .normal { a with defers := { target := .collected D, args := #[] } :: a.defers } W) :
    (Code.rangeFunc g ps assign body).wpIn F n P Q a w := by
  refine wpIn_rangeFunc ?_
  intro fn hfn
  rw [hro]
  obtain ⟨rec, hrec⟩ : ∃ rec : LoopState → Option Code → Loop, rec = fun st pe => { state := st, pending := pe, fn, tmps := a.tmps, params := ps, assign, body, defers := w.heap.size } := ⟨_, rfl⟩
  obtain ⟨W1, hW1⟩ : ∃ W1, (w.alloc (.deferred (some []))).alloc (.loop (rec .ready none)) = W1 := ⟨_, rfl⟩
  have hsz : W1.heap.size = w.heap.size + 1 + 1 := by rw [← hW1]; simp
  have hL1 : W1.heap[w.heap.size + 1]? = some (.loop (rec .ready none)) := by
    rw [← hW1]; have := World.alloc_heap_new (w.alloc (.deferred (some []))) (.loop (rec .ready none)); rwa [World.size_alloc] at this
  have hK1 : W1.heap[w.heap.size]? = some (.deferred (some [])) := by
    rw [← hW1]; exact (Below.heap_alloc _ _ _ (by simp)).trans (World.alloc_heap_new w _)
  have hb1 : Below w.heap.size w W1 := by
    rw [← hW1]; exact (((Below.refl _ w).alloc (Nat.le_refl _) _).alloc (by simp) _)
  refine ⟨w.heap.size + 1, [{ target := .collected w.heap.size, args := #[] }], W1, { target := .fn (.func gf) lb, args := fa ++ #[.func (.yield (w.heap.size + 1)) #[] #[]] }, W1, gf,
    fa ++ #[.func (.yield (w.heap.size + 1)) #[] #[]] ++ lb, W1, ?_, ?_, ?_, ?_, fun _ => h1, ?_⟩
  · rw [← hW1, hrec]; exact run_enterLoop_outer _ _ _ _ _
  · simp only [resolve, hg]
    simp [go_sem]
  · intro f' hf'; simp [Target.leads] at hf'; subst hf'; exact hFg
  · simp [invoke, go_sem, eg]
  · refine (hiter (w.heap.size + 1) (fun i W => I i W ∧ W.heap[w.heap.size + 1]? = some (.loop (rec .ready none)) ∧ W.heap[w.heap.size]? = some (.deferred (some []))) W1 hb1 ?_ (fun i A h => h.1) ?_ ⟨hI 0 w W1 h0 (itw_below hb1 (Nat.le_refl _)), hL1, hK1⟩).mono ?_
    · rintro i A B ⟨hi, hl, hk⟩ hb
      exact ⟨hI i A B hi (hb.mono (by omega) (fun _ h => h)), (hb.1.block (w.heap.size + 1) (by omega)).trans hl, (hb.1.block w.heap.size (by omega)).trans hk⟩
    · rintro i ar W hlt ⟨hi, hl, hk⟩ hy hsW
      have hltl : w.heap.size + 1 < W.heap.size := (Array.getElem?_eq_some_iff.1 hl).1
      have hA := hAW ar W
      have hlA : (AW ar W).heap[w.heap.size + 1]? = some (.loop (rec .ready none)) := (hA.block _ hltl).trans hl
      have hltA : w.heap.size + 1 < (AW ar W).heap.size := (Array.getElem?_eq_some_iff.1 hlA).1
      have hca : CellsAs (AW ar W) ((AW ar W).putObj (w.heap.size + 1) (.loop (rec .busy none))) := cellsAs_put hlA rfl
      have hcw : CellsAs W ((AW ar W).putObj (w.heap.size + 1) (.loop (rec .busy none))) := fun k cs t fr h => hca k cs t fr (cellsAs_below hA k cs t fr h)
      have hib : I i ((AW ar W).putObj (w.heap.size + 1) (.loop (rec .busy none))) := hI i _ _ hi ((itw_below hA (by omega)).trans (itw_put hlA rfl (by omega)))
      refine round_of hrec hfn (hps i W ar hy) hl hA (fun Kc hKc => hassign _ i ar W Kc hy hKc)
        (hbody _ i ar W _ hlt hib (hY i W _ ar hy hcw) (by omega) ⟨_, World.putObj_heap_same hltA⟩ (by omega) hca (by simp)) _ ?_
      intro W' hi' hl' hk'
      have hk2 : ((AW ar W).putObj (w.heap.size + 1) (.loop (rec .busy none))).heap[w.heap.size]? = some (.deferred (some [])) := (World.putObj_heap_other (by omega)).trans ((hA.block _ (by omega)).trans hk)
      exact ⟨hI _ _ _ hi' (itw_put hl' rfl (by omega)), World.putObj_heap_same (Array.getElem?_eq_some_iff.1 hl').1, (World.putObj_heap_other (by omega)).trans (hk'.2 _ _ hk2 trivial)⟩
    · rintro e W2 ⟨⟨v, rfl⟩, hi, hl, hk⟩
      have hlt2 : w.heap.size + 1 < W2.heap.size := (Array.getElem?_eq_some_iff.1 hl).1
      exact ⟨none, _, by have := run_endLoop (P := P) hl (by rw [hrec]; simp); rw [hrec] at this; exact this, hdone _ _ (Nat.le_refl _) (hI _ _ _ hi (itw_put hl rfl (by omega))) ((World.putObj_heap_other (by omega)).trans hk)⟩

def IterXF (F : Fence) (n : Nat) (P : Program) (gf : Nat) (fa lb : Array Value) (M : Nat) (Y : Nat → World → Array Value → Prop) (K : TypeId → Bool) (I : Nat → World → Prop) (w : World) : Prop :=
  ∀ (l : Nat) (J : Nat → World → Prop) (W : World), Below w.heap.size w W → l < W.heap.size → (∀ i A B, J i A → ItW K W.heap.size A B → J i B) → (∀ i A, J i A → I i A) →
    (∀ i ar W1, i ≤ M → J i W1 → Y i W1 ar → W.heap.size ≤ W1.heap.size → YieldAt F (n - 1) P l ar W1 fun e W' => e = .returned (.bool (decide (i < M))) ∧ J (i + 1) W' ∧ (i < M → Con K W1 W') ∧ ConX K (l + 1) W1 W') → J 0 W →
    CallsIn F n P gf (fa ++ #[.func (.yield l) #[] #[]] ++ lb) W fun e W' => (∃ v, e = .returned v) ∧ J (M + 1) W'
theorem wpIn_rangeXF {g : Operand} {ps : Array Tmp} {assign body : Code} {Q : Exit → Act → World → Prop} {a : Act} {w : World}
    (hro : F.round = none) (h1 : 1 ≤ n) {gf : Nat} {fa lb : Array Value} (hg : a.eval g = .func (.func gf) fa lb) (hFg : F.fn gf) (eg : ∀ args w, (callFunc gf args).run P w = .ok (.enter gf args) w)
    {M : Nat} {e0 : Exit} {j : Code} (hj : JumpOk e0 j) {Y : Nat → World → Array Value → Prop} {K : TypeId → Bool} {I : Nat → World → Prop} (hiter : IterXF F (n - 1) P gf fa lb M Y K I w)
    (hps : ∀ i W ar, Y i W ar → ar.size = ps.size) (hY : ∀ i A B ar, Y i A ar → CellsAs A B → Y i B ar)
    (hI : ∀ i A B, I i A → ItW K w.heap.size A B → I i B) (h0 : I 0 w) (a₁ : Array Value → World → Act) (RA : Array Value → World → World → Prop) (hAW : ∀ i ar W W', i ≤ M → w.heap.size ≤ W.heap.size → I i W → Y i W ar → RA ar W W' → Con K W W' ∧ I i W' ∧ Y i W' ar)
    (hassign : ∀ (l i : Nat) (ar : Array Value) (W : World) (Kc : Act → World → Prop), w.heap.size ≤ W.heap.size → I i W → Y i W ar → (∀ W', RA ar W W' → Kc (a₁ ar W) W') →
      assign.wpIn (F.inRound l) (n - 1 - 1) P (Exit.then Kc (fun _ _ _ => False)) { tmps := (ps.zip ar).foldl (fun t (p, v) => t.setIfInBounds p v) a.tmps, defers := [] } W)
    (hbody : ∀ (l i : Nat) (ar : Array Value) (W0 W1 W : World), RA ar W0 W1 → i < M → I i W → Y i W ar → w.heap.size ≤ l → (∃ r, W.heap[l]? = some (.loop r)) → w.heap.size ≤ W0.heap.size → CellsAs W1 W → W1.heap.size = W.heap.size → body.wpIn (F.inRound l) (n - 1 - 1) P (endsIn fun W' => I (i + 1) W' ∧ Con K W W') (a₁ ar W0) W)
    (hlast : ∀ (l : Nat) (ar : Array Value) (W0 W1 W : World), RA ar W0 W1 → I M W → Y M W ar → w.heap.size ≤ l → (∃ r, W.heap[l]? = some (.loop r)) → w.heap.size ≤ W0.heap.size → CellsAs W1 W → W1.heap.size = W.heap.size → body.wpIn (F.inRound l) (n - 1 - 1) P (endsX e0 fun W' => I (M + 1) W' ∧ ConX K w.heap.size W W') (a₁ ar W0) W)
    (hdone : ∀ (D : Nat) (W : World), w.heap.size ≤ D → I (M + 1) W → W.heap[D]? = some (.deferred (some [])) → j.wpIn F n P Q { a with defers := { target := .collected D, args := #[] } :: a.defers } W) :
    (Code.rangeFunc g ps assign body).wpIn F n P Q a w := by
  refine wpIn_rangeFunc ?_
  intro fn hfn
  rw [hro]
  obtain ⟨rec, hrec⟩ : ∃ rec : LoopState → Option Code → Loop, rec = fun st pe => { state := st, pending := pe, fn, tmps := a.tmps, params := ps, assign, body, defers := w.heap.size } := ⟨_, rfl⟩
  obtain ⟨W1, hW1⟩ : ∃ W1, (w.alloc (.deferred (some []))).alloc (.loop (rec .ready none)) = W1 := ⟨_, rfl⟩
  have hsz : W1.heap.size = w.heap.size + 1 + 1 := by rw [← hW1]; simp
  have hL1 : W1.heap[w.heap.size + 1]? = some (.loop (rec .ready none)) := by
    rw [← hW1]; have := World.alloc_heap_new (w.alloc (.deferred (some []))) (.loop (rec .ready none)); rwa [World.size_alloc] at this
  have hK1 : W1.heap[w.heap.size]? = some (.deferred (some [])) := by
    rw [← hW1]; exact (Below.heap_alloc _ _ _ (by simp)).trans (World.alloc_heap_new w _)
  have hb1 : Below w.heap.size w W1 := by
    rw [← hW1]; exact (((Below.refl _ w).alloc (Nat.le_refl _) _).alloc (by simp) _)
  refine ⟨w.heap.size + 1, [{ target := .collected w.heap.size, args := #[] }], W1, { target := .fn (.func gf) lb, args := fa ++ #[.func (.yield (w.heap.size + 1)) #[] #[]] }, W1, gf,
    fa ++ #[.func (.yield (w.heap.size + 1)) #[] #[]] ++ lb, W1, ?_, ?_, ?_, ?_, fun _ => h1, ?_⟩
  · rw [← hW1, hrec]; exact run_enterLoop_outer _ _ _ _ _
  · simp only [resolve, hg]
    simp [go_sem]
  · intro f' hf'; simp [Target.leads] at hf'; subst hf'; exact hFg
  · simp [invoke, go_sem, eg]
  · refine (hiter (w.heap.size + 1) (fun i W => I i W ∧ W.heap[w.heap.size + 1]? = some (.loop (if i ≤ M then rec .ready none else rec .done (some j))) ∧ W.heap[w.heap.size]? = some (.deferred (some []))) W1 hb1 (by rw [hsz]; omega) ?_ (fun i A h => h.1) ?_ ⟨hI 0 w W1 h0 (itw_below hb1 (Nat.le_refl _)), by rw [if_pos (Nat.zero_le _)]; exact hL1, hK1⟩).mono ?_
    · rintro i A B ⟨hi, hl, hk⟩ hb
      exact ⟨hI i A B hi (hb.mono (by omega) (fun _ h => h)), (hb.1.block (w.heap.size + 1) (by omega)).trans hl, (hb.1.block w.heap.size (by omega)).trans hk⟩
    · rintro i ar W hlt ⟨hi, hl, hk⟩ hy hsW
      rw [if_pos hlt] at hl
      have hltl : w.heap.size + 1 < W.heap.size := (Array.getElem?_eq_some_iff.1 hl).1
      have hAA : ∀ AW, RA ar W AW → ∃ hltA : (w.heap.size + 1) < AW.heap.size, Con K W AW ∧ CellsAs AW (AW.putObj (w.heap.size + 1) (.loop (rec .busy none))) ∧ I i (AW.putObj (w.heap.size + 1) (.loop (rec .busy none))) ∧ Y i (AW.putObj (w.heap.size + 1) (.loop (rec .busy none))) ar ∧ (AW.putObj (w.heap.size + 1) (.loop (rec .busy none))).heap[w.heap.size]? = some (.deferred (some [])) := fun AW hRA => by
        obtain ⟨hA, hIA, hYA⟩ := hAW i ar W AW hlt (by omega) hi hy hRA
        have hA1 := hA.1
        have hlA : AW.heap[w.heap.size + 1]? = some (.loop (rec .ready none)) := hA.2 _ _ hl trivial
        have hltA : (w.heap.size + 1) < AW.heap.size := (Array.getElem?_eq_some_iff.1 hlA).1
        have hca : CellsAs AW (AW.putObj (w.heap.size + 1) (.loop (rec .busy none))) := cellsAs_put hlA rfl
        exact ⟨hltA, hA, hca, hI i _ _ hIA (itw_put hlA rfl (by omega)), hY i _ _ ar hYA hca, (World.putObj_heap_other (by omega)).trans (hA.2 _ _ hk trivial)⟩
      by_cases hiM : i < M
      · refine yieldAt_mono (round_ofC hrec hfn (hps i W ar hy) hl (RA := RA ar W) (fun AW h => (hAA AW h).2.1) (fun Kc hKc => hassign _ i ar W Kc (by omega) hi hy hKc)
          (fun AW h => by
            obtain ⟨hltA, hA, hca, hib, hyb, _⟩ := hAA AW h
            exact hbody _ i ar W AW _ h hiM hib hyb (by omega) ⟨_, World.putObj_heap_same hltA⟩ (by omega) hca (by simp)) (fun W' => I (i + 1) W' ∧ W'.heap[w.heap.size + 1]? = some (.loop (if i + 1 ≤ M then rec .ready none else rec .done (some j))) ∧ W'.heap[w.heap.size]? = some (.deferred (some []))) ?_) ?_
        · intro AW W' h hi' hl' hk'
          obtain ⟨_, _, _, _, _, hk2⟩ := hAA AW h
          rw [if_pos (by omega : i + 1 ≤ M)]
          exact ⟨hI _ _ _ hi' (itw_put hl' rfl (by omega)), World.putObj_heap_same (Array.getElem?_eq_some_iff.1 hl').1, (World.putObj_heap_other (by omega)).trans (hk'.2 _ _ hk2 trivial)⟩
        · rintro e W' ⟨he, hr, hc⟩
          exact ⟨by rw [he, decide_eq_true hiM], hr, fun _ => hc, hc.x _⟩
      · obtain rfl : i = M := by omega
        refine yieldAt_mono (round_last (n0 := w.heap.size) hj hrec hfn (hps i W ar hy) hl (RA := RA ar W) (fun AW h => (hAA AW h).2.1) (by omega) (fun Kc hKc => hassign _ i ar W Kc (by omega) hi hy hKc)
          (fun AW h => by
            obtain ⟨hltA, hA, hca, hib, hyb, _⟩ := hAA AW h
            exact hlast _ ar W AW _ h hib hyb (by omega) ⟨_, World.putObj_heap_same hltA⟩ (by omega) hca (by simp)) (fun W' => I (i + 1) W' ∧ W'.heap[w.heap.size + 1]? = some (.loop (if i + 1 ≤ i then rec .ready none else rec .done (some j))) ∧ W'.heap[w.heap.size]? = some (.deferred (some []))) ?_) ?_
        · intro AW W' h hi' hl' hk'
          obtain ⟨_, _, _, _, _, hk2⟩ := hAA AW h
          rw [if_neg (by omega : ¬ i + 1 ≤ i)]
          exact ⟨hI _ _ _ hi' (itw_put hl' rfl (by omega)), World.putObj_heap_same (Array.getElem?_eq_some_iff.1 hl').1, (World.putObj_heap_other (by omega)).trans (hk'.2 _ _ hk2 trivial (.inr (fun r e => by cases e)))⟩
        · rintro e W' ⟨he, hr, hc⟩
          exact ⟨by rw [he, decide_eq_false (by omega)], hr, fun h => absurd h (by omega), hc⟩
    · rintro e W2 ⟨⟨v, rfl⟩, hi, hl, hk⟩
      rw [if_neg (by omega : ¬ M + 1 ≤ M)] at hl
      have hlt2 : w.heap.size + 1 < W2.heap.size := (Array.getElem?_eq_some_iff.1 hl).1
      exact ⟨some j, _, by have := run_endLoop (P := P) hl (by rw [hrec]; simp); rw [hrec] at this; exact this, hdone _ _ (Nat.le_refl _) (hI _ _ _ hi (itw_put hl rfl (by omega))) ((World.putObj_heap_other (by omega)).trans hk)⟩
end Go.Proofs.Ytimdgaclmejjhaa
