/-
  A range over a function whose iterator writes into one block of its own: what the rounds make stays.
-/
import Derived.Test.YtlpkaflmhdgmmaaGreatDoorIter
namespace Go.Proofs.YtlpkaflmhdgmmaaGreatDoor
open Go.RowKit
set_option linter.unusedVariables false

variable {F : Fence} {n : Nat} {P : Program}

theorem grown_of_below {A B : World} (hb : Below A.heap.size A B) (r : Option Nat) : A.grownBy B r := ⟨hb.os, hb.tape, hb.output, hb.size, fun k hk _ => hb.block k hk⟩
/-- What an iterator owes: it calls yield once for each of its N choices, which lie in a block of its own. -/
def IteratesK (F : Fence) (n : Nat) (P : Program) (gf : Nat) (lb : Array Value) (N : Nat) (args : Nat → Array Value) (C : Nat → Nat → World → Prop) (I : Nat → World → Prop) (w : World) : Prop :=
  ∀ (l : Nat) (J : Nat → World → Prop) (W : World), Below w.heap.size w W → (∀ i A B, J i A → A.grownBy B (some W.heap.size) → J i B) → (∀ i A, J i A → I i A) →
    (∀ i gb W1, i < N → J i W1 → C i gb W1 → gb = W.heap.size → YieldAt F (n - 1) P l (args gb) W1 fun e W' => e = .returned (.bool true) ∧ J (i + 1) W' ∧ C i gb W' ∧ Below W.heap.size W1 W1) → J 0 W →
    CallsIn F n P gf (#[.func (.yield l) #[] #[]] ++ lb) W fun e W' => (∃ v, e = .returned v) ∧ J N W'

theorem wpIn_range_runK {g : Operand} {ps : Array Tmp} {assign body : Code} {Q : Exit → Act → World → Prop} {a : Act} {w : World}
    (hro : F.round = none) (h1 : 1 ≤ n) {gf : Nat} {lb : Array Value} (hg : a.eval g = .func (.func gf) #[] lb) (hFg : F.fn gf) (eg : ∀ args w, (callFunc gf args).run P w = .ok (.enter gf args) w)
    {N : Nat} {args : Nat → Array Value} {C : Nat → Nat → World → Prop} {I : Nat → World → Prop} (hiter : IteratesK F (n - 1) P gf lb N args C I w)
    (hps : ∀ gb, (args gb).size = ps.size)
    (hI : ∀ i A B k, I i A → w.heap.size ≤ k → k ≤ w.heap.size + 1 + 1 → A.grownBy B (some k) → I i B) (hC : ∀ i gb A B, C i gb A → B.heap[gb]? = A.heap[gb]? → C i gb B) (h0 : I 0 w) (a₁ : Nat → Act)
    (hassign : ∀ (l gb : Nat) (W : World) (K : Act → World → Prop), K (a₁ gb) W →
      assign.wpIn (F.inRound l) (n - 1 - 1) P (Exit.then K (fun _ _ _ => False)) { tmps := (ps.zip (args gb)).foldl (fun t (p, v) => t.setIfInBounds p v) a.tmps, defers := [] } W)
    (hbody : ∀ (l i gb : Nat) (W : World), i < N → I i W → C i gb W → gb = w.heap.size + 1 + 1 → gb < W.heap.size → body.wpIn (F.inRound l) (n - 1 - 1) P (endsIn fun W' => I (i + 1) W' ∧ C i gb W' ∧ KeepsOthers W W') (a₁ gb) W)
    (hdone : ∀ (D : Nat) (W : World), w.heap.size ≤ D → I N W → W.heap[D]? = some (.deferred (some [])) → Q .normal { a with defers := { target := .collected D, args := #[] } :: a.defers } W)
    (hClt : ∀ i gb W, C i gb W → gb < W.heap.size) :
    (Code.rangeFunc g ps assign body).wpIn F n P Q a w := by
  refine wpIn_rangeFunc ?_
  intro fn hfn
  rw [hro]
  obtain ⟨rec, hrec⟩ : ∃ rec : LoopState → Option Code → Loop, rec = fun st pe => { state := st, pending := pe, fn, tmps := a.tmps, params := ps, assign, body, defers := w.heap.size } := ⟨_, rfl⟩
  obtain ⟨W1, hW1⟩ : ∃ W1, (w.alloc (.deferred (some []))).alloc (.loop (rec .ready none)) = W1 := ⟨_, rfl⟩
  have hsz : W1.heap.size = w.heap.size + 1 + 1 := by rw [← hW1]; simp
  have hL1 : W1.heap[w.heap.size + 1]? = some (.loop (rec .ready none)) := by
    rw [← hW1]; have := World.alloc_heap_new (w.alloc (.deferred (some []))) (.loop (rec .ready none)); rwa [World.size_alloc] at this
  have hK1 : W1.heap[w.heap.size]? = some (.deferred (some [])) := by
    rw [← hW1]; exact (Below.heap_alloc _ _ _ (by simp)).trans (World.alloc_heap_new w _)
  have hb1 : Below w.heap.size w W1 := by
    rw [← hW1]; exact (((Below.refl _ w).alloc (Nat.le_refl _) _).alloc (by simp) _)
  refine ⟨w.heap.size + 1, [{ target := .collected w.heap.size, args := #[] }], W1, { target := .fn (.func gf) lb, args := #[.func (.yield (w.heap.size + 1)) #[] #[]] }, W1, gf,
    #[.func (.yield (w.heap.size + 1)) #[] #[]] ++ lb, W1, ?_, ?_, ?_, ?_, fun _ => h1, ?_⟩
  · rw [← hW1, hrec]; exact run_enterLoop_outer _ _ _ _ _
  · simp only [resolve, hg]
    simp [go_sem]
  · intro f' hf'; simp [Target.leads] at hf'; subst hf'; exact hFg
  · simp [invoke, go_sem, eg]
  · refine (hiter (w.heap.size + 1) (fun i W => I i W ∧ W.heap[w.heap.size + 1]? = some (.loop (rec .ready none)) ∧ W.heap[w.heap.size]? = some (.deferred (some []))) W1 hb1 ?_ (fun i A h => h.1) ?_ ⟨hI 0 w W1 w.heap.size h0 (Nat.le_refl _) (by omega) (grown_of_below hb1 _), hL1, hK1⟩).mono ?_
    · rintro i A B ⟨hi, hl, hk⟩ hb
      exact ⟨hI i A B W1.heap.size hi (by omega) (by omega) hb, (hb.block (w.heap.size + 1) (Array.getElem?_eq_some_iff.1 hl).1 (fun e => by have := Option.some.inj e; omega)).trans hl, (hb.block w.heap.size (Array.getElem?_eq_some_iff.1 hk).1 (fun e => by have := Option.some.inj e; omega)).trans hk⟩
    · rintro i gb W hlt ⟨hi, hl, hk⟩ hc hgb
      have hllt : w.heap.size + 1 < W.heap.size := (Array.getElem?_eq_some_iff.1 hl).1
      have hy := run_yield (P := P) (args := args gb) hl (by rw [hrec]; exact hps gb)
      rw [hrec] at hy
      refine ⟨fn, _, assign, body, hy, roundIn_of_wpIn hfn (hassign _ gb W _ ⟨_, run_beginRound hl (by rw [hrec]), ?_⟩)⟩
      have hl2 : (W.putObj (w.heap.size + 1) (.loop { rec .ready none with state := .busy })).heap[w.heap.size + 1]? = some (.loop { rec .ready none with state := .busy }) := World.putObj_heap_same hllt
      have hk2 : (W.putObj (w.heap.size + 1) (.loop { rec .ready none with state := .busy })).heap[w.heap.size]? = some (.deferred (some [])) := (World.putObj_heap_other (by omega)).trans hk
      have hw2 := grownBy_putObj' W (w.heap.size + 1) (.loop { rec .ready none with state := .busy })
      have hc2 := hC i gb _ (W.putObj (w.heap.size + 1) (.loop { rec .ready none with state := .busy })) hc (World.putObj_heap_other (by omega))
      refine wpIn_mono (hbody _ i gb _ hlt (hI i _ _ (w.heap.size + 1) hi (by omega) (by omega) hw2) hc2 (by omega) (hClt _ _ _ hc2)) ?_
      rintro e a3 W3 hp
      cases e with
      | normal =>
        obtain ⟨hi3, hc3, hk3⟩ := hp
        have hl3 := hk3.same _ _ hl2 rfl
        have hlt3 : w.heap.size + 1 < W3.heap.size := (Array.getElem?_eq_some_iff.1 hl3).1
        have hend := run_endRound (P := P) none hl3
        refine ⟨_, _, hend, rfl, ⟨hI _ _ _ (w.heap.size + 1) hi3 (by omega) (by omega) (grownBy_putObj' W3 _ _), ?_, (World.putObj_heap_other (by omega)).trans (hk3.same _ _ hk2 rfl)⟩, hC i gb _ _ hc3 (World.putObj_heap_other (by omega)), Below.refl _ _⟩
        rw [World.putObj_heap_same hlt3, hrec]
        rfl
      | ret => exact hp.elim
      | exit id => exact hp.elim
      | goto t => exact hp.elim
      | panic ch => exact hp.elim
      | outgrown => exact hp.elim
    · rintro e W2 ⟨⟨v, rfl⟩, hi, hl, hk⟩
      have hlt2 : w.heap.size + 1 < W2.heap.size := (Array.getElem?_eq_some_iff.1 hl).1
      exact ⟨none, _, by have := run_endLoop (P := P) hl (by rw [hrec]; simp); rw [hrec] at this; exact this, hdone _ _ (Nat.le_refl _) (hI _ _ _ (w.heap.size + 1) hi (by omega) (by omega) (grownBy_putObj' W2 _ _)) ((World.putObj_heap_other (by omega)).trans hk)⟩
end Go.Proofs.YtlpkaflmhdgmmaaGreatDoor
