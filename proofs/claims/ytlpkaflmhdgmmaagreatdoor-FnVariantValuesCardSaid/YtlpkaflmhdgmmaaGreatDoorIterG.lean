/-
  Put together: RangeX, IterX, HandsX
-/
import Derived.Test.YtlpkaflmhdgmmaaGreatDoorRangeC
import Derived.Test.YtlpkaflmhdgmmaaGreatDoorIterC
import Derived.Test.YtlpkaflmhdgmmaaGreatDoorHandsIter

/-! A range over a function that is left in its M-th round, by a return or by a break: the iterator's debt, and the caller's walk, outside of a round and within one. -/
namespace Go.Proofs.YtlpkaflmhdgmmaaGreatDoor
open Go.RowKit
set_option linter.unusedVariables false

variable {F : Fence} {n : Nat} {P : Program}

/-- How a round that leaves the loop ends, and the jump that it leaves behind. -/
def JumpOk (e0 : Exit) (j : Code) : Prop := (e0 = .ret ∧ j = .ret) ∨ ∃ id, e0 = .exit id ∧ j = .exit id
/-- A body that ends in one way only. -/
def endsX (e0 : Exit) (R : World → Prop) : Exit → Act → World → Prop := fun e _ W => e = e0 ∧ R W
/-- As Con, but for the records of loops below b. -/
def ConX (K : TypeId → Bool) (b : Nat) (A B : World) : Prop := A.heap.size ≤ B.heap.size ∧ ∀ (k : Nat) (o : Obj), A.heap[k]? = some o → keptBy K o → (b ≤ k ∨ ∀ r, o ≠ .loop r) → B.heap[k]? = some o
theorem Con.x {K : TypeId → Bool} {A B : World} (h : Con K A B) (b : Nat) : ConX K b A B := ⟨h.1, fun k o hk ho _ => h.2 k o hk ho⟩
theorem ConX.trans {K : TypeId → Bool} {b : Nat} {A B C : World} (h : ConX K b A B) (k : ConX K b B C) : ConX K b A C := ⟨Nat.le_trans h.1 k.1, fun i o hi ho hl => k.2 i o (h.2 i o hi ho hl) ho hl⟩
theorem ConX.mono {K K' : TypeId → Bool} {b b' : Nat} {A B : World} (h : ConX K' b A B) (hK : ∀ t, K t = true → K' t = true) (hb : b ≤ b') : ConX K b' A B := ⟨h.1, fun i o hi ho hl => h.2 i o hi (by cases o <;> first | exact hK _ ho | trivial) (hl.imp (fun q => Nat.le_trans hb q) id)⟩
theorem conX_blk {K : TypeId → Bool} {b : Nat} {A B : World} {g : Nat} {t : TypeId} {vs : List Value} (h : ConX K b A B) (hb : Blk A g t vs) (hK : K t = true) : Blk B g t vs := h.2 g _ hb hK (.inr (fun r e => by cases e))
theorem conX_mark {K : TypeId → Bool} {b : Nat} {A B : World} {g : Nat} (h : ConX K b A B) (hb : A.heap[g]? = some (Obj.deferred (some []))) : B.heap[g]? = some (Obj.deferred (some [])) := h.2 g _ hb trivial (.inr (fun r e => by cases e))
/-- What an iterator owes: it calls yield for the values 0 to M, and returns when yield has answered false at M. -/
def IterX (F : Fence) (n : Nat) (P : Program) (gf : Nat) (lb : Array Value) (M : Nat) (Y : Nat → World → Array Value → Prop) (K : TypeId → Bool) (I : Nat → World → Prop) (w : World) : Prop :=
  ∀ (l : Nat) (J : Nat → World → Prop) (W : World), Below w.heap.size w W → l < W.heap.size → (∀ i A B, J i A → ItW K W.heap.size A B → J i B) → (∀ i A, J i A → I i A) →
    (∀ i ar W1, i ≤ M → J i W1 → Y i W1 ar → W.heap.size ≤ W1.heap.size → YieldAt F (n - 1) P l ar W1 fun e W' => e = .returned (.bool (decide (i < M))) ∧ J (i + 1) W' ∧ (i < M → Con K W1 W') ∧ ConX K (l + 1) W1 W') → J 0 W →
    CallsIn F n P gf (#[.func (.yield l) #[] #[]] ++ lb) W fun e W' => (∃ v, e = .returned v) ∧ J (M + 1) W'
theorem IterX.inRound {gf : Nat} {lb : Array Value} {M : Nat} {Y : Nat → World → Array Value → Prop} {K : TypeId → Bool} {I : Nat → World → Prop} {w : World} (l : Nat) (h : IterX F n P gf lb M Y K I w) : IterX (F.inRound l) n P gf lb M Y K I w := h

theorem yieldAt_mono {l : Nat} {ar : Array Value} {W : World} {m : Nat} {R R' : Ending → World → Prop} (h : YieldAt F m P l ar W R) (hr : ∀ e W', R e W' → R' e W') : YieldAt F m P l ar W R' := by
  obtain ⟨fn, tmps, assign, body, hy, hR⟩ := h
  exact ⟨fn, tmps, assign, body, hy, hR.mono hr⟩
/-- One round that goes on, where the assignment may write. -/
theorem round_ofC {l : Nat} {rec : LoopState → Option Code → Loop} {tmps0 : Array Value} {fn : FuncId} {ps : Array Tmp} {assign body : Code} {K : TypeId → Bool} {i : Nat} {ar : Array Value} {W : World} {RA : World → Prop} {a₁ : Act} {I : Nat → World → Prop} {D : Nat} {m : Nat}
    (hrec : rec = fun st pe => { state := st, pending := pe, fn := fn, tmps := tmps0, params := ps, assign := assign, body := body, defers := D }) (hfn : F.fn fn) (hps : ar.size = ps.size)
    (hl : W.heap[l]? = some (.loop (rec .ready none))) (hAR : ∀ AW, RA AW → Con K W AW)
    (hassign : ∀ Kc : Act → World → Prop, (∀ AW, RA AW → Kc a₁ AW) → assign.wpIn (F.inRound l) m P (Exit.then Kc (fun _ _ _ => False)) { tmps := (ps.zip ar).foldl (fun t (p, v) => t.setIfInBounds p v) tmps0, defers := [] } W)
    (hbody : ∀ AW, RA AW → body.wpIn (F.inRound l) m P (endsIn fun W' => I (i + 1) W' ∧ Con K (AW.putObj l (.loop (rec .busy none))) W') a₁ (AW.putObj l (.loop (rec .busy none))))
    (R : World → Prop) (hR : ∀ AW W', RA AW → I (i + 1) W' → W'.heap[l]? = some (.loop (rec .busy none)) → Con K (AW.putObj l (.loop (rec .busy none))) W' → R (W'.putObj l (.loop (rec .ready none)))) :
    YieldAt F m P l ar W fun e W' => e = .returned (.bool true) ∧ R W' ∧ Con K W W' := by
  have hlt : l < W.heap.size := (Array.getElem?_eq_some_iff.1 hl).1
  have hy := run_yield (P := P) (args := ar) hl (by rw [hrec]; exact hps)
  rw [hrec] at hy
  refine ⟨fn, _, assign, body, hy, roundIn_of_wpIn hfn (hassign _ fun AW hRA => ?_)⟩
  have hA := hAR AW hRA
  have hlA : AW.heap[l]? = some (.loop (rec .ready none)) := hA.2 l _ hl trivial
  have hltA : l < AW.heap.size := (Array.getElem?_eq_some_iff.1 hlA).1
  refine ⟨_, run_beginRound hlA (by rw [hrec]), ?_⟩
  have hl2 : (AW.putObj l (.loop (rec .busy none))).heap[l]? = some (.loop (rec .busy none)) := World.putObj_heap_same hltA
  have e2 : ({ rec .ready none with state := .busy } : Loop) = rec .busy none := by rw [hrec]
  rw [e2]
  refine wpIn_mono (hbody AW hRA) ?_
  rintro e a3 W3 hp
  cases e with
  | normal =>
    obtain ⟨hi3, hk3⟩ := hp
    have hl3 := hk3.2 l _ hl2 trivial
    have hlt3 : l < W3.heap.size := (Array.getElem?_eq_some_iff.1 hl3).1
    have hend := run_endRound (P := P) none hl3
    have e3 : ({ rec .busy none with state := if (none : Option Code).isNone then .ready else .done, pending := none } : Loop) = rec .ready none := by rw [hrec]; rfl
    rw [e3] at hend
    refine ⟨_, _, hend, rfl, hR AW W3 hRA hi3 hl3 hk3, ?_, ?_⟩
    · have h1 := hA.1
      have h2 := hk3.1
      have h4 := (grownBy_putObj' AW l (.loop (rec .busy none))).size
      have h5 := (grownBy_putObj' W3 l (.loop (rec .ready none))).size
      omega
    · intro k o hk ho
      by_cases e : k = l
      · subst e
        rw [hl] at hk
        cases hk
        exact World.putObj_heap_same hlt3
      · have k1 := hA.2 k o hk ho
        have k2 : (AW.putObj l (.loop (rec .busy none))).heap[k]? = some o := (World.putObj_heap_other e).trans k1
        exact (World.putObj_heap_other e).trans (hk3.2 k o k2 ho)
  | ret => exact hp.elim
  | exit id => exact hp.elim
  | goto t => exact hp.elim
  | panic ch => exact hp.elim
  | outgrown => exact hp.elim

/-- The last round, as the iterator sees it. -/
theorem round_last {l : Nat} {rec : LoopState → Option Code → Loop} {tmps0 : Array Value} {fn : FuncId} {ps : Array Tmp} {assign body : Code} {K : TypeId → Bool} {i : Nat} {ar : Array Value} {W : World} {RA : World → Prop} {a₁ : Act} {I : Nat → World → Prop} {D : Nat} {m n0 : Nat} {e0 : Exit} {j : Code} (hj : JumpOk e0 j)
    (hrec : rec = fun st pe => { state := st, pending := pe, fn := fn, tmps := tmps0, params := ps, assign := assign, body := body, defers := D }) (hfn : F.fn fn) (hps : ar.size = ps.size)
    (hl : W.heap[l]? = some (.loop (rec .ready none))) (hAR : ∀ AW, RA AW → Con K W AW) (hn0 : n0 ≤ l)
    (hassign : ∀ Kc : Act → World → Prop, (∀ AW, RA AW → Kc a₁ AW) → assign.wpIn (F.inRound l) m P (Exit.then Kc (fun _ _ _ => False)) { tmps := (ps.zip ar).foldl (fun t (p, v) => t.setIfInBounds p v) tmps0, defers := [] } W)
    (hbody : ∀ AW, RA AW → body.wpIn (F.inRound l) m P (endsX e0 fun W' => I (i + 1) W' ∧ ConX K n0 (AW.putObj l (.loop (rec .busy none))) W') a₁ (AW.putObj l (.loop (rec .busy none))))
    (R : World → Prop) (hR : ∀ AW W', RA AW → I (i + 1) W' → W'.heap[l]? = some (.loop (rec .busy none)) → ConX K n0 (AW.putObj l (.loop (rec .busy none))) W' → R (W'.putObj l (.loop (rec .done (some j))))) :
    YieldAt F m P l ar W fun e W' => e = .returned (.bool false) ∧ R W' ∧ ConX K (l + 1) W W' := by
  have hlt : l < W.heap.size := (Array.getElem?_eq_some_iff.1 hl).1
  have hy := run_yield (P := P) (args := ar) hl (by rw [hrec]; exact hps)
  rw [hrec] at hy
  refine ⟨fn, _, assign, body, hy, roundIn_of_wpIn hfn (hassign _ fun AW hRA => ?_)⟩
  have hA := hAR AW hRA
  have hlA : AW.heap[l]? = some (.loop (rec .ready none)) := hA.2 l _ hl trivial
  have hltA : l < AW.heap.size := (Array.getElem?_eq_some_iff.1 hlA).1
  refine ⟨_, run_beginRound hlA (by rw [hrec]), ?_⟩
  have hl2 : (AW.putObj l (.loop (rec .busy none))).heap[l]? = some (.loop (rec .busy none)) := World.putObj_heap_same hltA
  have e2 : ({ rec .ready none with state := .busy } : Loop) = rec .busy none := by rw [hrec]
  rw [e2]
  refine wpIn_mono (hbody AW hRA) ?_
  rintro e a3 W3 ⟨rfl, hi3, hk3⟩
  have hl3 := hk3.2 l _ hl2 trivial (.inl hn0)
  have hlt3 : l < W3.heap.size := (Array.getElem?_eq_some_iff.1 hl3).1
  have hend := run_endRound (P := P) (some j) hl3
  have e3 : ({ rec .busy none with state := if (some j : Option Code).isNone then .ready else .done, pending := some j } : Loop) = rec .done (some j) := by rw [hrec]; rfl
  rw [e3] at hend
  have hc : ConX K (l + 1) W (W3.putObj l (.loop (rec .done (some j)))) := by
    refine ⟨?_, ?_⟩
    · have h1 := hA.1
      have h2 := hk3.1
      have h4 := (grownBy_putObj' AW l (.loop (rec .busy none))).size
      have h5 := (grownBy_putObj' W3 l (.loop (rec .done (some j)))).size
      omega
    · intro k o hk ho hkl
      by_cases e : k = l
      · subst e
        rw [hl] at hk
        cases hk
        rcases hkl with h | h
        · exact absurd h (by omega)
        · exact absurd rfl (h _)
      · have k1 := hA.2 k o hk ho
        have k2 : (AW.putObj l (.loop (rec .busy none))).heap[k]? = some o := (World.putObj_heap_other e).trans k1
        exact (World.putObj_heap_other e).trans (hk3.2 k o k2 ho (hkl.imp (fun q => by omega) id))
  rcases hj with ⟨rfl, rfl⟩ | ⟨id, rfl, rfl⟩
  · exact ⟨_, _, hend, rfl, hR AW W3 hRA hi3 hl3 hk3, hc⟩
  · exact ⟨_, _, hend, rfl, hR AW W3 hRA hi3 hl3 hk3, hc⟩
theorem wpIn_rangeX {g : Operand} {ps : Array Tmp} {assign body : Code} {Q : Exit → Act → World → Prop} {a : Act} {w : World}
    (hro : F.round = none) (h1 : 1 ≤ n) {gf : Nat} {lb : Array Value} (hg : a.eval g = .func (.func gf) #[] lb) (hFg : F.fn gf) (eg : ∀ args w, (callFunc gf args).run P w = .ok (.enter gf args) w)
    {M : Nat} {e0 : Exit} {j : Code} (hj : JumpOk e0 j) {Y : Nat → World → Array Value → Prop} {K : TypeId → Bool} {I : Nat → World → Prop} (hiter : IterX F (n - 1) P gf lb M Y K I w)
    (hps : ∀ i W ar, Y i W ar → ar.size = ps.size) (hY : ∀ i A B ar, Y i A ar → CellsAs A B → Y i B ar)
    (hI : ∀ i A B, I i A → ItW K w.heap.size A B → I i B) (h0 : I 0 w) (a₁ : Array Value → World → Act) (RA : Array Value → World → World → Prop) (hAW : ∀ i ar W W', i ≤ M → w.heap.size ≤ W.heap.size → I i W → Y i W ar → RA ar W W' → Con K W W' ∧ I i W' ∧ Y i W' ar)
    (hassign : ∀ (l i : Nat) (ar : Array Value) (W : World) (Kc : Act → World → Prop), w.heap.size ≤ W.heap.size → I i W → Y i W ar → (∀ W', RA ar W W' → Kc (a₁ ar W) W') →
      assign.wpIn (F.inRound l) (n - 1 - 1) P (Exit.then Kc (fun _ _ _ => False)) { tmps := (ps.zip ar).foldl (fun t (p, v) => t.setIfInBounds p v) a.tmps, defers := [] } W)
    (hbody : ∀ (l i : Nat) (ar : Array Value) (W0 W1 W : World), RA ar W0 W1 → i < M → I i W → Y i W ar → w.heap.size ≤ l → (∃ r, W.heap[l]? = some (.loop r)) → w.heap.size ≤ W0.heap.size → CellsAs W1 W → W1.heap.size = W.heap.size → body.wpIn (F.inRound l) (n - 1 - 1) P (endsIn fun W' => I (i + 1) W' ∧ Con K W W') (a₁ ar W0) W)
    (hlast : ∀ (l : Nat) (ar : Array Value) (W0 W1 W : World), RA ar W0 W1 → I M W → Y M W ar → w.heap.size ≤ l → (∃ r, W.heap[l]? = some (.loop r)) → w.heap.size ≤ W0.heap.size → CellsAs W1 W → W1.heap.size = W.heap.size → body.wpIn (F.inRound l) (n - 1 - 1) P (endsX e0 fun W' => I (M + 1) W' ∧ ConX K w.heap.size W W') (a₁ ar W0) W)
    (hdone : ∀ (D : Nat) (W : World), w.heap.size ≤ D → I (M + 1) W → W.heap[D]? = some (.deferred (some [])) → j.wpIn F n P Q { a with defers := { target := .collected D, args := #[] } :: a.defers } W) :
    (Code.rangeFunc g ps assign body).wpIn F n P Q a w := by
  refine wpIn_rangeFunc ?_
  intro fn hfn
  rw [hro]
  obtain ⟨rec, hrec⟩ : ∃ rec : LoopState → Option Code → Loop, rec = fun st pe => { state := st, pending := pe, fn, tmps := a.tmps, params := ps, assign, body, defers := w.heap.size } := ⟨_, rfl⟩
  obtain ⟨W1, hW1⟩ : ∃ W1, (w.alloc (.deferred (some []))).alloc (.loop (rec .ready none)) = W1 := ⟨_, rfl⟩
  have hsz : W1.heap.size = w.heap.size + 1 + 1 := by rw [← hW1]; simp
  have hL1 : W1.heap[w.heap.size + 1]? = some (.loop (rec .ready none)) := by
    rw [← hW1]; have := World.alloc_heap_new (w.alloc (.deferred (some []))) (.loop (rec .ready none)); rwa [World.size_alloc] at this
  have hK1 : W1.heap[w.heap.size]? = some (.deferred (some [])) := by
    rw [← hW1]; exact (Below.heap_alloc _ _ _ (by simp)).trans (World.alloc_heap_new w _)
  have hb1 : Below w.heap.size w W1 := by
    rw [← hW1]; exact (((Below.refl _ w).alloc (Nat.le_refl _) _).alloc (by simp) _)
  refine ⟨w.heap.size + 1, [{ target := .collected w.heap.size, args := #[] }], W1, { target := .fn (.func gf) lb, args := #[.func (.yield (w.heap.size + 1)) #[] #[]] }, W1, gf,
    #[.func (.yield (w.heap.size + 1)) #[] #[]] ++ lb, W1, ?_, ?_, ?_, ?_, fun _ => h1, ?_⟩
  · rw [← hW1, hrec]; exact run_enterLoop_outer _ _ _ _ _
  · simp only [resolve, hg]
    simp [go_sem]
  · intro f' hf'; simp [Target.leads] at hf'; subst hf'; exact hFg
  · simp [invoke, go_sem, eg]
  · refine (hiter (w.heap.size + 1) (fun i W => I i W ∧ W.heap[w.heap.size + 1]? = some (.loop (if i ≤ M then rec .ready none else rec .done (some j))) ∧ W.heap[w.heap.size]? = some (.deferred (some []))) W1 hb1 (by rw [hsz]; omega) ?_ (fun i A h => h.1) ?_ ⟨hI 0 w W1 h0 (itw_below hb1 (Nat.le_refl _)), by rw [if_pos (Nat.zero_le _)]; exact hL1, hK1⟩).mono ?_
    · rintro i A B ⟨hi, hl, hk⟩ hb
      exact ⟨hI i A B hi (hb.mono (by omega) (fun _ h => h)), (hb.1.block (w.heap.size + 1) (by omega)).trans hl, (hb.1.block w.heap.size (by omega)).trans hk⟩
    · rintro i ar W hlt ⟨hi, hl, hk⟩ hy hsW
      rw [if_pos hlt] at hl
      have hltl : w.heap.size + 1 < W.heap.size := (Array.getElem?_eq_some_iff.1 hl).1
      have hAA : ∀ AW, RA ar W AW → ∃ hltA : (w.heap.size + 1) < AW.heap.size, Con K W AW ∧ CellsAs AW (AW.putObj (w.heap.size + 1) (.loop (rec .busy none))) ∧ I i (AW.putObj (w.heap.size + 1) (.loop (rec .busy none))) ∧ Y i (AW.putObj (w.heap.size + 1) (.loop (rec .busy none))) ar ∧ (AW.putObj (w.heap.size + 1) (.loop (rec .busy none))).heap[w.heap.size]? = some (.deferred (some [])) := fun AW hRA => by
        obtain ⟨hA, hIA, hYA⟩ := hAW i ar W AW hlt (by omega) hi hy hRA
        have hA1 := hA.1
        have hlA : AW.heap[w.heap.size + 1]? = some (.loop (rec .ready none)) := hA.2 _ _ hl trivial
        have hltA : (w.heap.size + 1) < AW.heap.size := (Array.getElem?_eq_some_iff.1 hlA).1
        have hca : CellsAs AW (AW.putObj (w.heap.size + 1) (.loop (rec .busy none))) := cellsAs_put hlA rfl
        exact ⟨hltA, hA, hca, hI i _ _ hIA (itw_put hlA rfl (by omega)), hY i _ _ ar hYA hca, (World.putObj_heap_other (by omega)).trans (hA.2 _ _ hk trivial)⟩
      by_cases hiM : i < M
      · refine yieldAt_mono (round_ofC hrec hfn (hps i W ar hy) hl (RA := RA ar W) (fun AW h => (hAA AW h).2.1) (fun Kc hKc => hassign _ i ar W Kc (by omega) hi hy hKc)
          (fun AW h => by
            obtain ⟨hltA, hA, hca, hib, hyb, _⟩ := hAA AW h
            exact hbody _ i ar W AW _ h hiM hib hyb (by omega) ⟨_, World.putObj_heap_same hltA⟩ (by omega) hca (by simp)) (fun W' => I (i + 1) W' ∧ W'.heap[w.heap.size + 1]? = some (.loop (if i + 1 ≤ M then rec .ready none else rec .done (some j))) ∧ W'.heap[w.heap.size]? = some (.deferred (some []))) ?_) ?_
        · intro AW W' h hi' hl' hk'
          obtain ⟨_, _, _, _, _, hk2⟩ := hAA AW h
          rw [if_pos (by omega : i + 1 ≤ M)]
          exact ⟨hI _ _ _ hi' (itw_put hl' rfl (by omega)), World.putObj_heap_same (Array.getElem?_eq_some_iff.1 hl').1, (World.putObj_heap_other (by omega)).trans (hk'.2 _ _ hk2 trivial)⟩
        · rintro e W' ⟨he, hr, hc⟩
          exact ⟨by rw [he, decide_eq_true hiM], hr, fun _ => hc, hc.x _⟩
      · obtain rfl : i = M := by omega
        refine yieldAt_mono (round_last (n0 := w.heap.size) hj hrec hfn (hps i W ar hy) hl (RA := RA ar W) (fun AW h => (hAA AW h).2.1) (by omega) (fun Kc hKc => hassign _ i ar W Kc (by omega) hi hy hKc)
          (fun AW h => by
            obtain ⟨hltA, hA, hca, hib, hyb, _⟩ := hAA AW h
            exact hlast _ ar W AW _ h hib hyb (by omega) ⟨_, World.putObj_heap_same hltA⟩ (by omega) hca (by simp)) (fun W' => I (i + 1) W' ∧ W'.heap[w.heap.size + 1]? = some (.loop (if i + 1 ≤ i then rec .ready none else rec .done (some j))) ∧ W'.heap[w.heap.size]? = some (.deferred (some []))) ?_) ?_
        · intro AW W' h hi' hl' hk'
          obtain ⟨_, _, _, _, _, hk2⟩ := hAA AW h
          rw [if_neg (by omega : ¬ i + 1 ≤ i)]
          exact ⟨hI _ _ _ hi' (itw_put hl' rfl (by omega)), World.putObj_heap_same (Array.getElem?_eq_some_iff.1 hl').1, (World.putObj_heap_other (by omega)).trans (hk'.2 _ _ hk2 trivial (.inr (fun r e => by cases e)))⟩
        · rintro e W' ⟨he, hr, hc⟩
          exact ⟨by rw [he, decide_eq_false (by omega)], hr, fun h => absurd h (by omega), hc⟩
    · rintro e W2 ⟨⟨v, rfl⟩, hi, hl, hk⟩
      rw [if_neg (by omega : ¬ M + 1 ≤ M)] at hl
      have hlt2 : w.heap.size + 1 < W2.heap.size := (Array.getElem?_eq_some_iff.1 hl).1
      exact ⟨some j, _, by have := run_endLoop (P := P) hl (by rw [hrec]; simp); rw [hrec] at this; exact this, hdone _ _ (Nat.le_refl _) (hI _ _ _ hi (itw_put hl rfl (by omega))) ((World.putObj_heap_other (by omega)).trans hk)⟩
/-- The same within a round of loop l₀. -/
theorem wpIn_rangeXN {g : Operand} {ps : Array Tmp} {assign body : Code} {Q : Exit → Act → World → Prop} {a : Act} {w : World}
    {l₀ : Nat} {r₀ : Loop} (hro : F.round = some l₀) (hl₀ : w.heap[l₀]? = some (.loop r₀)) (h1 : 1 ≤ n) {gf : Nat} {lb : Array Value} (hg : a.eval g = .func (.func gf) #[] lb) (hFg : F.fn gf) (eg : ∀ args w, (callFunc gf args).run P w = .ok (.enter gf args) w)
    {M : Nat} {e0 : Exit} {j : Code} (hj : JumpOk e0 j) {Y : Nat → World → Array Value → Prop} {K : TypeId → Bool} {I : Nat → World → Prop} (hiter : IterX F (n - 1) P gf lb M Y K I w)
    (hps : ∀ i W ar, Y i W ar → ar.size = ps.size) (hY : ∀ i A B ar, Y i A ar → CellsAs A B → Y i B ar)
    (hI : ∀ i A B, I i A → ItW K w.heap.size A B → I i B) (h0 : I 0 w) (a₁ : Array Value → World → Act) (RA : Array Value → World → World → Prop) (hAW : ∀ i ar W W', i ≤ M → w.heap.size ≤ W.heap.size → I i W → Y i W ar → RA ar W W' → Con K W W' ∧ I i W' ∧ Y i W' ar)
    (hassign : ∀ (l i : Nat) (ar : Array Value) (W : World) (Kc : Act → World → Prop), w.heap.size ≤ W.heap.size → I i W → Y i W ar → (∀ W', RA ar W W' → Kc (a₁ ar W) W') →
      assign.wpIn (F.inRound l) (n - 1 - 1) P (Exit.then Kc (fun _ _ _ => False)) { tmps := (ps.zip ar).foldl (fun t (p, v) => t.setIfInBounds p v) a.tmps, defers := [] } W)
    (hbody : ∀ (l i : Nat) (ar : Array Value) (W0 W1 W : World), RA ar W0 W1 → i < M → I i W → Y i W ar → w.heap.size ≤ l → (∃ r, W.heap[l]? = some (.loop r)) → w.heap.size ≤ W0.heap.size → CellsAs W1 W → W1.heap.size = W.heap.size → body.wpIn (F.inRound l) (n - 1 - 1) P (endsIn fun W' => I (i + 1) W' ∧ Con K W W') (a₁ ar W0) W)
    (hlast : ∀ (l : Nat) (ar : Array Value) (W0 W1 W : World), RA ar W0 W1 → I M W → Y M W ar → w.heap.size ≤ l → (∃ r, W.heap[l]? = some (.loop r)) → w.heap.size ≤ W0.heap.size → CellsAs W1 W → W1.heap.size = W.heap.size → body.wpIn (F.inRound l) (n - 1 - 1) P (endsX e0 fun W' => I (M + 1) W' ∧ ConX K w.heap.size W W') (a₁ ar W0) W)
    (hdone : ∀ (W : World), I (M + 1) W → j.wpIn F n P Q a W) :
    (Code.rangeFunc g ps assign body).wpIn F n P Q a w := by
  refine wpIn_rangeFunc ?_
  intro fn hfn
  rw [hro]
  obtain ⟨rec, hrec⟩ : ∃ rec : LoopState → Option Code → Loop, rec = fun st pe => { state := st, pending := pe, fn, tmps := a.tmps, params := ps, assign, body, defers := r₀.defers } := ⟨_, rfl⟩
  obtain ⟨W1, hW1⟩ : ∃ W1, w.alloc (.loop (rec .ready none)) = W1 := ⟨_, rfl⟩
  have hsz : W1.heap.size = w.heap.size + 1 := by rw [← hW1]; simp
  have hL1 : W1.heap[w.heap.size]? = some (.loop (rec .ready none)) := by rw [← hW1]; exact World.alloc_heap_new w _
  have hb1 : Below w.heap.size w W1 := by rw [← hW1]; exact (Below.refl _ w).alloc (Nat.le_refl _) _
  refine ⟨w.heap.size, [], W1, { target := .fn (.func gf) lb, args := #[.func (.yield w.heap.size) #[] #[]] }, W1, gf,
    #[.func (.yield w.heap.size) #[] #[]] ++ lb, W1, ?_, ?_, ?_, ?_, fun _ => h1, ?_⟩
  · rw [← hW1, hrec]; exact run_enterLoop_inner hl₀ _ _ _ _ _
  · simp only [resolve, hg]
    simp [go_sem]
  · intro f' hf'; simp [Target.leads] at hf'; subst hf'; exact hFg
  · simp [invoke, go_sem, eg]
  · refine (hiter w.heap.size (fun i W => I i W ∧ W.heap[w.heap.size]? = some (.loop (if i ≤ M then rec .ready none else rec .done (some j)))) W1 hb1 (by rw [hsz]; omega) ?_ (fun i A h => h.1) ?_ ⟨hI 0 w W1 h0 (itw_below hb1 (Nat.le_refl _)), by rw [if_pos (Nat.zero_le _)]; exact hL1⟩).mono ?_
    · rintro i A B ⟨hi, hl⟩ hb
      exact ⟨hI i A B hi (hb.mono (by omega) (fun _ h => h)), (hb.1.block w.heap.size (by omega)).trans hl⟩
    · rintro i ar W hlt ⟨hi, hl⟩ hy hsW
      rw [if_pos hlt] at hl
      have hltl : w.heap.size < W.heap.size := (Array.getElem?_eq_some_iff.1 hl).1
      have hAA : ∀ AW, RA ar W AW → ∃ hltA : w.heap.size < AW.heap.size, Con K W AW ∧ CellsAs AW (AW.putObj w.heap.size (.loop (rec .busy none))) ∧ I i (AW.putObj w.heap.size (.loop (rec .busy none))) ∧ Y i (AW.putObj w.heap.size (.loop (rec .busy none))) ar := fun AW hRA => by
        obtain ⟨hA, hIA, hYA⟩ := hAW i ar W AW hlt (by omega) hi hy hRA
        have hA1 := hA.1
        have hlA : AW.heap[w.heap.size]? = some (.loop (rec .ready none)) := hA.2 _ _ hl trivial
        have hltA : w.heap.size < AW.heap.size := (Array.getElem?_eq_some_iff.1 hlA).1
        have hca : CellsAs AW (AW.putObj w.heap.size (.loop (rec .busy none))) := cellsAs_put hlA rfl
        exact ⟨hltA, hA, hca, hI i _ _ hIA (itw_put hlA rfl (by omega)), hY i _ _ ar hYA hca⟩
      by_cases hiM : i < M
      · refine yieldAt_mono (round_ofC hrec hfn (hps i W ar hy) hl (RA := RA ar W) (fun AW h => (hAA AW h).2.1) (fun Kc hKc => hassign _ i ar W Kc (by omega) hi hy hKc)
          (fun AW h => by
            obtain ⟨hltA, hA, hca, hib, hyb⟩ := hAA AW h
            exact hbody _ i ar W AW _ h hiM hib hyb (Nat.le_refl _) ⟨_, World.putObj_heap_same hltA⟩ (by omega) hca (by simp)) (fun W' => I (i + 1) W' ∧ W'.heap[w.heap.size]? = some (.loop (if i + 1 ≤ M then rec .ready none else rec .done (some j)))) ?_) ?_
        · intro AW W' h hi' hl' hk'
          rw [if_pos (by omega : i + 1 ≤ M)]
          exact ⟨hI _ _ _ hi' (itw_put hl' rfl (Nat.le_refl _)), World.putObj_heap_same (Array.getElem?_eq_some_iff.1 hl').1⟩
        · rintro e W' ⟨he, hr, hc⟩
          exact ⟨by rw [he, decide_eq_true hiM], hr, fun _ => hc, hc.x _⟩
      · obtain rfl : i = M := by omega
        refine yieldAt_mono (round_last (n0 := w.heap.size) hj hrec hfn (hps i W ar hy) hl (RA := RA ar W) (fun AW h => (hAA AW h).2.1) (by omega) (fun Kc hKc => hassign _ i ar W Kc (by omega) hi hy hKc)
          (fun AW h => by
            obtain ⟨hltA, hA, hca, hib, hyb⟩ := hAA AW h
            exact hlast _ ar W AW _ h hib hyb (Nat.le_refl _) ⟨_, World.putObj_heap_same hltA⟩ (by omega) hca (by simp)) (fun W' => I (i + 1) W' ∧ W'.heap[w.heap.size]? = some (.loop (if i + 1 ≤ i then rec .ready none else rec .done (some j)))) ?_) ?_
        · intro AW W' h hi' hl' hk'
          rw [if_neg (by omega : ¬ i + 1 ≤ i)]
          exact ⟨hI _ _ _ hi' (itw_put hl' rfl (Nat.le_refl _)), World.putObj_heap_same (Array.getElem?_eq_some_iff.1 hl').1⟩
        · rintro e W' ⟨he, hr, hc⟩
          exact ⟨by rw [he, decide_eq_false (by omega)], hr, fun h => absurd h (by omega), hc⟩
    · rintro e W2 ⟨⟨v, rfl⟩, hi, hl⟩
      rw [if_neg (by omega : ¬ M + 1 ≤ M)] at hl
      exact ⟨some j, _, by have := run_endLoop (P := P) hl (by rw [hrec]; simp); rw [hrec] at this; exact this, hdone _ (hI _ _ _ hi (itw_put hl rfl (Nat.le_refl _)))⟩
end Go.Proofs.YtlpkaflmhdgmmaaGreatDoor

/-! The iterator over all choices of s out of n indices, left in a round. -/
namespace Go.Proofs.YtlpkaflmhdgmmaaGreatDoor
open Go.RowKit
set_option linter.unusedVariables false
attribute [local go_sem] Oper.semAt_some

set_option maxRecDepth 100000 in
set_option maxHeartbeats 4000000 in
theorem iterX_any (fn n s bs bc M : Nat) (hn7 : n ≤ 7) (hs5 : s ≤ 5) (hM : M < (idxC n s).length) (I : Nat → World → Prop) (w : World) (hfn : 1 ≤ fn)
    (hbox : ∀ i W, I i W → W.cell? ⟨bs, 0, none⟩ = some (.int .i64 s) ∧ W.cell? ⟨bc, 0, none⟩ = some (.int .i64 n)) :
    IterX Fence.wide fn Tryz.prog 75 #[.pointer (some ⟨bs, 0, none⟩), .pointer (some ⟨bc, 0, none⟩)] M (YC n s) kInt I w := by
  intro l J W hW hlW hJ hJI hY h0
  refine callsIn_of_wp Tryz.func75 rfl trivial ?_ rfl
  simp only [Tryz.ntmps75, List.size_toArray, List.length_cons, List.length_nil, Nat.reduceAdd, Nat.reduceSub, Array.replicate_succ, Array.replicate_zero, List.push_toArray, List.append_toArray, List.nil_append, List.cons_append]
  obtain ⟨c1, c2⟩ := hbox 0 W (hJI 0 W h0)
  have hsn : ¬ n < s := fun h => by rw [idxC_none n s hn7 h hs5] at hM; exact absurd hM (Nat.not_lt_zero _)
  obtain ⟨i0, hi, hz0, hz1, hz2⟩ := info_parts infoInt3
  have hmk := fun W => run_makeNC 86 3 i0 Tryz.underlying86 hi hz0 hz1 hz2 s (by omega) W
  clear hi hz0 hz1 hz2
  have HBX := Lib.hid hbox
  have HJI := Lib.hid hJI
  have HJ := Lib.hid hJ
  have HY := Lib.hid hY
  have hn5 : (s : Int) ≤ (n : Int) := by omega
  have hdn : decide ((n : Int) < (s : Int)) = false := decide_eq_false (by omega)
  have HN7 := Lib.hid hn7
  have HM := Lib.hid hM
  have HS5 := Lib.hid hs5
  have HSN := Lib.hid hsn
  have B1 := Lib.hid (bl_alloc (bl_refl W) (.cells (ints (List.replicate s 0)).toArray 3))
  have HS : Hid (J 0 (W.alloc (.cells (ints (List.replicate s 0)).toArray 3)) ∧ Blk (W.alloc (.cells (ints (List.replicate s 0)).toArray 3)) W.heap.size 3 (ints (fillS s 0)) ∧ W.heap.size ≤ (W.alloc (.cells (ints (List.replicate s 0)).toArray 3)).heap.size) :=
    Lib.hid ⟨hJ 0 W _ h0 (itw_below B1.out (Nat.le_refl _)), by rw [fillS_zero]; exact blk_new W 3 _, B1.out.size⟩
  clear hbox hJI hJ hY h0 hW hsn B1
  gi_wp2
  clear hmk c1 c2 hn5 hdn
  have hs4 : (s : Int) ≤ 5 := by omega
  gi_loopw [13] (fun i wr => ∃ k : Nat, k ≤ s ∧ i = .int .i64 k ∧ Hid (J 0 wr ∧ Blk wr W.heap.size 3 (ints (fillS s k)) ∧ W.heap.size ≤ wr.heap.size)) (fun i _ => s - (intOf i).toNat)
  case atStart => exact ⟨0, by omega, rfl, HS⟩
  case round =>
    obtain ⟨k, hk, rfl, hs⟩ := hrel
    by_cases hlt : k < s
    · have hlt' : (k : Int) < (s : Int) := by omega
      obtain ⟨c3, f3⟩ := hs.out.2.1.int k (by rw [fillS_len s k (by omega)]; exact hlt)
      have hset := blk_setI hs.out.2.1 k (k : Int)
      rw [fillS_step s k hlt] at hset
      have HP : Hid (J 0 (wr.setCell ⟨W.heap.size, k, none⟩ (.int .i64 k)) ∧ Blk (wr.setCell ⟨W.heap.size, k, none⟩ (.int .i64 k)) W.heap.size 3 (ints (fillS s (k + 1))) ∧ W.heap.size ≤ (wr.setCell ⟨W.heap.size, k, none⟩ (.int .i64 k)).heap.size) := Lib.hid ⟨HJ.out 0 _ _ hs.out.1 (itw_grown hset.2 hs.out.2.1 kInt_int (Nat.le_refl _) hs.out.2.2), hset.1, Nat.le_trans hs.out.2.2 hset.2.size⟩
      generalize nth (fillS s k) k = z at *
      clear hset
      gi_wp2
      go_roundw
      case rel => exact ⟨k + 1, by omega, by go_num, HP⟩
      case measure => simp [intOf]; omega
    · obtain rfl : k = s := by omega
      have HS2 : Hid (J 0 wr ∧ Blk wr W.heap.size 3 (ints ((idxC n k).getD 0 [])) ∧ W.heap.size ≤ wr.heap.size) := Lib.hid ⟨hs.out.1, by
        have e : (idxC n k).getD 0 [] = fillS k k := by
          rw [List.getD_eq_getElem?_getD, idxC_first n k HN7.out (by have := HSN.out; omega) HS5.out, fillS_all]; rfl
        rw [e]; exact hs.out.2.1, hs.out.2.2⟩
      clear hs
      have hdn' : decide (n < k) = false := decide_eq_false (by have := HSN.out; omega)
      gi_wp2
      simp only [hdn']
      clear hdn'
      gi_loopw [28] (fun _ wx => ∃ i : Nat, i ≤ M ∧ Hid (J i wx ∧ Blk wx W.heap.size 3 (ints ((idxC n k).getD i [])) ∧ W.heap.size ≤ wx.heap.size)) (fun _ wx => leftOfC n k W.heap.size wx)
      case atStart => exact ⟨0, Nat.zero_le _, HS2⟩
      case round =>
        obtain ⟨i, hi, hs⟩ := hrel
        have HL := Lib.hid (leftOfC_at HN7.out HS5.out (Nat.lt_of_le_of_lt hi HM.out) hs.out.2.1)
        obtain ⟨fn', tmps, assign, body, hy, hR⟩ := HY.out i #[.slice (some ⟨W.heap.size, 0, none⟩) k k] wr hi hs.out.1 ⟨W.heap.size, rfl, hs.out.2.1⟩ hs.out.2.2
        have HR := Lib.hid hR
        have HB0 := Lib.hid hs.out.2
        clear hR hs
        gi_wp2
        refine HR.out.mono ?_
        rintro e W3 ⟨he, hJ3, hC3, hX3⟩
        obtain ⟨_, c2⟩ := HBX.out _ _ (HJI.out _ _ hJ3)
        have HJ3 := Lib.hid hJ3
        by_cases hiM : i < M
        · rw [decide_eq_true hiM] at he
          subst he
          have hC3 := hC3 hiM
          have HK3 := Lib.hid (con_blk hC3 HB0.out.1 kInt_int)
          have HZ3 := Lib.hid (Nat.le_trans HB0.out.2 hC3.1)
          clear hJ3 hC3 hX3
          have hnx : i + 1 < (idxC n k).length := by have := HM.out; omega
          have KS := Lib.hid (stepC_next n k i W.heap.size W3 HN7.out HS5.out hnx HK3.out)
          gi_wp2_with (refine ⟨trivial, ?_⟩; gi_at_call 76; refine (callsIn_wide.2 KS.out).mono ?_; rintro e w4 ⟨rfl, hc4, hg4⟩; have HC4 := Lib.hid hc4; have HJ4 := Lib.hid (HJ.out _ _ _ HJ3.out (itw_grown hg4 HK3.out kInt_int (Nat.le_refl _) HZ3.out)); have HZ4 := Lib.hid (Nat.le_trans HZ3.out hg4.size); clear hc4 hg4)
          go_roundw
          case rel => exact ⟨i + 1, by omega, Lib.hid ⟨HJ4.out, HC4.out, HZ4.out⟩⟩
          case measure => rw [leftOfC_at HN7.out HS5.out hnx HC4.out, HL.out]; omega
        · rw [decide_eq_false hiM] at he
          subst he
          clear hJ3 hC3 hX3
          gi_wp2_with (refine ⟨trivial, ?_⟩)
          go_end0
          exact ⟨⟨_, rfl⟩, by
            have e : i = M := by omega
            rw [← e]; exact HJ3.out⟩
end Go.Proofs.YtlpkaflmhdgmmaaGreatDoor

/-! The program's iterator over all hands of a player, left at the N-th of them. -/
namespace Go.Proofs.YtlpkaflmhdgmmaaGreatDoor
open Go.RowKit
set_option linter.unusedVariables false
attribute [local go_sem] Oper.semAt_some

theorem hNo_find (hc bs : List Int) (l : Nat) : ∀ (M N : Nat), N < (hRows hc bs l M).length → ∃ k i j, k < M ∧ i < (idxC hc.length (l + k)).length ∧ j < (idxC bs.length (5 - (l + k))).length ∧ N = hNo hc bs l k i j
  | 0, N, h => by rw [hRows_zero] at h; exact absurd h (Nat.not_lt_zero _)
  | M + 1, N, h => by
    by_cases hN : N < (hRows hc bs l M).length
    · obtain ⟨k, i, j, h1, h2⟩ := hNo_find hc bs l M N hN
      exact ⟨k, i, j, by omega, h2⟩
    · rw [hRows_succ, hRow_len] at h
      obtain ⟨b, eb⟩ : ∃ b, b = (idxC bs.length (5 - (l + M))).length := ⟨_, rfl⟩
      obtain ⟨c, ec⟩ : ∃ c, c = (idxC hc.length (l + M)).length := ⟨_, rfl⟩
      obtain ⟨t, et⟩ : ∃ t, t = N - (hRows hc bs l M).length := ⟨_, rfl⟩
      rw [← eb, ← ec] at h
      have ht : t < c * b := by omega
      have hb : 0 < b := by
        rcases Nat.eq_zero_or_pos b with e | e
        · rw [e, Nat.mul_zero] at ht; omega
        · exact e
      refine ⟨M, t / b, t % b, Nat.lt_succ_self _, ?_, ?_, ?_⟩
      · rw [← ec]; exact (Nat.div_lt_iff_lt_mul hb).2 ht
      · rw [← eb]; exact Nat.mod_lt _ hb
      · unfold hNo
        rw [← eb, Nat.div_add_mod']
        omega
theorem hNo_lt_full (hc bs : List Int) (l k ks i j is js : Nat) (hk : k < ks) (hi : i < (idxC hc.length (l + k)).length) (hj : j < (idxC bs.length (5 - (l + k))).length) : hNo hc bs l k i j < hNo hc bs l ks is js := by
  have := (hNo_at hc bs l k ks i j hk hi hj).2
  unfold hNo at this ⊢
  omega
theorem hNo_lt_row (hc bs : List Int) (l k i j is js : Nat) (hi : i < is) (hj : j < (idxC bs.length (5 - (l + k))).length) : hNo hc bs l k i j < hNo hc bs l k is js := by
  unfold hNo
  have h : (i + 1) * (idxC bs.length (5 - (l + k))).length ≤ is * (idxC bs.length (5 - (l + k))).length := Nat.mul_le_mul_right _ hi
  rw [Nat.succ_mul] at h
  omega
theorem hNo_lt_at (hc bs : List Int) (l k i j js : Nat) (hj : j < js) : hNo hc bs l k i j < hNo hc bs l k i js := by unfold hNo; omega
/-- The number of the next hand, ahead of a choice of hole cards, where the N-th hand takes the is-th. -/
def oX (f : Nat → Nat) (is N i : Nat) : Nat := if i ≤ is then f i else N + 1
theorem oX_le {f : Nat → Nat} {is N i : Nat} (h : i ≤ is) : oX f is N i = f i := if_pos h
theorem oX_gt {f : Nat → Nat} {is N : Nat} : oX f is N (is + 1) = N + 1 := if_neg (by omega)
/-- ISt, where the last round has been at work. -/
def IStX (W W0 W3 : World) (lp q p n o gb : Nat) (cs : List Int) (J : World → Prop) (W' : World) : Prop :=
  J W' ∧ Blk W' W.heap.size 82 [.func (.yield lp) #[] #[]] ∧ Blk W' o 3 (ints [(q : Int)]) ∧ Blk W' W0.heap.size 86 [.slice (some ⟨gb, 0, none⟩) q q] ∧ Blk W' gb 3 (ints cs) ∧ Blk W' W3.heap.size 3 (ints [(n : Int)]) ∧ Blk W' (W3.heap.size + 1) 3 (ints [(p : Int)]) ∧ ConX kInt (lp + 1) W3 W'
theorem IStX.itw {W W0 W3 : World} {lp q p n o gb n0 j : Nat} {cs : List Int} {J : Nat → World → Prop} {A B : World} (h : IStX W W0 W3 lp q p n o gb cs (J j) A) (hJ : ∀ i A B, J i A → ItW kHands W.heap.size A B → J i B) (hz : n0 = W3.heap.size + 1 + 1)
    (ho : o < W3.heap.size) (hy : W.heap.size < W3.heap.size) (hn : W0.heap.size < W3.heap.size) (hg : gb < W3.heap.size) (hb : ItW kInt n0 A B) : IStX W W0 W3 lp q p n o gb cs (J j) B := by
  obtain ⟨h1, h2, h3, h4, h5, h6, h7, h8⟩ := h
  have k : ∀ {g : Nat} {t : TypeId} {vs : List Value}, Blk A g t vs → g < n0 → Blk B g t vs := fun hq hg => (hb.1.block _ hg).trans hq
  have hs := hb.1.size
  exact ⟨hJ _ _ _ h1 (hb.mono (by omega) kHands_int), k h2 (by omega), k h3 (by omega), k h4 (by omega), k h5 (by omega), k h6 (by omega), k h7 (by omega),
    ⟨Nat.le_trans h8.1 hs, fun g ob hg hk hl => (hb.1.block g (by have := (Array.getElem?_eq_some_iff.1 hg).1; omega)).trans (h8.2 g ob hg hk hl)⟩⟩

set_option maxRecDepth 100000 in
set_option maxHeartbeats 4000000 in
theorem handsX_any (fn : Nat) (A : Option Addr) (c : Nat) (hcs : List Int) (A2 : Option Addr) (cb : Nat) (bs : List Int) (l m b1 b2 b3 : Nat) (hh : hcs.length ≤ 7) (hb : bs.length ≤ 7) (hlm : l ≤ m) (hm : m ≤ 5) (N : Nat) (hN : N < (hRows hcs bs l (m + 1 - l)).length)
    (I : Nat → World → Prop) (w : World) (hfn : 7 ≤ fn) (hbox : ∀ i W, I i W → BoxH A c hcs A2 cb bs l m b1 b2 b3 W) :
    IterX Fence.wide fn Tryz.prog 50 #[.pointer (some ⟨b1, 0, none⟩), .pointer (some ⟨b2, 0, none⟩), .pointer (some ⟨b3, 0, none⟩)]
      N (YH hcs bs l (m + 1 - l)) kHands I w := by
  intro lp J W hW hlW hJ hJI hY h0
  obtain ⟨M, eM⟩ : ∃ M, M = m + 1 - l := ⟨_, rfl⟩
  rw [← eM] at hY hN
  obtain ⟨ks, is, js, hks, his, hjs, eN⟩ := hNo_find hcs bs l M N hN
  have HIS := Lib.hid his
  have HJS := Lib.hid hjs
  have EN := Lib.hid eN
  have LW := Lib.hid hlW
  clear his hjs eN hlW hN
  refine callsIn_of_wp_marks Tryz.func50 rfl trivial ?_ rfl
  simp only [Tryz.ntmps50, List.size_toArray, List.length_cons, List.length_nil, Nat.reduceAdd, Nat.reduceSub, Array.replicate_succ, Array.replicate_zero, List.push_toArray, List.append_toArray, List.nil_append, List.cons_append]
  have HBX : Hid (∀ i W', J i W' → BoxH A c hcs A2 cb bs l m b1 b2 b3 W') := Lib.hid (fun i W' h => hbox i W' (hJI i W' h))
  have HJ := Lib.hid hJ
  have hf1 : 1 ≤ fn := by omega
  have hf3 : 1 ≤ fn - 1 - 1 := by omega
  have hf5 : 1 ≤ fn - 1 - 1 - 1 - 1 := by omega
  have HY := Lib.hid hY
  have B1 := Lib.hid (bl_alloc (bl_refl W) (.cells #[.func (.yield lp) #[] #[]] 82))
  have B2 := Lib.hid (bl_alloc B1.out (.cells #[.int .i64 (l : Int)] 3))
  have hz1 : (W.alloc (.cells #[.func (.yield lp) #[] #[]] 82)).heap.size = W.heap.size + 1 := World.size_alloc _ _
  have HS : Hid (HSt W lp l (J (hRows hcs bs l 0).length) 0 (W.heap.size + 1) [] ((W.alloc (.cells #[.func (.yield lp) #[] #[]] 82)).alloc (.cells #[.int .i64 (l : Int)] 3))) :=
    Lib.hid (by
      have n2 := blk_new (W.alloc (.cells #[.func (.yield lp) #[] #[]] 82)) 3 [.int .i64 (l : Int)]
      rw [hz1] at n2
      exact ⟨hJ 0 W _ h0 (itw_below B2.out (Nat.le_refl _)), (blk_new W 82 [.func (.yield lp) #[] #[]]).below (bl_alloc (bl_refl _) _), n2, Nat.lt_succ_self _, List.nodup_nil, fun D h => by cases h⟩)
  obtain ⟨c1, _⟩ := HBX.out 0 _ (hJ 0 W _ h0 (itw_below B1.out (Nat.le_refl _)))
  clear hbox hJI hJ hY h0 hW B1 B2
  gi_wp2
  clear c1
  refine wpIn_loop_ghost_k (fun n a W' => ∃ (k o : Nat) (Ds : List Nat) (u6 u7 u8 u9 u10 u11 u12 u13 u14 u15 u16 u17 u18 u19 u20 u21 u22 u23 u24 u25 u26 u27 u28 u29 u30 u31 u32 u33 u34 u35 : Value), n = M - k ∧ k ≤ ks ∧ a = { tmps := #[.func (.yield lp) #[] #[], .pointer (some ⟨b1, 0, none⟩), .pointer (some ⟨b2, 0, none⟩), .pointer (some ⟨b3, 0, none⟩), .pointer (some ⟨W.heap.size, 0, none⟩), .pointer (some ⟨o, 0, none⟩), u6, u7, u8, u9, u10, u11, u12, u13, u14, u15, u16, u17, u18, u19, u20, u21, u22, u23, u24, u25, u26, u27, u28, u29, u30, u31, u32, u33, u34, u35], defers := marksL Ds } ∧ Hid (HSt W lp l (J (hRows hcs bs l k).length) k o Ds W')) M ?atStart ?round
  case atStart =>
    refine ⟨0, W.heap.size + 1, [], _, _, _, _, _, _, _, _, _, _, _, _, _, _, _, _, _, _, _, _, _, _, _, _, _, _, _, _, _, _, by omega, by omega, rfl, HS⟩
  case round =>
    clear HS hz1
    rintro n a W1 ⟨k, o, Ds, v6, v7, v8, v9, v10, v11, v12, v13, v14, v15, v16, v17, v18, v19, v20, v21, v22, v23, v24, v25, v26, v27, v28, v29, v30, v31, v32, v33, v34, v35, hn, hk, rfl, hs⟩ J' K' hJ' hK'
    obtain ⟨s1, s2, s3, s4, s5⟩ := hs.out
    obtain ⟨c1, c2, c3, c4, _⟩ := HBX.out _ _ s1
    obtain ⟨q, eq⟩ : ∃ q, q = l + k := ⟨_, rfl⟩
    rw [← eq] at s3
    have EQ := Lib.hid eq
    have EM := Lib.hid eM
    have co := (s3.cell 0 _ rfl).1
    have S1 := Lib.hid s1
    have S2 := Lib.hid s2
    have S3 := Lib.hid s3
    have S4 := Lib.hid s4
    have S5 := Lib.hid s5
    clear hs s1 s2 s3 s4 s5 eq eM
    have hkM : k < M := by omega
    by_cases hlt : k < ks
    · have hlt' : (q : Int) ≤ (m : Int) := by have := EQ.out; have := EM.out; omega
      have hq5 : q ≤ 5 := by have := EQ.out; have := EM.out; omega
      gi_wp2_with (refine ⟨trivial, ?_⟩; gi_at_call 51; refine (callsIn_wide.2 (choicesOfS_any (hcs.length : Int) (q : Int) W1)).mono ?_; rintro e w1 ⟨rfl, rfl⟩)
      have n1 := (blk_new W1 3 [.int .i64 (hcs.length : Int)]).below (bl_alloc (bl_refl _) (.cells #[.int .i64 (q : Int)] 3))
      have n2 := blk_new (W1.alloc (.cells #[.int .i64 (hcs.length : Int)] 3)) 3 [.int .i64 (q : Int)]
      have hz2 : ((W1.alloc (.cells #[.int .i64 (hcs.length : Int)] 3)).alloc (.cells #[.int .i64 (q : Int)] 3)).heap.size = W1.heap.size + 1 + 1 := by simp
      have hb2 := bl_alloc (bl_alloc (bl_refl W1) (.cells #[.int .i64 (hcs.length : Int)] 3)) (.cells #[.int .i64 (q : Int)] 3)
      rw [World.size_alloc] at n2
      simp only [List.toArray] at n1 n2
      obtain ⟨W2, eW2⟩ : ∃ W2, W2 = (W1.alloc (.cells #[.int .i64 (hcs.length : Int)] 3)).alloc (.cells #[.int .i64 (q : Int)] 3) := ⟨_, rfl⟩
      rw [← eW2] at n1 n2 hz2 hb2 ⊢
      clear eW2
      have LO := Lib.hid S3.out.lt
      have LY := Lib.hid S2.out.lt
      have LM := Lib.hid S5.out.lt
      have O0 : Hid (OSt W W1 lp q hcs.length o Ds (J (hNo hcs bs l k 0 0)) W2) := Lib.hid ⟨by rw [hNo_start]; exact HJ.out _ _ _ S1.out (itw_below hb2 (by have := LY.out; omega)), S2.out.below hb2, S3.out.below hb2, S5.out.below hb2, n1, n2⟩
      clear n1 n2 c1 c2 c3 c4 co hb2
      refine wpIn_rangeC rfl (by omega) (gf := 75) (lb := #[.pointer (some ⟨W1.heap.size + 1, 0, none⟩), .pointer (some ⟨W1.heap.size, 0, none⟩)]) rfl trivial (enters_of Tryz.func75 (by kernel_rfl) rfl)
        (iterC_any (fn - 1) hcs.length q (W1.heap.size + 1) W1.heap.size hh hq5 (fun i W' => OSt W W1 lp q hcs.length o Ds (J (hNo hcs bs l k i 0)) W') W2 (by omega) (fun i W' h => ⟨(h.2.2.2.2.2.cell 0 _ rfl).1, (h.2.2.2.2.1.cell 0 _ rfl).1⟩))
        (fun i W' ar h => by obtain ⟨gb, rfl, _⟩ := h; rfl) (fun i A' B' ar h hc => h.keep hc)
        (fun i A' B' h hb' => h.itw HJ.out (by have := LY.out; omega) hz2 LM.out LO.out LY.out hb') O0.out
        (fun ar W' => { tmps := #[.func (.yield lp) #[] #[], .pointer (some ⟨b1, 0, none⟩), .pointer (some ⟨b2, 0, none⟩), .pointer (some ⟨b3, 0, none⟩), .pointer (some ⟨W.heap.size, 0, none⟩), .pointer (some ⟨o, 0, none⟩),
          .pointer (some ⟨W'.heap.size, 0, none⟩), v7, v8, v9, .int .i64 q, .pointer (some ⟨b1, 2, none⟩), .int .i64 m, .bool true, v14, v15, .slice A hcs.length c, .int .i64 hcs.length, .int .i64 q,
          .func (.func 75) #[] #[.pointer (some ⟨W1.heap.size + 1, 0, none⟩), .pointer (some ⟨W1.heap.size, 0, none⟩)], ar.getD 0 undef, v21, v22, v23, v24, v25, v26, v27, v28, v29, v30, v31, v32, v33, v34, v35], defers := [] })
        (fun ar W' => W'.alloc (.cells #[ar.getD 0 undef] 86)) (fun ar W' => bl_alloc (bl_refl W') _) ?assign ?body ?done
      case assign =>
        rintro lr i ar W' Kc ⟨gb, rfl, hgb⟩ hKc
        clear hgb
        gi_wp2
        exact hKc
      case body =>
        rintro lr i ar W0 W3 hi hI ⟨gb, rfl, hgb⟩ hgl ⟨r0, hr0⟩ hW0 hca hsz
        obtain ⟨i1, i2, i3, i4, i5, i6⟩ := hI
        have n3 : Blk W3 W0.heap.size 86 [.slice (some ⟨gb, 0, none⟩) q q] := hca _ _ _ _ (blk_new W0 86 [.slice (some ⟨gb, 0, none⟩) q q])
        obtain ⟨_, _, _, c4, _, _⟩ := HBX.out _ _ i1
        have co := (i3.cell 0 _ rfl).1
        obtain ⟨p, ep⟩ : ∃ p, p = 5 - q := ⟨_, rfl⟩
        have EP := Lib.hid ep
        have hp : (5 : Int) - (q : Int) = (p : Int) := by omega
        have hp5 : (p : Int) ≤ 5 := by omega
        have I1 := Lib.hid i1
        have I2 := Lib.hid i2
        have I3 := Lib.hid i3
        have I4 := Lib.hid i4
        have I5 := Lib.hid i5
        have I6 := Lib.hid i6
        have N3 := Lib.hid n3
        have GB := Lib.hid hgb
        have HR0 := Lib.hid hr0
        clear i1 i2 i3 i4 i5 i6 n3 hgb hr0 hca hsz ep O0
        simp only [Array.getD_eq_getD_getElem?]
        gi_wp2_with (refine ⟨trivial, ?_⟩; gi_at_call 51; refine (callsIn_wide.2 (choicesOfS_any (bs.length : Int) (p : Int) W3)).mono ?_; rintro e w1 ⟨rfl, rfl⟩)
        have n1 := (blk_new W3 3 [.int .i64 (bs.length : Int)]).below (bl_alloc (bl_refl _) (.cells #[.int .i64 (p : Int)] 3))
        have n2 := blk_new (W3.alloc (.cells #[.int .i64 (bs.length : Int)] 3)) 3 [.int .i64 (p : Int)]
        have hz4 : ((W3.alloc (.cells #[.int .i64 (bs.length : Int)] 3)).alloc (.cells #[.int .i64 (p : Int)] 3)).heap.size = W3.heap.size + 1 + 1 := by simp
        have hb4 := bl_alloc (bl_alloc (bl_refl W3) (.cells #[.int .i64 (bs.length : Int)] 3)) (.cells #[.int .i64 (p : Int)] 3)
        rw [World.size_alloc] at n2
        simp only [List.toArray] at n1 n2
        obtain ⟨W4, eW4⟩ : ∃ W4, W4 = (W3.alloc (.cells #[.int .i64 (bs.length : Int)] 3)).alloc (.cells #[.int .i64 (p : Int)] 3) := ⟨_, rfl⟩
        rw [← eW4] at n1 n2 hz4 hb4 ⊢
        clear eW4
        have PO := Lib.hid I3.out.lt
        have PY := Lib.hid I2.out.lt
        have PN := Lib.hid N3.out.lt
        have PG := Lib.hid GB.out.lt
        have Q0 : Hid (ISt W W0 W3 lp q p bs.length o gb ((idxC hcs.length q).getD i []) (J (hNo hcs bs l k i 0)) W4) := Lib.hid ⟨HJ.out _ _ _ I1.out (itw_below hb4 (by have := PY.out; omega)), I2.out.below hb4, I3.out.below hb4, N3.out.below hb4, GB.out.below hb4, n1, n2, con_below hb4⟩
        have hl4 : W4.heap[lr]? = some (.loop r0) := (hb4.block lr (Array.getElem?_eq_some_iff.1 HR0.out).1).trans HR0.out
        clear n1 n2 c4 co hb4
        refine wpIn_rangeCN (l₀ := lr) rfl hl4 hf3 (gf := 75) (lb := #[.pointer (some ⟨W3.heap.size + 1, 0, none⟩), .pointer (some ⟨W3.heap.size, 0, none⟩)]) rfl trivial (enters_of Tryz.func75 (by kernel_rfl) rfl)
          ((iterC_any (fn - 1 - 1 - 1) bs.length p (W3.heap.size + 1) W3.heap.size hb (by omega) (fun j W' => ISt W W0 W3 lp q p bs.length o gb ((idxC hcs.length q).getD i []) (J (hNo hcs bs l k i j)) W') W4 (by omega) (fun j W' h => ⟨(h.2.2.2.2.2.2.1.cell 0 _ rfl).1, (h.2.2.2.2.2.1.cell 0 _ rfl).1⟩)).inRound lr)
          (fun j W' ar h => by obtain ⟨gb2, rfl, _⟩ := h; rfl) (fun j A' B' ar h hc => h.keep hc)
          (fun j A' B' h hb' => h.itw HJ.out hz4 PO.out PY.out PN.out PG.out hb') Q0.out
          (fun ar W' => { tmps := #[.func (.yield lp) #[] #[], .pointer (some ⟨b1, 0, none⟩), .pointer (some ⟨b2, 0, none⟩), .pointer (some ⟨b3, 0, none⟩), .pointer (some ⟨W.heap.size, 0, none⟩), .pointer (some ⟨o, 0, none⟩),
            .pointer (some ⟨W0.heap.size, 0, none⟩), ar.getD 0 undef, v8, v9, .int .i64 q, .pointer (some ⟨b1, 2, none⟩), .int .i64 m, .bool true, v14, v15, .slice A hcs.length c, .int .i64 hcs.length, .int .i64 q,
            .func (.func 75) #[] #[.pointer (some ⟨W1.heap.size + 1, 0, none⟩), .pointer (some ⟨W1.heap.size, 0, none⟩)], .slice (some ⟨gb, 0, none⟩) q q, .slice A2 bs.length cb, .int .i64 bs.length, .int .i64 q, .int .i64 p,
            .func (.func 75) #[] #[.pointer (some ⟨W3.heap.size + 1, 0, none⟩), .pointer (some ⟨W3.heap.size, 0, none⟩)], ar.getD 0 undef, v27, v28, v29, v30, v31, v32, v33, v34, v35], defers := [] })
          (fun ar W' => W') (fun ar W' => bl_refl W') ?assignN ?bodyN ?doneN
        case assignN =>
          rintro lr2 j ar W' Kc ⟨gb2, rfl, hgb2⟩ hKc
          clear hgb2
          gi_wp2
          exact hKc
        case bodyN =>
          rintro lr2 j ar W5' W5 hj hI2 ⟨gb2, rfl, hgb2⟩ hgl2 hrl2 hW5 hca2 hsz2
          obtain ⟨j1, j2, j3, j4, j5, j6, j7, j8⟩ := hI2
          obtain ⟨_, _, c3, c4, r1, r2⟩ := HBX.out _ _ j1
          obtain ⟨l1, x1, _, _⟩ := idxC_facts hcs.length q hh hq5 i hi
          obtain ⟨l2, x2, _, _⟩ := idxC_facts bs.length p hb (by omega) j hj
          obtain ⟨v1, v2⟩ := hNo_at hcs bs l k M i j hkM (by rw [← EQ.out]; exact hi) (by rw [← EQ.out, ← EP.out]; exact hj)
          rw [← EQ.out, ← EP.out] at v1
          have hlN : hNo hcs bs l k i j < N := by rw [EN.out]; exact hNo_lt_full hcs bs l k ks i j is js hlt (by rw [← EQ.out]; exact hi) (by rw [← EQ.out, ← EP.out]; exact hj)
          have KH := Lib.hid (fun (W' : World) (hb' : Below W5.heap.size W5 W') => handFrom_any A c hcs gb q ((idxC hcs.length q).getD i []) A2 cb bs gb2 p ((idxC bs.length p).getD j []) W' (r1.below hb') (by omega) (j5.below hb') l1 x1 (r2.below hb') (by omega) (hgb2.below hb') l2 x2 (by have := EP.out; omega))
          have KY := Lib.hid (fun (W' : World) (hj' : J (hNo hcs bs l k i j) W') (hw : W.heap.size ≤ W'.heap.size) => yieldAt_mono (R' := fun e W'' => e = .returned (.bool true) ∧ J (hNo hcs bs l k i j + 1) W'' ∧ Con kHands W' W'') (HY.out (hNo hcs bs l k i j) #[aggI (pickL hcs ((idxC hcs.length q).getD i []) ++ pickL bs ((idxC bs.length p).getD j []))] W' (Nat.le_of_lt hlN) hj' ⟨by rw [v1], by rw [v1, List.length_append, pickL_len, pickL_len, l1, l2]; have := EP.out; omega⟩ hw) (fun e W'' h => ⟨by rw [h.1, decide_eq_true hlN], h.2.1, h.2.2.1 hlN⟩))
          have cy := (j2.cell 0 _ rfl).1
          have cn := (j4.cell 0 _ rfl).1
          have gy := j2.lt
          have gn := j4.lt
          have g2 : b2 < W5.heap.size := lt_of_cellH c3
          have g3 : b3 < W5.heap.size := lt_of_cellH c4
          generalize aggI (pickL hcs ((idxC hcs.length q).getD i []) ++ pickL bs ((idxC bs.length p).getD j [])) = hv at *
          have J1 := Lib.hid j1
          have J2 := Lib.hid j2
          have J3 := Lib.hid j3
          have J4 := Lib.hid j4
          have J5 := Lib.hid j5
          have J6 := Lib.hid j6
          have J7 := Lib.hid j7
          have J8 := Lib.hid j8
          have hmx : Tryz.prog.follows .mixedOrders = true := by kernel_rfl
          clear j1 j2 j3 j4 j5 j6 j7 j8 r1 r2 l1 x1 l2 x2 v1 v2 hgb2 hca2 hsz2 hrl2 Q0 hl4
          simp only [Array.getD_eq_getD_getElem?]
          gi_wp2
          change Code.wpIn (Fence.wide.inRound lr2) _ _ _ _ _ _
          refine wpIn_region_anyR lr2 rfl hmx (noDefer_spec (by kernel_rfl)) ?_
          refine wpAnyIn_S (S := fun W' => Below W5.heap.size W5 W') (last := 6) (m := 1) (k := 6) rfl (fun HC0 => ?_)
          have hS0 : Below W5.heap.size W5 { W5 with drawn := W5.drawn + 1 } := bl_drew (bl_refl W5)
          obtain ⟨W6, eW6⟩ : ∃ W6 : World, W6 = { W5 with drawn := W5.drawn + 1 } := ⟨_, rfl⟩
          have hz6 : W6.heap.size = W5.heap.size := by rw [eW6]
          rw [← eW6] at hS0 ⊢
          clear eW6
          refine wpAnyS_take (i := 0) (kw := 2) (v := .func (.yield lp) #[] #[]) rfl rfl (by kernel_rfl) (by kernel_rfl) (by kernel_rfl) (by kernel_rfl) (fun _ _ _ h => h) HC0 hS0 ⟨Or.inl ⟨by rfl, fun W' hs => ?_⟩, fun _ => rfl⟩ (fun HC1 => ?_)
          · have c := ((bcell hs).1 W.heap.size 0 (by have := gy; omega)).trans cy
            go_simp
          refine wpAnyS_take (i := 1) (kw := 2) (v := .slice A hcs.length c) rfl rfl (by kernel_rfl) (by kernel_rfl) (by kernel_rfl) (by kernel_rfl) (fun _ _ _ h => h) HC1 hS0 ⟨Or.inl ⟨by rfl, fun W' hs => ?_⟩, fun _ => rfl⟩ (fun HC2 => ?_)
          · have c := ((bcell hs).1 b2 0 (by have := g2; omega)).trans c3
            go_simp
          refine wpAnyS_take (i := 2) (kw := 2) (v := .slice (some ⟨gb, 0, none⟩) q q) rfl rfl (by kernel_rfl) (by kernel_rfl) (by kernel_rfl) (by kernel_rfl) (fun _ _ _ h => h) HC2 hS0 ⟨Or.inl ⟨by rfl, fun W' hs => ?_⟩, fun _ => rfl⟩ (fun HC3 => ?_)
          · have c := ((bcell hs).1 W0.heap.size 0 (by have := gn; omega)).trans cn
            go_simp
          refine wpAnyS_take (i := 3) (kw := 2) (v := .slice A2 bs.length cb) rfl rfl (by kernel_rfl) (by kernel_rfl) (by kernel_rfl) (by kernel_rfl) (fun _ _ _ h => h) HC3 hS0 ⟨Or.inl ⟨by rfl, fun W' hs => ?_⟩, fun _ => rfl⟩ (fun HC4 => ?_)
          · have c := ((bcell hs).1 b3 0 (by have := g3; omega)).trans c4
            go_simp
          refine wpAnyS_take (i := 4) (kw := 2) (v := .slice (some ⟨gb2, 0, none⟩) p p) rfl rfl (by kernel_rfl) (by kernel_rfl) (by kernel_rfl) (by kernel_rfl) (fun _ _ _ h => h) HC4 hS0 ⟨Or.inl ⟨by rfl, fun W' hs => ?_⟩, fun _ => rfl⟩ (fun HC5 => ?_)
          · go_simp
          refine wpAnyS_one HC5 (i := 5) (by kernel_rfl) rfl hS0 (fun Kx hKx => ?_)
          go_simp
          gi_wp2_with (refine ⟨trivial, ?_⟩; gi_at_call 52; refine (callsIn_wide.2 (KH.out _ hS0)).mono ?_; rintro e w7 ⟨rfl, hb7⟩)
          intro HC6
          have hS7 : Below W5.heap.size W5 w7 := hS0.trans (hb7.mono (by omega))
          obtain ⟨fy, ty, ay, by', hy, hR⟩ := KY.out w7 (HJ.out _ _ _ J1.out (itw_below hS7 (by omega))) (by have := hS7.size; omega)
          refine wpAnyS_pivot (by kernel_rfl) rfl hS7 (fun Kx hKx => ?_)
          go_simp
          refine (roundIn_wide hR).mono ?_
          rintro e w8 ⟨rfl, hJ8, hC8⟩
          refine hKx _ _ ?_
          clear hKx Kx hR hy
          refine wpAnyIn_lastOne (i := 7) (by kernel_rfl) (by kernel_rfl) rfl (fun Kx hKx => ?_)
          go_simp
          refine hKx _ _ ?_
          clear hKx Kx
          gi_wp2
          have C7 := con_below (K := kHands) hS7
          have C8 := C7.trans hC8
          refine ⟨⟨?_, con_blk C8 J2.out rfl, con_blk C8 J3.out rfl, con_blk C8 J4.out rfl, con_blk C8 J5.out rfl, con_blk C8 J6.out rfl, con_blk C8 J7.out rfl, J8.out.trans (C8.mono kHands_int)⟩, C8.mono kHands_int⟩
          rw [hNo_next]
          exact hJ8
        case doneN =>
          rintro W5 ⟨j1, j2, j3, j4, j5, j6, j7, j8⟩
          gi_wp2
          refine ⟨⟨?_, j2, j3, I4.out.con j8, con_blk j8 I5.out kInt_int, con_blk j8 I6.out kInt_int⟩, j8⟩
          rw [hNo_row, ← EQ.out, ← EP.out]
          exact j1
      case done =>
        intro D W3 hD hI hD3
        obtain ⟨i1, i2, i3, i4, i5, i6⟩ := hI
        have co := (i3.cell 0 _ rfl).1
        have hq5i : (q : Int) ≤ 5 := by omega
        have I1 := Lib.hid i1
        have I2 := Lib.hid i2
        have I4 := Lib.hid i4
        have I5 := Lib.hid i5
        have D3 := Lib.hid hD3
        have HDD := Lib.hid hD
        clear i1 i2 i3 i4 i5 i6 hD3 O0 hD
        gi_wp2
        have BA := bl_alloc (bl_refl W3) (.cells #[.int .i64 ((q : Int) + 1)] 3)
        refine Handed.intro (M - (k + 1)) (by omega) (hJ' _ _ _ ⟨k + 1, W3.heap.size, D :: Ds, _, _, _, _, _, _, _, _, _, _, _, _, _, _, _, _, _, _, _, _, _, _, _, _, _, _, _, _, _, _, rfl, by omega, rfl, Lib.hid ⟨?_, I2.out.below BA, ?_, I2.out.lt, ?_⟩⟩)
        · rw [← hNo_end, ← EQ.out]
          exact HJ.out _ _ _ I1.out (itw_below BA (Nat.le_of_lt I2.out.lt))
        · have e : ((l + (k + 1) : Nat) : Int) = (q : Int) + 1 := by have := EQ.out; omega
          rw [e]
          exact blk_new W3 _ _
        · refine MarksD.cons (n0 := W1.heap.size) (I4.out.below BA) LM.out (by have := HDD.out; omega) (by have := HDD.out; have := LY.out; omega) ?_
          exact (BA.block D (Array.getElem?_eq_some_iff.1 D3.out).1).trans D3.out
    · have ek : k = ks := by omega
      have EK := Lib.hid ek
      rw [← ek] at HIS HJS
      have hlt' : (q : Int) ≤ (m : Int) := by have := EQ.out; have := EM.out; omega
      have hq5 : q ≤ 5 := by have := EQ.out; have := EM.out; omega
      gi_wp2_with (refine ⟨trivial, ?_⟩; gi_at_call 51; refine (callsIn_wide.2 (choicesOfS_any (hcs.length : Int) (q : Int) W1)).mono ?_; rintro e w1 ⟨rfl, rfl⟩)
      have n1 := (blk_new W1 3 [.int .i64 (hcs.length : Int)]).below (bl_alloc (bl_refl _) (.cells #[.int .i64 (q : Int)] 3))
      have n2 := blk_new (W1.alloc (.cells #[.int .i64 (hcs.length : Int)] 3)) 3 [.int .i64 (q : Int)]
      have hz2 : ((W1.alloc (.cells #[.int .i64 (hcs.length : Int)] 3)).alloc (.cells #[.int .i64 (q : Int)] 3)).heap.size = W1.heap.size + 1 + 1 := by simp
      have hb2 := bl_alloc (bl_alloc (bl_refl W1) (.cells #[.int .i64 (hcs.length : Int)] 3)) (.cells #[.int .i64 (q : Int)] 3)
      rw [World.size_alloc] at n2
      simp only [List.toArray] at n1 n2
      obtain ⟨W2, eW2⟩ : ∃ W2, W2 = (W1.alloc (.cells #[.int .i64 (hcs.length : Int)] 3)).alloc (.cells #[.int .i64 (q : Int)] 3) := ⟨_, rfl⟩
      rw [← eW2] at n1 n2 hz2 hb2 ⊢
      clear eW2
      have LO := Lib.hid S3.out.lt
      have LY := Lib.hid S2.out.lt
      have LM := Lib.hid S5.out.lt
      have O0 : Hid (OSt W W1 lp q hcs.length o Ds (J (oX (fun i => hNo hcs bs l k i 0) is N 0)) W2) := Lib.hid ⟨by rw [oX_le (Nat.zero_le _), hNo_start]; exact HJ.out _ _ _ S1.out (itw_below hb2 (by have := LY.out; omega)), S2.out.below hb2, S3.out.below hb2, S5.out.below hb2, n1, n2⟩
      clear n1 n2 c1 c2 c3 c4 co hb2
      refine wpIn_rangeX (e0 := .ret) (j := .ret) rfl (by omega) (gf := 75) (lb := #[.pointer (some ⟨W1.heap.size + 1, 0, none⟩), .pointer (some ⟨W1.heap.size, 0, none⟩)]) rfl trivial (enters_of Tryz.func75 (by kernel_rfl) rfl)
        (.inl ⟨rfl, rfl⟩) (iterX_any (fn - 1) hcs.length q (W1.heap.size + 1) W1.heap.size is hh hq5 (by rw [EQ.out]; exact HIS.out) (fun i W' => OSt W W1 lp q hcs.length o Ds (J (oX (fun i => hNo hcs bs l k i 0) is N i)) W') W2 (by omega) (fun i W' h => ⟨(h.2.2.2.2.2.cell 0 _ rfl).1, (h.2.2.2.2.1.cell 0 _ rfl).1⟩))
        (fun i W' ar h => by obtain ⟨gb, rfl, _⟩ := h; rfl) (fun i A' B' ar h hc => h.keep hc)
        (fun i A' B' h hb' => h.itw HJ.out (by have := LY.out; omega) hz2 LM.out LO.out LY.out hb') O0.out
        (fun ar W' => { tmps := #[.func (.yield lp) #[] #[], .pointer (some ⟨b1, 0, none⟩), .pointer (some ⟨b2, 0, none⟩), .pointer (some ⟨b3, 0, none⟩), .pointer (some ⟨W.heap.size, 0, none⟩), .pointer (some ⟨o, 0, none⟩),
          .pointer (some ⟨W'.heap.size, 0, none⟩), v7, v8, v9, .int .i64 q, .pointer (some ⟨b1, 2, none⟩), .int .i64 m, .bool true, v14, v15, .slice A hcs.length c, .int .i64 hcs.length, .int .i64 q,
          .func (.func 75) #[] #[.pointer (some ⟨W1.heap.size + 1, 0, none⟩), .pointer (some ⟨W1.heap.size, 0, none⟩)], ar.getD 0 undef, v21, v22, v23, v24, v25, v26, v27, v28, v29, v30, v31, v32, v33, v34, v35], defers := [] })
        (fun ar W' W'' => W'' = W'.alloc (.cells #[ar.getD 0 undef] 86)) (fun i ar W' W'' _ hw hi hy e => by subst e; exact ⟨con_below (bl_alloc (bl_refl W') _), hi.itw HJ.out (by have := LY.out; omega) hz2 LM.out LO.out LY.out (itw_below (bl_alloc (bl_refl W') _) hw), hy.keep (cellsAs_below (bl_alloc (bl_refl W') _))⟩) ?assign ?body ?last ?done
      case assign =>
        rintro lr i ar W' Kc _ _ ⟨gb, rfl, hgb⟩ hKc
        clear hgb
        gi_wp2
        all_goals first | rfl | exact hKc _ rfl
      case body =>
        rintro lr i ar W0 _ W3 rfl hi1 hI ⟨gb, rfl, hgb⟩ hgl ⟨r0, hr0⟩ hW0 hca hsz
        obtain ⟨i1, i2, i3, i4, i5, i6⟩ := hI
        rw [oX_le (Nat.le_of_lt hi1)] at i1
        have hi : i < (idxC hcs.length q).length := Nat.lt_trans hi1 (by rw [EQ.out]; exact HIS.out)
        have n3 : Blk W3 W0.heap.size 86 [.slice (some ⟨gb, 0, none⟩) q q] := hca _ _ _ _ (blk_new W0 86 [.slice (some ⟨gb, 0, none⟩) q q])
        obtain ⟨_, _, _, c4, _, _⟩ := HBX.out _ _ i1
        have co := (i3.cell 0 _ rfl).1
        obtain ⟨p, ep⟩ : ∃ p, p = 5 - q := ⟨_, rfl⟩
        have EP := Lib.hid ep
        have hp : (5 : Int) - (q : Int) = (p : Int) := by omega
        have hp5 : (p : Int) ≤ 5 := by omega
        have I1 := Lib.hid i1
        have I2 := Lib.hid i2
        have I3 := Lib.hid i3
        have I4 := Lib.hid i4
        have I5 := Lib.hid i5
        have I6 := Lib.hid i6
        have N3 := Lib.hid n3
        have GB := Lib.hid hgb
        have HR0 := Lib.hid hr0
        clear i1 i2 i3 i4 i5 i6 n3 hgb hr0 hca hsz ep O0
        simp only [Array.getD_eq_getD_getElem?]
        gi_wp2_with (refine ⟨trivial, ?_⟩; gi_at_call 51; refine (callsIn_wide.2 (choicesOfS_any (bs.length : Int) (p : Int) W3)).mono ?_; rintro e w1 ⟨rfl, rfl⟩)
        have n1 := (blk_new W3 3 [.int .i64 (bs.length : Int)]).below (bl_alloc (bl_refl _) (.cells #[.int .i64 (p : Int)] 3))
        have n2 := blk_new (W3.alloc (.cells #[.int .i64 (bs.length : Int)] 3)) 3 [.int .i64 (p : Int)]
        have hz4 : ((W3.alloc (.cells #[.int .i64 (bs.length : Int)] 3)).alloc (.cells #[.int .i64 (p : Int)] 3)).heap.size = W3.heap.size + 1 + 1 := by simp
        have hb4 := bl_alloc (bl_alloc (bl_refl W3) (.cells #[.int .i64 (bs.length : Int)] 3)) (.cells #[.int .i64 (p : Int)] 3)
        rw [World.size_alloc] at n2
        simp only [List.toArray] at n1 n2
        obtain ⟨W4, eW4⟩ : ∃ W4, W4 = (W3.alloc (.cells #[.int .i64 (bs.length : Int)] 3)).alloc (.cells #[.int .i64 (p : Int)] 3) := ⟨_, rfl⟩
        rw [← eW4] at n1 n2 hz4 hb4 ⊢
        clear eW4
        have PO := Lib.hid I3.out.lt
        have PY := Lib.hid I2.out.lt
        have PN := Lib.hid N3.out.lt
        have PG := Lib.hid GB.out.lt
        have Q0 : Hid (ISt W W0 W3 lp q p bs.length o gb ((idxC hcs.length q).getD i []) (J (hNo hcs bs l k i 0)) W4) := Lib.hid ⟨HJ.out _ _ _ I1.out (itw_below hb4 (by have := PY.out; omega)), I2.out.below hb4, I3.out.below hb4, N3.out.below hb4, GB.out.below hb4, n1, n2, con_below hb4⟩
        have hl4 : W4.heap[lr]? = some (.loop r0) := (hb4.block lr (Array.getElem?_eq_some_iff.1 HR0.out).1).trans HR0.out
        clear n1 n2 c4 co hb4
        refine wpIn_rangeCN (l₀ := lr) rfl hl4 hf3 (gf := 75) (lb := #[.pointer (some ⟨W3.heap.size + 1, 0, none⟩), .pointer (some ⟨W3.heap.size, 0, none⟩)]) rfl trivial (enters_of Tryz.func75 (by kernel_rfl) rfl)
          ((iterC_any (fn - 1 - 1 - 1) bs.length p (W3.heap.size + 1) W3.heap.size hb (by omega) (fun j W' => ISt W W0 W3 lp q p bs.length o gb ((idxC hcs.length q).getD i []) (J (hNo hcs bs l k i j)) W') W4 (by omega) (fun j W' h => ⟨(h.2.2.2.2.2.2.1.cell 0 _ rfl).1, (h.2.2.2.2.2.1.cell 0 _ rfl).1⟩)).inRound lr)
          (fun j W' ar h => by obtain ⟨gb2, rfl, _⟩ := h; rfl) (fun j A' B' ar h hc => h.keep hc)
          (fun j A' B' h hb' => h.itw HJ.out hz4 PO.out PY.out PN.out PG.out hb') Q0.out
          (fun ar W' => { tmps := #[.func (.yield lp) #[] #[], .pointer (some ⟨b1, 0, none⟩), .pointer (some ⟨b2, 0, none⟩), .pointer (some ⟨b3, 0, none⟩), .pointer (some ⟨W.heap.size, 0, none⟩), .pointer (some ⟨o, 0, none⟩),
            .pointer (some ⟨W0.heap.size, 0, none⟩), ar.getD 0 undef, v8, v9, .int .i64 q, .pointer (some ⟨b1, 2, none⟩), .int .i64 m, .bool true, v14, v15, .slice A hcs.length c, .int .i64 hcs.length, .int .i64 q,
            .func (.func 75) #[] #[.pointer (some ⟨W1.heap.size + 1, 0, none⟩), .pointer (some ⟨W1.heap.size, 0, none⟩)], .slice (some ⟨gb, 0, none⟩) q q, .slice A2 bs.length cb, .int .i64 bs.length, .int .i64 q, .int .i64 p,
            .func (.func 75) #[] #[.pointer (some ⟨W3.heap.size + 1, 0, none⟩), .pointer (some ⟨W3.heap.size, 0, none⟩)], ar.getD 0 undef, v27, v28, v29, v30, v31, v32, v33, v34, v35], defers := [] })
          (fun ar W' => W') (fun ar W' => bl_refl W') ?assignN ?bodyN ?doneN
        case assignN =>
          rintro lr2 j ar W' Kc ⟨gb2, rfl, hgb2⟩ hKc
          clear hgb2
          gi_wp2
          exact hKc
        case bodyN =>
          rintro lr2 j ar W5' W5 hj hI2 ⟨gb2, rfl, hgb2⟩ hgl2 hrl2 hW5 hca2 hsz2
          obtain ⟨j1, j2, j3, j4, j5, j6, j7, j8⟩ := hI2
          obtain ⟨_, _, c3, c4, r1, r2⟩ := HBX.out _ _ j1
          obtain ⟨l1, x1, _, _⟩ := idxC_facts hcs.length q hh hq5 i hi
          obtain ⟨l2, x2, _, _⟩ := idxC_facts bs.length p hb (by omega) j hj
          obtain ⟨v1, v2⟩ := hNo_at hcs bs l k M i j hkM (by rw [← EQ.out]; exact hi) (by rw [← EQ.out, ← EP.out]; exact hj)
          rw [← EQ.out, ← EP.out] at v1
          have hlN : hNo hcs bs l k i j < N := by rw [EN.out, ← EK.out]; exact hNo_lt_row hcs bs l k i j is js hi1 (by rw [← EQ.out, ← EP.out]; exact hj)
          have KH := Lib.hid (fun (W' : World) (hb' : Below W5.heap.size W5 W') => handFrom_any A c hcs gb q ((idxC hcs.length q).getD i []) A2 cb bs gb2 p ((idxC bs.length p).getD j []) W' (r1.below hb') (by omega) (j5.below hb') l1 x1 (r2.below hb') (by omega) (hgb2.below hb') l2 x2 (by have := EP.out; omega))
          have KY := Lib.hid (fun (W' : World) (hj' : J (hNo hcs bs l k i j) W') (hw : W.heap.size ≤ W'.heap.size) => yieldAt_mono (R' := fun e W'' => e = .returned (.bool true) ∧ J (hNo hcs bs l k i j + 1) W'' ∧ Con kHands W' W'') (HY.out (hNo hcs bs l k i j) #[aggI (pickL hcs ((idxC hcs.length q).getD i []) ++ pickL bs ((idxC bs.length p).getD j []))] W' (Nat.le_of_lt hlN) hj' ⟨by rw [v1], by rw [v1, List.length_append, pickL_len, pickL_len, l1, l2]; have := EP.out; omega⟩ hw) (fun e W'' h => ⟨by rw [h.1, decide_eq_true hlN], h.2.1, h.2.2.1 hlN⟩))
          have cy := (j2.cell 0 _ rfl).1
          have cn := (j4.cell 0 _ rfl).1
          have gy := j2.lt
          have gn := j4.lt
          have g2 : b2 < W5.heap.size := lt_of_cellH c3
          have g3 : b3 < W5.heap.size := lt_of_cellH c4
          generalize aggI (pickL hcs ((idxC hcs.length q).getD i []) ++ pickL bs ((idxC bs.length p).getD j [])) = hv at *
          have J1 := Lib.hid j1
          have J2 := Lib.hid j2
          have J3 := Lib.hid j3
          have J4 := Lib.hid j4
          have J5 := Lib.hid j5
          have J6 := Lib.hid j6
          have J7 := Lib.hid j7
          have J8 := Lib.hid j8
          have hmx : Tryz.prog.follows .mixedOrders = true := by kernel_rfl
          clear j1 j2 j3 j4 j5 j6 j7 j8 r1 r2 l1 x1 l2 x2 v1 v2 hgb2 hca2 hsz2 hrl2 Q0 hl4
          simp only [Array.getD_eq_getD_getElem?]
          gi_wp2
          change Code.wpIn (Fence.wide.inRound lr2) _ _ _ _ _ _
          refine wpIn_region_anyR lr2 rfl hmx (noDefer_spec (by kernel_rfl)) ?_
          refine wpAnyIn_S (S := fun W' => Below W5.heap.size W5 W') (last := 6) (m := 1) (k := 6) rfl (fun HC0 => ?_)
          have hS0 : Below W5.heap.size W5 { W5 with drawn := W5.drawn + 1 } := bl_drew (bl_refl W5)
          obtain ⟨W6, eW6⟩ : ∃ W6 : World, W6 = { W5 with drawn := W5.drawn + 1 } := ⟨_, rfl⟩
          have hz6 : W6.heap.size = W5.heap.size := by rw [eW6]
          rw [← eW6] at hS0 ⊢
          clear eW6
          refine wpAnyS_take (i := 0) (kw := 2) (v := .func (.yield lp) #[] #[]) rfl rfl (by kernel_rfl) (by kernel_rfl) (by kernel_rfl) (by kernel_rfl) (fun _ _ _ h => h) HC0 hS0 ⟨Or.inl ⟨by rfl, fun W' hs => ?_⟩, fun _ => rfl⟩ (fun HC1 => ?_)
          · have c := ((bcell hs).1 W.heap.size 0 (by have := gy; omega)).trans cy
            go_simp
          refine wpAnyS_take (i := 1) (kw := 2) (v := .slice A hcs.length c) rfl rfl (by kernel_rfl) (by kernel_rfl) (by kernel_rfl) (by kernel_rfl) (fun _ _ _ h => h) HC1 hS0 ⟨Or.inl ⟨by rfl, fun W' hs => ?_⟩, fun _ => rfl⟩ (fun HC2 => ?_)
          · have c := ((bcell hs).1 b2 0 (by have := g2; omega)).trans c3
            go_simp
          refine wpAnyS_take (i := 2) (kw := 2) (v := .slice (some ⟨gb, 0, none⟩) q q) rfl rfl (by kernel_rfl) (by kernel_rfl) (by kernel_rfl) (by kernel_rfl) (fun _ _ _ h => h) HC2 hS0 ⟨Or.inl ⟨by rfl, fun W' hs => ?_⟩, fun _ => rfl⟩ (fun HC3 => ?_)
          · have c := ((bcell hs).1 W0.heap.size 0 (by have := gn; omega)).trans cn
            go_simp
          refine wpAnyS_take (i := 3) (kw := 2) (v := .slice A2 bs.length cb) rfl rfl (by kernel_rfl) (by kernel_rfl) (by kernel_rfl) (by kernel_rfl) (fun _ _ _ h => h) HC3 hS0 ⟨Or.inl ⟨by rfl, fun W' hs => ?_⟩, fun _ => rfl⟩ (fun HC4 => ?_)
          · have c := ((bcell hs).1 b3 0 (by have := g3; omega)).trans c4
            go_simp
          refine wpAnyS_take (i := 4) (kw := 2) (v := .slice (some ⟨gb2, 0, none⟩) p p) rfl rfl (by kernel_rfl) (by kernel_rfl) (by kernel_rfl) (by kernel_rfl) (fun _ _ _ h => h) HC4 hS0 ⟨Or.inl ⟨by rfl, fun W' hs => ?_⟩, fun _ => rfl⟩ (fun HC5 => ?_)
          · go_simp
          refine wpAnyS_one HC5 (i := 5) (by kernel_rfl) rfl hS0 (fun Kx hKx => ?_)
          go_simp
          gi_wp2_with (refine ⟨trivial, ?_⟩; gi_at_call 52; refine (callsIn_wide.2 (KH.out _ hS0)).mono ?_; rintro e w7 ⟨rfl, hb7⟩)
          intro HC6
          have hS7 : Below W5.heap.size W5 w7 := hS0.trans (hb7.mono (by omega))
          obtain ⟨fy, ty, ay, by', hy, hR⟩ := KY.out w7 (HJ.out _ _ _ J1.out (itw_below hS7 (by omega))) (by have := hS7.size; omega)
          refine wpAnyS_pivot (by kernel_rfl) rfl hS7 (fun Kx hKx => ?_)
          go_simp
          refine (roundIn_wide hR).mono ?_
          rintro e w8 ⟨rfl, hJ8, hC8⟩
          refine hKx _ _ ?_
          clear hKx Kx hR hy
          refine wpAnyIn_lastOne (i := 7) (by kernel_rfl) (by kernel_rfl) rfl (fun Kx hKx => ?_)
          go_simp
          refine hKx _ _ ?_
          clear hKx Kx
          gi_wp2
          have C7 := con_below (K := kHands) hS7
          have C8 := C7.trans hC8
          refine ⟨⟨?_, con_blk C8 J2.out rfl, con_blk C8 J3.out rfl, con_blk C8 J4.out rfl, con_blk C8 J5.out rfl, con_blk C8 J6.out rfl, con_blk C8 J7.out rfl, J8.out.trans (C8.mono kHands_int)⟩, C8.mono kHands_int⟩
          rw [hNo_next]
          exact hJ8
        case doneN =>
          rintro W5 ⟨j1, j2, j3, j4, j5, j6, j7, j8⟩
          gi_wp2
          refine ⟨⟨?_, j2, j3, I4.out.con j8, con_blk j8 I5.out kInt_int, con_blk j8 I6.out kInt_int⟩, j8⟩
          rw [oX_le (show i + 1 ≤ is by omega), hNo_row, ← EQ.out, ← EP.out]
          exact j1
      case last =>
        rintro lr ar W0 _ W3 rfl hI ⟨gb, rfl, hgb⟩ hgl ⟨r0, hr0⟩ hW0 hca hsz
        obtain ⟨i1, i2, i3, i4, i5, i6⟩ := hI
        obtain ⟨i, ei⟩ : ∃ i, i = is := ⟨_, rfl⟩
        rw [oX_le (Nat.le_refl is)] at i1
        rw [← ei] at i1 hgb
        have EI := Lib.hid ei
        have hi : i < (idxC hcs.length q).length := by rw [ei, EQ.out]; exact HIS.out
        clear ei
        have n3 : Blk W3 W0.heap.size 86 [.slice (some ⟨gb, 0, none⟩) q q] := hca _ _ _ _ (blk_new W0 86 [.slice (some ⟨gb, 0, none⟩) q q])
        obtain ⟨_, _, _, c4, _, _⟩ := HBX.out _ _ i1
        have co := (i3.cell 0 _ rfl).1
        obtain ⟨p, ep⟩ : ∃ p, p = 5 - q := ⟨_, rfl⟩
        have EP := Lib.hid ep
        have hp : (5 : Int) - (q : Int) = (p : Int) := by omega
        have hp5 : (p : Int) ≤ 5 := by omega
        have I1 := Lib.hid i1
        have I2 := Lib.hid i2
        have I3 := Lib.hid i3
        have I4 := Lib.hid i4
        have I5 := Lib.hid i5
        have I6 := Lib.hid i6
        have N3 := Lib.hid n3
        have GB := Lib.hid hgb
        have HR0 := Lib.hid hr0
        clear i1 i2 i3 i4 i5 i6 n3 hgb hr0 hca hsz ep O0
        simp only [Array.getD_eq_getD_getElem?]
        gi_wp2_with (refine ⟨trivial, ?_⟩; gi_at_call 51; refine (callsIn_wide.2 (choicesOfS_any (bs.length : Int) (p : Int) W3)).mono ?_; rintro e w1 ⟨rfl, rfl⟩)
        have n1 := (blk_new W3 3 [.int .i64 (bs.length : Int)]).below (bl_alloc (bl_refl _) (.cells #[.int .i64 (p : Int)] 3))
        have n2 := blk_new (W3.alloc (.cells #[.int .i64 (bs.length : Int)] 3)) 3 [.int .i64 (p : Int)]
        have hz4 : ((W3.alloc (.cells #[.int .i64 (bs.length : Int)] 3)).alloc (.cells #[.int .i64 (p : Int)] 3)).heap.size = W3.heap.size + 1 + 1 := by simp
        have hb4 := bl_alloc (bl_alloc (bl_refl W3) (.cells #[.int .i64 (bs.length : Int)] 3)) (.cells #[.int .i64 (p : Int)] 3)
        rw [World.size_alloc] at n2
        simp only [List.toArray] at n1 n2
        obtain ⟨W4, eW4⟩ : ∃ W4, W4 = (W3.alloc (.cells #[.int .i64 (bs.length : Int)] 3)).alloc (.cells #[.int .i64 (p : Int)] 3) := ⟨_, rfl⟩
        rw [← eW4] at n1 n2 hz4 hb4 ⊢
        clear eW4
        have PO := Lib.hid I3.out.lt
        have PY := Lib.hid I2.out.lt
        have PN := Lib.hid N3.out.lt
        have PG := Lib.hid GB.out.lt
        have Q0 : Hid (IStX W W0 W3 lp q p bs.length o gb ((idxC hcs.length q).getD i []) (J (hNo hcs bs l k i 0)) W4) := Lib.hid ⟨HJ.out _ _ _ I1.out (itw_below hb4 (by have := PY.out; omega)), I2.out.below hb4, I3.out.below hb4, N3.out.below hb4, GB.out.below hb4, n1, n2, (con_below hb4).x _⟩
        have hl4 : W4.heap[lr]? = some (.loop r0) := (hb4.block lr (Array.getElem?_eq_some_iff.1 HR0.out).1).trans HR0.out
        clear n1 n2 c4 co hb4
        refine wpIn_rangeXN (e0 := .ret) (j := .ret) (l₀ := lr) rfl hl4 hf3 (gf := 75) (lb := #[.pointer (some ⟨W3.heap.size + 1, 0, none⟩), .pointer (some ⟨W3.heap.size, 0, none⟩)]) rfl trivial (enters_of Tryz.func75 (by kernel_rfl) rfl)
          (.inl ⟨rfl, rfl⟩) ((iterX_any (fn - 1 - 1 - 1) bs.length p (W3.heap.size + 1) W3.heap.size js hb (by omega) (by rw [EP.out, EQ.out]; exact HJS.out) (fun j W' => IStX W W0 W3 lp q p bs.length o gb ((idxC hcs.length q).getD i []) (J (hNo hcs bs l k i j)) W') W4 (by omega) (fun j W' h => ⟨(h.2.2.2.2.2.2.1.cell 0 _ rfl).1, (h.2.2.2.2.2.1.cell 0 _ rfl).1⟩)).inRound lr)
          (fun j W' ar h => by obtain ⟨gb2, rfl, _⟩ := h; rfl) (fun j A' B' ar h hc => h.keep hc)
          (fun j A' B' h hb' => h.itw HJ.out hz4 PO.out PY.out PN.out PG.out hb') Q0.out
          (fun ar W' => { tmps := #[.func (.yield lp) #[] #[], .pointer (some ⟨b1, 0, none⟩), .pointer (some ⟨b2, 0, none⟩), .pointer (some ⟨b3, 0, none⟩), .pointer (some ⟨W.heap.size, 0, none⟩), .pointer (some ⟨o, 0, none⟩),
            .pointer (some ⟨W0.heap.size, 0, none⟩), ar.getD 0 undef, v8, v9, .int .i64 q, .pointer (some ⟨b1, 2, none⟩), .int .i64 m, .bool true, v14, v15, .slice A hcs.length c, .int .i64 hcs.length, .int .i64 q,
            .func (.func 75) #[] #[.pointer (some ⟨W1.heap.size + 1, 0, none⟩), .pointer (some ⟨W1.heap.size, 0, none⟩)], .slice (some ⟨gb, 0, none⟩) q q, .slice A2 bs.length cb, .int .i64 bs.length, .int .i64 q, .int .i64 p,
            .func (.func 75) #[] #[.pointer (some ⟨W3.heap.size + 1, 0, none⟩), .pointer (some ⟨W3.heap.size, 0, none⟩)], ar.getD 0 undef, v27, v28, v29, v30, v31, v32, v33, v34, v35], defers := [] })
          (fun ar W' W'' => W'' = W') (fun j ar W' W'' _ hw hi hy e => by subst e; exact ⟨Con.refl _ _, hi, hy⟩) ?assignN ?bodyN ?lastN ?doneN
        case assignN =>
          rintro lr2 j ar W' Kc _ _ ⟨gb2, rfl, hgb2⟩ hKc
          clear hgb2
          gi_wp2
          all_goals first | rfl | exact hKc _ rfl
        case bodyN =>
          rintro lr2 j ar W5' _ W5 rfl hj1 hI2 ⟨gb2, rfl, hgb2⟩ hgl2 hrl2 hW5 hca2 hsz2
          obtain ⟨j1, j2, j3, j4, j5, j6, j7, j8⟩ := hI2
          have hj : j < (idxC bs.length p).length := Nat.lt_trans hj1 (by rw [EP.out, EQ.out]; exact HJS.out)
          obtain ⟨_, _, c3, c4, r1, r2⟩ := HBX.out _ _ j1
          obtain ⟨l1, x1, _, _⟩ := idxC_facts hcs.length q hh hq5 i hi
          obtain ⟨l2, x2, _, _⟩ := idxC_facts bs.length p hb (by omega) j hj
          obtain ⟨v1, v2⟩ := hNo_at hcs bs l k M i j hkM (by rw [← EQ.out]; exact hi) (by rw [← EQ.out, ← EP.out]; exact hj)
          rw [← EQ.out, ← EP.out] at v1
          have hlN : hNo hcs bs l k i j < N := by rw [EN.out, ← EI.out]; rw [EK.out]; exact hNo_lt_at hcs bs l ks i j js hj1
          have KH := Lib.hid (fun (W' : World) (hb' : Below W5.heap.size W5 W') => handFrom_any A c hcs gb q ((idxC hcs.length q).getD i []) A2 cb bs gb2 p ((idxC bs.length p).getD j []) W' (r1.below hb') (by omega) (j5.below hb') l1 x1 (r2.below hb') (by omega) (hgb2.below hb') l2 x2 (by have := EP.out; omega))
          have KY := Lib.hid (fun (W' : World) (hj' : J (hNo hcs bs l k i j) W') (hw : W.heap.size ≤ W'.heap.size) => yieldAt_mono (R' := fun e W'' => e = .returned (.bool true) ∧ J (hNo hcs bs l k i j + 1) W'' ∧ Con kHands W' W'') (HY.out (hNo hcs bs l k i j) #[aggI (pickL hcs ((idxC hcs.length q).getD i []) ++ pickL bs ((idxC bs.length p).getD j []))] W' (Nat.le_of_lt hlN) hj' ⟨by rw [v1], by rw [v1, List.length_append, pickL_len, pickL_len, l1, l2]; have := EP.out; omega⟩ hw) (fun e W'' h => ⟨by rw [h.1, decide_eq_true hlN], h.2.1, h.2.2.1 hlN⟩))
          have cy := (j2.cell 0 _ rfl).1
          have cn := (j4.cell 0 _ rfl).1
          have gy := j2.lt
          have gn := j4.lt
          have g2 : b2 < W5.heap.size := lt_of_cellH c3
          have g3 : b3 < W5.heap.size := lt_of_cellH c4
          generalize aggI (pickL hcs ((idxC hcs.length q).getD i []) ++ pickL bs ((idxC bs.length p).getD j [])) = hv at *
          have J1 := Lib.hid j1
          have J2 := Lib.hid j2
          have J3 := Lib.hid j3
          have J4 := Lib.hid j4
          have J5 := Lib.hid j5
          have J6 := Lib.hid j6
          have J7 := Lib.hid j7
          have J8 := Lib.hid j8
          have hmx : Tryz.prog.follows .mixedOrders = true := by kernel_rfl
          clear j1 j2 j3 j4 j5 j6 j7 j8 r1 r2 l1 x1 l2 x2 v1 v2 hgb2 hca2 hsz2 hrl2 Q0 hl4
          simp only [Array.getD_eq_getD_getElem?]
          gi_wp2
          change Code.wpIn (Fence.wide.inRound lr2) _ _ _ _ _ _
          refine wpIn_region_anyR lr2 rfl hmx (noDefer_spec (by kernel_rfl)) ?_
          refine wpAnyIn_S (S := fun W' => Below W5.heap.size W5 W') (last := 6) (m := 1) (k := 6) rfl (fun HC0 => ?_)
          have hS0 : Below W5.heap.size W5 { W5 with drawn := W5.drawn + 1 } := bl_drew (bl_refl W5)
          obtain ⟨W6, eW6⟩ : ∃ W6 : World, W6 = { W5 with drawn := W5.drawn + 1 } := ⟨_, rfl⟩
          have hz6 : W6.heap.size = W5.heap.size := by rw [eW6]
          rw [← eW6] at hS0 ⊢
          clear eW6
          refine wpAnyS_take (i := 0) (kw := 2) (v := .func (.yield lp) #[] #[]) rfl rfl (by kernel_rfl) (by kernel_rfl) (by kernel_rfl) (by kernel_rfl) (fun _ _ _ h => h) HC0 hS0 ⟨Or.inl ⟨by rfl, fun W' hs => ?_⟩, fun _ => rfl⟩ (fun HC1 => ?_)
          · have c := ((bcell hs).1 W.heap.size 0 (by have := gy; omega)).trans cy
            go_simp
          refine wpAnyS_take (i := 1) (kw := 2) (v := .slice A hcs.length c) rfl rfl (by kernel_rfl) (by kernel_rfl) (by kernel_rfl) (by kernel_rfl) (fun _ _ _ h => h) HC1 hS0 ⟨Or.inl ⟨by rfl, fun W' hs => ?_⟩, fun _ => rfl⟩ (fun HC2 => ?_)
          · have c := ((bcell hs).1 b2 0 (by have := g2; omega)).trans c3
            go_simp
          refine wpAnyS_take (i := 2) (kw := 2) (v := .slice (some ⟨gb, 0, none⟩) q q) rfl rfl (by kernel_rfl) (by kernel_rfl) (by kernel_rfl) (by kernel_rfl) (fun _ _ _ h => h) HC2 hS0 ⟨Or.inl ⟨by rfl, fun W' hs => ?_⟩, fun _ => rfl⟩ (fun HC3 => ?_)
          · have c := ((bcell hs).1 W0.heap.size 0 (by have := gn; omega)).trans cn
            go_simp
          refine wpAnyS_take (i := 3) (kw := 2) (v := .slice A2 bs.length cb) rfl rfl (by kernel_rfl) (by kernel_rfl) (by kernel_rfl) (by kernel_rfl) (fun _ _ _ h => h) HC3 hS0 ⟨Or.inl ⟨by rfl, fun W' hs => ?_⟩, fun _ => rfl⟩ (fun HC4 => ?_)
          · have c := ((bcell hs).1 b3 0 (by have := g3; omega)).trans c4
            go_simp
          refine wpAnyS_take (i := 4) (kw := 2) (v := .slice (some ⟨gb2, 0, none⟩) p p) rfl rfl (by kernel_rfl) (by kernel_rfl) (by kernel_rfl) (by kernel_rfl) (fun _ _ _ h => h) HC4 hS0 ⟨Or.inl ⟨by rfl, fun W' hs => ?_⟩, fun _ => rfl⟩ (fun HC5 => ?_)
          · go_simp
          refine wpAnyS_one HC5 (i := 5) (by kernel_rfl) rfl hS0 (fun Kx hKx => ?_)
          go_simp
          gi_wp2_with (refine ⟨trivial, ?_⟩; gi_at_call 52; refine (callsIn_wide.2 (KH.out _ hS0)).mono ?_; rintro e w7 ⟨rfl, hb7⟩)
          intro HC6
          have hS7 : Below W5.heap.size W5 w7 := hS0.trans (hb7.mono (by omega))
          obtain ⟨fy, ty, ay, by', hy, hR⟩ := KY.out w7 (HJ.out _ _ _ J1.out (itw_below hS7 (by omega))) (by have := hS7.size; omega)
          refine wpAnyS_pivot (by kernel_rfl) rfl hS7 (fun Kx hKx => ?_)
          go_simp
          refine (roundIn_wide hR).mono ?_
          rintro e w8 ⟨rfl, hJ8, hC8⟩
          refine hKx _ _ ?_
          clear hKx Kx hR hy
          refine wpAnyIn_lastOne (i := 7) (by kernel_rfl) (by kernel_rfl) rfl (fun Kx hKx => ?_)
          go_simp
          refine hKx _ _ ?_
          clear hKx Kx
          gi_wp2
          have C7 := con_below (K := kHands) hS7
          have C8 := C7.trans hC8
          refine ⟨⟨?_, con_blk C8 J2.out rfl, con_blk C8 J3.out rfl, con_blk C8 J4.out rfl, con_blk C8 J5.out rfl, con_blk C8 J6.out rfl, con_blk C8 J7.out rfl, J8.out.trans ((C8.mono kHands_int).x _)⟩, C8.mono kHands_int⟩
          rw [hNo_next]
          exact hJ8
        case lastN =>
          rintro lr2 ar W5' _ W5 rfl hI2 ⟨gb2, rfl, hgb2⟩ hgl2 hrl2 hW5 hca2 hsz2
          obtain ⟨j1, j2, j3, j4, j5, j6, j7, j8⟩ := hI2
          obtain ⟨j, ej⟩ : ∃ j, j = js := ⟨_, rfl⟩
          rw [← ej] at j1 hgb2
          have EJ := Lib.hid ej
          have hj : j < (idxC bs.length p).length := by rw [ej, EP.out, EQ.out]; exact HJS.out
          clear ej
          obtain ⟨_, _, c3, c4, r1, r2⟩ := HBX.out _ _ j1
          obtain ⟨l1, x1, _, _⟩ := idxC_facts hcs.length q hh hq5 i hi
          obtain ⟨l2, x2, _, _⟩ := idxC_facts bs.length p hb (by omega) j hj
          obtain ⟨v1, v2⟩ := hNo_at hcs bs l k M i j hkM (by rw [← EQ.out]; exact hi) (by rw [← EQ.out, ← EP.out]; exact hj)
          rw [← EQ.out, ← EP.out] at v1
          have hlN : hNo hcs bs l k i j = N := by rw [EN.out, EI.out, EJ.out, EK.out]
          have KH := Lib.hid (fun (W' : World) (hb' : Below W5.heap.size W5 W') => handFrom_any A c hcs gb q ((idxC hcs.length q).getD i []) A2 cb bs gb2 p ((idxC bs.length p).getD j []) W' (r1.below hb') (by omega) (j5.below hb') l1 x1 (r2.below hb') (by omega) (hgb2.below hb') l2 x2 (by have := EP.out; omega))
          have KY := Lib.hid (fun (W' : World) (hj' : J (hNo hcs bs l k i j) W') (hw : W.heap.size ≤ W'.heap.size) => yieldAt_mono (R' := fun e W'' => e = .returned (.bool false) ∧ J (hNo hcs bs l k i j + 1) W'' ∧ ConX kHands (lp + 1) W' W'') (HY.out (hNo hcs bs l k i j) #[aggI (pickL hcs ((idxC hcs.length q).getD i []) ++ pickL bs ((idxC bs.length p).getD j []))] W' (Nat.le_of_eq hlN) hj' ⟨by rw [v1], by rw [v1, List.length_append, pickL_len, pickL_len, l1, l2]; have := EP.out; omega⟩ hw) (fun e W'' h => ⟨by rw [h.1, decide_eq_false (by omega)], h.2.1, h.2.2.2⟩))
          have cy := (j2.cell 0 _ rfl).1
          have cn := (j4.cell 0 _ rfl).1
          have gy := j2.lt
          have gn := j4.lt
          have g2 : b2 < W5.heap.size := lt_of_cellH c3
          have g3 : b3 < W5.heap.size := lt_of_cellH c4
          generalize aggI (pickL hcs ((idxC hcs.length q).getD i []) ++ pickL bs ((idxC bs.length p).getD j [])) = hv at *
          have J1 := Lib.hid j1
          have J2 := Lib.hid j2
          have J3 := Lib.hid j3
          have J4 := Lib.hid j4
          have J5 := Lib.hid j5
          have J6 := Lib.hid j6
          have J7 := Lib.hid j7
          have J8 := Lib.hid j8
          have hmx : Tryz.prog.follows .mixedOrders = true := by kernel_rfl
          clear j1 j2 j3 j4 j5 j6 j7 j8 r1 r2 l1 x1 l2 x2 v1 v2 hgb2 hca2 hsz2 hrl2 Q0 hl4
          simp only [Array.getD_eq_getD_getElem?]
          gi_wp2
          change Code.wpIn (Fence.wide.inRound lr2) _ _ _ _ _ _
          refine wpIn_region_anyR lr2 rfl hmx (noDefer_spec (by kernel_rfl)) ?_
          refine wpAnyIn_S (S := fun W' => Below W5.heap.size W5 W') (last := 6) (m := 1) (k := 6) rfl (fun HC0 => ?_)
          have hS0 : Below W5.heap.size W5 { W5 with drawn := W5.drawn + 1 } := bl_drew (bl_refl W5)
          obtain ⟨W6, eW6⟩ : ∃ W6 : World, W6 = { W5 with drawn := W5.drawn + 1 } := ⟨_, rfl⟩
          have hz6 : W6.heap.size = W5.heap.size := by rw [eW6]
          rw [← eW6] at hS0 ⊢
          clear eW6
          refine wpAnyS_take (i := 0) (kw := 2) (v := .func (.yield lp) #[] #[]) rfl rfl (by kernel_rfl) (by kernel_rfl) (by kernel_rfl) (by kernel_rfl) (fun _ _ _ h => h) HC0 hS0 ⟨Or.inl ⟨by rfl, fun W' hs => ?_⟩, fun _ => rfl⟩ (fun HC1 => ?_)
          · have c := ((bcell hs).1 W.heap.size 0 (by have := gy; omega)).trans cy
            go_simp
          refine wpAnyS_take (i := 1) (kw := 2) (v := .slice A hcs.length c) rfl rfl (by kernel_rfl) (by kernel_rfl) (by kernel_rfl) (by kernel_rfl) (fun _ _ _ h => h) HC1 hS0 ⟨Or.inl ⟨by rfl, fun W' hs => ?_⟩, fun _ => rfl⟩ (fun HC2 => ?_)
          · have c := ((bcell hs).1 b2 0 (by have := g2; omega)).trans c3
            go_simp
          refine wpAnyS_take (i := 2) (kw := 2) (v := .slice (some ⟨gb, 0, none⟩) q q) rfl rfl (by kernel_rfl) (by kernel_rfl) (by kernel_rfl) (by kernel_rfl) (fun _ _ _ h => h) HC2 hS0 ⟨Or.inl ⟨by rfl, fun W' hs => ?_⟩, fun _ => rfl⟩ (fun HC3 => ?_)
          · have c := ((bcell hs).1 W0.heap.size 0 (by have := gn; omega)).trans cn
            go_simp
          refine wpAnyS_take (i := 3) (kw := 2) (v := .slice A2 bs.length cb) rfl rfl (by kernel_rfl) (by kernel_rfl) (by kernel_rfl) (by kernel_rfl) (fun _ _ _ h => h) HC3 hS0 ⟨Or.inl ⟨by rfl, fun W' hs => ?_⟩, fun _ => rfl⟩ (fun HC4 => ?_)
          · have c := ((bcell hs).1 b3 0 (by have := g3; omega)).trans c4
            go_simp
          refine wpAnyS_take (i := 4) (kw := 2) (v := .slice (some ⟨gb2, 0, none⟩) p p) rfl rfl (by kernel_rfl) (by kernel_rfl) (by kernel_rfl) (by kernel_rfl) (fun _ _ _ h => h) HC4 hS0 ⟨Or.inl ⟨by rfl, fun W' hs => ?_⟩, fun _ => rfl⟩ (fun HC5 => ?_)
          · go_simp
          refine wpAnyS_one HC5 (i := 5) (by kernel_rfl) rfl hS0 (fun Kx hKx => ?_)
          go_simp
          gi_wp2_with (refine ⟨trivial, ?_⟩; gi_at_call 52; refine (callsIn_wide.2 (KH.out _ hS0)).mono ?_; rintro e w7 ⟨rfl, hb7⟩)
          intro HC6
          have hS7 : Below W5.heap.size W5 w7 := hS0.trans (hb7.mono (by omega))
          obtain ⟨fy, ty, ay, by', hy, hR⟩ := KY.out w7 (HJ.out _ _ _ J1.out (itw_below hS7 (by omega))) (by have := hS7.size; omega)
          refine wpAnyS_pivot (by kernel_rfl) rfl hS7 (fun Kx hKx => ?_)
          go_simp
          refine (roundIn_wide hR).mono ?_
          rintro e w8 ⟨rfl, hJ8, hC8⟩
          refine hKx _ _ ?_
          clear hKx Kx hR hy
          refine wpAnyIn_lastOne (i := 7) (by kernel_rfl) (by kernel_rfl) rfl (fun Kx hKx => ?_)
          go_simp
          refine hKx _ _ ?_
          clear hKx Kx
          gi_wp2
          have C7 := con_below (K := kHands) hS7
          have C8 := (C7.x (lp + 1)).trans hC8
          refine ⟨rfl, ⟨?_, conX_blk C8 J2.out rfl, conX_blk C8 J3.out rfl, conX_blk C8 J4.out rfl, conX_blk C8 J5.out rfl, conX_blk C8 J6.out rfl, conX_blk C8 J7.out rfl, J8.out.trans (C8.mono kHands_int (Nat.le_refl _))⟩, C8.mono kHands_int (by have := LW.out; have := PY.out; omega)⟩
          rw [← EJ.out, hNo_next]
          exact hJ8
        case doneN =>
          rintro W5 ⟨j1, j2, j3, j4, j5, j6, j7, j8⟩
          gi_wp2
          refine ⟨rfl, ⟨?_, j2, j3, I4.out.keep (fun D _ h => conX_mark j8 h), conX_blk j8 I5.out kInt_int, conX_blk j8 I6.out kInt_int⟩, j8.mono (fun _ h => h) (by have := LW.out; have := LY.out; omega)⟩
          rw [oX_gt]
          have e : hNo hcs bs l k i (js + 1) = N + 1 := by rw [hNo_next, EN.out, EI.out, EK.out]
          rw [← e]
          exact j1
      case done =>
        intro D W3 hD hI hD3
        obtain ⟨i1, i2, i3, i4, i5, i6⟩ := hI
        rw [oX_gt] at i1
        gi_wp2
        exact leaves_marks (K := kHands) (fun W' => results_none rfl _ _ _) (D :: Ds) W3 (MarksD.cons (n0 := W1.heap.size) i4 LM.out (by omega) (by have := LY.out; omega) hD3) (fun W' hW' => ⟨⟨_, rfl⟩, HJ.out _ _ _ i1 hW'⟩)
end Go.Proofs.YtlpkaflmhdgmmaaGreatDoor
