/-
  A range over a function that is left in its M-th round, by a return or by a break: the iterator's debt, and the caller's walk, outside of a round and within one.
-/
import Derived.Test.YtimdgaclmejjhaaRangeC
namespace Go.Proofs.Ytimdgaclmejjhaa
open Go.RowKit
set_option linter.unusedVariables false

variable {F : Fence} {n : Nat} {P : Program}

/-- How a round that leaves the loop ends, and the jump that it leaves behind. -/
def JumpOk (e0 : Exit) (j : Code) : Prop := (e0 = .ret ∧ j = .ret) ∨ ∃ id, e0 = .exit id ∧ j = .exit id
/-- A body that ends in one way only. -/
def endsX (e0 : Exit) (R : World → Prop) : Exit → Act → World → Prop := fun e _ W => e = e0 ∧ R W
/-- As Con, but for the records of loops below b. -/
def ConX (K : TypeId → Bool) (b : Nat) (A B : World) : Prop := A.heap.size ≤ B.heap.size ∧ ∀ (k : Nat) (o : Obj), A.heap[k]? = some o → keptBy K o → (b ≤ k ∨ ∀ r, o ≠ .loop r) → B.heap[k]? = some o
theorem Con.x {K : TypeId → Bool} {A B : World} (h : Con K A B) (b : Nat) : ConX K b A B := ⟨h.1, fun k o hk ho _ => h.2 k o hk ho⟩
theorem ConX.trans {K : TypeId → Bool} {b : Nat} {A B C : World} (h : ConX K b A B) (k : ConX K b B C) : ConX K b A C := ⟨Nat.le_trans h.1 k.1, fun i o hi ho hl => k.2 i o (h.2 i o hi ho hl) ho hl⟩
theorem ConX.mono {K K' : TypeId → Bool} {b b' : Nat} {A B : World} (h : ConX K' b A B) (hK : ∀ t, K t = true → K' t = true) (hb : b ≤ b') : ConX K b' A B := ⟨h.1, fun i o hi ho hl => h.2 i o hi (by cases o <;> first | exact hK _ ho | trivial) (hl.imp (fun q => Nat.le_trans hb q) id)⟩
theorem conX_blk {K : TypeId → Bool} {b : Nat} {A B : World} {g : Nat} {t : TypeId} {vs : List Value} (h : ConX K b A B) (hb : Blk A g t vs) (hK : K t = true) : Blk B g t vs := h.2 g _ hb hK (.inr (fun r e => by cases e))
theorem conX_mark {K : TypeId → Bool} {b : Nat} {A B : World} {g : Nat} (h : ConX K b A B) (hb : A.heap[g]? = some (Obj.deferred (some []))) : B.heap[g]? = some (Obj.deferred (some [])) := h.2 g _ hb trivial (.inr (fun r e => by cases e))
/-- What an iterator owes: it calls yield for the values 0 to M, and returns when yield has answered false at M. -/
def IterX (F : Fence) (n : Nat) (P : Program) (gf : Nat) (lb : Array Value) (M : Nat) (Y : Nat → World → Array Value → Prop) (K : TypeId → Bool) (I : Nat → World → Prop) (w : World) : Prop :=
  ∀ (l : Nat) (J : Nat → World → Prop) (W : World), Below w.heap.size w W → l < W.heap.size → (∀ i A B, J i A → ItW K W.heap.size A B → J i B) → (∀ i A, J i A → I i A) →
    (∀ i ar W1, i ≤ M → J i W1 → Y i W1 ar → W.heap.size ≤ W1.heap.size → YieldAt F (n - 1) P l ar W1 fun e W' => e = .returned (.bool (decide (i < M))) ∧ J (i + 1) W' ∧ (i < M → Con K W1 W') ∧ ConX K (l + 1) W1 W') → J 0 W →
    CallsIn F n P gf (#[.func (.yield l) #[] #[]] ++ lb) W fun e W' => (∃ v, e = .returned v) ∧ J (M + 1) W'
theorem IterX.inRound {gf : Nat} {lb : Array Value} {M : Nat} {Y : Nat → World → Array Value → Prop} {K : TypeId → Bool} {I : Nat → World → Prop} {w : World} (l : Nat) (h : IterX F n P gf lb M Y K I w) : IterX (F.inRound l) n P gf lb M Y K I w := h

theorem yieldAt_mono {l : Nat} {ar : Array Value} {W : World} {m : Nat} {R R' : Ending → World → Prop} (h : YieldAt F m P l ar W R) (hr : ∀ e W', R e W' → R' e W') : YieldAt F m P l ar W R' := by
  obtain ⟨fn, tmps, assign, body, hy, hR⟩ := h
  exact ⟨fn, tmps, assign, body, hy, hR.mono hr⟩
/-- One round that goes on, where the assignment may write. -/
theorem round_ofC {l : Nat} {rec : LoopState → Option Code → Loop} {tmps0 : Array Value} {fn : FuncId} {ps : Array Tmp} {assign body : Code} {K : TypeId → Bool} {i : Nat} {ar : Array Value} {W : World} {RA : World → Prop} {a₁ : Act} {I : Nat → World → Prop} {D : Nat} {m : Nat}
    (hrec : rec = fun st pe => { state := st, pending := pe, fn := fn, tmps := tmps0, params := ps, assign := assign, body := body, defers := D }) (hfn : F.fn fn) (hps : ar.size = ps.size)
    (hl : W.heap[l]? = some (.loop (rec .ready none))) (hAR : ∀ AW, RA AW → Con K W AW)
    (hassign : ∀ Kc : Act → World → Prop, (∀ AW, RA AW → Kc a₁ AW) → assign.wpIn (F.inRound l) m P (Exit.then Kc (fun _ _ _ => False)) { tmps := (ps.zip ar).foldl (fun t (p, v) => t.setIfInBounds p v) tmps0, defers := [] } W)
    (hbody : ∀ AW, RA AW → body.wpIn (F.inRound l) m P (endsIn fun W' => I (i + 1) W' ∧ Con K (AW.putObj l (.loop (rec .busy none))) W') a₁ (AW.putObj l (.loop (rec .busy none))))
    (R : World → Prop) (hR : ∀ AW W', RA AW → I (i + 1) W' → W'.heap[l]? = some (.loop (rec .busy none)) → Con K (AW.putObj l (.loop (rec .busy none))) W' → R (W'.putObj l (.loop (rec .ready none)))) :
    YieldAt F m P l ar W fun e W' => e = .returned (.bool true) ∧ R W' ∧ Con K W W' := by
  have hlt : l < W.heap.size := (Array.getElem?_eq_some_iff.1 hl).1
  have hy := run_yield (P := P) (args := ar) hl (by rw [hrec]; exact hps)
  rw [hrec] at hy
  refine ⟨fn, _, assign, body, hy, roundIn_of_wpIn hfn (hassign _ fun AW hRA => ?_)⟩
  have hA := hAR AW hRA
  have hlA : AW.heap[l]? = some (.loop (rec .ready none)) := hA.2 l _ hl trivial
  have hltA : l < AW.heap.size := (Array.getElem?_eq_some_iff.1 hlA).1
  refine ⟨_, run_beginRound hlA (by rw [hrec]), ?_⟩
  have hl2 : (AW.putObj l (.loop (rec .busy none))).heap[l]? = some (.loop (rec .busy none)) := World.putObj_heap_same hltA
  have e2 : ({ rec .ready none with state := .busy } : Loop) = rec .busy none := by rw [hrec]
  rw [e2]
  refine wpIn_mono (hbody AW hRA) ?_
  rintro e a3 W3 hp
  cases e with
  | normal =>
    obtain ⟨hi3, hk3⟩ := hp
    have hl3 := hk3.2 l _ hl2 trivial
    have hlt3 : l < W3.heap.size := (Array.getElem?_eq_some_iff.1 hl3).1
    have hend := run_endRound (P := P) none hl3
    have e3 : ({ rec .busy none with state := if (none : Option Code).isNone then .ready else .done, pending := none } : Loop) = rec .ready none := by rw [hrec]; rfl
    rw [e3] at hend
    refine ⟨_, _, hend, rfl, hR AW W3 hRA hi3 hl3 hk3, ?_, ?_⟩
    · have h1 := hA.1
      have h2 := hk3.1
      have h4 := (grownBy_putObj' AW l (.loop (rec .busy none))).size
      have h5 := (grownBy_putObj' W3 l (.loop (rec .ready none))).size
      omega
    · intro k o hk ho
      by_cases e : k = l
      · subst e
        rw [hl] at hk
        cases hk
        exact World.putObj_heap_same hlt3
      · have k1 := hA.2 k o hk ho
        have k2 : (AW.putObj l (.loop (rec .busy none))).heap[k]? = some o := (World.putObj_heap_other e).trans k1
        exact (World.putObj_heap_other e).trans (hk3.2 k o k2 ho)
  | ret => exact hp.elim
  | exit id => exact hp.elim
  | goto t => exact hp.elim
  | panic ch => exact hp.elim
  | outgrown => exact hp.elim

/-- The last round, as the iterator sees it. -/
theorem round_last {l : Nat} {rec : LoopState → Option Code → Loop} {tmps0 : Array Value} {fn : FuncId} {ps : Array Tmp} {assign body : Code} {K : TypeId → Bool} {i : Nat} {ar : Array Value} {W : World} {RA : World → Prop} {a₁ : Act} {I : Nat → World → Prop} {D : Nat} {m n0 : Nat} {e0 : Exit} {j : Code} (hj : JumpOk e0 j)
    (hrec : rec = fun st pe => { state := st, pending := pe, fn := fn, tmps := tmps0, params := ps, assign := assign, body := body, defers := D }) (hfn : F.fn fn) (hps : ar.size = ps.size)
    (hl : W.heap[l]? = some (.loop (rec .ready none))) (hAR : ∀ AW, RA AW → Con K W AW) (hn0 : n0 ≤ l)
    (hassign : ∀ Kc : Act → World → Prop, (∀ AW, RA AW → Kc a₁ AW) → assign.wpIn (F.inRound l) m P (Exit.then Kc (fun _ _ _ => False)) { tmps := (ps.zip ar).foldl (fun t (p, v) => t.setIfInBounds p v) tmps0, defers := [] } W)
    (hbody : ∀ AW, RA AW → body.wpIn (F.inRound l) m P (endsX e0 fun W' => I (i + 1) W' ∧ ConX K n0 (AW.putObj l (.loop (rec .busy none))) W') a₁ (AW.putObj l (.loop (rec .busy none))))
    (R : World → Prop) (hR : ∀ AW W', RA AW → I (i + 1) W' → W'.heap[l]? = some (.loop (rec .busy none)) → ConX K n0 (AW.putObj l (.loop (rec .busy none))) W' → R (W'.putObj l (.loop (rec .done (some j))))) :
    YieldAt F m P l ar W fun e W' => e = .returned (.bool false) ∧ R W' ∧ ConX K (l + 1) W W' := by
  have hlt : l < W.heap.size := (Array.getElem?_eq_some_iff.1 hl).1
  have hy := run_yield (P := P) (args := ar) hl (by rw [hrec]; exact hps)
  rw [hrec] at hy
  refine ⟨fn, _, assign, body, hy, roundIn_of_wpIn hfn (hassign _ fun AW hRA => ?_)⟩
  have hA := hAR AW hRA
  have hlA : AW.heap[l]? = some (.loop (rec .ready none)) := hA.2 l _ hl trivial
  have hltA : l < AW.heap.size := (Array.getElem?_eq_some_iff.1 hlA).1
  refine ⟨_, run_beginRound hlA (by rw [hrec]), ?_⟩
  have hl2 : (AW.putObj l (.loop (rec .busy none))).heap[l]? = some (.loop (rec .busy none)) := World.putObj_heap_same hltA
  have e2 : ({ rec .ready none with state := .busy } : Loop) = rec .busy none := by rw [hrec]
  rw [e2]
  refine wpIn_mono (hbody AW hRA) ?_
  rintro e a3 W3 ⟨rfl, hi3, hk3⟩
  have hl3 := hk3.2 l _ hl2 trivial (.inl hn0)
  have hlt3 : l < W3.heap.size := (Array.getElem?_eq_some_iff.1 hl3).1
  have hend := run_endRound (P := P) (some j) hl3
  have e3 : ({ rec .busy none with state := if (some j : Option Code).isNone then .ready else .done, pending := some j } : Loop) = rec .done (some j) := by rw [hrec]; rfl
  rw [e3] at hend
  have hc : ConX K (l + 1) W (W3.putObj l (.loop (rec .done (some j)))) := by
    refine ⟨?_, ?_⟩
    · have h1 := hA.1
      have h2 := hk3.1
      have h4 := (grownBy_putObj' AW l (.loop (rec .busy none))).size
      have h5 := (grownBy_putObj' W3 l (.loop (rec .done (some j)))).size
      omega
    · intro k o hk ho hkl
      by_cases e : k = l
      · subst e
        rw [hl] at hk
        cases hk
        rcases hkl with h | h
        · exact absurd h (by omega)
        · exact absurd rfl (h _)
      · have k1 := hA.2 k o hk ho
        have k2 : (AW.putObj l (.loop (rec .busy none))).heap[k]? = some o := (World.putObj_heap_other e).trans k1
        exact (World.putObj_heap_other e).trans (hk3.2 k o k2 ho (hkl.imp (fun q => by omega) id))
  rcases hj with ⟨rfl, rfl⟩ | ⟨id, rfl, rfl⟩
  · exact ⟨_, _, hend, rfl, hR AW W3 hRA hi3 hl3 hk3, hc⟩
  · exact ⟨_, _, hend, rfl, hR AW W3 hRA hi3 hl3 hk3, hc⟩
theorem wpIn_rangeX {g : Operand} {ps : Array Tmp} {assign body : Code} {Q : Exit → Act → World → Prop} {a : Act} {w : World}
    (hro : F.round = none) (h1 : 1 ≤ n) {gf : Nat} {lb : Array Value} (hg : a.eval g = .func (.func gf) #[] lb) (hFg : F.fn gf) (eg : ∀ args w, (callFunc gf args).run P w = .ok (.enter gf args) w)
    {M : Nat} {e0 : Exit} {j : Code} (hj : JumpOk e0 j) {Y : Nat → World → Array Value → Prop} {K : TypeId → Bool} {I : Nat → World → Prop} (hiter : IterX F (n - 1) P gf lb M Y K I w)
    (hps : ∀ i W ar, Y i W ar → ar.size = ps.size) (hY : ∀ i A B ar, Y i A ar → CellsAs A B → Y i B ar)
    (hI : ∀ i A B, I i A → ItW K w.heap.size A B → I i B) (h0 : I 0 w) (a₁ : Array Value → World → Act) (RA : Array Value → World → World → Prop) (hAW : ∀ i ar W W', i ≤ M → w.heap.size ≤ W.heap.size → I i W → Y i W ar → RA ar W W' → Con K W W' ∧ I i W' ∧ Y i W' ar)
    (hassign : ∀ (l i : Nat) (ar : Array Value) (W : World) (Kc : Act → World → Prop), w.heap.size ≤ W.heap.size → I i W → Y i W ar → (∀ W', RA ar W W' → Kc (a₁ ar W) W') →
      assign.wpIn (F.inRound l) (n - 1 - 1) P (Exit.then Kc (fun _ _ _ => False)) { tmps := (ps.zip ar).foldl (fun t (p, v) => t.setIfInBounds p v) a.tmps, defers := [] } W)
    (hbody : ∀ (l i : Nat) (ar : Array Value) (W0 W1 W : World), RA ar W0 W1 → i < M → I i W → Y i W ar → w.heap.size ≤ l → (∃ r, W.heap[l]? = some (.loop r)) → w.heap.size ≤ W0.heap.size → CellsAs W1 W → W1.heap.size = W.heap.size → body.wpIn (F.inRound l) (n - 1 - 1) P (endsIn fun W' => I (i + 1) W' ∧ Con K W W') (a₁ ar W0) W)
    (hlast : ∀ (l : Nat) (ar : Array Value) (W0 W1 W : World), RA ar W0 W1 → I M W → Y M W ar → w.heap.size ≤ l → (∃ r, W.heap[l]? = some (.loop r)) → w.heap.size ≤ W0.heap.size → CellsAs W1 W → W1.heap.size = W.heap.size → body.wpIn (F.inRound l) (n - 1 - 1) P (endsX e0 fun W' => I (M + 1) W' ∧ ConX K w.heap.size W W') (a₁ ar W0) W)
    (hdone : ∀ (D : Nat) (W : World), w.heap.size ≤ D → I (M + 1) W → W.heap[D]? = some (.deferred (some [])) → j.wpIn F n P Q { a with defers := { target := .collected D, args := #[] } :: a.defers } W) :
    (Code.rangeFunc g ps assign body).wpIn F n P Q a w := by
  refine wpIn_rangeFunc ?_
  intro fn hfn
  rw [hro]
  obtain ⟨rec, hrec⟩ : ∃ rec : LoopState → Option Code → Loop, rec = fun st pe => { state := st, pending := pe, fn, tmps := a.tmps, params := ps, assign, body, defers := w.heap.size } := ⟨_, rfl⟩
  obtain ⟨W1, hW1⟩ : ∃ W1, (w.alloc (.deferred (some []))).alloc (.loop (rec .ready none)) = W1 := ⟨_, rfl⟩
  have hsz : W1.heap.size = w.heap.size + 1 + 1 := by rw [← hW1]; simp
  have hL1 : W1.heap[w.heap.size + 1]? = some (.loop (rec .ready none)) := by
    rw [← hW1]; have := World.alloc_heap_new (w.alloc (.deferred (some []))) (.loop (rec .ready none)); rwa [World.size_alloc] at this
  have hK1 : W1.heap[w.heap.size]? = some (.deferred (some [])) := by
    rw [← hW1]; exact (Below.heap_alloc _ _ _ (by simp)).trans (World.alloc_heap_new w _)
  have hb1 : Below w.heap.size w W1 := by
    rw [← hW1]; exact (((Below.refl _ w).alloc (Nat.le_refl _) _).alloc (by simp) _)
  refine ⟨w.heap.size + 1, [{ target := .collected w.heap.size, args := #[] }], W1, { target := .fn (.func gf) lb, args := #[.func (.yield (w.heap.size + 1)) #[] #[]] }, W1, gf,
    #[.func (.yield (w.heap.size + 1)) #[] #[]] ++ lb, W1, ?_, ?_, ?_, ?_, fun _ => h1, ?_⟩
  · rw [← hW1, hrec]; exact run_enterLoop_outer _ _ _ _ _
  · simp only [resolve, hg]
    simp [go_sem]
  · intro f' hf'; simp [Target.leads] at hf'; subst hf'; exact hFg
  · simp [invoke, go_sem, eg]
  · refine (hiter (w.heap.size + 1) (fun i W => I i W ∧ W.heap[w.heap.size + 1]? = some (.loop (if i ≤ M then rec .ready none else rec .done (some j))) ∧ W.heap[w.heap.size]? = some (.deferred (some []))) W1 hb1 (by rw [hsz]; omega) ?_ (fun i A h => h.1) ?_ ⟨hI 0 w W1 h0 (itw_below hb1 (Nat.le_refl _)), by rw [if_pos (Nat.zero_le _)]; exact hL1, hK1⟩).mono ?_
    · rintro i A B ⟨hi, hl, hk⟩ hb
      exact ⟨hI i A B hi (hb.mono (by omega) (fun _ h => h)), (hb.1.block (w.heap.size + 1) (by omega)).trans hl, (hb.1.block w.heap.size (by omega)).trans hk⟩
    · rintro i ar W hlt ⟨hi, hl, hk⟩ hy hsW
      rw [if_pos hlt] at hl
      have hltl : w.heap.size + 1 < W.heap.size := (Array.getElem?_eq_some_iff.1 hl).1
      have hAA : ∀ AW, RA ar W AW → ∃ hltA : (w.heap.size + 1) < AW.heap.size, Con K W AW ∧ CellsAs AW (AW.putObj (w.heap.size + 1) (.loop (rec .busy none))) ∧ I i (AW.putObj (w.heap.size + 1) (.loop (rec .busy none))) ∧ Y i (AW.putObj (w.heap.size + 1) (.loop (rec .busy none))) ar ∧ (AW.putObj (w.heap.size + 1) (.loop (rec .busy none))).heap[w.heap.size]? = some (.deferred (some [])) := fun AW hRA => by
        obtain ⟨hA, hIA, hYA⟩ := hAW i ar W AW hlt (by omega) hi hy hRA
        have hA1 := hA.1
        have hlA : AW.heap[w.heap.size + 1]? = some (.loop (rec .ready none)) := hA.2 _ _ hl trivial
        have hltA : (w.heap.size + 1) < AW.heap.size := (Array.getElem?_eq_some_iff.1 hlA).1
        have hca : CellsAs AW (AW.putObj (w.heap.size + 1) (.loop (rec .busy none))) := cellsAs_put hlA rfl
        exact ⟨hltA, hA, hca, hI i _ _ hIA (itw_put hlA rfl (by omega)), hY i _ _ ar hYA hca, (World.putObj_heap_other (by omega)).trans (hA.2 _ _ hk trivial)⟩
      by_cases hiM : i < M
      · refine yieldAt_mono (round_ofC hrec hfn (hps i W ar hy) hl (RA := RA ar W) (fun AW h => (hAA AW h).2.1) (fun Kc hKc => hassign _ i ar W Kc (by omega) hi hy hKc)
          (fun AW h => by
            obtain ⟨hltA, hA, hca, hib, hyb, _⟩ := hAA AW h
            exact hbody _ i ar W AW _ h hiM hib hyb (by omega) ⟨_, World.putObj_heap_same hltA⟩ (by omega) hca (by simp)) (fun W' => I (i + 1) W' ∧ W'.heap[w.heap.size + 1]? = some (.loop (if i + 1 ≤ M then rec .ready none else rec .done (some j))) ∧ W'.heap[w.heap.size]? = some (.deferred (some []))) ?_) ?_
        · intro AW W' h hi' hl' hk'
          obtain ⟨_, _, _, _, _, hk2⟩ := hAA AW h
          rw [if_pos (by omega : i + 1 ≤ M)]
          exact ⟨hI _ _ _ hi' (itw_put hl' rfl (by omega)), World.putObj_heap_same (Array.getElem?_eq_some_iff.1 hl').1, (World.putObj_heap_other (by omega)).trans (hk'.2 _ _ hk2 trivial)⟩
        · rintro e W' ⟨he, hr, hc⟩
          exact ⟨by rw [he, decide_eq_true hiM], hr, fun _ => hc, hc.x _⟩
      · obtain rfl : i = M := by omega
        refine yieldAt_mono (round_last (n0 := w.heap.size) hj hrec hfn (hps i W ar hy) hl (RA := RA ar W) (fun AW h => (hAA AW h).2.1) (by omega) (fun Kc hKc => hassign _ i ar W Kc (by omega) hi hy hKc)
          (fun AW h => by
            obtain ⟨hltA, hA, hca, hib, hyb, _⟩ := hAA AW h
            exact hlast _ ar W AW _ h hib hyb (by omega) ⟨_, World.putObj_heap_same hltA⟩ (by omega) hca (by simp)) (fun W' => I (i + 1) W' ∧ W'.heap[w.heap.size + 1]? = some (.loop (if i + 1 ≤ i then rec .ready none else rec .done (some j))) ∧ W'.heap[w.heap.size]? = some (.deferred (some []))) ?_) ?_
        · intro AW W' h hi' hl' hk'
          obtain ⟨_, _, _, _, _, hk2⟩ := hAA AW h
          rw [if_neg (by omega : ¬ i + 1 ≤ i)]
          exact ⟨hI _ _ _ hi' (itw_put hl' rfl (by omega)), World.putObj_heap_same (Array.getElem?_eq_some_iff.1 hl').1, (World.putObj_heap_other (by omega)).trans (hk'.2 _ _ hk2 trivial (.inr (fun r e => by cases e)))⟩
        · rintro e W' ⟨he, hr, hc⟩
          exact ⟨by rw [he, decide_eq_false (by omega)], hr, fun h => absurd h (by omega), hc⟩
    · rintro e W2 ⟨⟨v, rfl⟩, hi, hl, hk⟩
      rw [if_neg (by omega : ¬ M + 1 ≤ M)] at hl
      have hlt2 : w.heap.size + 1 < W2.heap.size := (Array.getElem?_eq_some_iff.1 hl).1
      exact ⟨some j, _, by have := run_endLoop (P := P) hl (by rw [hrec]; simp); rw [hrec] at this; exact this, hdone _ _ (Nat.le_refl _) (hI _ _ _ hi (itw_put hl rfl (by omega))) ((World.putObj_heap_other (by omega)).trans hk)⟩
/-- The same within a round of loop l₀. -/
theorem wpIn_rangeXN {g : Operand} {ps : Array Tmp} {assign body : Code} {Q : Exit → Act → World → Prop} {a : Act} {w : World}
    {l₀ : Nat} {r₀ : Loop} (hro : F.round = some l₀) (hl₀ : w.heap[l₀]? = some (.loop r₀)) (h1 : 1 ≤ n) {gf : Nat} {lb : Array Value} (hg : a.eval g = .func (.func gf) #[] lb) (hFg : F.fn gf) (eg : ∀ args w, (callFunc gf args).run P w = .ok (.enter gf args) w)
    {M : Nat} {e0 : Exit} {j : Code} (hj : JumpOk e0 j) {Y : Nat → World → Array Value → Prop} {K : TypeId → Bool} {I : Nat → World → Prop} (hiter : IterX F (n - 1) P gf lb M Y K I w)
    (hps : ∀ i W ar, Y i W ar → ar.size = ps.size) (hY : ∀ i A B ar, Y i A ar → CellsAs A B → Y i B ar)
    (hI : ∀ i A B, I i A → ItW K w.heap.size A B → I i B) (h0 : I 0 w) (a₁ : Array Value → World → Act) (RA : Array Value → World → World → Prop) (hAW : ∀ i ar W W', i ≤ M → w.heap.size ≤ W.heap.size → I i W → Y i W ar → RA ar W W' → Con K W W' ∧ I i W' ∧ Y i W' ar)
    (hassign : ∀ (l i : Nat) (ar : Array Value) (W : World) (Kc : Act → World → Prop), w.heap.size ≤ W.heap.size → I i W → Y i W ar → (∀ W', RA ar W W' → Kc (a₁ ar W) W') →
      assign.wpIn (F.inRound l) (n - 1 - 1) P (Exit.then Kc (fun _ _ _ => False)) { tmps := (ps.zip ar).foldl (fun t (p, v) => t.setIfInBounds p v) a.tmps, defers := [] } W)
    (hbody : ∀ (l i : Nat) (ar : Array Value) (W0 W1 W : World), RA ar W0 W1 → i < M → I i W → Y i W ar → w.heap.size ≤ l → (∃ r, W.heap[l]? = some (.loop r)) → w.heap.size ≤ W0.heap.size → CellsAs W1 W → W1.heap.size = W.heap.size → body.wpIn (F.inRound l) (n - 1 - 1) P (endsIn fun W' => I (i + 1) W' ∧ Con K W W') (a₁ ar W0) W)
    (hlast : ∀ (l : Nat) (ar : Array Value) (W0 W1 W : World), RA ar W0 W1 → I M W → Y M W ar → w.heap.size ≤ l → (∃ r, W.heap[l]? = some (.loop r)) → w.heap.size ≤ W0.heap.size → CellsAs W1 W → W1.heap.size = W.heap.size → body.wpIn (F.inRound l) (n - 1 - 1) P (endsX e0 fun W' => I (M + 1) W' ∧ ConX K w.heap.size W W') (a₁ ar W0) W)
    (hdone : ∀ (W : World), I (M + 1) W → j.wpIn F n P Q a W) :
    (Code.rangeFunc g ps assign body).wpIn F n P Q a w := by
  refine wpIn_rangeFunc ?_
  intro fn hfn
  rw [hro]
  obtain ⟨rec, hrec⟩ : ∃ rec : LoopState → Option Code → Loop, rec = fun st pe => { state := st, pending := pe, fn, tmps := a.tmps, params := ps, assign, body, defers := r₀.defers } := ⟨_, rfl⟩
  obtain ⟨W1, hW1⟩ : ∃ W1, w.alloc (.loop (rec .ready none)) = W1 := ⟨_, rfl⟩
  have hsz : W1.heap.size = w.heap.size + 1 := by rw [← hW1]; simp
  have hL1 : W1.heap[w.heap.size]? = some (.loop (rec .ready none)) := by rw [← hW1]; exact World.alloc_heap_new w _
  have hb1 : Below w.heap.size w W1 := by rw [← hW1]; exact (Below.refl _ w).alloc (Nat.le_refl _) _
  refine ⟨w.heap.size, [], W1, { target := .fn (.func gf) lb, args := #[.func (.yield w.heap.size) #[] #[]] }, W1, gf,
    #[.func (.yield w.heap.size) #[] #[]] ++ lb, W1, ?_, ?_, ?_, ?_, fun _ => h1, ?_⟩
  · rw [← hW1, hrec]; exact run_enterLoop_inner hl₀ _ _ _ _ _
  · simp only [resolve, hg]
    simp [go_sem]
  · intro f' hf'; simp [Target.leads] at hf'; subst hf'; exact hFg
  · simp [invoke, go_sem, eg]
  · refine (hiter w.heap.size (fun i W => I i W ∧ W.heap[w.heap.size]? = some (.loop (if i ≤ M then rec .ready none else rec .done (some j)))) W1 hb1 (by rw [hsz]; omega) ?_ (fun i A h => h.1) ?_ ⟨hI 0 w W1 h0 (itw_below hb1 (Nat.le_refl _)), by rw [if_pos (Nat.zero_le _)]; exact hL1⟩).mono ?_
    · rintro i A B ⟨hi, hl⟩ hb
      exact ⟨hI i A B hi (hb.mono (by omega) (fun _ h => h)), (hb.1.block w.heap.size (by omega)).trans hl⟩
    · rintro i ar W hlt ⟨hi, hl⟩ hy hsW
      rw [if_pos hlt] at hl
      have hltl : w.heap.size < W.heap.size := (Array.getElem?_eq_some_iff.1 hl).1
      have hAA : ∀ AW, RA ar W AW → ∃ hltA : w.heap.size < AW.heap.size, Con K W AW ∧ CellsAs AW (AW.putObj w.heap.size (.loop (rec .busy none))) ∧ I i (AW.putObj w.heap.size (.loop (rec .busy none))) ∧ Y i (AW.putObj w.heap.size (.loop (rec .busy none))) ar := fun AW hRA => by
        obtain ⟨hA, hIA, hYA⟩ := hAW i ar W AW hlt (by omega) hi hy hRA
        have hA1 := hA.1
        have hlA : AW.heap[w.heap.size]? = some (.loop (rec .ready none)) := hA.2 _ _ hl trivial
        have hltA : w.heap.size < AW.heap.size := (Array.getElem?_eq_some_iff.1 hlA).1
        have hca : CellsAs AW (AW.putObj w.heap.size (.loop (rec .busy none))) := cellsAs_put hlA rfl
        exact ⟨hltA, hA, hca, hI i _ _ hIA (itw_put hlA rfl (by omega)), hY i _ _ ar hYA hca⟩
      by_cases hiM : i < M
      · refine yieldAt_mono (round_ofC hrec hfn (hps i W ar hy) hl (RA := RA ar W) (fun AW h => (hAA AW h).2.1) (fun Kc hKc => hassign _ i ar W Kc (by omega) hi hy hKc)
          (fun AW h => by
            obtain ⟨hltA, hA, hca, hib, hyb⟩ := hAA AW h
            exact hbody _ i ar W AW _ h hiM hib hyb (Nat.le_refl _) ⟨_, World.putObj_heap_same hltA⟩ (by omega) hca (by simp)) (fun W' => I (i + 1) W' ∧ W'.heap[w.heap.size]? = some (.loop (if i + 1 ≤ M then rec .ready none else rec .done (some j)))) ?_) ?_
        · intro AW W' h hi' hl' hk'
          rw [if_pos (by omega : i + 1 ≤ M)]
          exact ⟨hI _ _ _ hi' (itw_put hl' rfl (Nat.le_refl _)), World.putObj_heap_same (Array.getElem?_eq_some_iff.1 hl').1⟩
        · rintro e W' ⟨he, hr, hc⟩
          exact ⟨by rw [he, decide_eq_true hiM], hr, fun _ => hc, hc.x _⟩
      · obtain rfl : i = M := by omega
        refine yieldAt_mono (round_last (n0 := w.heap.size) hj hrec hfn (hps i W ar hy) hl (RA := RA ar W) (fun AW h => (hAA AW h).2.1) (by omega) (fun Kc hKc => hassign _ i ar W Kc (by omega) hi hy hKc)
          (fun AW h => by
            obtain ⟨hltA, hA, hca, hib, hyb⟩ := hAA AW h
            exact hlast _ ar W AW _ h hib hyb (Nat.le_refl _) ⟨_, World.putObj_heap_same hltA⟩ (by omega) hca (by simp)) (fun W' => I (i + 1) W' ∧ W'.heap[w.heap.size]? = some (.loop (if i + 1 ≤ i then rec .ready none else rec .done (some j)))) ?_) ?_
        · intro AW W' h hi' hl' hk'
          rw [if_neg (by omega : ¬ i + 1 ≤ i)]
          exact ⟨hI _ _ _ hi' (itw_put hl' rfl (Nat.le_refl _)), World.putObj_heap_same (Array.getElem?_eq_some_iff.1 hl').1⟩
        · rintro e W' ⟨he, hr, hc⟩
          exact ⟨by rw [he, decide_eq_false (by omega)], hr, fun h => absurd h (by omega), hc⟩
    · rintro e W2 ⟨⟨v, rfl⟩, hi, hl⟩
      rw [if_neg (by omega : ¬ M + 1 ≤ M)] at hl
      exact ⟨some j, _, by have := run_endLoop (P := P) hl (by rw [hrec]; simp); rw [hrec] at this; exact this, hdone _ (hI _ _ _ hi (itw_put hl rfl (Nat.le_refl _)))⟩
end Go.Proofs.Ytimdgaclmejjhaa
