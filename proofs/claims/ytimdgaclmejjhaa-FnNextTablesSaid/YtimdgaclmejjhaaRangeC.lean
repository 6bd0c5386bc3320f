/-
  A range over a function whose iterator keeps blocks of some types for itself: the caller's walk, outside of a round and within one. What the caller keeps lies in blocks of other types.
-/
import Derived.Test.YtimdgaclmejjhaaIter
import Derived.RangeFuncNested
namespace Go.Proofs.Ytimdgaclmejjhaa
open Go.RowKit
set_option linter.unusedVariables false

variable {F : Fence} {n : Nat} {P : Program}

/-- Is it a block of cells of a type that the iterator keeps for itself, or no block of cells? -/
def keptBy (K : TypeId → Bool) : Obj → Prop
  | .cells _ t _ => K t = true
  | _ => True
/-- What the iterator may do between two rounds: it leaves what lay below n0, and every block of another type. -/
def ItW (K : TypeId → Bool) (n0 : Nat) (A B : World) : Prop := Below n0 A B ∧ ∀ (k : Nat) (cs : Array Value) (t : TypeId) (fr : Nat × Nat), A.heap[k]? = some (Obj.cells cs t fr) → K t = false → B.heap[k]? = some (Obj.cells cs t fr)
/-- What a round may do: it leaves the iterator's blocks, and whatever is no block of cells. -/
def Con (K : TypeId → Bool) (A B : World) : Prop := A.heap.size ≤ B.heap.size ∧ ∀ (k : Nat) (o : Obj), A.heap[k]? = some o → keptBy K o → B.heap[k]? = some o

theorem ItW.refl (K : TypeId → Bool) (n0 : Nat) (A : World) : ItW K n0 A A := ⟨Below.refl _ _, fun _ _ _ _ h _ => h⟩
theorem ItW.trans {K : TypeId → Bool} {n0 : Nat} {A B C : World} (h : ItW K n0 A B) (k : ItW K n0 B C) : ItW K n0 A C := ⟨h.1.trans k.1, fun i cs t fr hi ht => k.2 i cs t fr (h.2 i cs t fr hi ht) ht⟩
theorem ItW.mono {K K' : TypeId → Bool} {n0 m0 : Nat} {A B : World} (h : ItW K n0 A B) (hn : m0 ≤ n0) (hK : ∀ t, K t = true → K' t = true) : ItW K' m0 A B :=
  ⟨h.1.mono hn, fun i cs t fr hi ht => h.2 i cs t fr hi (by cases e : K t with | false => rfl | true => rw [hK t e] at ht; cases ht)⟩
theorem itw_below {K : TypeId → Bool} {n0 : Nat} {A B : World} (h : Below A.heap.size A B) (hn : n0 ≤ A.heap.size) : ItW K n0 A B := ⟨h.mono hn, fun i cs t fr hi _ => (h.block i (Array.getElem?_eq_some_iff.1 hi).1).trans hi⟩
theorem itw_put {K : TypeId → Bool} {n0 l : Nat} {A : World} {o o' : Obj} (hl : A.heap[l]? = some o) (ho : o.isCells = false) (hn : n0 ≤ l) : ItW K n0 A (A.putObj l o') :=
  ⟨putObj_below A l o' hn (Array.getElem?_eq_some_iff.1 hl).1, fun i cs t fr hi _ => by
    by_cases e : i = l
    · subst e; rw [hl] at hi; cases hi; cases ho
    · exact (World.putObj_heap_other e).trans hi⟩
/-- A block of the iterator's own type changes. -/
theorem itw_grown {K : TypeId → Bool} {n0 g : Nat} {A B : World} {cs : Array Value} {t : TypeId} {fr : Nat × Nat} (hg : A.grownBy B (some g)) (hc : A.heap[g]? = some (Obj.cells cs t fr)) (hK : K t = true) (hn : n0 ≤ g) (hs : n0 ≤ A.heap.size) : ItW K n0 A B :=
  ⟨(Below.refl n0 A).grown hg hs (fun j e => by cases e; exact hn), fun i cs' t' fr' hi ht => by
    by_cases e : i = g
    · subst e; rw [hc] at hi; cases hi; rw [hK] at ht; cases ht
    · exact (hg.block i (Array.getElem?_eq_some_iff.1 hi).1 (fun q => e (Option.some.inj q))).trans hi⟩
theorem Con.refl (K : TypeId → Bool) (A : World) : Con K A A := ⟨Nat.le_refl _, fun _ _ h _ => h⟩
theorem Con.trans {K : TypeId → Bool} {A B C : World} (h : Con K A B) (k : Con K B C) : Con K A C := ⟨Nat.le_trans h.1 k.1, fun i o hi ho => k.2 i o (h.2 i o hi ho) ho⟩
theorem Con.mono {K K' : TypeId → Bool} {A B : World} (h : Con K' A B) (hK : ∀ t, K t = true → K' t = true) : Con K A B := ⟨h.1, fun i o hi ho => h.2 i o hi (by cases o <;> first | exact hK _ ho | trivial)⟩
theorem con_below {K : TypeId → Bool} {A B : World} (h : Below A.heap.size A B) : Con K A B := ⟨h.size, fun i o hi _ => (h.block i (Array.getElem?_eq_some_iff.1 hi).1).trans hi⟩
theorem con_grown {K : TypeId → Bool} {g : Nat} {A B : World} {cs : Array Value} {t : TypeId} {fr : Nat × Nat} (hg : A.grownBy B (some g)) (hc : A.heap[g]? = some (Obj.cells cs t fr)) (hK : K t = false) : Con K A B :=
  ⟨hg.size, fun i o hi ho => by
    by_cases e : i = g
    · subst e; rw [hc] at hi; cases hi; rw [show K t = true from ho] at hK; cases hK
    · exact (hg.block i (Array.getElem?_eq_some_iff.1 hi).1 (fun q => e (Option.some.inj q))).trans hi⟩
theorem con_blk {K : TypeId → Bool} {A B : World} {g : Nat} {t : TypeId} {vs : List Value} (h : Con K A B) (hb : Blk A g t vs) (hK : K t = true) : Blk B g t vs := h.2 g _ hb hK
theorem itw_blk {K : TypeId → Bool} {n0 : Nat} {A B : World} {g : Nat} {t : TypeId} {vs : List Value} (h : ItW K n0 A B) (hb : Blk A g t vs) (hK : K t = false) : Blk B g t vs := h.2 g _ _ _ hb hK
/-- All blocks of cells lie as they lay. -/
def CellsAs (A B : World) : Prop := ∀ (k : Nat) (cs : Array Value) (t : TypeId) (fr : Nat × Nat), A.heap[k]? = some (Obj.cells cs t fr) → B.heap[k]? = some (Obj.cells cs t fr)
theorem cellsAs_below {A B : World} (h : Below A.heap.size A B) : CellsAs A B := fun i cs t fr hi => (h.block i (Array.getElem?_eq_some_iff.1 hi).1).trans hi
theorem cellsAs_put {A : World} {l : Nat} {o o' : Obj} (hl : A.heap[l]? = some o) (ho : o.isCells = false) : CellsAs A (A.putObj l o') := fun i cs t fr hi => by
  by_cases e : i = l
  · subst e; rw [hl] at hi; cases hi; cases ho
  · exact (World.putObj_heap_other e).trans hi

/-- What an iterator owes: it calls yield once for each of its N values. -/
def IterC (F : Fence) (n : Nat) (P : Program) (gf : Nat) (lb : Array Value) (N : Nat) (Y : Nat → World → Array Value → Prop) (K : TypeId → Bool) (I : Nat → World → Prop) (w : World) : Prop :=
  ∀ (l : Nat) (J : Nat → World → Prop) (W : World), Below w.heap.size w W → (∀ i A B, J i A → ItW K W.heap.size A B → J i B) → (∀ i A, J i A → I i A) →
    (∀ i ar W1, i < N → J i W1 → Y i W1 ar → W.heap.size ≤ W1.heap.size → YieldAt F (n - 1) P l ar W1 fun e W' => e = .returned (.bool true) ∧ J (i + 1) W' ∧ Con K W1 W') → J 0 W →
    CallsIn F n P gf (#[.func (.yield l) #[] #[]] ++ lb) W fun e W' => (∃ v, e = .returned v) ∧ J N W'
theorem IterC.inRound {gf : Nat} {lb : Array Value} {N : Nat} {Y : Nat → World → Array Value → Prop} {K : TypeId → Bool} {I : Nat → World → Prop} {w : World} (l : Nat) (h : IterC F n P gf lb N Y K I w) : IterC (F.inRound l) n P gf lb N Y K I w := h

/-- One round, as the iterator sees it. -/
theorem round_of {l : Nat} {rec : LoopState → Option Code → Loop} {tmps0 : Array Value} {fn : FuncId} {ps : Array Tmp} {assign body : Code} {K : TypeId → Bool} {i : Nat} {ar : Array Value} {W AW : World} {a₁ : Act} {I : Nat → World → Prop} {D : Nat} {m : Nat}
    (hrec : rec = fun st pe => { state := st, pending := pe, fn := fn, tmps := tmps0, params := ps, assign := assign, body := body, defers := D }) (hfn : F.fn fn) (hps : ar.size = ps.size)
    (hl : W.heap[l]? = some (.loop (rec .ready none))) (hA : Below W.heap.size W AW)
    (hassign : ∀ Kc : Act → World → Prop, Kc a₁ AW → assign.wpIn (F.inRound l) m P (Exit.then Kc (fun _ _ _ => False)) { tmps := (ps.zip ar).foldl (fun t (p, v) => t.setIfInBounds p v) tmps0, defers := [] } W)
    (hbody : body.wpIn (F.inRound l) m P (endsIn fun W' => I (i + 1) W' ∧ Con K (AW.putObj l (.loop (rec .busy none))) W') a₁ (AW.putObj l (.loop (rec .busy none))))
    (R : World → Prop) (hR : ∀ W', I (i + 1) W' → W'.heap[l]? = some (.loop (rec .busy none)) → Con K (AW.putObj l (.loop (rec .busy none))) W' → R (W'.putObj l (.loop (rec .ready none)))) :
    YieldAt F m P l ar W fun e W' => e = .returned (.bool true) ∧ R W' ∧ Con K W W' := by
  have hlt : l < W.heap.size := (Array.getElem?_eq_some_iff.1 hl).1
  have hy := run_yield (P := P) (args := ar) hl (by rw [hrec]; exact hps)
  rw [hrec] at hy
  have hlA : AW.heap[l]? = some (.loop (rec .ready none)) := (hA.block l hlt).trans hl
  have hltA : l < AW.heap.size := (Array.getElem?_eq_some_iff.1 hlA).1
  refine ⟨fn, _, assign, body, hy, roundIn_of_wpIn hfn (hassign _ ⟨_, run_beginRound hlA (by rw [hrec]), ?_⟩)⟩
  have hl2 : (AW.putObj l (.loop (rec .busy none))).heap[l]? = some (.loop (rec .busy none)) := World.putObj_heap_same hltA
  have e2 : ({ rec .ready none with state := .busy } : Loop) = rec .busy none := by rw [hrec]
  rw [e2]
  refine wpIn_mono hbody ?_
  rintro e a3 W3 hp
  cases e with
  | normal =>
    obtain ⟨hi3, hk3⟩ := hp
    have hl3 := hk3.2 l _ hl2 trivial
    have hlt3 : l < W3.heap.size := (Array.getElem?_eq_some_iff.1 hl3).1
    have hend := run_endRound (P := P) none hl3
    have e3 : ({ rec .busy none with state := if (none : Option Code).isNone then .ready else .done, pending := none } : Loop) = rec .ready none := by rw [hrec]; rfl
    rw [e3] at hend
    refine ⟨_, _, hend, rfl, hR W3 hi3 hl3 hk3, ?_, ?_⟩
    · have h1 := hA.size
      have h2 := hk3.1
      have h4 := (grownBy_putObj' AW l (.loop (rec .busy none))).size
      have h5 := (grownBy_putObj' W3 l (.loop (rec .ready none))).size
      omega
    · intro k o hk ho
      by_cases e : k = l
      · subst e
        rw [hl] at hk
        cases hk
        exact World.putObj_heap_same hlt3
      · have k1 := (hA.block k (Array.getElem?_eq_some_iff.1 hk).1).trans hk
        have k2 : (AW.putObj l (.loop (rec .busy none))).heap[k]? = some o := (World.putObj_heap_other e).trans k1
        exact (World.putObj_heap_other e).trans (hk3.2 k o k2 ho)
  | ret => exact hp.elim
  | exit id => exact hp.elim
  | goto t => exact hp.elim
  | panic ch => exact hp.elim
  | outgrown => exact hp.elim

theorem wpIn_rangeC {g : Operand} {ps : Array Tmp} {assign body : Code} {Q : Exit → Act → World → Prop} {a : Act} {w : World}
    (hro : F.round = none) (h1 : 1 ≤ n) {gf : Nat} {lb : Array Value} (hg : a.eval g = .func (.func gf) #[] lb) (hFg : F.fn gf) (eg : ∀ args w, (callFunc gf args).run P w = .ok (.enter gf args) w)
    {N : Nat} {Y : Nat → World → Array Value → Prop} {K : TypeId → Bool} {I : Nat → World → Prop} (hiter : IterC F (n - 1) P gf lb N Y K I w)
    (hps : ∀ i W ar, Y i W ar → ar.size = ps.size) (hY : ∀ i A B ar, Y i A ar → CellsAs A B → Y i B ar)
    (hI : ∀ i A B, I i A → ItW K w.heap.size A B → I i B) (h0 : I 0 w) (a₁ : Array Value → World → Act) (AW : Array Value → World → World) (hAW : ∀ ar W, Below W.heap.size W (AW ar W))
    (hassign : ∀ (l i : Nat) (ar : Array Value) (W : World) (Kc : Act → World → Prop), Y i W ar → Kc (a₁ ar W) (AW ar W) →
      assign.wpIn (F.inRound l) (n - 1 - 1) P (Exit.then Kc (fun _ _ _ => False)) { tmps := (ps.zip ar).foldl (fun t (p, v) => t.setIfInBounds p v) a.tmps, defers := [] } W)
    (hbody : ∀ (l i : Nat) (ar : Array Value) (W0 W : World), i < N → I i W → Y i W ar → w.heap.size ≤ l → (∃ r, W.heap[l]? = some (.loop r)) → w.heap.size ≤ W0.heap.size → CellsAs (AW ar W0) W → (AW ar W0).heap.size = W.heap.size → body.wpIn (F.inRound l) (n - 1 - 1) P (endsIn fun W' => I (i + 1) W' ∧ Con K W W') (a₁ ar W0) W)
    (hdone : ∀ (D : Nat) (W : World), w.heap.size ≤ D → I N W → W.heap[D]? = some (.deferred (some [])) → Q .normal { a with defers := { target := .collected D, args := #[] } :: a.defers } W) :
    (Code.rangeFunc g ps assign body).wpIn F n P Q a w := by
  refine wpIn_rangeFunc ?_
  intro fn hfn
  rw [hro]
  obtain ⟨rec, hrec⟩ : ∃ rec : LoopState → Option Code → Loop, rec = fun st pe => { state := st, pending := pe, fn, tmps := a.tmps, params := ps, assign, body, defers := w.heap.size } := ⟨_, rfl⟩
  obtain ⟨W1, hW1⟩ : ∃ W1, (w.alloc (.deferred (some []))).alloc (.loop (rec .ready none)) = W1 := ⟨_, rfl⟩
  have hsz : W1.heap.size = w.heap.size + 1 + 1 := by rw [← hW1]; simp
  have hL1 : W1.heap[w.heap.size + 1]? = some (.loop (rec .ready none)) := by
    rw [← hW1]; have := World.alloc_heap_new (w.alloc (.deferred (some []))) (.loop (rec .ready none)); rwa [World.size_alloc] at this
  have hK1 : W1.heap[w.heap.size]? = some (.deferred (some [])) := by
    rw [← hW1]; exact (Below.heap_alloc _ _ _ (by simp)).trans (World.alloc_heap_new w _)
  have hb1 : Below w.heap.size w W1 := by
    rw [← hW1]; exact (((Below.refl _ w).alloc (Nat.le_refl _) _).alloc (by simp) _)
  refine ⟨w.heap.size + 1, [{ target := .collected w.heap.size, args := #[] }], W1, { target := .fn (.func gf) lb, args := #[.func (.yield (w.heap.size + 1)) #[] #[]] }, W1, gf,
    #[.func (.yield (w.heap.size + 1)) #[] #[]] ++ lb, W1, ?_, ?_, ?_, ?_, fun _ => h1, ?_⟩
  · rw [← hW1, hrec]; exact run_enterLoop_outer _ _ _ _ _
  · simp only [resolve, hg]
    simp [go_sem]
  · intro f' hf'; simp [Target.leads] at hf'; subst hf'; exact hFg
  · simp [invoke, go_sem, eg]
  · refine (hiter (w.heap.size + 1) (fun i W => I i W ∧ W.heap[w.heap.size + 1]? = some (.loop (rec .ready none)) ∧ W.heap[w.heap.size]? = some (.deferred (some []))) W1 hb1 ?_ (fun i A h => h.1) ?_ ⟨hI 0 w W1 h0 (itw_below hb1 (Nat.le_refl _)), hL1, hK1⟩).mono ?_
    · rintro i A B ⟨hi, hl, hk⟩ hb
      exact ⟨hI i A B hi (hb.mono (by omega) (fun _ h => h)), (hb.1.block (w.heap.size + 1) (by omega)).trans hl, (hb.1.block w.heap.size (by omega)).trans hk⟩
    · rintro i ar W hlt ⟨hi, hl, hk⟩ hy hsW
      have hltl : w.heap.size + 1 < W.heap.size := (Array.getElem?_eq_some_iff.1 hl).1
      have hA := hAW ar W
      have hlA : (AW ar W).heap[w.heap.size + 1]? = some (.loop (rec .ready none)) := (hA.block _ hltl).trans hl
      have hltA : w.heap.size + 1 < (AW ar W).heap.size := (Array.getElem?_eq_some_iff.1 hlA).1
      have hca : CellsAs (AW ar W) ((AW ar W).putObj (w.heap.size + 1) (.loop (rec .busy none))) := cellsAs_put hlA rfl
      have hcw : CellsAs W ((AW ar W).putObj (w.heap.size + 1) (.loop (rec .busy none))) := fun k cs t fr h => hca k cs t fr (cellsAs_below hA k cs t fr h)
      have hib : I i ((AW ar W).putObj (w.heap.size + 1) (.loop (rec .busy none))) := hI i _ _ hi ((itw_below hA (by omega)).trans (itw_put hlA rfl (by omega)))
      refine round_of hrec hfn (hps i W ar hy) hl hA (fun Kc hKc => hassign _ i ar W Kc hy hKc)
        (hbody _ i ar W _ hlt hib (hY i W _ ar hy hcw) (by omega) ⟨_, World.putObj_heap_same hltA⟩ (by omega) hca (by simp)) _ ?_
      intro W' hi' hl' hk'
      have hk2 : ((AW ar W).putObj (w.heap.size + 1) (.loop (rec .busy none))).heap[w.heap.size]? = some (.deferred (some [])) := (World.putObj_heap_other (by omega)).trans ((hA.block _ (by omega)).trans hk)
      exact ⟨hI _ _ _ hi' (itw_put hl' rfl (by omega)), World.putObj_heap_same (Array.getElem?_eq_some_iff.1 hl').1, (World.putObj_heap_other (by omega)).trans (hk'.2 _ _ hk2 trivial)⟩
    · rintro e W2 ⟨⟨v, rfl⟩, hi, hl, hk⟩
      have hlt2 : w.heap.size + 1 < W2.heap.size := (Array.getElem?_eq_some_iff.1 hl).1
      exact ⟨none, _, by have := run_endLoop (P := P) hl (by rw [hrec]; simp); rw [hrec] at this; exact this, hdone _ _ (Nat.le_refl _) (hI _ _ _ hi (itw_put hl rfl (by omega))) ((World.putObj_heap_other (by omega)).trans hk)⟩

/-- The same within a round of loop l₀. -/
theorem wpIn_rangeCN {g : Operand} {ps : Array Tmp} {assign body : Code} {Q : Exit → Act → World → Prop} {a : Act} {w : World}
    {l₀ : Nat} {r₀ : Loop} (hro : F.round = some l₀) (hl₀ : w.heap[l₀]? = some (.loop r₀)) (h1 : 1 ≤ n) {gf : Nat} {lb : Array Value} (hg : a.eval g = .func (.func gf) #[] lb) (hFg : F.fn gf) (eg : ∀ args w, (callFunc gf args).run P w = .ok (.enter gf args) w)
    {N : Nat} {Y : Nat → World → Array Value → Prop} {K : TypeId → Bool} {I : Nat → World → Prop} (hiter : IterC F (n - 1) P gf lb N Y K I w)
    (hps : ∀ i W ar, Y i W ar → ar.size = ps.size) (hY : ∀ i A B ar, Y i A ar → CellsAs A B → Y i B ar)
    (hI : ∀ i A B, I i A → ItW K w.heap.size A B → I i B) (h0 : I 0 w) (a₁ : Array Value → World → Act) (AW : Array Value → World → World) (hAW : ∀ ar W, Below W.heap.size W (AW ar W))
    (hassign : ∀ (l i : Nat) (ar : Array Value) (W : World) (Kc : Act → World → Prop), Y i W ar → Kc (a₁ ar W) (AW ar W) →
      assign.wpIn (F.inRound l) (n - 1 - 1) P (Exit.then Kc (fun _ _ _ => False)) { tmps := (ps.zip ar).foldl (fun t (p, v) => t.setIfInBounds p v) a.tmps, defers := [] } W)
    (hbody : ∀ (l i : Nat) (ar : Array Value) (W0 W : World), i < N → I i W → Y i W ar → w.heap.size ≤ l → (∃ r, W.heap[l]? = some (.loop r)) → w.heap.size ≤ W0.heap.size → CellsAs (AW ar W0) W → (AW ar W0).heap.size = W.heap.size → body.wpIn (F.inRound l) (n - 1 - 1) P (endsIn fun W' => I (i + 1) W' ∧ Con K W W') (a₁ ar W0) W)
    (hdone : ∀ (W : World), I N W → Q .normal a W) :
    (Code.rangeFunc g ps assign body).wpIn F n P Q a w := by
  refine wpIn_rangeFunc ?_
  intro fn hfn
  rw [hro]
  obtain ⟨rec, hrec⟩ : ∃ rec : LoopState → Option Code → Loop, rec = fun st pe => { state := st, pending := pe, fn, tmps := a.tmps, params := ps, assign, body, defers := r₀.defers } := ⟨_, rfl⟩
  obtain ⟨W1, hW1⟩ : ∃ W1, w.alloc (.loop (rec .ready none)) = W1 := ⟨_, rfl⟩
  have hsz : W1.heap.size = w.heap.size + 1 := by rw [← hW1]; simp
  have hL1 : W1.heap[w.heap.size]? = some (.loop (rec .ready none)) := by rw [← hW1]; exact World.alloc_heap_new w _
  have hb1 : Below w.heap.size w W1 := by rw [← hW1]; exact (Below.refl _ w).alloc (Nat.le_refl _) _
  refine ⟨w.heap.size, [], W1, { target := .fn (.func gf) lb, args := #[.func (.yield w.heap.size) #[] #[]] }, W1, gf,
    #[.func (.yield w.heap.size) #[] #[]] ++ lb, W1, ?_, ?_, ?_, ?_, fun _ => h1, ?_⟩
  · rw [← hW1, hrec]; exact run_enterLoop_inner hl₀ _ _ _ _ _
  · simp only [resolve, hg]
    simp [go_sem]
  · intro f' hf'; simp [Target.leads] at hf'; subst hf'; exact hFg
  · simp [invoke, go_sem, eg]
  · refine (hiter w.heap.size (fun i W => I i W ∧ W.heap[w.heap.size]? = some (.loop (rec .ready none))) W1 hb1 ?_ (fun i A h => h.1) ?_ ⟨hI 0 w W1 h0 (itw_below hb1 (Nat.le_refl _)), hL1⟩).mono ?_
    · rintro i A B ⟨hi, hl⟩ hb
      exact ⟨hI i A B hi (hb.mono (by omega) (fun _ h => h)), (hb.1.block w.heap.size (by omega)).trans hl⟩
    · rintro i ar W hlt ⟨hi, hl⟩ hy hsW
      have hltl : w.heap.size < W.heap.size := (Array.getElem?_eq_some_iff.1 hl).1
      have hA := hAW ar W
      have hlA : (AW ar W).heap[w.heap.size]? = some (.loop (rec .ready none)) := (hA.block _ hltl).trans hl
      have hltA : w.heap.size < (AW ar W).heap.size := (Array.getElem?_eq_some_iff.1 hlA).1
      have hca : CellsAs (AW ar W) ((AW ar W).putObj w.heap.size (.loop (rec .busy none))) := cellsAs_put hlA rfl
      have hcw : CellsAs W ((AW ar W).putObj w.heap.size (.loop (rec .busy none))) := fun k cs t fr h => hca k cs t fr (cellsAs_below hA k cs t fr h)
      have hib : I i ((AW ar W).putObj w.heap.size (.loop (rec .busy none))) := hI i _ _ hi ((itw_below hA (by omega)).trans (itw_put hlA rfl (by omega)))
      refine round_of hrec hfn (hps i W ar hy) hl hA (fun Kc hKc => hassign _ i ar W Kc hy hKc)
        (hbody _ i ar W _ hlt hib (hY i W _ ar hy hcw) (Nat.le_refl _) ⟨_, World.putObj_heap_same hltA⟩ (by omega) hca (by simp)) _ ?_
      intro W' hi' hl' hk'
      exact ⟨hI _ _ _ hi' (itw_put hl' rfl (Nat.le_refl _)), World.putObj_heap_same (Array.getElem?_eq_some_iff.1 hl').1⟩
    · rintro e W2 ⟨⟨v, rfl⟩, hi, hl⟩
      have hlt2 : w.heap.size < W2.heap.size := (Array.getElem?_eq_some_iff.1 hl).1
      exact ⟨none, _, by have := run_endLoop (P := P) hl (by rw [hrec]; simp); rw [hrec] at this; exact this, hdone _ (hI _ _ _ hi (itw_put hl rfl (Nat.le_refl _)))⟩
end Go.Proofs.Ytimdgaclmejjhaa
