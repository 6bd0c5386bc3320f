/-
 Put together: RangeC, RangeX, RangeF, ImplSeats, SeatIter, SeatIterX
-/
import Derived.Test.YtnllndcajdofjaaQbBetHasCG
import Derived.RangeFuncNested
import Derived.Test.YtnllndcajdofjaaQbBoolLG
import Derived.Test.YtnllndcajdofjaaQbBetAG
import Derived.Test.YtnllndcajdofjaaQbBetCloneG
import Derived.OwnWalkIn

/-! A range over a function whose iterator keeps blocks of some types for itself: the caller's walk, outside of a round and within one. What the caller keeps lies in blocks of other types. -/
namespace Go.Proofs.Ytnllndcajdofjaa
open Go.RowKit
set_option linter.unusedVariables false

variable {F : Fence} {n : Nat} {P : Program}

/-- Is it a block of cells of a type that the iterator keeps for itself, or no block of cells? -/
def keptBy (K : TypeId → Bool) : Obj → Prop
 | .cells _ t _=>K t = true
 | _=>True
/-- What the iterator may do between two rounds: it leaves what lay below n0,and every block of another type. -/
def ItW (K : TypeId → Bool) (n0 : Nat) (A B : World) : Prop:=Below n0 A B ∧ ∀ (k : Nat) (cs : Array Value) (t : TypeId) (fr : Nat × Nat),A.heap[k]? = some (Obj.cells cs t fr) → K t = false → B.heap[k]? = some (Obj.cells cs t fr)
/-- What a round may do: it leaves the iterator's blocks,and whatever is no block of cells. -/
def Con (K : TypeId → Bool) (A B : World) : Prop:=A.heap.size ≤ B.heap.size ∧ ∀ (k : Nat) (o : Obj),A.heap[k]? = some o → keptBy K o → B.heap[k]? = some o

theorem ItW.trans {K : TypeId → Bool} {n0 : Nat} {A B C : World} (h : ItW K n0 A B) (k : ItW K n0 B C) : ItW K n0 A C:=⟨h.1.trans k.1,fun i cs t fr hi ht=>k.2 i cs t fr (h.2 i cs t fr hi ht) ht⟩
theorem ItW.mono {K K' : TypeId → Bool} {n0 m0 : Nat} {A B : World} (h : ItW K n0 A B) (hn : m0 ≤ n0) (hK : ∀ t,K t = true → K' t = true) : ItW K' m0 A B :=
 ⟨h.1.mono hn,fun i cs t fr hi ht=>h.2 i cs t fr hi (by cases e : K t with | false=>rfl | true=>rw [hK t e] at ht;cases ht)⟩
theorem itw_below {K : TypeId → Bool} {n0 : Nat} {A B : World} (h : Below A.heap.size A B) (hn : n0 ≤ A.heap.size) : ItW K n0 A B:=⟨h.mono hn,fun i cs t fr hi _=>(h.block i (Array.getElem?_eq_some_iff.1 hi).1).trans hi⟩
theorem itw_put {K : TypeId → Bool} {n0 l : Nat} {A : World} {o o' : Obj} (hl : A.heap[l]? = some o) (ho : o.isCells = false) (hn : n0 ≤ l) : ItW K n0 A (A.putObj l o') :=
 ⟨putObj_below A l o' hn (Array.getElem?_eq_some_iff.1 hl).1,fun i cs t fr hi _=>by
  by_cases e : i = l
  ·subst e;rw [hl] at hi;cases hi;cases ho
  ·exact (World.putObj_heap_other e).trans hi⟩
theorem Con.refl (K : TypeId → Bool) (A : World) : Con K A A:=⟨Nat.le_refl _,fun _ _ h _=>h⟩
theorem Con.trans {K : TypeId → Bool} {A B C : World} (h : Con K A B) (k : Con K B C) : Con K A C:=⟨Nat.le_trans h.1 k.1,fun i o hi ho=>k.2 i o (h.2 i o hi ho) ho⟩
theorem con_below {K : TypeId → Bool} {A B : World} (h : Below A.heap.size A B) : Con K A B:=⟨h.size,fun i o hi _=>(h.block i (Array.getElem?_eq_some_iff.1 hi).1).trans hi⟩
theorem con_grown {K : TypeId → Bool} {g : Nat} {A B : World} {cs : Array Value} {t : TypeId} {fr : Nat × Nat} (hg : A.grownBy B (some g)) (hc : A.heap[g]? = some (Obj.cells cs t fr)) (hK : K t = false) : Con K A B :=
 ⟨hg.size,fun i o hi ho=>by
  by_cases e : i = g
  ·subst e;rw [hc] at hi;cases hi;rw [show K t = true from ho] at hK;cases hK
  ·exact (hg.block i (Array.getElem?_eq_some_iff.1 hi).1 (fun q=>e (Option.some.inj q))).trans hi⟩
theorem con_blk {K : TypeId → Bool} {A B : World} {g : Nat} {t : TypeId} {vs : List Value} (h : Con K A B) (hb : Blk A g t vs) (hK : K t = true) : Blk B g t vs:=h.2 g _ hb hK
theorem itw_blk {K : TypeId → Bool} {n0 : Nat} {A B : World} {g : Nat} {t : TypeId} {vs : List Value} (h : ItW K n0 A B) (hb : Blk A g t vs) (hK : K t = false) : Blk B g t vs:=h.2 g _ _ _ hb hK
/-- All blocks of cells lie as they lay. -/
def CellsAs (A B : World) : Prop:=∀ (k : Nat) (cs : Array Value) (t : TypeId) (fr : Nat × Nat),A.heap[k]? = some (Obj.cells cs t fr) → B.heap[k]? = some (Obj.cells cs t fr)
theorem cellsAs_below {A B : World} (h : Below A.heap.size A B) : CellsAs A B:=fun i cs t fr hi=>(h.block i (Array.getElem?_eq_some_iff.1 hi).1).trans hi
theorem cellsAs_put {A : World} {l : Nat} {o o' : Obj} (hl : A.heap[l]? = some o) (ho : o.isCells = false) : CellsAs A (A.putObj l o'):=fun i cs t fr hi=>by
 by_cases e : i = l
 ·subst e;rw [hl] at hi;cases hi;cases ho
 ·exact (World.putObj_heap_other e).trans hi

/-- One round,as the iterator sees it. -/
theorem round_of {l : Nat} {rec : LoopState → Option Code → Loop} {tmps0 : Array Value} {fn : FuncId} {ps : Array Tmp} {assign body : Code} {K : TypeId → Bool} {i : Nat} {ar : Array Value} {W AW : World} {a₁ : Go.Act} {I : Nat → World → Prop} {D : Nat} {m : Nat}
  (hrec : rec = fun st pe=>{ state:=st,pending:=pe,fn:=fn,tmps:=tmps0,params:=ps,assign:=assign,body:=body,defers:=D }) (hfn : F.fn fn) (hps : ar.size = ps.size)
  (hl : W.heap[l]? = some (.loop (rec .ready none))) (hA : Below W.heap.size W AW)
  (hassign : ∀ Kc : Go.Act → World → Prop,Kc a₁ AW → assign.wpIn (F.inRound l) m P (Exit.then Kc (fun _ _ _=>False)) { tmps:=(ps.zip ar).foldl (fun t (p,v)=>t.setIfInBounds p v) tmps0,defers:=[] } W)
  (hbody : body.wpIn (F.inRound l) m P (endsIn fun W'=>I (i + 1) W' ∧ Con K (AW.putObj l (.loop (rec .busy none))) W') a₁ (AW.putObj l (.loop (rec .busy none))))
  (R : World → Prop) (hR : ∀ W',I (i + 1) W' → W'.heap[l]? = some (.loop (rec .busy none)) → Con K (AW.putObj l (.loop (rec .busy none))) W' → R (W'.putObj l (.loop (rec .ready none)))) :
  YieldAt F m P l ar W fun e W'=>e = .returned (.bool true) ∧ R W' ∧ Con K W W':=by
 have hlt : l < W.heap.size:=(Array.getElem?_eq_some_iff.1 hl).1
 have hy:=run_yield (P:=P) (args:=ar) hl (by rw [hrec];exact hps)
 rw [hrec] at hy
 have hlA : AW.heap[l]? = some (.loop (rec .ready none)):=(hA.block l hlt).trans hl
 have hltA : l < AW.heap.size:=(Array.getElem?_eq_some_iff.1 hlA).1
 refine ⟨fn,_,assign,body,hy,roundIn_of_wpIn hfn (hassign _ ⟨_,run_beginRound hlA (by rw [hrec]),?_⟩)⟩
 have hl2 : (AW.putObj l (.loop (rec .busy none))).heap[l]? = some (.loop (rec .busy none)):=World.putObj_heap_same hltA
 have e2 : ({ rec .ready none with state:=.busy } : Loop) = rec .busy none:=by rw [hrec]
 rw [e2]
 refine wpIn_mono hbody ?_
 rintro e a3 W3 hp
 cases e with
 | normal =>
  obtain ⟨hi3,hk3⟩:=hp
  have hl3:=hk3.2 l _ hl2 trivial
  have hlt3 : l < W3.heap.size:=(Array.getElem?_eq_some_iff.1 hl3).1
  have hend:=run_endRound (P:=P) none hl3
  have e3 : ({ rec .busy none with state:=if (none : Option Code).isNone then .ready else .done,pending:=none } : Loop) = rec .ready none:=by rw [hrec];rfl
  rw [e3] at hend
  refine ⟨_,_,hend,rfl,hR W3 hi3 hl3 hk3,?_,?_⟩
  ·have h1:=hA.size
   have h2:=hk3.1
   have h4:=(grownBy_putObj' AW l (.loop (rec .busy none))).size
   have h5:=(grownBy_putObj' W3 l (.loop (rec .ready none))).size
   omega
  ·intro k o hk ho
   by_cases e : k = l
   ·subst e
    rw [hl] at hk
    cases hk
    exact World.putObj_heap_same hlt3
   ·have k1:=(hA.block k (Array.getElem?_eq_some_iff.1 hk).1).trans hk
    have k2 : (AW.putObj l (.loop (rec .busy none))).heap[k]? = some o:=(World.putObj_heap_other e).trans k1
    exact (World.putObj_heap_other e).trans (hk3.2 k o k2 ho)
 | ret=>exact hp.elim
 | exit id=>exact hp.elim
 | goto t=>exact hp.elim
 | panic ch=>exact hp.elim
 | outgrown=>exact hp.elim

end Go.Proofs.Ytnllndcajdofjaa

/-! A range over a function that is left in its M-th round,by a return or by a break: the iterator's debt,and the caller's walk,outside of a round and within one. -/
namespace Go.Proofs.Ytnllndcajdofjaa
open Go.RowKit
set_option linter.unusedVariables false

variable {F : Fence} {n : Nat} {P : Program}

/-- How a round that leaves the loop ends,and the jump that it leaves behind. -/
def JumpOk (e0 : Exit) (j : Code) : Prop:=(e0 = .ret ∧ j = .ret) ∨ ∃ id,e0 = .exit id ∧ j = .exit id
/-- A body that ends in one way only. -/
def endsX (e0 : Exit) (R : World → Prop) : Exit → Go.Act → World → Prop:=fun e _ W=>e = e0 ∧ R W
/-- As Con,but for the records of loops below b. -/
def ConX (K : TypeId → Bool) (b : Nat) (A B : World) : Prop:=A.heap.size ≤ B.heap.size ∧ ∀ (k : Nat) (o : Obj),A.heap[k]? = some o → keptBy K o → (b ≤ k ∨ ∀ r,o ≠ .loop r) → B.heap[k]? = some o
theorem Con.x {K : TypeId → Bool} {A B : World} (h : Con K A B) (b : Nat) : ConX K b A B:=⟨h.1,fun k o hk ho _=>h.2 k o hk ho⟩
theorem yieldAt_mono {l : Nat} {ar : Array Value} {W : World} {m : Nat} {R R' : Ending → World → Prop} (h : YieldAt F m P l ar W R) (hr : ∀ e W',R e W' → R' e W') : YieldAt F m P l ar W R':=by
 obtain ⟨fn,tmps,assign,body,hy,hR⟩:=h
 exact ⟨fn,tmps,assign,body,hy,hR.mono hr⟩
/-- One round that goes on,where the assignment may write. -/
theorem round_ofC {l : Nat} {rec : LoopState → Option Code → Loop} {tmps0 : Array Value} {fn : FuncId} {ps : Array Tmp} {assign body : Code} {K : TypeId → Bool} {i : Nat} {ar : Array Value} {W : World} {RA : World → Prop} {a₁ : Go.Act} {I : Nat → World → Prop} {D : Nat} {m : Nat}
  (hrec : rec = fun st pe=>{ state:=st,pending:=pe,fn:=fn,tmps:=tmps0,params:=ps,assign:=assign,body:=body,defers:=D }) (hfn : F.fn fn) (hps : ar.size = ps.size)
  (hl : W.heap[l]? = some (.loop (rec .ready none))) (hAR : ∀ AW,RA AW → Con K W AW)
  (hassign : ∀ Kc : Go.Act → World → Prop,(∀ AW,RA AW → Kc a₁ AW) → assign.wpIn (F.inRound l) m P (Exit.then Kc (fun _ _ _=>False)) { tmps:=(ps.zip ar).foldl (fun t (p,v)=>t.setIfInBounds p v) tmps0,defers:=[] } W)
  (hbody : ∀ AW,RA AW → body.wpIn (F.inRound l) m P (endsIn fun W'=>I (i + 1) W' ∧ Con K (AW.putObj l (.loop (rec .busy none))) W') a₁ (AW.putObj l (.loop (rec .busy none))))
  (R : World → Prop) (hR : ∀ AW W',RA AW → I (i + 1) W' → W'.heap[l]? = some (.loop (rec .busy none)) → Con K (AW.putObj l (.loop (rec .busy none))) W' → R (W'.putObj l (.loop (rec .ready none)))) :
  YieldAt F m P l ar W fun e W'=>e = .returned (.bool true) ∧ R W' ∧ Con K W W':=by
 have hlt : l < W.heap.size:=(Array.getElem?_eq_some_iff.1 hl).1
 have hy:=run_yield (P:=P) (args:=ar) hl (by rw [hrec];exact hps)
 rw [hrec] at hy
 refine ⟨fn,_,assign,body,hy,roundIn_of_wpIn hfn (hassign _ fun AW hRA=>?_)⟩
 have hA:=hAR AW hRA
 have hlA : AW.heap[l]? = some (.loop (rec .ready none)):=hA.2 l _ hl trivial
 have hltA : l < AW.heap.size:=(Array.getElem?_eq_some_iff.1 hlA).1
 refine ⟨_,run_beginRound hlA (by rw [hrec]),?_⟩
 have hl2 : (AW.putObj l (.loop (rec .busy none))).heap[l]? = some (.loop (rec .busy none)):=World.putObj_heap_same hltA
 have e2 : ({ rec .ready none with state:=.busy } : Loop) = rec .busy none:=by rw [hrec]
 rw [e2]
 refine wpIn_mono (hbody AW hRA) ?_
 rintro e a3 W3 hp
 cases e with
 | normal =>
  obtain ⟨hi3,hk3⟩:=hp
  have hl3:=hk3.2 l _ hl2 trivial
  have hlt3 : l < W3.heap.size:=(Array.getElem?_eq_some_iff.1 hl3).1
  have hend:=run_endRound (P:=P) none hl3
  have e3 : ({ rec .busy none with state:=if (none : Option Code).isNone then .ready else .done,pending:=none } : Loop) = rec .ready none:=by rw [hrec];rfl
  rw [e3] at hend
  refine ⟨_,_,hend,rfl,hR AW W3 hRA hi3 hl3 hk3,?_,?_⟩
  ·have h1:=hA.1
   have h2:=hk3.1
   have h4:=(grownBy_putObj' AW l (.loop (rec .busy none))).size
   have h5:=(grownBy_putObj' W3 l (.loop (rec .ready none))).size
   omega
  ·intro k o hk ho
   by_cases e : k = l
   ·subst e
    rw [hl] at hk
    cases hk
    exact World.putObj_heap_same hlt3
   ·have k1:=hA.2 k o hk ho
    have k2 : (AW.putObj l (.loop (rec .busy none))).heap[k]? = some o:=(World.putObj_heap_other e).trans k1
    exact (World.putObj_heap_other e).trans (hk3.2 k o k2 ho)
 | ret=>exact hp.elim
 | exit id=>exact hp.elim
 | goto t=>exact hp.elim
 | panic ch=>exact hp.elim
 | outgrown=>exact hp.elim

/-- The last round,as the iterator sees it. -/
theorem round_last {l : Nat} {rec : LoopState → Option Code → Loop} {tmps0 : Array Value} {fn : FuncId} {ps : Array Tmp} {assign body : Code} {K : TypeId → Bool} {i : Nat} {ar : Array Value} {W : World} {RA : World → Prop} {a₁ : Go.Act} {I : Nat → World → Prop} {D : Nat} {m n0 : Nat} {e0 : Exit} {j : Code} (hj : JumpOk e0 j)
  (hrec : rec = fun st pe=>{ state:=st,pending:=pe,fn:=fn,tmps:=tmps0,params:=ps,assign:=assign,body:=body,defers:=D }) (hfn : F.fn fn) (hps : ar.size = ps.size)
  (hl : W.heap[l]? = some (.loop (rec .ready none))) (hAR : ∀ AW,RA AW → Con K W AW) (hn0 : n0 ≤ l)
  (hassign : ∀ Kc : Go.Act → World → Prop,(∀ AW,RA AW → Kc a₁ AW) → assign.wpIn (F.inRound l) m P (Exit.then Kc (fun _ _ _=>False)) { tmps:=(ps.zip ar).foldl (fun t (p,v)=>t.setIfInBounds p v) tmps0,defers:=[] } W)
  (hbody : ∀ AW,RA AW → body.wpIn (F.inRound l) m P (endsX e0 fun W'=>I (i + 1) W' ∧ ConX K n0 (AW.putObj l (.loop (rec .busy none))) W') a₁ (AW.putObj l (.loop (rec .busy none))))
  (R : World → Prop) (hR : ∀ AW W',RA AW → I (i + 1) W' → W'.heap[l]? = some (.loop (rec .busy none)) → ConX K n0 (AW.putObj l (.loop (rec .busy none))) W' → R (W'.putObj l (.loop (rec .done (some j))))) :
  YieldAt F m P l ar W fun e W'=>e = .returned (.bool false) ∧ R W' ∧ ConX K (l + 1) W W':=by
 have hlt : l < W.heap.size:=(Array.getElem?_eq_some_iff.1 hl).1
 have hy:=run_yield (P:=P) (args:=ar) hl (by rw [hrec];exact hps)
 rw [hrec] at hy
 refine ⟨fn,_,assign,body,hy,roundIn_of_wpIn hfn (hassign _ fun AW hRA=>?_)⟩
 have hA:=hAR AW hRA
 have hlA : AW.heap[l]? = some (.loop (rec .ready none)):=hA.2 l _ hl trivial
 have hltA : l < AW.heap.size:=(Array.getElem?_eq_some_iff.1 hlA).1
 refine ⟨_,run_beginRound hlA (by rw [hrec]),?_⟩
 have hl2 : (AW.putObj l (.loop (rec .busy none))).heap[l]? = some (.loop (rec .busy none)):=World.putObj_heap_same hltA
 have e2 : ({ rec .ready none with state:=.busy } : Loop) = rec .busy none:=by rw [hrec]
 rw [e2]
 refine wpIn_mono (hbody AW hRA) ?_
 rintro e a3 W3 ⟨rfl,hi3,hk3⟩
 have hl3:=hk3.2 l _ hl2 trivial (.inl hn0)
 have hlt3 : l < W3.heap.size:=(Array.getElem?_eq_some_iff.1 hl3).1
 have hend:=run_endRound (P:=P) (some j) hl3
 have e3 : ({ rec .busy none with state:=if (some j : Option Code).isNone then .ready else .done,pending:=some j } : Loop) = rec .done (some j):=by rw [hrec];rfl
 rw [e3] at hend
 have hc : ConX K (l + 1) W (W3.putObj l (.loop (rec .done (some j)))):=by
  refine ⟨?_,?_⟩
  ·have h1:=hA.1
   have h2:=hk3.1
   have h4:=(grownBy_putObj' AW l (.loop (rec .busy none))).size
   have h5:=(grownBy_putObj' W3 l (.loop (rec .done (some j)))).size
   omega
  ·intro k o hk ho hkl
   by_cases e : k = l
   ·subst e
    rw [hl] at hk
    cases hk
    rcases hkl with h | h
    ·exact absurd h (by omega)
    ·exact absurd rfl (h _)
   ·have k1:=hA.2 k o hk ho
    have k2 : (AW.putObj l (.loop (rec .busy none))).heap[k]? = some o:=(World.putObj_heap_other e).trans k1
    exact (World.putObj_heap_other e).trans (hk3.2 k o k2 ho (hkl.imp (fun q=>by omega) id))
 rcases hj with ⟨rfl,rfl⟩ | ⟨id,rfl,rfl⟩
 ·exact ⟨_,_,hend,rfl,hR AW W3 hRA hi3 hl3 hk3,hc⟩
 ·exact ⟨_,_,hend,rfl,hR AW W3 hRA hi3 hl3 hk3,hc⟩
end Go.Proofs.Ytnllndcajdofjaa

/-! A range over a method value: the receiver is handed over ahead of yield. -/
namespace Go.Proofs.Ytnllndcajdofjaa
open Go.RowKit
set_option linter.unusedVariables false

variable {F : Fence} {n : Nat} {P : Program}

def IterCF (F : Fence) (n : Nat) (P : Program) (gf : Nat) (fa lb : Array Value) (N : Nat) (Y : Nat → World → Array Value → Prop) (K : TypeId → Bool) (I : Nat → World → Prop) (w : World) : Prop :=
 ∀ (l : Nat) (J : Nat → World → Prop) (W : World),Below w.heap.size w W → (∀ i A B,J i A → ItW K W.heap.size A B → J i B) → (∀ i A,J i A → I i A) →
  (∀ i ar W1,i < N → J i W1 → Y i W1 ar → W.heap.size ≤ W1.heap.size → YieldAt F (n - 1) P l ar W1 fun e W'=>e = .returned (.bool true) ∧ J (i + 1) W' ∧ Con K W1 W') → J 0 W →
  CallsIn F n P gf (fa ++ #[.func (.yield l) #[] #[]] ++ lb) W fun e W'=>(∃ v,e = .returned v) ∧ J N W'
theorem wpIn_rangeCF {g : Operand} {ps : Array Tmp} {assign body : Code} {Q : Exit → Go.Act → World → Prop} {a : Go.Act} {w : World}
  (hro : F.round = none) (h1 : 1 ≤ n) {gf : Nat} {fa lb : Array Value} (hg : a.eval g = .func (.func gf) fa lb) (hFg : F.fn gf) (eg : ∀ args w,(callFunc gf args).run P w = .ok (.enter gf args) w)
  {N : Nat} {Y : Nat → World → Array Value → Prop} {K : TypeId → Bool} {I : Nat → World → Prop} (hiter : IterCF F (n - 1) P gf fa lb N Y K I w)
  (hps : ∀ i W ar,Y i W ar → ar.size = ps.size) (hY : ∀ i A B ar,Y i A ar → CellsAs A B → Y i B ar)
  (hI : ∀ i A B,I i A → ItW K w.heap.size A B → I i B) (h0 : I 0 w) (a₁ : Array Value → World → Go.Act) (AW : Array Value → World → World) (hAW : ∀ ar W,Below W.heap.size W (AW ar W))
  (hassign : ∀ (l i : Nat) (ar : Array Value) (W : World) (Kc : Go.Act → World → Prop),Y i W ar → Kc (a₁ ar W) (AW ar W) →
   assign.wpIn (F.inRound l) (n - 1 - 1) P (Exit.then Kc (fun _ _ _=>False)) { tmps:=(ps.zip ar).foldl (fun t (p,v)=>t.setIfInBounds p v) a.tmps,defers:=[] } W)
  (hbody : ∀ (l i : Nat) (ar : Array Value) (W0 W : World),i < N → I i W → Y i W ar → w.heap.size ≤ l → (∃ r,W.heap[l]? = some (.loop r)) → w.heap.size ≤ W0.heap.size → CellsAs (AW ar W0) W → (AW ar W0).heap.size = W.heap.size → body.wpIn (F.inRound l) (n - 1 - 1) P (endsIn fun W'=>I (i + 1) W' ∧ Con K W W') (a₁ ar W0) W)
  (hdone : ∀ (D : Nat) (W : World),w.heap.size ≤ D → I N W → W.heap[D]? = some (.deferred (some [])) → Q .normal { a with defers:={ target:=.collected D,args:=#[] } :: a.defers } W) :
  (Code.rangeFunc g ps assign body).wpIn F n P Q a w:=by
 refine wpIn_rangeFunc ?_
 intro fn hfn
 rw [hro]
 obtain ⟨rec,hrec⟩ : ∃ rec : LoopState → Option Code → Loop,rec = fun st pe=>{ state:=st,pending:=pe,fn,tmps:=a.tmps,params:=ps,assign,body,defers:=w.heap.size }:=⟨_,rfl⟩
 obtain ⟨W1,hW1⟩ : ∃ W1,(w.alloc (.deferred (some []))).alloc (.loop (rec .ready none)) = W1:=⟨_,rfl⟩
 have hsz : W1.heap.size = w.heap.size + 1 + 1:=by rw [← hW1];simp
 have hL1 : W1.heap[w.heap.size + 1]? = some (.loop (rec .ready none)):=by
  rw [← hW1];have:=World.alloc_heap_new (w.alloc (.deferred (some []))) (.loop (rec .ready none));rwa [World.size_alloc] at this
 have hK1 : W1.heap[w.heap.size]? = some (.deferred (some [])):=by
  rw [← hW1];exact (Below.heap_alloc _ _ _ (by simp)).trans (World.alloc_heap_new w _)
 have hb1 : Below w.heap.size w W1:=by
  rw [← hW1];exact (((Below.refl _ w).alloc (Nat.le_refl _) _).alloc (by simp) _)
 refine ⟨w.heap.size + 1,[{ target:=.collected w.heap.size,args:=#[] }],W1,{ target:=.fn (.func gf) lb,args:=fa ++ #[.func (.yield (w.heap.size + 1)) #[] #[]] },W1,gf,
  fa ++ #[.func (.yield (w.heap.size + 1)) #[] #[]] ++ lb,W1,?_,?_,?_,?_,fun _=>h1,?_⟩
 ·rw [← hW1,hrec];exact run_enterLoop_outer _ _ _ _ _
 ·simp only [resolve,hg]
  simp [go_sem]
 ·intro f' hf';simp [Target.leads] at hf';subst hf';exact hFg
 ·simp [invoke,go_sem,eg]
 ·refine (hiter (w.heap.size + 1) (fun i W=>I i W ∧ W.heap[w.heap.size + 1]? = some (.loop (rec .ready none)) ∧ W.heap[w.heap.size]? = some (.deferred (some []))) W1 hb1 ?_ (fun i A h=>h.1) ?_ ⟨hI 0 w W1 h0 (itw_below hb1 (Nat.le_refl _)),hL1,hK1⟩).mono ?_
  ·rintro i A B ⟨hi,hl,hk⟩ hb
   exact ⟨hI i A B hi (hb.mono (by omega) (fun _ h=>h)),(hb.1.block (w.heap.size + 1) (by omega)).trans hl,(hb.1.block w.heap.size (by omega)).trans hk⟩
  ·rintro i ar W hlt ⟨hi,hl,hk⟩ hy hsW
   have hltl : w.heap.size + 1 < W.heap.size:=(Array.getElem?_eq_some_iff.1 hl).1
   have hA:=hAW ar W
   have hlA : (AW ar W).heap[w.heap.size + 1]? = some (.loop (rec .ready none)):=(hA.block _ hltl).trans hl
   have hltA : w.heap.size + 1 < (AW ar W).heap.size:=(Array.getElem?_eq_some_iff.1 hlA).1
   have hca : CellsAs (AW ar W) ((AW ar W).putObj (w.heap.size + 1) (.loop (rec .busy none))):=cellsAs_put hlA rfl
   have hcw : CellsAs W ((AW ar W).putObj (w.heap.size + 1) (.loop (rec .busy none))):=fun k cs t fr h=>hca k cs t fr (cellsAs_below hA k cs t fr h)
   have hib : I i ((AW ar W).putObj (w.heap.size + 1) (.loop (rec .busy none))):=hI i _ _ hi ((itw_below hA (by omega)).trans (itw_put hlA rfl (by omega)))
   refine round_of hrec hfn (hps i W ar hy) hl hA (fun Kc hKc=>hassign _ i ar W Kc hy hKc)
    (hbody _ i ar W _ hlt hib (hY i W _ ar hy hcw) (by omega) ⟨_,World.putObj_heap_same hltA⟩ (by omega) hca (by simp)) _ ?_
   intro W' hi' hl' hk'
   have hk2 : ((AW ar W).putObj (w.heap.size + 1) (.loop (rec .busy none))).heap[w.heap.size]? = some (.deferred (some [])):=(World.putObj_heap_other (by omega)).trans ((hA.block _ (by omega)).trans hk)
   exact ⟨hI _ _ _ hi' (itw_put hl' rfl (by omega)),World.putObj_heap_same (Array.getElem?_eq_some_iff.1 hl').1,(World.putObj_heap_other (by omega)).trans (hk'.2 _ _ hk2 trivial)⟩
  ·rintro e W2 ⟨⟨v,rfl⟩,hi,hl,hk⟩
   have hlt2 : w.heap.size + 1 < W2.heap.size:=(Array.getElem?_eq_some_iff.1 hl).1
   exact ⟨none,_,by have:=run_endLoop (P:=P) hl (by rw [hrec];simp);rw [hrec] at this;exact this,hdone _ _ (Nat.le_refl _) (hI _ _ _ hi (itw_put hl rfl (by omega))) ((World.putObj_heap_other (by omega)).trans hk)⟩

def IterXF (F : Fence) (n : Nat) (P : Program) (gf : Nat) (fa lb : Array Value) (M : Nat) (Y : Nat → World → Array Value → Prop) (K : TypeId → Bool) (I : Nat → World → Prop) (w : World) : Prop :=
 ∀ (l : Nat) (J : Nat → World → Prop) (W : World),Below w.heap.size w W → l < W.heap.size → (∀ i A B,J i A → ItW K W.heap.size A B → J i B) → (∀ i A,J i A → I i A) →
  (∀ i ar W1,i ≤ M → J i W1 → Y i W1 ar → W.heap.size ≤ W1.heap.size → YieldAt F (n - 1) P l ar W1 fun e W'=>e = .returned (.bool (decide (i < M))) ∧ J (i + 1) W' ∧ (i < M → Con K W1 W') ∧ ConX K (l + 1) W1 W') → J 0 W →
  CallsIn F n P gf (fa ++ #[.func (.yield l) #[] #[]] ++ lb) W fun e W'=>(∃ v,e = .returned v) ∧ J (M + 1) W'
theorem wpIn_rangeXF {g : Operand} {ps : Array Tmp} {assign body : Code} {Q : Exit → Go.Act → World → Prop} {a : Go.Act} {w : World}
  (hro : F.round = none) (h1 : 1 ≤ n) {gf : Nat} {fa lb : Array Value} (hg : a.eval g = .func (.func gf) fa lb) (hFg : F.fn gf) (eg : ∀ args w,(callFunc gf args).run P w = .ok (.enter gf args) w)
  {M : Nat} {e0 : Exit} {j : Code} (hj : JumpOk e0 j) {Y : Nat → World → Array Value → Prop} {K : TypeId → Bool} {I : Nat → World → Prop} (hiter : IterXF F (n - 1) P gf fa lb M Y K I w)
  (hps : ∀ i W ar,Y i W ar → ar.size = ps.size) (hY : ∀ i A B ar,Y i A ar → CellsAs A B → Y i B ar)
  (hI : ∀ i A B,I i A → ItW K w.heap.size A B → I i B) (h0 : I 0 w) (a₁ : Array Value → World → Go.Act) (RA : Array Value → World → World → Prop) (hAW : ∀ i ar W W',i ≤ M → w.heap.size ≤ W.heap.size → I i W → Y i W ar → RA ar W W' → Con K W W' ∧ I i W' ∧ Y i W' ar)
  (hassign : ∀ (l i : Nat) (ar : Array Value) (W : World) (Kc : Go.Act → World → Prop),w.heap.size ≤ W.heap.size → I i W → Y i W ar → (∀ W',RA ar W W' → Kc (a₁ ar W) W') →
   assign.wpIn (F.inRound l) (n - 1 - 1) P (Exit.then Kc (fun _ _ _=>False)) { tmps:=(ps.zip ar).foldl (fun t (p,v)=>t.setIfInBounds p v) a.tmps,defers:=[] } W)
  (hbody : ∀ (l i : Nat) (ar : Array Value) (W0 W1 W : World),RA ar W0 W1 → i < M → I i W → Y i W ar → w.heap.size ≤ l → (∃ r,W.heap[l]? = some (.loop r)) → w.heap.size ≤ W0.heap.size → CellsAs W1 W → W1.heap.size = W.heap.size → body.wpIn (F.inRound l) (n - 1 - 1) P (endsIn fun W'=>I (i + 1) W' ∧ Con K W W') (a₁ ar W0) W)
  (hlast : ∀ (l : Nat) (ar : Array Value) (W0 W1 W : World),RA ar W0 W1 → I M W → Y M W ar → w.heap.size ≤ l → (∃ r,W.heap[l]? = some (.loop r)) → w.heap.size ≤ W0.heap.size → CellsAs W1 W → W1.heap.size = W.heap.size → body.wpIn (F.inRound l) (n - 1 - 1) P (endsX e0 fun W'=>I (M + 1) W' ∧ ConX K w.heap.size W W') (a₁ ar W0) W)
  (hdone : ∀ (D : Nat) (W : World),w.heap.size ≤ D → I (M + 1) W → W.heap[D]? = some (.deferred (some [])) → j.wpIn F n P Q { a with defers:={ target:=.collected D,args:=#[] } :: a.defers } W) :
  (Code.rangeFunc g ps assign body).wpIn F n P Q a w:=by
 refine wpIn_rangeFunc ?_
 intro fn hfn
 rw [hro]
 obtain ⟨rec,hrec⟩ : ∃ rec : LoopState → Option Code → Loop,rec = fun st pe=>{ state:=st,pending:=pe,fn,tmps:=a.tmps,params:=ps,assign,body,defers:=w.heap.size }:=⟨_,rfl⟩
 obtain ⟨W1,hW1⟩ : ∃ W1,(w.alloc (.deferred (some []))).alloc (.loop (rec .ready none)) = W1:=⟨_,rfl⟩
 have hsz : W1.heap.size = w.heap.size + 1 + 1:=by rw [← hW1];simp
 have hL1 : W1.heap[w.heap.size + 1]? = some (.loop (rec .ready none)):=by
  rw [← hW1];have:=World.alloc_heap_new (w.alloc (.deferred (some []))) (.loop (rec .ready none));rwa [World.size_alloc] at this
 have hK1 : W1.heap[w.heap.size]? = some (.deferred (some [])):=by
  rw [← hW1];exact (Below.heap_alloc _ _ _ (by simp)).trans (World.alloc_heap_new w _)
 have hb1 : Below w.heap.size w W1:=by
  rw [← hW1];exact (((Below.refl _ w).alloc (Nat.le_refl _) _).alloc (by simp) _)
 refine ⟨w.heap.size + 1,[{ target:=.collected w.heap.size,args:=#[] }],W1,{ target:=.fn (.func gf) lb,args:=fa ++ #[.func (.yield (w.heap.size + 1)) #[] #[]] },W1,gf,
  fa ++ #[.func (.yield (w.heap.size + 1)) #[] #[]] ++ lb,W1,?_,?_,?_,?_,fun _=>h1,?_⟩
 ·rw [← hW1,hrec];exact run_enterLoop_outer _ _ _ _ _
 ·simp only [resolve,hg]
  simp [go_sem]
 ·intro f' hf';simp [Target.leads] at hf';subst hf';exact hFg
 ·simp [invoke,go_sem,eg]
 ·refine (hiter (w.heap.size + 1) (fun i W=>I i W ∧ W.heap[w.heap.size + 1]? = some (.loop (if i ≤ M then rec .ready none else rec .done (some j))) ∧ W.heap[w.heap.size]? = some (.deferred (some []))) W1 hb1 (by rw [hsz];omega) ?_ (fun i A h=>h.1) ?_ ⟨hI 0 w W1 h0 (itw_below hb1 (Nat.le_refl _)),by rw [if_pos (Nat.zero_le _)];exact hL1,hK1⟩).mono ?_
  ·rintro i A B ⟨hi,hl,hk⟩ hb
   exact ⟨hI i A B hi (hb.mono (by omega) (fun _ h=>h)),(hb.1.block (w.heap.size + 1) (by omega)).trans hl,(hb.1.block w.heap.size (by omega)).trans hk⟩
  ·rintro i ar W hlt ⟨hi,hl,hk⟩ hy hsW
   rw [if_pos hlt] at hl
   have hltl : w.heap.size + 1 < W.heap.size:=(Array.getElem?_eq_some_iff.1 hl).1
   have hAA : ∀ AW,RA ar W AW → ∃ hltA : (w.heap.size + 1) < AW.heap.size,Con K W AW ∧ CellsAs AW (AW.putObj (w.heap.size + 1) (.loop (rec .busy none))) ∧ I i (AW.putObj (w.heap.size + 1) (.loop (rec .busy none))) ∧ Y i (AW.putObj (w.heap.size + 1) (.loop (rec .busy none))) ar ∧ (AW.putObj (w.heap.size + 1) (.loop (rec .busy none))).heap[w.heap.size]? = some (.deferred (some [])):=fun AW hRA=>by
    obtain ⟨hA,hIA,hYA⟩:=hAW i ar W AW hlt (by omega) hi hy hRA
    have hA1:=hA.1
    have hlA : AW.heap[w.heap.size + 1]? = some (.loop (rec .ready none)):=hA.2 _ _ hl trivial
    have hltA : (w.heap.size + 1) < AW.heap.size:=(Array.getElem?_eq_some_iff.1 hlA).1
    have hca : CellsAs AW (AW.putObj (w.heap.size + 1) (.loop (rec .busy none))):=cellsAs_put hlA rfl
    exact ⟨hltA,hA,hca,hI i _ _ hIA (itw_put hlA rfl (by omega)),hY i _ _ ar hYA hca,(World.putObj_heap_other (by omega)).trans (hA.2 _ _ hk trivial)⟩
   by_cases hiM : i < M
   ·refine yieldAt_mono (round_ofC hrec hfn (hps i W ar hy) hl (RA:=RA ar W) (fun AW h=>(hAA AW h).2.1) (fun Kc hKc=>hassign _ i ar W Kc (by omega) hi hy hKc)
     (fun AW h=>by
      obtain ⟨hltA,hA,hca,hib,hyb,_⟩:=hAA AW h
      exact hbody _ i ar W AW _ h hiM hib hyb (by omega) ⟨_,World.putObj_heap_same hltA⟩ (by omega) hca (by simp)) (fun W'=>I (i + 1) W' ∧ W'.heap[w.heap.size + 1]? = some (.loop (if i + 1 ≤ M then rec .ready none else rec .done (some j))) ∧ W'.heap[w.heap.size]? = some (.deferred (some []))) ?_) ?_
    ·intro AW W' h hi' hl' hk'
     obtain ⟨_,_,_,_,_,hk2⟩:=hAA AW h
     rw [if_pos (by omega : i + 1 ≤ M)]
     exact ⟨hI _ _ _ hi' (itw_put hl' rfl (by omega)),World.putObj_heap_same (Array.getElem?_eq_some_iff.1 hl').1,(World.putObj_heap_other (by omega)).trans (hk'.2 _ _ hk2 trivial)⟩
    ·rintro e W' ⟨he,hr,hc⟩
     exact ⟨by rw [he,decide_eq_true hiM],hr,fun _=>hc,hc.x _⟩
   ·obtain rfl : i = M:=by omega
    refine yieldAt_mono (round_last (n0:=w.heap.size) hj hrec hfn (hps i W ar hy) hl (RA:=RA ar W) (fun AW h=>(hAA AW h).2.1) (by omega) (fun Kc hKc=>hassign _ i ar W Kc (by omega) hi hy hKc)
     (fun AW h=>by
      obtain ⟨hltA,hA,hca,hib,hyb,_⟩:=hAA AW h
      exact hlast _ ar W AW _ h hib hyb (by omega) ⟨_,World.putObj_heap_same hltA⟩ (by omega) hca (by simp)) (fun W'=>I (i + 1) W' ∧ W'.heap[w.heap.size + 1]? = some (.loop (if i + 1 ≤ i then rec .ready none else rec .done (some j))) ∧ W'.heap[w.heap.size]? = some (.deferred (some []))) ?_) ?_
    ·intro AW W' h hi' hl' hk'
     obtain ⟨_,_,_,_,_,hk2⟩:=hAA AW h
     rw [if_neg (by omega : ¬ i + 1 ≤ i)]
     exact ⟨hI _ _ _ hi' (itw_put hl' rfl (by omega)),World.putObj_heap_same (Array.getElem?_eq_some_iff.1 hl').1,(World.putObj_heap_other (by omega)).trans (hk'.2 _ _ hk2 trivial (.inr (fun r e=>by cases e)))⟩
    ·rintro e W' ⟨he,hr,hc⟩
     exact ⟨by rw [he,decide_eq_false (by omega)],hr,fun h=>absurd h (by omega),hc⟩
  ·rintro e W2 ⟨⟨v,rfl⟩,hi,hl,hk⟩
   rw [if_neg (by omega : ¬ M + 1 ≤ M)] at hl
   have hlt2 : w.heap.size + 1 < W2.heap.size:=(Array.getElem?_eq_some_iff.1 hl).1
   exact ⟨some j,_,by have:=run_endLoop (P:=P) hl (by rw [hrec];simp);rw [hrec] at this;exact this,hdone _ _ (Nat.le_refl _) (hI _ _ _ hi (itw_put hl rfl (by omega))) ((World.putObj_heap_other (by omega)).trans hk)⟩
end Go.Proofs.Ytnllndcajdofjaa

/-! The program's blinds and first seats. -/
namespace Go.Proofs.Ytnllndcajdofjaa
open Go.RowKit
set_option linter.unusedVariables false

end Go.Proofs.Ytnllndcajdofjaa

/-! The seats of a table one after another: the iterator that is a method value,ranged over to its end and left early;slices.Collect of it. -/
namespace Go.Proofs.Ytnllndcajdofjaa
open Go.RowKit
set_option linter.unusedVariables false
attribute [local go_sem] Oper.semAt_some

/-- The walk around a table by value. -/
abbrev wkV (t : Int) (N : Nat) : Value:=.agg #[.int .i64 t,.int .i64 N]
/-- The blocks that the iterator keeps for itself. -/
def kWalk : TypeId → Bool:=fun t=>t == 138
theorem kWalk_own : kWalk 138 = true:=by kernel_rfl
/-- What it hands to yield at the i-th round. -/
def YS (N : Nat) (t : Int) (i : Nat) (W : World) (ar : Array Value) : Prop:=ar = #[.int .i64 (seatAt N t i)]

set_option maxRecDepth 100000 in
set_option maxHeartbeats 2000000 in
theorem seatsC_any (fn N : Nat) (t : Int) (I : Nat → World → Prop) (w : World) (hfn : 1 ≤ fn) (hN : 0 < N) (hN6 : N ≤ 6) (h0t : 0 ≤ t) (h1t : t < N) :
  IterCF Fence.wide fn Try.prog 151 #[wkV t N] #[] N (YS N t) kWalk I w:=by
 intro l J W hW hJ hJI hY h0
 refine callsIn_of_wp Try.func151 rfl trivial ?_ rfl
 simp only [Try.ntmps151,List.size_toArray,List.length_cons,List.length_nil,Nat.reduceAdd,Nat.reduceSub,Array.replicate_succ,Array.replicate_zero,List.push_toArray,List.append_toArray,List.nil_append,List.cons_append]
 have HJ:=Lib.hid hJ
 have HY:=Lib.hid hY
 have nb:=blk_new W 138 [.int .i64 t,.int .i64 N]
 have bb:=bl_alloc (bl_refl W) (.cells ([.int .i64 t,.int .i64 N] : List Value).toArray 138)
 have HS : Hid (J 0 (W.alloc (.cells ([.int .i64 t,.int .i64 N] : List Value).toArray 138)) ∧ Blk (W.alloc (.cells ([.int .i64 t,.int .i64 N] : List Value).toArray 138)) W.heap.size 138 [.int .i64 t,.int .i64 N] ∧ W.heap.size ≤ (W.alloc (.cells ([.int .i64 t,.int .i64 N] : List Value).toArray 138)).heap.size) :=
  Lib.hid ⟨hJ 0 W _ h0 (itw_below bb (Nat.le_refl _)),nb,bb.size⟩
 have e0:=seatAt_zero N t h0t h1t
 have E0:=Lib.hid e0
 clear hJI hJ hY h0 hW nb bb e0
 gi_wp2
 gi_loopw [4,9] (fun s i wr=>∃ k : Nat,k ≤ N ∧ i = .int .i64 k ∧ s = .int .i64 (seatAt N t k) ∧ Hid (J k wr ∧ Blk wr W.heap.size 138 [.int .i64 t,.int .i64 N] ∧ W.heap.size ≤ wr.heap.size)) (fun _ i _=>N - (intOf i).toNat)
 case atStart=>exact ⟨0,Nat.zero_le _,rfl,by rw [E0.out],HS⟩
 case round =>
  obtain ⟨k,hk,rfl,rfl,hs⟩:=hrel
  by_cases hlt : k < N
  ·have hlt' : (k : Int) < N:=by omega
   have sb:=seatAt_bd N t k (by omega)
   have KL:=Lib.hid (fun W : World=>leftOf_any (seatAt N t k) N W sb.1 (by omega) (by omega) (by omega))
   rw [seatAt_next N t k] at KL
   obtain ⟨fn',tmps,assign,body,hy,hR⟩:=HY.out k #[.int .i64 (seatAt N t k)] wr hlt hs.out.1 rfl hs.out.2.2
   have HR:=Lib.hid hR
   have HB:=Lib.hid hs.out.2
   clear hR hs sb
   generalize seatAt N t k = x at *
   gi_wp2
   refine HR.out.mono ?_
   rintro e W3 ⟨rfl,hJ3,hC3⟩
   have HJ3:=Lib.hid hJ3
   have HB3:=Lib.hid (con_blk hC3 HB.out.1 kWalk_own)
   have HZ3:=Lib.hid (Nat.le_trans HB.out.2 hC3.1)
   obtain ⟨q1,_⟩:=HB3.out.cell 1 _ rfl
   clear hJ3 hC3 hy
   gi_wp2_with (refine ⟨trivial,?_⟩;gi_at_call 88;refine (callsIn_wide.2 (KL.out W3)).mono ?_;rintro e w4 ⟨rfl,rfl⟩)
   go_roundw
   case rel=>exact ⟨k + 1,by omega,by go_num,rfl,Lib.hid ⟨HJ3.out,HB3.out,HZ3.out⟩⟩
   case measure=>simp [intOf];omega
  ·obtain rfl : k = N:=by omega
   have HJ0:=Lib.hid hs.out.1
   obtain ⟨q1,_⟩:=hs.out.2.1.cell 1 _ rfl
   clear hs
   gi_wp2
   go_end0
   exact ⟨⟨_,rfl⟩,HJ0.out⟩
end Go.Proofs.Ytnllndcajdofjaa

/-! The seats of a table one after another,left early. -/
namespace Go.Proofs.Ytnllndcajdofjaa
open Go.RowKit
set_option linter.unusedVariables false
attribute [local go_sem] Oper.semAt_some

set_option maxRecDepth 100000 in
set_option maxHeartbeats 2000000 in
theorem seatsX_any (fn N M : Nat) (t : Int) (I : Nat → World → Prop) (w : World) (hfn : 1 ≤ fn) (hM : M < N) (hN6 : N ≤ 6) (h0t : 0 ≤ t) (h1t : t < N) :
  IterXF Fence.wide fn Try.prog 151 #[wkV t N] #[] M (YS N t) kWalk I w:=by
 intro l J W hW hl hJ hJI hY h0
 refine callsIn_of_wp Try.func151 rfl trivial ?_ rfl
 simp only [Try.ntmps151,List.size_toArray,List.length_cons,List.length_nil,Nat.reduceAdd,Nat.reduceSub,Array.replicate_succ,Array.replicate_zero,List.push_toArray,List.append_toArray,List.nil_append,List.cons_append]
 have HJ:=Lib.hid hJ
 have HY:=Lib.hid hY
 have nb:=blk_new W 138 [.int .i64 t,.int .i64 N]
 have bb:=bl_alloc (bl_refl W) (.cells ([.int .i64 t,.int .i64 N] : List Value).toArray 138)
 have HS : Hid (J 0 (W.alloc (.cells ([.int .i64 t,.int .i64 N] : List Value).toArray 138)) ∧ Blk (W.alloc (.cells ([.int .i64 t,.int .i64 N] : List Value).toArray 138)) W.heap.size 138 [.int .i64 t,.int .i64 N] ∧ W.heap.size ≤ (W.alloc (.cells ([.int .i64 t,.int .i64 N] : List Value).toArray 138)).heap.size) :=
  Lib.hid ⟨hJ 0 W _ h0 (itw_below bb (Nat.le_refl _)),nb,bb.size⟩
 have e0:=seatAt_zero N t h0t h1t
 have E0:=Lib.hid e0
 clear hJI hJ hY h0 hW nb bb e0
 gi_wp2
 gi_loopw [4,9] (fun s i wr=>∃ k : Nat,k ≤ M ∧ i = .int .i64 k ∧ s = .int .i64 (seatAt N t k) ∧ Hid (J k wr ∧ Blk wr W.heap.size 138 [.int .i64 t,.int .i64 N] ∧ W.heap.size ≤ wr.heap.size)) (fun _ i _=>M - (intOf i).toNat)
 case atStart=>exact ⟨0,Nat.zero_le _,rfl,by rw [E0.out],HS⟩
 case round =>
  obtain ⟨k,hk,rfl,rfl,hs⟩:=hrel
  have hlt' : (k : Int) < N:=by omega
  have sb:=seatAt_bd N t k (by omega)
  have KL:=Lib.hid (fun W : World=>leftOf_any (seatAt N t k) N W sb.1 (by omega) (by omega) (by omega))
  rw [seatAt_next N t k] at KL
  obtain ⟨fn',tmps,assign,body,hy,hR⟩:=HY.out k #[.int .i64 (seatAt N t k)] wr hk hs.out.1 rfl hs.out.2.2
  have HR:=Lib.hid hR
  have HB:=Lib.hid hs.out.2
  clear hR hs sb
  generalize seatAt N t k = x at *
  gi_wp2
  refine HR.out.mono ?_
  rintro e W3 ⟨he,hJ3,hC3,hX3⟩
  have HJ3:=Lib.hid hJ3
  by_cases hkM : k < M
  ·rw [decide_eq_true hkM] at he
   subst he
   have hC3:=hC3 hkM
   have HB3:=Lib.hid (con_blk hC3 HB.out.1 kWalk_own)
   have HZ3:=Lib.hid (Nat.le_trans HB.out.2 hC3.1)
   obtain ⟨q1,_⟩:=HB3.out.cell 1 _ rfl
   clear hJ3 hC3 hX3 hy
   gi_wp2_with (refine ⟨trivial,?_⟩;gi_at_call 88;refine (callsIn_wide.2 (KL.out W3)).mono ?_;rintro e w4 ⟨rfl,rfl⟩)
   go_roundw
   case rel=>exact ⟨k + 1,by omega,by go_num,rfl,Lib.hid ⟨HJ3.out,HB3.out,HZ3.out⟩⟩
   case measure=>simp [intOf];omega
  ·rw [decide_eq_false hkM] at he
   subst he
   clear hJ3 hC3 hX3 hy
   gi_wp2
   exact bodyPost_ret (results_none rfl _ _ _) rfl ⟨⟨_,rfl⟩,by
    have e : k = M:=by omega
    rw [← e];exact HJ3.out⟩
end Go.Proofs.Ytnllndcajdofjaa
