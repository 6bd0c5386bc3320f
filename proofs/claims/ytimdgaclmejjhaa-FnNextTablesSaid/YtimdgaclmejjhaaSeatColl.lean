/-
  slices.Collect of a table's seats; SeatsFrom.
-/
import Derived.Test.YtimdgaclmejjhaaSeatIter
import Derived.Test.YtimdgaclmejjhaaSpecFrom
namespace Go.Proofs.Ytimdgaclmejjhaa
open Go.RowKit
set_option linter.unusedVariables false
attribute [local go_sem] Oper.semAt_some

theorem own_ne_blk {W : World} {lo g : Nat} {v : Value} {ys : List Int} {vs : List Value} {t : TypeId} (ho : Own W lo v ys) (hb : Blk W g t vs) (ht : t ≠ 2) : some g ≠ v.ownBlock := by
  intro e
  rcases ho.2 with ⟨rfl, _⟩ | ⟨g', cap, cur, rfl, _, hh, _⟩
  · cases e
  · have : g = g' := by injection e
    subst this
    have hb' : W.heap[g]? = some (.cells vs.toArray t) := hb
    rw [hh] at hb'
    injection hb' with q
    injection q with _ q2
    exact ht q2.symm
theorem con_own {K : TypeId → Bool} {A B : World} {lo : Nat} {v : Value} {ys : List Int} (hK : K 2 = false) (ho : Own A lo v ys) (hg : A.grownBy B v.ownBlock) : Con K A B :=
  ⟨hg.size, fun i o hi hk => by
    by_cases e : some i = v.ownBlock
    · rcases ho.2 with ⟨rfl, _⟩ | ⟨g', cap, cur, rfl, _, hh, _⟩
      · cases e
      · have : i = g' := by injection e
        subst this
        rw [hh] at hi
        cases hi
        rw [show K 2 = true from hk] at hK
        cases hK
    · exact (hg.block i (Array.getElem?_eq_some_iff.1 hi).1 e).trans hi⟩
theorem own_put {W : World} {lo D : Nat} {v : Value} {ys : List Int} {r : Option (List Deferred)} (ho : Own W lo v ys) (hD : W.heap[D]? = some (.deferred r)) (o : Obj) : Own (W.putObj D o) lo v ys :=
  World.ownsRow.kept ho (grownBy_putObj' W D o) (by
    rcases ho.2 with ⟨rfl, _⟩ | ⟨g', cap, cur, rfl, _, hh, _⟩
    · exact .inl rfl
    · refine .inr (fun e => ?_)
      have : g' = D := by injection e
      subst this
      rw [hh] at hD
      cases hD)
/-- What the rounds keep. -/
def CI (w0 : World) (rb : Nat) (us : List Int) (i : Nat) (W : World) : Prop :=
  Below w0.heap.size w0 W ∧ ∃ v, Blk W rb 24 [v] ∧ Own W w0.heap.size v (us.take i)
theorem ci_itw {w0 : World} {rb n0 i : Nat} {us : List Int} {X Y : World} (h : CI w0 rb us i X) (hb : ItW kWalk n0 X Y) (hn : w0.heap.size ≤ n0) : CI w0 rb us i Y := by
  obtain ⟨h2, v, h3, h4⟩ := h
  refine ⟨h2.trans (hb.1.mono hn), v, itw_blk hb h3 kWalk_ints, ⟨h4.1, ?_⟩⟩
  rcases h4.2 with hl | ⟨g, cap, cur, e, hg, hh, hr⟩
  · exact .inl hl
  · exact .inr ⟨g, cap, cur, e, hg, hb.2 g cur _ _ hh kWalk_int, hr⟩

end Go.Proofs.Ytimdgaclmejjhaa
