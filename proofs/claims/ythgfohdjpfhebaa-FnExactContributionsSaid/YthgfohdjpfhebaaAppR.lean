/-
  append of one number to a row of the call's own, as a step of a region that draws its order; what a loop keeps behind it.
-/
import Derived.Test.YthgfohdjpfhebaaRows2
import Derived.Test.YthgfohdjpfhebaaSpecH
import Derived.Test.YthgfohdjpfhebaaAnyR
namespace Go.Proofs.Ythgfohdjpfhebaa
open Go.RowKit
set_option linter.unusedVariables false

theorem wp_app_own {o : Oper} {a : Act} {w : World} {K : Act → World → Prop} {Q : Exit → Act → World → Prop} (s x : Operand)
    (ho : o.op = .call { callee := .builtin .append, args := #[s, x], argTypes := #[24, 24] })
    (lo : Nat) (v : Value) (ys : List Int) (hs : a.eval s = v) (hown : Own w lo v ys) (ad : Addr) (c : Nat) (u : Int) (hx : a.eval x = .slice (some ad) 1 c) (hu : w.cell? ad = some (.int .i64 u)) (had : ad.spot = none) (hb : ys.length ≤ 3000000) (hlo : lo ≤ w.heap.size)
    (h : ∀ v' w', Own w' lo v' (ys ++ [u]) → w.grownBy w' v.ownBlock → K (a.put o.dst v') w') : o.wp Try.prog a w K Q := by
  have hsrc : Rd w (some ad) [u] := fun _ => by
    obtain ⟨b, off, pth⟩ := ad
    simp at had
    subst had
    refine ⟨b, off, rfl, fun i hi => ?_⟩
    simp at hi
    subst hi
    exact hu
  obtain ⟨v', w', hr, h4, h3, _⟩ := run_glue w o.type lo v ys [u] (some ad) c hown hsrc (by simp; omega) hlo
  unfold Oper.wp execOp
  simp only [ho, resolve, invoke, builtin, Sem.run_bind, Sem.run_pure, Result.andThen_ok, List.map_toArray, List.map_cons, List.map_nil, hs, hx]
  have hr' : (Builtin.append_ #[24, 24] o.type #[v, .slice (some ad) 1 c]).run Try.prog w = .ok v' w' := hr
  rw [hr']
  exact h v' w' h4 h3
theorem grow_appR {ys : List Int} {W1 wr w7 w9 : World} {v v' : Value} {x : Int} (h : Grow W1 ys v wr) (hb : Below wr.heap.size wr w7) (ho : Own w9 W1.heap.size v' (ys ++ [x])) (hg : w7.grownBy w9 v.ownBlock) : Grow W1 (ys ++ [x]) v' w9 :=
  ⟨ho, (bl_trans h.2 hb).grown hg (Nat.le_trans h.2.size hb.size) (fun j hj => (World.ownsRow.lt h.1 j hj).1)⟩
theorem grow_next {ys : List Int} {W1 w w' : World} {v : Value} (h : Grow W1 ys v w) (hb : Below w.heap.size w w') : Grow W1 ys v w' := ⟨h.1.below hb, bl_trans h.2 hb⟩
end Go.Proofs.Ythgfohdjpfhebaa
