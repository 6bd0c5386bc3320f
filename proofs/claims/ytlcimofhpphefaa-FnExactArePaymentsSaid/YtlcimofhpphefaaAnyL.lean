/-
  AnyR with the operations found in the list: what is left behind each is small, however many there are.
-/
import Derived.Test.YtlcimofhpphefaaAnyR
namespace Go.Proofs.Ytlcimofhpphefaa
open Go
set_option linter.unusedVariables false

variable {P : Program} {ops : Array Oper} {md : Region.Mode} {Q : Exit → Act → World → Prop} {R : World → World → Prop} {I : World → Prop} {last : Nat}

theorem wpAnyR_takeL {i kw : Nat} {oi : Oper} {d : Option Tmp} {v : Value} {fuel : Nat} {listed : Array Bool} {a : Act} {w : World} (hR : ∀ w, R w w) (hT : ∀ {a b c : World}, R a b → R b c → R a c) (hi : ops.toList[i]? = some oi) (hd : oi.dst = d)
    (hs : Region.noSelect ops = true) (hf : Region.free md ops listed i = true) (hr : (Region.ready md ops listed).contains i = true) (hwt : waitsB md ops i kw last = true)
    (hQ : ∀ c a w, Q (.panic c) (a.put d v) w → Q (.panic c) a w) (hcl : closedB md ops listed) (hy : SoftR P ops R I oi v a)
    (h : closedB md ops (listed.setIfInBounds i true) → wpAnyR P md ops R I last Q fuel (listed.setIfInBounds i true) (a.put d v) w) : wpAnyR P md ops R I last Q (fuel + 1) listed a w := by
  subst hd
  exact wpAnyR_take hR hT (by rw [← Array.getElem?_toList]; exact hi) hs hf hr hwt hQ hcl hy h
theorem wpAnyR_oneL {i : Nat} {o : Oper} {fuel : Nat} {listed : Array Bool} {a : Act} {w : World} (hcl : closedB md ops listed) (hr : Region.ready md ops listed = [i]) (ho : ops.toList[i]? = some o) (hwt : Region.wanted o (yielded ops a.tmps) = true)
    (h : ∀ w', R w w' → I w' ∧ ∀ K' : Act → World → Prop, (∀ a w, (closedB md ops (listed.setIfInBounds i true) → wpAnyR P md ops R I last Q fuel (listed.setIfInBounds i true) a w) → K' a w) → Oper.wp P o a w' K' Q) : wpAnyR P md ops R I last Q (fuel + 1) listed a w :=
  wpAnyR_one hcl hr (by rw [← Array.getElem?_toList]; exact ho) hwt h
theorem wpAnyR_lastL {o : Oper} {listed : Array Bool} {a : Act} {w : World} (hr : Region.ready md ops listed = [last]) (hr' : Region.ready md ops (listed.setIfInBounds last true) = []) (ho : ops.toList[last]? = some o) (hwt : Region.wanted o (yielded ops a.tmps) = true)
    (h : ∀ w', R w w' → I w' ∧ ∀ K' : Act → World → Prop, (∀ a w, Q .normal a w → K' a w) → Oper.wp P o a w' K' Q) : wpAnyR P md ops R I last Q 0 listed a w :=
  wpAnyR_last hr hr' (by rw [← Array.getElem?_toList]; exact ho) hwt h
end Go.Proofs.Ytlcimofhpphefaa
