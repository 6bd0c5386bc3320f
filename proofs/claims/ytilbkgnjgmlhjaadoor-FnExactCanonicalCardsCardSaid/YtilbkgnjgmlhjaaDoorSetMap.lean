/-
  A map of the call's own, used as a set of integers: how many there are.
-/
import Derived.Test.YtilbkgnjgmlhjaaDoorMapF
import Derived.Test.YtilbkgnjgmlhjaaDoorExchPure
import Derived.Maps.OwnOps
namespace Go.Proofs.YtilbkgnjgmlhjaaDoor
open Go.RowKit
open Go.Maps (Keyed)
set_option linter.unusedVariables false

/-- Block b is a map whose keys are f 0 .. f (n - 1). -/
def SetM (P : Program) (K : TypeId) (q : IntKind) (w : World) (b n : Nat) (f : Nat → Int) : Prop :=
  ∃ D : DataW Value, w.ownsMap P K rawE b n D ∧ (∀ c : Int, (Lit.int q c).wf = true → Maps.has D (.int q c) = (List.range n).any (fun k => f k == c)) ∧ Maps.size D = distN f n
variable {P : Program} {K : TypeId} {q : IntKind} {w : World} {b n : Nat} {f : Nat → Int}
theorem setM_made (P : Program) (K : TypeId) (q : IntKind) (w : World) (f : Nat → Int) : SetM P K q (w.alloc (.map #[] 0)) w.heap.size 0 f :=
  ⟨.map [], World.ownsMap_made _ _ _ _, fun _ _ => rfl, rfl⟩
theorem SetM.lt (h : SetM P K q w b n f) : b < w.heap.size := by obtain ⟨D, h, _⟩ := h; exact h.lt
theorem SetM.below {w' : World} (h : SetM P K q w b n f) (hb : Below w.heap.size w w') : SetM P K q w' b n f := by
  obtain ⟨D, h1, h2⟩ := h
  have hlt := h1.lt
  obtain ⟨es, clock, hh, F, hs, hD⟩ := h1
  exact ⟨D, ⟨es, clock, (hb.block b hlt).trans hh, F, hs, hD⟩, h2⟩
theorem SetM.len {t e : TypeId} (h : SetM P K q w b n f) (ht : P.underlying t = some (.map K e)) (ty : TypeId) : (Builtin.len_ #[t] ty #[.map (some b)]).run P w = .ok (.int .i64 (distN f n)) w := by
  obtain ⟨D, h1, h2, h3⟩ := h
  rw [h1.len ht ty, h3]
/-- m[k] = v. -/
theorem wpList_setM {ops : Array Oper} {rest : List Oper} {o : Oper} {a : Act} {Q : Exit → Act → World → Prop}
    (hg : o.guard = none) (m x v : Operand) (t : TypeId) (hop : o.op = Op.mapUpdate t m x v) (e : TypeId) (law : Keyed P K) (hk : P.underlying K = some (.int q)) (ht : P.underlying t = some (.map K e))
    (hm : a.eval m = .map (some b)) (h : SetM P K q w b n f) (hn : n < maxLen) (hf : ∀ k, k ≤ n → (Lit.int q (f k)).wf = true) (val : Value) (hx : a.eval x = .int q (f n)) (hv : a.eval v = val)
    (hK : ∀ w', SetM P K q w' b (n + 1) f → w.grownBy w' (some b) → wpList P ops Q rest (a.put o.dst undef) w') :
    wpList P ops Q (o :: rest) a w := by
  obtain ⟨D, h1, h2, h3⟩ := h
  refine wpList_mapUpdate_own w hg m x v t hop K e law ht rawE b n D hm h1 hn _ val (.int q (f n)) hx hv (Maps.keyOf_int_mk hk (hf n (Nat.le_refl _))) (.held val) [] rfl ?_
  intro w' h4 h5
  refine hK w' ⟨_, h4, fun c hc => ?_, ?_⟩ h5
  · rw [List.range_succ, List.any_append]
    by_cases e : c = f n
    · subst e
      rw [Maps.has_put_same h1.isMap (by simp [WideAt.IsKeyLit])]
      simp
    · rw [Maps.has_put_other (by intro h6; cases h6; exact e rfl), h2 c hc]
      have : (f n == c) = false := by simp; exact fun h => e h.symm
      simp [this]
  · rw [Maps.size_put (h1.tidy law), h2 _ (hf n (Nat.le_refl _)), h3, distN]
    split <;> rfl
end Go.Proofs.YtilbkgnjgmlhjaaDoor
