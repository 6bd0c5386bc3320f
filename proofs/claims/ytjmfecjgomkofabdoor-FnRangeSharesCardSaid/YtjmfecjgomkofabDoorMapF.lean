/-
  A map of the call's own, keyed by integers, said as a function from its keys to the values that it holds, whatever these are.
-/
import Derived.Maps.OwnSet
import Derived.Lib.Hide
import Derived.Below
import Derived.BigQuiet
namespace Go.Proofs.YtjmfecjgomkofabDoor
open Go.RowKit
open Go.Maps (Keyed)

/-- An element reads as itself. -/
def rawE (v : Value) : Option (DataW Value × List MemPlace) := some (.held v, [])
/-- Block b is a map of at most n entries that holds f k at the key k; z where it has none. -/
def MapF (P : Program) (K : TypeId) (q : IntKind) (z : Value) (w : World) (b n : Nat) (f : Int → Value) : Prop :=
  ∃ D : DataW Value, w.ownsMap P K rawE b n D ∧ ∀ c : Int, (Lit.int q c).wf = true → D.atKey (.int q c) (.held z) = .held (f c)

variable {P : Program} {K : TypeId} {q : IntKind} {z : Value} {w : World} {b n : Nat} {f : Int → Value}
theorem mapF_made (P : Program) (K : TypeId) (q : IntKind) (z : Value) (w : World) : MapF P K q z (w.alloc (.map #[] 0)) w.heap.size 0 (fun _ => z) :=
  ⟨.map [], World.ownsMap_made _ _ _ _, fun _ _ => rfl⟩
theorem MapF.lt (h : MapF P K q z w b n f) : b < w.heap.size := by obtain ⟨D, h, _⟩ := h; exact h.lt
theorem MapF.kept {w' : World} {row : Option Nat} (h : MapF P K q z w b n f) (hg : w.grownBy w' row) (hne : some b ≠ row) : MapF P K q z w' b n f := by
  obtain ⟨D, h1, h2⟩ := h
  exact ⟨D, h1.kept hg hne, h2⟩
theorem MapF.alloc (h : MapF P K q z w b n f) (o : Obj) : MapF P K q z (w.alloc o) b n f := h.kept (World.grownBy_alloc w o none) (by simp)
theorem MapF.drewN (h : MapF P K q z w b n f) (m : Nat) : MapF P K q z (w.drewN m) b n f := h
theorem MapF.below {w' : World} (h : MapF P K q z w b n f) (hb : Below w.heap.size w w') : MapF P K q z w' b n f := by
  obtain ⟨D, h1, h2⟩ := h
  have hlt := h1.lt
  obtain ⟨es, clock, hh, F, hs, hD⟩ := h1
  exact ⟨D, ⟨es, clock, (hb.block b hlt).trans hh, F, hs, hD⟩, h2⟩
/-- m[k]. -/
theorem MapF.look {t e : TypeId} (h : MapF P K q z w b n f) (law : Keyed P K) (hk : P.underlying K = some (.int q)) (ht : P.underlying t = some (.map K e)) (hz : (zeroValue e).run P w = .ok z w) {c : Int} (hc : (Lit.int q c).wf = true) :
    (Instr.lookup t (.map (some b)) (.int q c) false).run P w = .ok (f c) w := by
  obtain ⟨D, h1, h2⟩ := h
  obtain ⟨v, ps, hrun, hv⟩ := h1.lookup law ht hz (zd := .held z) (zp := []) rfl (Maps.keyOf_int_mk hk hc)
  rw [h2 c hc] at hv
  unfold rawE at hv
  simp only [Option.some.injEq, Prod.mk.injEq, DataW.held.injEq] at hv
  rw [hrun, hv.1]
/-- The function behind m[k] = v. -/
def putF (f : Int → Value) (k : Int) (v : Value) : Int → Value := fun c => if c = k then v else f c
theorem putF_same (f : Int → Value) (k : Int) (v : Value) : putF f k v k = v := if_pos rfl
theorem putF_other {f : Int → Value} {k c : Int} {v : Value} (h : c ≠ k) : putF f k v c = f c := if_neg h
/-- m[k] = v. -/
theorem wpList_mapF_update {ops : Array Oper} {rest : List Oper} {o : Oper} {a : Act} {Q : Exit → Act → World → Prop}
    (hg : o.guard = none) (m x v : Operand) (t : TypeId) (hop : o.op = Op.mapUpdate t m x v) (e : TypeId) (law : Keyed P K) (hk : P.underlying K = some (.int q)) (ht : P.underlying t = some (.map K e))
    (hm : a.eval m = .map (some b)) (h : MapF P K q z w b n f) (hn : n < maxLen) (c : Int) (val : Value) (hx : a.eval x = .int q c) (hv : a.eval v = val) (hc : (Lit.int q c).wf = true)
    (hK : ∀ w', MapF P K q z w' b (n + 1) (putF f c val) → w.grownBy w' (some b) → wpList P ops Q rest (a.put o.dst undef) w') :
    wpList P ops Q (o :: rest) a w := by
  obtain ⟨D, h1, h2⟩ := h
  refine wpList_mapUpdate_own w hg m x v t hop K e law ht rawE b n D hm h1 hn _ val (.int q c) hx hv (Maps.keyOf_int_mk hk hc) (.held val) [] rfl ?_
  intro w' h3 h4
  refine hK w' ⟨_, h3, fun c' hc' => ?_⟩ h4
  by_cases e : c' = c
  · subst e
    rw [putF_same]
    exact Maps.atKey_put_same h1.isMap (by simp [WideAt.IsKeyLit]) _ _
  · rw [putF_other e, Maps.atKey_put_other (by intro h5; cases h5; exact e rfl)]
    exact h2 c' hc'
end Go.Proofs.YtjmfecjgomkofabDoor
