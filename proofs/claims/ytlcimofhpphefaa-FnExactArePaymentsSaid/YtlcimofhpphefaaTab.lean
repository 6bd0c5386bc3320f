/-
  A table of seats by value, and among the arguments of a law; the laws' own helpers on tables.
-/
import Derived.Test.YtlcimofhpphefaaTabPure
import Derived.Test.YtlcimofhpphefaaMark
import Derived.Test.YtlcimofhpphefaaBase
import Derived.Deep.Fields
import Derived.Lib.SmallJoins
namespace Go.Proofs.Ytlcimofhpphefaa
open Go.Joins Go.ChangeShapes Go.WideShapes Go.ChangeAt Go.RowKit Go.Deep
set_option linter.unusedVariables false

/-- A table's cells; a table by value. -/
abbrev tL (A : Option Addr) (n c : Nat) (b s g a l : Int) : List Value := [.slice A n c, .int .i64 b, .int .i64 s, .int .i64 g, .int .i64 a, .int .i64 l]
def tV (A : Option Addr) (n c : Nat) (b s g a l : Int) : Value := .agg #[.slice A n c, .int .i64 b, .int .i64 s, .int .i64 g, .int .i64 a, .int .i64 l]

section
variable {H : Type} {enc : TypeId × Value → H} {P : Program} {w : World} {base : Nat} {spare : Nat → Bool} {held : Bool}
/-- A struct of one-cell fields: its cells, each as its field reads it. -/
theorem fields_ofT {r : Reach} {b0 : Nat} {t : TypeId} {fs : Array Field} {v : Value} {d : DataW H} {p : List MemPlace} (hs : P.underlying t = some (.struct fs)) (hone : oneCellFields P fs = true)
    (hv : Value.okWide P w r b0 t v) (h : DataW.Trod enc P w base spare held t v d p) :
    ∃ cs : List Value, v = .agg cs.toArray ∧ cs.length = P.cellsOf t ∧ ∀ j f, fs[j]? = some f → ∃ n y, DataW.trod enc P w base spare held n f.type ((cs.drop j).take 1) = some y := by
  obtain ⟨⟨cs⟩, rfl, hsz⟩ := okWide_struct hs hv
  obtain ⟨fuel, hf⟩ := h
  obtain ⟨xs, n, _, _, _, hlen, hg⟩ := DataW.trod_struct hs hf
  refine ⟨cs, rfl, hsz, fun j f hj => ?_⟩
  obtain ⟨ho, hk⟩ := hone_of hone j f hj
  have hl : j < xs.length := by rw [hlen]; exact (Array.getElem?_eq_some_iff.1 hj).1
  refine ⟨n, xs[j], ?_⟩
  have := hg j f hj
  rw [ho, hk, List.getElem?_eq_getElem hl] at this
  simpa [Value.cells] using this
end
/-- An int64's range. -/
def i64T (x : Int) : Prop := -9223372036854775808 ≤ x ∧ x ≤ 9223372036854775807
theorem i64T_of_wf {x : Int} (h : (Lit.int .i64 x).wf = true) : i64T x := by
  unfold Lit.wf at h
  rw [Bool.and_eq_true, decide_eq_true_eq, decide_eq_true_eq] at h
  exact h
end Go.Proofs.Ytlcimofhpphefaa
