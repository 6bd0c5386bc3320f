/-
  A variant among the arguments of a law; the functions that say whether one is valid.
-/
import Derived.Test.YtlpkaflmhdgmmaaGreatDoorVarPure
import Derived.Test.YtlpkaflmhdgmmaaGreatDoorBase
import Derived.Deep.Fields
import Derived.Lib.SmallJoins
namespace Go.Proofs.YtlpkaflmhdgmmaaGreatDoor
open Go.Joins Go.ChangeShapes Go.WideShapes Go.ChangeAt Go.RowKit Go.Deep
set_option linter.unusedVariables false

/-- A variant by value. -/
def vV (h l m b : Int) (hi : Bool) (lo : Int) : Value := .agg #[.int .i64 h, .int .i64 l, .int .i64 m, .int .i64 b, .bool hi, .int .i64 lo]

section
variable {H : Type} {enc : TypeId × Value → H} {P : Program} {w : World} {base : Nat} {spare : Nat → Bool} {held : Bool}
/-- A struct of one-cell fields: its cells, each as its field reads it. -/
theorem fields_of {r : Reach} {b0 : Nat} {t : TypeId} {fs : Array Field} {v : Value} {d : DataW H} {p : List MemPlace} (hs : P.underlying t = some (.struct fs)) (hone : oneCellFields P fs = true)
    (hv : Value.okWide P w r b0 t v) (h : DataW.Trod enc P w base spare held t v d p) :
    ∃ cs : List Value, v = .agg cs.toArray ∧ cs.length = P.cellsOf t ∧ ∀ j f, fs[j]? = some f → ∃ n y, DataW.trod enc P w base spare held n f.type ((cs.drop j).take 1) = some y := by
  obtain ⟨⟨cs⟩, rfl, hsz⟩ := okWide_struct hs hv
  obtain ⟨fuel, hf⟩ := h
  obtain ⟨xs, n, _, _, _, hlen, hg⟩ := DataW.trod_struct hs hf
  refine ⟨cs, rfl, hsz, fun j f hj => ?_⟩
  obtain ⟨ho, hk⟩ := hone_of hone j f hj
  have hl : j < xs.length := by rw [hlen]; exact (Array.getElem?_eq_some_iff.1 hj).1
  refine ⟨n, xs[j], ?_⟩
  have := hg j f hj
  rw [ho, hk, List.getElem?_eq_getElem hl] at this
  simpa [Value.cells] using this
end

/-- An int64's range. -/
def i64B (x : Int) : Prop := -9223372036854775808 ≤ x ∧ x ≤ 9223372036854775807
theorem i64_of_wf {x : Int} (h : (Lit.int .i64 x).wf = true) : i64B x := by
  unfold Lit.wf at h
  rw [Bool.and_eq_true, decide_eq_true_eq, decide_eq_true_eq] at h
  exact h
set_option maxRecDepth 100000 in
theorem open_variant {H : Type} {enc : TypeId × Value → H} {w : World} {base : Nat} {spare : Nat → Bool} {held : Bool} {r : Reach} {b0 : Nat} {v : Value} {d : DataW H} {p : List MemPlace}
    (hv : Value.okWide Tryz.prog w r b0 38 v) (h : DataW.Trod enc Tryz.prog w base spare held 38 v d p) :
    ∃ (h l m b : Int) (hi : Bool) (lo : Int), v = vV h l m b hi lo ∧ i64B h ∧ i64B l ∧ i64B m ∧ i64B b ∧ i64B lo := by
  obtain ⟨cs, rfl, hl, hf⟩ := fields_of Tryz.underlying38 (by kernel_rfl) hv h
  rw [show Tryz.prog.cellsOf 38 = 6 by kernel_rfl] at hl
  match cs, hl with
  | [c0, c1, c2, c3, c4, c5], _ =>
    obtain ⟨_, _, h0⟩ := hf 0 _ rfl
    obtain ⟨_, _, h1⟩ := hf 1 _ rfl
    obtain ⟨_, _, h2⟩ := hf 2 _ rfl
    obtain ⟨_, _, h3⟩ := hf 3 _ rfl
    obtain ⟨_, _, h4⟩ := hf 4 _ rfl
    obtain ⟨_, _, h5⟩ := hf 5 _ rfl
    obtain ⟨x0, e0, _, w0⟩ := DataW.trod_int Tryz.underlying2 h0
    obtain ⟨x1, e1, _, w1⟩ := DataW.trod_int Tryz.underlying2 h1
    obtain ⟨x2, e2, _, w2⟩ := DataW.trod_int Tryz.underlying2 h2
    obtain ⟨x3, e3, _, w3⟩ := DataW.trod_int Tryz.underlying2 h3
    obtain ⟨x4, e4, _⟩ := DataW.trod_bool Tryz.underlying4 h4
    obtain ⟨x5, e5, _, w5⟩ := DataW.trod_int Tryz.underlying2 h5
    simp at e0 e1 e2 e3 e4 e5
    subst e0 e1 e2 e3 e4 e5
    exact ⟨x0, x1, x2, x3, x4, x5, rfl, i64_of_wf w0, i64_of_wf w1, i64_of_wf w2, i64_of_wf w3, i64_of_wf w5⟩
end Go.Proofs.YtlpkaflmhdgmmaaGreatDoor
