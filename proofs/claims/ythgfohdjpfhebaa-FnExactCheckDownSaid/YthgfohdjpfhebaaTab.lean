/-
  A table of seats by value, and among the arguments of a law; the laws' own helpers on tables.
-/
import Derived.Test.YthgfohdjpfhebaaTabPure
import Derived.Test.YthgfohdjpfhebaaMark
import Derived.Test.YthgfohdjpfhebaaBase
import Derived.Deep.Fields
import Derived.Lib.SmallJoins
namespace Go.Proofs.Ythgfohdjpfhebaa
open Go.Joins Go.ChangeShapes Go.WideShapes Go.ChangeAt Go.RowKit Go.Deep
set_option linter.unusedVariables false

/-- A table's cells; a table by value. -/
abbrev tL (A : Option Addr) (n c : Nat) (b s g a l : Int) : List Value := [.slice A n c, .int .i64 b, .int .i64 s, .int .i64 g, .int .i64 a, .int .i64 l]
def tV (A : Option Addr) (n c : Nat) (b s g a l : Int) : Value := .agg #[.slice A n c, .int .i64 b, .int .i64 s, .int .i64 g, .int .i64 a, .int .i64 l]

section
variable {H : Type} {enc : TypeId × Value → H} {P : Program} {w : World} {base : Nat} {spare : Nat → Bool} {held : Bool}
/-- A struct of one-cell fields: its cells, each as its field reads it. -/
theorem fields_ofT {r : Reach} {b0 : Nat} {t : TypeId} {fs : Array Field} {v : Value} {d : DataW H} {p : List MemPlace} (hs : P.underlying t = some (.struct fs)) (hone : oneCellFields P fs = true)
    (hv : Value.okWide P w r b0 t v) (h : DataW.Trod enc P w base spare held t v d p) :
    ∃ cs : List Value, v = .agg cs.toArray ∧ cs.length = P.cellsOf t ∧ ∀ j f, fs[j]? = some f → ∃ n y, DataW.trod enc P w base spare held n f.type ((cs.drop j).take 1) = some y := by
  obtain ⟨⟨cs⟩, rfl, hsz⟩ := okWide_struct hs hv
  obtain ⟨fuel, hf⟩ := h
  obtain ⟨xs, n, _, _, _, hlen, hg⟩ := DataW.trod_struct hs hf
  refine ⟨cs, rfl, hsz, fun j f hj => ?_⟩
  obtain ⟨ho, hk⟩ := hone_of hone j f hj
  have hl : j < xs.length := by rw [hlen]; exact (Array.getElem?_eq_some_iff.1 hj).1
  refine ⟨n, xs[j], ?_⟩
  have := hg j f hj
  rw [ho, hk, List.getElem?_eq_getElem hl] at this
  simpa [Value.cells] using this
end
/-- An int64's range. -/
def i64T (x : Int) : Prop := -9223372036854775808 ≤ x ∧ x ≤ 9223372036854775807
theorem i64T_of_wf {x : Int} (h : (Lit.int .i64 x).wf = true) : i64T x := by
  unfold Lit.wf at h
  rw [Bool.and_eq_true, decide_eq_true_eq, decide_eq_true_eq] at h
  exact h
set_option maxRecDepth 100000 in
theorem open_table {H : Type} {enc : TypeId × Value → H} {W : World} {base : Nat} {v : Value} {d : DataW H} {p : List MemPlace}
    (hv : Value.okWide Try.prog W .any base 69 v) (h : DataW.Trod enc Try.prog W 0 (fun _ => true) true 69 v d p) :
    ∃ (A : Option Addr) (c : Nat) (xs : List Int) (b s g a l : Int), v = tV A xs.length c b s g a l ∧ xs.length ≤ maxLen ∧ Rd W A xs ∧ i64T b ∧ i64T s ∧ i64T g ∧ i64T a ∧ i64T l := by
  obtain ⟨cs, rfl, hl, hf⟩ := fields_ofT Try.underlying69 (by kernel_rfl) hv h
  rw [show Try.prog.cellsOf 69 = 6 by kernel_rfl] at hl
  match cs, hl with
  | [c0, c1, c2, c3, c4, c5], _ =>
    obtain ⟨_, ⟨d0, p0⟩, h0⟩ := hf 0 _ rfl
    obtain ⟨_, _, h1⟩ := hf 1 _ rfl
    obtain ⟨_, _, h2⟩ := hf 2 _ rfl
    obtain ⟨_, _, h3⟩ := hf 3 _ rfl
    obtain ⟨_, _, h4⟩ := hf 4 _ rfl
    obtain ⟨_, _, h5⟩ := hf 5 _ rfl
    obtain ⟨x1, e1, _, w1⟩ := DataW.trod_int Try.underlying2 h1
    obtain ⟨x2, e2, _, w2⟩ := DataW.trod_int Try.underlying2 h2
    obtain ⟨x3, e3, _, w3⟩ := DataW.trod_int Try.underlying2 h3
    obtain ⟨x4, e4, _, w4⟩ := DataW.trod_int Try.underlying2 h4
    obtain ⟨x5, e5, _, w5⟩ := DataW.trod_int Try.underlying2 h5
    simp at e1 e2 e3 e4 e5
    subst e1 e2 e3 e4 e5
    rcases open_ints Try.underlying24 Try.underlying2 (by kernel_rfl) h0 with ⟨hcs, hx⟩ | ⟨a, len', cap', zs, hcs, _, hl, hm, hz, hx, hcell, hwz⟩
    · simp at hcs
      subst hcs
      exact ⟨none, 0, [], x1, x2, x3, x4, x5, rfl, by unfold maxLen; simp, fun h => by simp at h, i64T_of_wf w1, i64T_of_wf w2, i64T_of_wf w3, i64T_of_wf w4, i64T_of_wf w5⟩
    · simp at hcs
      subst hcs
      have hlen : len' ≤ zs.length := by rw [hz]; simp; exact hl
      have ht : (zs.take len').length = len' := by rw [List.length_take]; omega
      refine ⟨some a, cap', zs.take len', x1, x2, x3, x4, x5, by unfold tV; rw [ht], by rw [ht]; omega, fun h0 => ?_, i64T_of_wf w1, i64T_of_wf w2, i64T_of_wf w3, i64T_of_wf w4, i64T_of_wf w5⟩
      rw [ht] at h0
      obtain ⟨b, off, rfl, hc⟩ := ints_at hcell (by omega)
      refine ⟨b, off, rfl, fun i hi => ?_⟩
      rw [ht] at hi
      rw [hc i (by omega)]
      congr 2
      unfold nth
      rw [List.getD_eq_getElem?_getD, List.getD_eq_getElem?_getD, List.getElem?_take, if_pos hi]
end Go.Proofs.Ythgfohdjpfhebaa
