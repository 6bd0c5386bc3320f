/-
  A round among a law's arguments.
-/
import Derived.Test.YthgfohdjpfhebaaBetTo
import Derived.Test.YthgfohdjpfhebaaTab
namespace Go.Proofs.Ythgfohdjpfhebaa
open Go.Joins Go.ChangeShapes Go.WideShapes Go.ChangeAt Go.RowKit Go.Deep
set_option linter.unusedVariables false

/-- The lists are no longer than a list can be. -/
def Mx (b : Bt) : Prop := b.st.length ≤ maxLen ∧ b.bt.length ≤ maxLen ∧ b.pd.length ≤ maxLen ∧ b.fo.length ≤ maxLen ∧ b.ac.length ≤ maxLen
set_option maxRecDepth 100000 in
theorem open_betting {H : Type} {enc : TypeId × Value → H} {W : World} {base : Nat} {v : Value} {d : DataW H} {p : List MemPlace}
    (hv : Value.okWide Try.prog W .any base 62 v) (h : DataW.Trod enc Try.prog W 0 (fun _ => true) true 62 v d p) :
    ∃ (L : At5) (b : Bt), v = bV L b ∧ Rd5 W L b ∧ Mx b ∧ i64T b.tu ∧ i64T b.un ∧ i64T b.ra ∧ i64T b.li := by
  obtain ⟨cs, rfl, hl, hf⟩ := fields_ofT Try.underlying62 (by kernel_rfl) hv h
  rw [show Try.prog.cellsOf 62 = 9 by kernel_rfl] at hl
  match cs, hl with
  | [c0, c1, c2, c3, c4, c5, c6, c7, c8], _ =>
    obtain ⟨_, ⟨d0, p0⟩, h0⟩ := hf 0 _ rfl
    obtain ⟨_, ⟨d1, p1⟩, h1⟩ := hf 1 _ rfl
    obtain ⟨_, ⟨d2, p2⟩, h2⟩ := hf 2 _ rfl
    obtain ⟨_, ⟨d3, p3⟩, h3⟩ := hf 3 _ rfl
    obtain ⟨_, ⟨d4, p4⟩, h4⟩ := hf 4 _ rfl
    obtain ⟨_, _, h5⟩ := hf 5 _ rfl
    obtain ⟨_, _, h6⟩ := hf 6 _ rfl
    obtain ⟨_, _, h7⟩ := hf 7 _ rfl
    obtain ⟨_, _, h8⟩ := hf 8 _ rfl
    obtain ⟨x5, e5, _, w5⟩ := DataW.trod_int Try.underlying2 h5
    obtain ⟨x6, e6, _, w6⟩ := DataW.trod_int Try.underlying2 h6
    obtain ⟨x7, e7, _, w7⟩ := DataW.trod_int Try.underlying2 h7
    obtain ⟨x8, e8, _, w8⟩ := DataW.trod_int Try.underlying2 h8
    simp at e5 e6 e7 e8
    subst e5 e6 e7 e8
    obtain ⟨A0, k0, xs0, rfl, m0, r0⟩ := ints_of rfl h0
    obtain ⟨A1, k1, xs1, rfl, m1, r1⟩ := ints_of rfl h1
    obtain ⟨A2, k2, xs2, rfl, m2, r2⟩ := ints_of rfl h2
    obtain ⟨A3, k3, xs3, rfl, m3, r3⟩ := bools_of rfl h3
    obtain ⟨A4, k4, xs4, rfl, m4, r4⟩ := bools_of rfl h4
    exact ⟨⟨A0, A1, A2, A3, A4, k0, k1, k2, k3, k4⟩, ⟨xs0, xs1, xs2, xs3, xs4, x5, x6, x7, x8⟩, rfl, ⟨r0, r1, r2, r3, r4⟩, ⟨m0, m1, m2, m3, m4⟩, i64T_of_wf w5, i64T_of_wf w6, i64T_of_wf w7, i64T_of_wf w8⟩
end Go.Proofs.Ythgfohdjpfhebaa
