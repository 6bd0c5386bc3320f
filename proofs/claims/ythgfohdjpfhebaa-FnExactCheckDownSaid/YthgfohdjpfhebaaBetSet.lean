/-
  A place of a round's own list is written: what stays; fold.
-/
import Derived.Test.YthgfohdjpfhebaaBetClone
import Derived.Test.YthgfohdjpfhebaaBetMark
import Derived.Test.YthgfohdjpfhebaaBetE
namespace Go.Proofs.Ythgfohdjpfhebaa
open Go.RowKit
set_option linter.unusedVariables false

theorem Row.setAt {w : World} {lo g off : Nat} {xs : List Int} (h : Row w lo (some ⟨g, off, none⟩) xs) (k : Nat) (hk : k < xs.length) (v : Int) :
    Row (w.setCell ⟨g, off + k, none⟩ (.int .i64 v)) lo (some ⟨g, off, none⟩) (xs.set k v) ∧ w.grownBy (w.setCell ⟨g, off + k, none⟩ (.int .i64 v)) (some g) := by
  refine ⟨⟨fun a e => ?_, fun h0 => ⟨g, off, rfl, fun i hi => ?_⟩⟩, ⟨rfl, rfl, rfl, by simp [World.setCell], fun j hj hne => Below.heap_setCell w ⟨g, off + k, none⟩ _ j (fun e => hne (by rw [e]))⟩⟩
  · obtain ⟨h1, h2⟩ := h.1 a e
    exact ⟨h1, by simpa [World.setCell] using h2⟩
  · rw [List.length_set] at hi
    obtain ⟨g', off', e, hc⟩ := h.2 (by omega)
    injection e with e
    injection e with e1 e2
    subst e1 e2
    have hci := hc i hi
    have hck := hc k hk
    refine ⟨?_, by simp [go_sem, hci.2]⟩
    by_cases e : k = i
    · subst e
      rw [nth_set_same _ _ _ hk]
      exact World.cell?_setCell_same w _ _ hck.1
    · rw [nth_set_other _ _ _ _ e, World.cell?_setCell_other w _ _ _ (by intro q; injection q with _ q; omega)]
      exact hci.1
theorem RowB.setAt {w : World} {lo g off : Nat} {xs : List Bool} (h : RowB w lo (some ⟨g, off, none⟩) xs) (k : Nat) (hk : k < xs.length) (v : Bool) :
    RowB (w.setCell ⟨g, off + k, none⟩ (.bool v)) lo (some ⟨g, off, none⟩) (xs.set k v) ∧ w.grownBy (w.setCell ⟨g, off + k, none⟩ (.bool v)) (some g) := by
  refine ⟨⟨fun a e => ?_, fun h0 => ⟨g, off, rfl, fun i hi => ?_⟩⟩, ⟨rfl, rfl, rfl, by simp [World.setCell], fun j hj hne => Below.heap_setCell w ⟨g, off + k, none⟩ _ j (fun e => hne (by rw [e]))⟩⟩
  · obtain ⟨h1, h2⟩ := h.1 a e
    exact ⟨h1, by simpa [World.setCell] using h2⟩
  · rw [List.length_set] at hi
    obtain ⟨g', off', e, hc⟩ := h.2 (by omega)
    injection e with e
    injection e with e1 e2
    subst e1 e2
    have hci := hc i hi
    have hck := hc k hk
    refine ⟨?_, by simp [go_sem, hci.2]⟩
    by_cases e : k = i
    · subst e
      rw [nthB_set_same _ _ _ hk]
      exact World.cell?_setCell_same w _ _ hck.1
    · rw [nthB_set_other _ _ _ _ e, World.cell?_setCell_other w _ _ _ (by intro q; injection q with _ q; omega)]
      exact hci.1
/-- A round of the call's own: its box, and its lists behind the box. -/
structure NB (w : World) (g : Nat) (L : At5) (b : Bt) : Prop where
  blk : Blk w g 27 (btL L b)
  rows : Row5 w (g + 1) L b
theorem NB.at_ {w : World} {g : Nat} {L : At5} {b : Bt} (h : NB w g L b) : BtAt w g L b := ⟨h.blk, h.rows.rd⟩
theorem NB.below {w w' : World} {g : Nat} {L : At5} {b : Bt} (h : NB w g L b) (hb : Below w.heap.size w w') : NB w' g L b := ⟨h.blk.below hb, h.rows.below hb⟩
/-- Nothing below block g has been written. -/
def Frm (g : Nat) (w w' : World) : Prop := Span w w' g w.heap.size
theorem Frm.refl (g : Nat) (w : World) : Frm g w w := Span.refl w _ _
theorem Frm.trans {g : Nat} {a b c : World} (h : Frm g a b) (k : Frm g b c) : Frm g a c :=
  ⟨k.os.trans h.os, k.tape.trans h.tape, k.output.trans h.output, Nat.le_trans h.size k.size, fun i hi hne => (k.block i (Nat.lt_of_lt_of_le hi h.size) (fun q => hne ⟨q.1, hi⟩)).trans (h.block i hi hne)⟩
theorem Frm.of_below {g : Nat} {w w' : World} (h : Below w.heap.size w w') : Frm g w w' := Span.below h
theorem Frm.of_grown {g : Nat} {w w' : World} {j : Nat} (h : w.grownBy w' (some j)) (hj : g ≤ j) : Frm g w w' :=
  ⟨h.os, h.tape, h.output, h.size, fun i hi hne => h.block i hi (fun e => hne ⟨by have := Option.some.inj e; omega, hi⟩)⟩
theorem bl_frm {a w w' : World} {g : Nat} (hb : Below a.heap.size a w) (h : Frm g w w') (hl : a.heap.size ≤ g) : Below a.heap.size a w' := bl_span hb h hl
theorem apt_blk {A : Option Addr} {g off lo : Nat} {w : World} (h : ∀ a, A = some a → lo ≤ a.block ∧ a.block < w.heap.size) (n : Nat) (hn : n < lo) : ∀ a, A = some a → some a.block ≠ some n := fun a e q => by
  have := (h a e).1
  have := Option.some.inj q
  omega
theorem NB.setSt {w : World} {g : Nat} {L : At5} {b : Bt} (h : NB w g L b) {gf off : Nat} (e : L.a1 = some ⟨gf, off, none⟩) (k : Nat) (hk : k < b.st.length) (v : Int) :
    NB (w.setCell ⟨gf, off + k, none⟩ (.int .i64 v)) g L { b with st := b.st.set k v } ∧ Frm g w (w.setCell ⟨gf, off + k, none⟩ (.int .i64 v)) := by
  have rj := h.rows.r1
  rw [e] at rj
  obtain ⟨s1, s2⟩ := rj.setAt k hk v
  have hlo := (h.rows.r1.1 _ e).1
  simp only at hlo
  refine ⟨⟨?_, ?_⟩, Frm.of_grown s2 (by omega)⟩
  · have := h.blk.grown s2 (fun q => by have := Option.some.inj q; omega)
    unfold btL at *
    simpa using this
  · exact ⟨by rw [e]; exact s1, h.rows.r2.grown s2 (fun a ea q => h.rows.p12 _ a e ea (by simpa using q.symm)), h.rows.r3.grown s2 (fun a ea q => h.rows.p13 _ a e ea (by simpa using q.symm)), h.rows.r4.grown s2 (fun a ea q => h.rows.p14 _ a e ea (by simpa using q.symm)), h.rows.r5.grown s2 (fun a ea q => h.rows.p15 _ a e ea (by simpa using q.symm)), h.rows.p12, h.rows.p13, h.rows.p14, h.rows.p15, h.rows.p23, h.rows.p24, h.rows.p25, h.rows.p34, h.rows.p35, h.rows.p45⟩
theorem NB.setBt {w : World} {g : Nat} {L : At5} {b : Bt} (h : NB w g L b) {gf off : Nat} (e : L.a2 = some ⟨gf, off, none⟩) (k : Nat) (hk : k < b.bt.length) (v : Int) :
    NB (w.setCell ⟨gf, off + k, none⟩ (.int .i64 v)) g L { b with bt := b.bt.set k v } ∧ Frm g w (w.setCell ⟨gf, off + k, none⟩ (.int .i64 v)) := by
  have rj := h.rows.r2
  rw [e] at rj
  obtain ⟨s1, s2⟩ := rj.setAt k hk v
  have hlo := (h.rows.r2.1 _ e).1
  simp only at hlo
  refine ⟨⟨?_, ?_⟩, Frm.of_grown s2 (by omega)⟩
  · have := h.blk.grown s2 (fun q => by have := Option.some.inj q; omega)
    unfold btL at *
    simpa using this
  · exact ⟨h.rows.r1.grown s2 (fun a ea q => h.rows.p12 a _ ea e (by simpa using q)), by rw [e]; exact s1, h.rows.r3.grown s2 (fun a ea q => h.rows.p23 _ a e ea (by simpa using q.symm)), h.rows.r4.grown s2 (fun a ea q => h.rows.p24 _ a e ea (by simpa using q.symm)), h.rows.r5.grown s2 (fun a ea q => h.rows.p25 _ a e ea (by simpa using q.symm)), h.rows.p12, h.rows.p13, h.rows.p14, h.rows.p15, h.rows.p23, h.rows.p24, h.rows.p25, h.rows.p34, h.rows.p35, h.rows.p45⟩
theorem NB.setFo {w : World} {g : Nat} {L : At5} {b : Bt} (h : NB w g L b) {gf off : Nat} (e : L.a4 = some ⟨gf, off, none⟩) (k : Nat) (hk : k < b.fo.length) (v : Bool) :
    NB (w.setCell ⟨gf, off + k, none⟩ (.bool v)) g L { b with fo := b.fo.set k v } ∧ Frm g w (w.setCell ⟨gf, off + k, none⟩ (.bool v)) := by
  have rj := h.rows.r4
  rw [e] at rj
  obtain ⟨s1, s2⟩ := rj.setAt k hk v
  have hlo := (h.rows.r4.1 _ e).1
  simp only at hlo
  refine ⟨⟨?_, ?_⟩, Frm.of_grown s2 (by omega)⟩
  · have := h.blk.grown s2 (fun q => by have := Option.some.inj q; omega)
    unfold btL at *
    simpa using this
  · exact ⟨h.rows.r1.grown s2 (fun a ea q => h.rows.p14 a _ ea e (by simpa using q)), h.rows.r2.grown s2 (fun a ea q => h.rows.p24 a _ ea e (by simpa using q)), h.rows.r3.grown s2 (fun a ea q => h.rows.p34 a _ ea e (by simpa using q)), by rw [e]; exact s1, h.rows.r5.grown s2 (fun a ea q => h.rows.p45 _ a e ea (by simpa using q.symm)), h.rows.p12, h.rows.p13, h.rows.p14, h.rows.p15, h.rows.p23, h.rows.p24, h.rows.p25, h.rows.p34, h.rows.p35, h.rows.p45⟩
theorem NB.setAc {w : World} {g : Nat} {L : At5} {b : Bt} (h : NB w g L b) {gf off : Nat} (e : L.a5 = some ⟨gf, off, none⟩) (k : Nat) (hk : k < b.ac.length) (v : Bool) :
    NB (w.setCell ⟨gf, off + k, none⟩ (.bool v)) g L { b with ac := b.ac.set k v } ∧ Frm g w (w.setCell ⟨gf, off + k, none⟩ (.bool v)) := by
  have rj := h.rows.r5
  rw [e] at rj
  obtain ⟨s1, s2⟩ := rj.setAt k hk v
  have hlo := (h.rows.r5.1 _ e).1
  simp only at hlo
  refine ⟨⟨?_, ?_⟩, Frm.of_grown s2 (by omega)⟩
  · have := h.blk.grown s2 (fun q => by have := Option.some.inj q; omega)
    unfold btL at *
    simpa using this
  · exact ⟨h.rows.r1.grown s2 (fun a ea q => h.rows.p15 a _ ea e (by simpa using q)), h.rows.r2.grown s2 (fun a ea q => h.rows.p25 a _ ea e (by simpa using q)), h.rows.r3.grown s2 (fun a ea q => h.rows.p35 a _ ea e (by simpa using q)), h.rows.r4.grown s2 (fun a ea q => h.rows.p45 a _ ea e (by simpa using q)), by rw [e]; exact s1, h.rows.p12, h.rows.p13, h.rows.p14, h.rows.p15, h.rows.p23, h.rows.p24, h.rows.p25, h.rows.p34, h.rows.p35, h.rows.p45⟩
theorem NB.setTu {w w' : World} {g : Nat} {L : At5} {b : Bt} (h : NB w g L b) (v : Int) (hB : Blk w' g 27 ((btL L b).set 5 (.int .i64 v))) (hg : w.grownBy w' (some g)) : NB w' g L { b with tu := v } ∧ Frm g w w' := by
  have ne : ∀ {A : Option Addr}, (∀ a, A = some a → g + 1 ≤ a.block ∧ a.block < w.heap.size) → ∀ a, A = some a → some a.block ≠ some g := fun q a ea r => by
    have := (q a ea).1
    have := Option.some.inj r
    omega
  exact ⟨⟨hB, ⟨h.rows.r1.grown hg (ne h.rows.r1.1), h.rows.r2.grown hg (ne h.rows.r2.1), h.rows.r3.grown hg (ne h.rows.r3.1), h.rows.r4.grown hg (ne h.rows.r4.1), h.rows.r5.grown hg (ne h.rows.r5.1), h.rows.p12, h.rows.p13, h.rows.p14, h.rows.p15, h.rows.p23, h.rows.p24, h.rows.p25, h.rows.p34, h.rows.p35, h.rows.p45⟩⟩, Frm.of_grown hg (Nat.le_refl _)⟩
theorem NB.setUn {w w' : World} {g : Nat} {L : At5} {b : Bt} (h : NB w g L b) (v : Int) (hB : Blk w' g 27 ((btL L b).set 6 (.int .i64 v))) (hg : w.grownBy w' (some g)) : NB w' g L { b with un := v } ∧ Frm g w w' := by
  have ne : ∀ {A : Option Addr}, (∀ a, A = some a → g + 1 ≤ a.block ∧ a.block < w.heap.size) → ∀ a, A = some a → some a.block ≠ some g := fun q a ea r => by
    have := (q a ea).1
    have := Option.some.inj r
    omega
  exact ⟨⟨hB, ⟨h.rows.r1.grown hg (ne h.rows.r1.1), h.rows.r2.grown hg (ne h.rows.r2.1), h.rows.r3.grown hg (ne h.rows.r3.1), h.rows.r4.grown hg (ne h.rows.r4.1), h.rows.r5.grown hg (ne h.rows.r5.1), h.rows.p12, h.rows.p13, h.rows.p14, h.rows.p15, h.rows.p23, h.rows.p24, h.rows.p25, h.rows.p34, h.rows.p35, h.rows.p45⟩⟩, Frm.of_grown hg (Nat.le_refl _)⟩
theorem NB.setRa {w w' : World} {g : Nat} {L : At5} {b : Bt} (h : NB w g L b) (v : Int) (hB : Blk w' g 27 ((btL L b).set 7 (.int .i64 v))) (hg : w.grownBy w' (some g)) : NB w' g L { b with ra := v } ∧ Frm g w w' := by
  have ne : ∀ {A : Option Addr}, (∀ a, A = some a → g + 1 ≤ a.block ∧ a.block < w.heap.size) → ∀ a, A = some a → some a.block ≠ some g := fun q a ea r => by
    have := (q a ea).1
    have := Option.some.inj r
    omega
  exact ⟨⟨hB, ⟨h.rows.r1.grown hg (ne h.rows.r1.1), h.rows.r2.grown hg (ne h.rows.r2.1), h.rows.r3.grown hg (ne h.rows.r3.1), h.rows.r4.grown hg (ne h.rows.r4.1), h.rows.r5.grown hg (ne h.rows.r5.1), h.rows.p12, h.rows.p13, h.rows.p14, h.rows.p15, h.rows.p23, h.rows.p24, h.rows.p25, h.rows.p34, h.rows.p35, h.rows.p45⟩⟩, Frm.of_grown hg (Nat.le_refl _)⟩
end Go.Proofs.Ythgfohdjpfhebaa
