/-
  Rows of the call's own beside a source of drawn numbers.
-/
import Derived.Test.YtcbfmfkahgfjkaaDoorApart
import Derived.Test.YtcbfmfkahgfjkaaDoorPick
namespace Go.Proofs.YtcbfmfkahgfjkaaDoor
open Go.RowKit
set_option linter.unusedVariables false

theorem own_some {w : World} {lo : Nat} {A : Option Addr} {c : Nat} {xs : List Int} (h : Own w lo (.slice A xs.length c) xs) (h0 : 0 < xs.length) : ∃ g, A = some ⟨g, 0, none⟩ ∧ lo ≤ g ∧ g < w.heap.size ∧ xs.length ≤ c ∧ c ≤ maxLen := by
  rcases h.2 with ⟨_, hn⟩ | ⟨g, cap, cur, hv, hb, hg, hnc, hm, _⟩
  · omega
  · injection hv with hA _ hc
    subst hA hc
    exact ⟨g, rfl, hb, (Array.getElem?_eq_some_iff.1 hg).1, hnc, hm⟩
theorem own_cell {w : World} {lo g c : Nat} {xs : List Int} (h : Own w lo (.slice (some ⟨g, 0, none⟩) xs.length c) xs) (i : Nat) (hi : i < xs.length) : w.cell? ⟨g, i, none⟩ = some (.int .i64 (nth xs i)) := by
  rw [World.ownsRow.cellAt h i (by omega), ints_get xs i hi]
theorem own_only {w w' : World} {s lo : Nat} {v : Value} {xs : List Int} (h : Own w lo v xs) (ho : Only s w w') (hs : s < lo) : Own w' lo v xs :=
  Own.grown h ho (by
    rcases hv : v.ownBlock with _ | k
    · exact .inl rfl
    · right
      intro e
      have := World.ownsRow.lt h k hv
      have e' : k = s := by injection e
      omega)

theorem add_at (g o j : Nat) : (⟨g, o, none⟩ : Addr).add j = ⟨g, o + j, none⟩ := Addr.add_lit ..

theorem only_grown {s : Nat} {w w1 w2 : World} {row : Option Nat} (h : Only s w w1) (hg : w1.grownBy w2 row) (hr : ∀ j, row = some j → w.heap.size ≤ j) : Only s w w2 :=
  ⟨hg.os.trans h.os, hg.tape.trans h.tape, hg.output.trans h.output, Nat.le_trans h.size hg.size, fun k hk hne =>
    (hg.block k (Nat.lt_of_lt_of_le hk h.size) (fun e => by have := hr k e.symm; omega)).trans (h.block k hk hne)⟩
/-- The code lies below B. -/
def CodeB (B : Nat) (a : Option Addr) (L : Nat) : Prop := ∀ b off, a = some ⟨b, off, none⟩ → 0 < L → b < B
theorem codeB_of {w : World} {s : Nat} {a : Option Addr} {L c : Nat} {zs : Nat → Int} (h : Src w s a L c zs) : CodeB w.heap.size a L := by
  intro b off e h0
  rcases h.code with hz | ⟨b', off', e', _, hc⟩
  · omega
  · rw [e] at e'
    injection e' with e'
    injection e' with e1 _
    subst e1
    exact codeAt_lt hc h0
theorem src_grown {w1 w2 : World} {s B : Nat} {a : Option Addr} {L c : Nat} {zs : Nat → Int} {row : Option Nat} (h : Src w1 s a L c zs) (hg : w1.grownBy w2 row) (hr : ∀ j, row = some j → B ≤ j) (hs : s < B) (hB : CodeB B a L) : Src w2 s a L c zs := by
  obtain ⟨⟨k, sd, ⟨c0, c1, c2, f1, f2⟩, h2⟩, hc, hL⟩ := h
  have hsl : s < w1.heap.size := World.block_lt_of_cell? w1 _ c0
  have hne : some s ≠ row := fun e => by have := hr s e.symm; omega
  have hb := hg.block s hsl hne
  refine ⟨⟨k, sd, ⟨(World.cell?_of_block (a := ⟨s, 0, none⟩) hb).trans c0, (World.cell?_of_block (a := ⟨s, 1, none⟩) hb).trans c1, (World.cell?_of_block (a := ⟨s, 2, none⟩) hb).trans c2, (World.frozen?_of_block (a := ⟨s, 1, none⟩) hb).trans f1, (World.frozen?_of_block (a := ⟨s, 2, none⟩) hb).trans f2⟩, h2⟩, ?_, hL⟩
  rcases hc with hz | ⟨b, off, e, hbs, hcode⟩
  · exact .inl hz
  · refine .inr ⟨b, off, e, hbs, fun i hi => ?_⟩
    have hb2 := hB b off e (by omega)
    have hbl : b < w1.heap.size := codeAt_lt hcode (by omega)
    exact ⟨(World.cell?_of_block (a := ⟨b, off + i, none⟩) (hg.block b hbl (fun e => by have := hr b e.symm; omega))).trans (hcode i hi).1, (hcode i hi).2⟩

end Go.Proofs.YtcbfmfkahgfjkaaDoor
