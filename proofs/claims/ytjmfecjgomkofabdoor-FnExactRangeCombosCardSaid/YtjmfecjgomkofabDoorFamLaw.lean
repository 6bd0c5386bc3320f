/-
  Families of rows in an exact law: what is kept while lists are marked.
-/
import Derived.Test.YtjmfecjgomkofabDoorDealRows
import Derived.Test.YtjmfecjgomkofabDoorMark
namespace Go.Proofs.YtjmfecjgomkofabDoor
open Go.RowKit
set_option linter.unusedVariables false

theorem offs_two (R : Nat → List Int) (h : ∀ j, (R j).length = 2) : ∀ H, offs R H = H * 2
  | 0 => by simp [offs]
  | H + 1 => by rw [offs, offs_two R h H, h H, Nat.succ_mul]
/-- A family below B is kept where nothing below B is written. -/
theorem Fam.keep {w w' : World} {lo B : Nat} {A : Option Addr} {H : Nat} {R : Nat → List Int} {AA : Nat → Option Addr} {CC : Nat → Nat} (h : Fam w lo A H R AA CC) (h1 : ∀ a, A = some a → a.block < B) (h2 : ∀ k, k < H → ∀ a, AA k = some a → a.block < B) (hb : Below B w w') : Fam w' lo A H R AA CC := by
  refine ⟨fun h0 => ?_, fun k hk => ⟨fun a e => ⟨((h.row k hk).1 a e).1, Nat.lt_of_lt_of_le ((h.row k hk).1 a e).2 hb.size⟩, fun h0 => ?_⟩, fun a e => ⟨(h.lo a e).1, Nat.lt_of_lt_of_le (h.lo a e).2 hb.size⟩, h.off, h.apart⟩
  · obtain ⟨g, off, rfl, hg, hc⟩ := h.outer h0
    exact ⟨g, off, rfl, Nat.lt_of_lt_of_le hg hb.size, fun k hk => (World.cell?_of_block (a := ⟨g, off + k, none⟩) (hb.block g (h1 _ rfl))).trans (hc k hk)⟩
  · obtain ⟨g, off, e, hc⟩ := (h.row k hk).2 h0
    have hbk := hb.block g (h2 k hk _ e)
    exact ⟨g, off, e, fun i hi => ⟨(World.cell?_of_block (a := ⟨g, off + i, none⟩) hbk).trans (hc i hi).1, (World.frozen?_of_block (a := ⟨g, off + i, none⟩) hbk).trans (hc i hi).2⟩⟩
theorem Fam.lt {w : World} {lo : Nat} {A : Option Addr} {H : Nat} {R : Nat → List Int} {AA : Nat → Option Addr} {CC : Nat → Nat} (h : Fam w lo A H R AA CC) : (∀ a, A = some a → a.block < w.heap.size) ∧ (∀ k, k < H → ∀ a, AA k = some a → a.block < w.heap.size) :=
  ⟨fun a e => (h.lo a e).2, fun k hk a e => ((h.row k hk).1 a e).2⟩
/-- Marking a family writes above its bound alone. -/
theorem markFam_below {w w' : World} {lo : Nat} {k0 : Int} {A : Option Addr} {H : Nat} {R : Nat → List Int} {AA : Nat → Option Addr} {CC : Nat → Nat} (h0 : Fam w lo A H R AA CC) (hl : lo ≤ w.heap.size) (h : MarkFam w lo k0 A H R AA CC H w') : Below lo w w' := by
  obtain ⟨_, h2, h3, h4, h5, h6⟩ := h
  exact ⟨h2.symm, h3.symm, h4.symm, h5, fun j hj => h6 j (Nat.lt_of_lt_of_le hj hl) (fun k hk a e => by have := ((h0.row k hk).1 a e).1; omega)⟩
theorem bl_mono {a w w' : World} {B : Nat} (h : Below a.heap.size a w) (hB : a.heap.size ≤ B) (hb : Below B w w') : Below a.heap.size a w' := h.trans (hb.mono hB)
/-- A row that is marked lies apart from a family. -/
theorem fam_ne {W1 W2 : World} {lo1 lo2 m d : Nat} {A B : Option Addr} {H : Nat} {R : Nat → List Int} {AA : Nat → Option Addr} {CC : Nat → Nat} {ys : List Int} (h1 : Fam W1 lo1 A H R AA CC) (h2 : Own W2 lo2 (.slice B m d) ys) (h : W1.heap.size ≤ lo2) :
    (∀ a, A = some a → some a.block ≠ (Value.slice B m d).ownBlock) ∧ ∀ k, k < H → ∀ a, AA k = some a → some a.block ≠ (Value.slice B m d).ownBlock := by
  have hh := h1.lt
  refine ⟨fun a ha e => ?_, fun k hk a ha e => ?_⟩
  · have := (World.ownsRow.lt h2 _ e.symm).1
    have := hh.1 a ha
    omega
  · have := (World.ownsRow.lt h2 _ e.symm).1
    have := hh.2 k hk a ha
    omega
theorem fam_ne' {W1 W2 : World} {lo1 lo2 m d : Nat} {A B : Option Addr} {H : Nat} {R : Nat → List Int} {AA : Nat → Option Addr} {CC : Nat → Nat} {ys : List Int} (h1 : Fam W1 lo1 A H R AA CC) (h2 : Own W2 lo2 (.slice B m d) ys) (h : W2.heap.size ≤ lo1) :
    (∀ a, A = some a → some a.block ≠ (Value.slice B m d).ownBlock) ∧ ∀ k, k < H → ∀ a, AA k = some a → some a.block ≠ (Value.slice B m d).ownBlock := by
  refine ⟨fun a ha e => ?_, fun k hk a ha e => ?_⟩
  · have := (World.ownsRow.lt h2 _ e.symm).2
    have := (h1.lo a ha).1
    omega
  · have := (World.ownsRow.lt h2 _ e.symm).2
    have := ((h1.row k hk).1 a ha).1
    omega

end Go.Proofs.YtjmfecjgomkofabDoor
