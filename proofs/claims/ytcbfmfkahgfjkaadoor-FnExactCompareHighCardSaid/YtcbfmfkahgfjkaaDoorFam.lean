/-
  Rows of rows: lists of lists of numbers in memory, in rows of the call's own.
-/
import Derived.Test.YtcbfmfkahgfjkaaDoorRow
import Derived.Test.YtcbfmfkahgfjkaaDoorApart
namespace Go.Proofs.YtcbfmfkahgfjkaaDoor
open Go.RowKit
set_option linter.unusedVariables false

/-- A family of H rows of the call's own: the slice at A holds their slices; no two of them share a block. -/
structure Fam (w : World) (lo : Nat) (A : Option Addr) (H : Nat) (R : Nat → List Int) (AA : Nat → Option Addr) (CC : Nat → Nat) : Prop where
  outer : 0 < H → ∃ g off, A = some ⟨g, off, none⟩ ∧ g < w.heap.size ∧ ∀ h, h < H → w.cell? ⟨g, off + h, none⟩ = some (.slice (AA h) (R h).length (CC h))
  row : ∀ h, h < H → Row w lo (AA h) (R h)
  lo : ∀ a, A = some a → lo ≤ a.block ∧ a.block < w.heap.size
  off : ∀ h, h < H → ∀ a, AA h = some a → ∀ b, A = some b → a.block ≠ b.block
  apart : ∀ h, h < H → ∀ k, k < H → h ≠ k → ∀ a, AA h = some a → ∀ b, AA k = some b → a.block ≠ b.block
theorem Fam.at_ {w w' : World} {lo : Nat} {A : Option Addr} {H : Nat} {R : Nat → List Int} {AA : Nat → Option Addr} {CC : Nat → Nat} (h : Fam w lo A H R AA CC) (hb : Below w.heap.size w w') (k : Nat) (hk : k < H) :
    ∃ g off, A = some ⟨g, off, none⟩ ∧ w'.cell? ⟨g, off + k, none⟩ = some (.slice (AA k) (R k).length (CC k)) := by
  obtain ⟨g, off, e, hg, hc⟩ := h.outer (by omega)
  exact ⟨g, off, e, (hb.cell (p := ⟨g, off + k, none⟩) hg).trans (hc k hk)⟩
theorem Fam.grown {w w' : World} {lo : Nat} {A : Option Addr} {H : Nat} {R : Nat → List Int} {AA : Nat → Option Addr} {CC : Nat → Nat} {row : Option Nat} (h : Fam w lo A H R AA CC) (hg : w.grownBy w' row) (h1 : ∀ a, A = some a → some a.block ≠ row) (h2 : ∀ k, k < H → ∀ a, AA k = some a → some a.block ≠ row) : Fam w' lo A H R AA CC := by
  refine ⟨fun h0 => ?_, fun k hk => (h.row k hk).grown hg (h2 k hk), fun a e => ⟨(h.lo a e).1, Nat.lt_of_lt_of_le (h.lo a e).2 hg.size⟩, h.off, h.apart⟩
  obtain ⟨g, off, rfl, hgl, hc⟩ := h.outer h0
  exact ⟨g, off, rfl, Nat.lt_of_lt_of_le hgl hg.size, fun k hk => (World.cell?_of_block (a := ⟨g, off + k, none⟩) (hg.block g hgl (h1 _ rfl))).trans (hc k hk)⟩
theorem Fam.below {w w' : World} {lo : Nat} {A : Option Addr} {H : Nat} {R : Nat → List Int} {AA : Nat → Option Addr} {CC : Nat → Nat} (h : Fam w lo A H R AA CC) (hb : Below w.heap.size w w') : Fam w' lo A H R AA CC :=
  Fam.grown (row := none) h ⟨hb.os, hb.tape, hb.output, hb.size, fun k hk _ => hb.block k hk⟩ (fun _ _ => by simp) (fun _ _ _ _ => by simp)
theorem Fam.less {w : World} {lo lo' : Nat} {A : Option Addr} {H : Nat} {R : Nat → List Int} {AA : Nat → Option Addr} {CC : Nat → Nat} (h : Fam w lo A H R AA CC) (hl : lo' ≤ lo) : Fam w lo' A H R AA CC :=
  ⟨h.outer, fun k hk => (h.row k hk).less hl, fun a e => ⟨Nat.le_trans hl (h.lo a e).1, (h.lo a e).2⟩, h.off, h.apart⟩
theorem Fam.empty (w : World) (lo : Nat) (R : Nat → List Int) : Fam w lo none 0 R (fun _ => none) (fun _ => 0) :=
  ⟨(fun h => by omega), (fun _ h => by omega), (fun a e => by cases e), (fun _ h => by omega), (fun _ h => by omega)⟩
/-- What a call leaves that returns a list of lists and a code. -/
def NewFam (H : Nat) (R : Nat → List Int) (code : Int) (w : World) (e : Ending) (w' : World) : Prop :=
  ∃ A c AA CC, e = .returned (.tuple #[.slice A H c, .int .i64 code]) ∧ Fam w' w.heap.size A H R AA CC ∧ Below w.heap.size w w'

end Go.Proofs.YtcbfmfkahgfjkaaDoor
