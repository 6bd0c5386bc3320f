/-
  A list of lists as the only result; a row of slices as a list of lists.
-/
import Derived.Test.YtjmfecjgomkofabDoorRows2
namespace Go.Proofs.YtjmfecjgomkofabDoor
open Go.RowKit
set_option linter.unusedVariables false

/-- What a call leaves that returns a list of lists. -/
def NewFam1 (H : Nat) (R : Nat → List Int) (w : World) (e : Ending) (w' : World) : Prop :=
  ∃ A c AA CC, e = .returned (.slice A H c) ∧ Fam w' w.heap.size A H R AA CC ∧ Below w.heap.size w w'

theorem Hang.fam2 {w wr : World} {H n : Nat} {R : Nat → List Int} {AA : Nat → Option Addr} {CC : Nat → Nat} {v : Value} (h : Hang w H n R AA CC v wr) : ∃ A c, v = .slice A H c ∧ Fam wr w.heap.size A H R AA CC := by
  rcases h.out.2 with ⟨rfl, rfl⟩ | ⟨g, cap, cur, rfl, _⟩
  · exact ⟨none, 0, rfl, (fun h => by omega), (fun _ h => by omega), (fun a e => by cases e), (fun _ h => by omega), (fun _ h => by omega)⟩
  · have hlt := World.ownsRow.lt h.out g rfl
    refine ⟨_, _, rfl, fun _ => ⟨g, 0, rfl, hlt.2, fun k hk => ?_⟩, h.row, fun a e => ?_, fun k hk a e b e' => ?_, h.apart⟩
    · rw [Nat.zero_add, World.ownsRow.cellAt h.out k (by omega), cellsS_get _ _ _ _ _ hk, h.len k hk]
    · obtain rfl := Option.some.inj e; exact hlt
    · obtain rfl := Option.some.inj e'
      intro q
      exact h.off k hk a e (by simp [Value.ownBlock, q])
end Go.Proofs.YtjmfecjgomkofabDoor
