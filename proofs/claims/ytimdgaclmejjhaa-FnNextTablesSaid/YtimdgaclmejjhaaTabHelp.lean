/-
  The laws' own helpers on tables: szTable, toTable, eqTable, markTable, heldTable.
-/
import Derived.Test.YtimdgaclmejjhaaTab
import Derived.Test.YtimdgaclmejjhaaStoreB
import Derived.BigQuiet
namespace Go.Proofs.Ytimdgaclmejjhaa
open Go.RowKit
set_option linter.unusedVariables false

/-- A block lies apart from a row. -/
theorem blk_ne_lt {W : World} {lo g n c : Nat} {A : Option Addr} {xs : List Int} (h : Row W lo A xs) (hg : g < lo) : some g ≠ (Value.slice A n c).ownBlock := by
  rcases A with _ | a
  · intro e; cases e
  · intro e
    have k := (h.1 a rfl).1
    have : g = a.block := by injection e
    omega
theorem blk_ne_ge {W : World} {lo g n c : Nat} {A : Option Addr} {xs : List Int} (h : Row W lo A xs) (hg : W.heap.size ≤ g) : some g ≠ (Value.slice A n c).ownBlock := by
  rcases A with _ | a
  · intro e; cases e
  · intro e
    have k := (h.1 a rfl).2
    have : g = a.block := by injection e
    omega
/-- A new table. -/
def NewT (xs : List Int) (b s g a l : Int) (w : World) (e : Ending) (w' : World) : Prop := ∃ A c, e = .returned (.agg #[.slice A xs.length c, .int .i64 b, .int .i64 s, .int .i64 g, .int .i64 a, .int .i64 l]) ∧ Own w' w.heap.size (.slice A xs.length c) xs ∧ Below w.heap.size w w'

/-- What marking a table leaves. -/
def MarkPostT (w : World) (lo : Nat) (k0 : Int) (A : Option Addr) (c n : Nat) (e : Ending) (w' : World) : Prop :=
  e = .returned (.int .i64 (k0 + n)) ∧ Row w' lo A (marks k0 n) ∧ w.grownBy w' (Value.slice A n c).ownBlock
end Go.Proofs.Ytimdgaclmejjhaa
