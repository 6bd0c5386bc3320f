/-
  HandsIn: the program's walk.
-/
import Derived.Test.YtjmfecjgomkofabDoorHangT
import Derived.Test.YtjmfecjgomkofabDoorCodeFor
import Derived.Test.YtjmfecjgomkofabDoorSpecHands6
namespace Go.Proofs.YtjmfecjgomkofabDoor
open Go.RowKit
set_option linter.unusedVariables false
attribute [local go_sem] Oper.semAt_some

/-- What the rounds keep. -/
def HSI (w2 : World) (rb b1 : Nat) (hs bs : List Int) (l m M : Nat) (hi : Bool) (lo : Int) (A : Option Addr) (c : Nat) (A2 : Option Addr) (c2 : Nat) (i : Nat) (W : World) : Prop :=
  Blk W b1 40 [.int .i64 (hs.length : Int), .int .i64 (l : Int), .int .i64 (m : Int), .int .i64 (bs.length : Int), .bool hi, .int .i64 lo] ∧ Blk W (b1 + 1) 24 [.slice A hs.length c] ∧ Blk W (b1 + 1 + 1) 24 [.slice A2 bs.length c2] ∧
  ∃ v AA CC, Blk W rb 27 [v] ∧ HangT w2 i (fun h => (hRows hs bs l M).getD h []) AA CC v W ∧ (∀ g, v.ownBlock = some g → g = w2.heap.size ∨ b1 + 1 + 1 < g) ∧ ∀ j, j < i → ∀ a : Addr, AA j = some a → a.block ≠ rb ∧ a.block ≠ b1 ∧ a.block ≠ b1 + 1 ∧ a.block ≠ b1 + 1 + 1
def cellsV : Value → Array Value := fun v => match v with | .agg cs => cs | _ => #[]
end Go.Proofs.YtjmfecjgomkofabDoor
