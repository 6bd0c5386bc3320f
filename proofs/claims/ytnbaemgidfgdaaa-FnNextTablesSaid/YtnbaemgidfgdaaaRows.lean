/-
  No cell of these rows narrows 'for every input' (looked for: loops, veiled, ifaces, maps, wideKeys, modest, calm, conditions, laid).
  DERIVED. THE GIVEN ROWS OF THIS SEAT. 11 by the template 'for every input the law returns true; each argument reads behind the call as it read before'; 0 by the template 'total and deterministic' (their statements: YtnbaemgidfgdaaaTotals.lean).
  GIVEN WITH THE SEED: the statements are not yours to turn. If you find one false, say at which input.
  Laid BY PROGRAM, IN A SANDBOX (cutbox-rows.mjs): the forced cells as the released guide's own fill.sh prints them over the translation 0de3ff0e3fe26dfc… (all of the seat's roots in one cut). By AI agents, Wed Nov 11 2026. No macro, syntax, notation, axiom, sorry.
-/
import Derived.Test.YtnbaemgidfgdaaaChecked
import GoSem.Claim
import GoSem.ClaimJoined
import GoSem.ClaimMapViews
import Derived.JoinedTies
import Derived.KernelRfl
namespace Go.Proofs.Ytnbaemgidfgdaaa
/- THE CELL 'sum', in the pinned program and in every row, IS THE sha256 OF THE DUMP (.gsa) THAT YtnbaemgidfgdaaaProg.lean LOADS. Nothing in Lean hashes anything: it is a label: what it is worth is what the hold of that sum in a sandbox is worth. -/
noncomputable def Try.pinned : Pinned := { name := "ytnbaemgidfgdaaa", sum := "0de3ff0e3fe26dfc6b4b6323db3caee73aba19dfda3b1d5a2dc3e4b2e6021b8b", checked := Try.checked }
namespace Rows
def none {H : Type} : Left H := { results := [], args := [] }

/-- 'laws.FnBlinds': WHATEVER THE INPUT: true; the input reads as it did. -/
def fnBlindsSpec : ChangeSpec := { name := "fnBlinds", fn := fun _ => fun
  | [d] => { results := [.lit (.bool true)], args := [d] }
  | _ => none }
def fnBlindsRow : OpenClaim := { program := "ytnbaemgidfgdaaa", sum := "0de3ff0e3fe26dfc6b4b6323db3caee73aba19dfda3b1d5a2dc3e4b2e6021b8b", func := "loop.example/g00910/laws.FnBlinds", spec := "fnBlinds", unfollowed := true, recurses := true, apart := false }
def FnBlindsSaid : Prop := fnBlindsRow.holds Try.pinned (OpenSpec.ofChange fnBlindsSpec)

/-- ITS FALSE NEIGHBOUR: 'it returns false'. Refute it at one input. -/
def fnBlindsWrong : ChangeSpec := { name := "fnBlinds", fn := fun _ => fun
  | [d] => { results := [.lit (.bool false)], args := [d] }
  | _ => none }
def FnBlindsWrongFalsely : Prop := fnBlindsRow.holds Try.pinned (OpenSpec.ofChange fnBlindsWrong)

/-- 'laws.FnSeats': WHATEVER THE INPUT: true; the input reads as it did. -/
def fnSeatsSpec : ChangeSpec := { name := "fnSeats", fn := fun _ => fun
  | [d] => { results := [.lit (.bool true)], args := [d] }
  | _ => none }
def fnSeatsRow : OpenClaim := { program := "ytnbaemgidfgdaaa", sum := "0de3ff0e3fe26dfc6b4b6323db3caee73aba19dfda3b1d5a2dc3e4b2e6021b8b", func := "loop.example/g00910/laws.FnSeats", spec := "fnSeats", unfollowed := true, recurses := true, apart := false }
def FnSeatsSaid : Prop := fnSeatsRow.holds Try.pinned (OpenSpec.ofChange fnSeatsSpec)

/-- ITS FALSE NEIGHBOUR: 'it returns false'. Refute it at one input. -/
def fnSeatsWrong : ChangeSpec := { name := "fnSeats", fn := fun _ => fun
  | [d] => { results := [.lit (.bool false)], args := [d] }
  | _ => none }
def FnSeatsWrongFalsely : Prop := fnSeatsRow.holds Try.pinned (OpenSpec.ofChange fnSeatsWrong)

/-- 'laws.FnNextTables': WHATEVER THE INPUT: true; the input reads as it did. -/
def fnNextTablesSpec : ChangeSpec := { name := "fnNextTables", fn := fun _ => fun
  | [d] => { results := [.lit (.bool true)], args := [d] }
  | _ => none }
def fnNextTablesRow : OpenClaim := { program := "ytnbaemgidfgdaaa", sum := "0de3ff0e3fe26dfc6b4b6323db3caee73aba19dfda3b1d5a2dc3e4b2e6021b8b", func := "loop.example/g00910/laws.FnNextTables", spec := "fnNextTables", unfollowed := true, recurses := true, apart := false }
def FnNextTablesSaid : Prop := fnNextTablesRow.holds Try.pinned (OpenSpec.ofChange fnNextTablesSpec)

/-- ITS FALSE NEIGHBOUR: 'it returns false'. Refute it at one input. -/
def fnNextTablesWrong : ChangeSpec := { name := "fnNextTables", fn := fun _ => fun
  | [d] => { results := [.lit (.bool false)], args := [d] }
  | _ => none }
def FnNextTablesWrongFalsely : Prop := fnNextTablesRow.holds Try.pinned (OpenSpec.ofChange fnNextTablesWrong)

/-- 'laws.FnExactIsTable': WHATEVER THE INPUT: true; the input reads as it did. -/
def fnExactIsTableSpec : ChangeSpec := { name := "fnExactIsTable", fn := fun _ => fun
  | [d] => { results := [.lit (.bool true)], args := [d] }
  | _ => none }
def fnExactIsTableRow : OpenClaim := { program := "ytnbaemgidfgdaaa", sum := "0de3ff0e3fe26dfc6b4b6323db3caee73aba19dfda3b1d5a2dc3e4b2e6021b8b", func := "loop.example/g00910/laws.FnExactIsTable", spec := "fnExactIsTable", unfollowed := true, recurses := true, apart := false }
def FnExactIsTableSaid : Prop := fnExactIsTableRow.holds Try.pinned (OpenSpec.ofChange fnExactIsTableSpec)

/-- ITS FALSE NEIGHBOUR: 'it returns false'. Refute it at one input. -/
def fnExactIsTableWrong : ChangeSpec := { name := "fnExactIsTable", fn := fun _ => fun
  | [d] => { results := [.lit (.bool false)], args := [d] }
  | _ => none }
def FnExactIsTableWrongFalsely : Prop := fnExactIsTableRow.holds Try.pinned (OpenSpec.ofChange fnExactIsTableWrong)

/-- 'laws.FnExactBlindSeats': WHATEVER THE INPUT: true; the input reads as it did. -/
def fnExactBlindSeatsSpec : ChangeSpec := { name := "fnExactBlindSeats", fn := fun _ => fun
  | [d] => { results := [.lit (.bool true)], args := [d] }
  | _ => none }
def fnExactBlindSeatsRow : OpenClaim := { program := "ytnbaemgidfgdaaa", sum := "0de3ff0e3fe26dfc6b4b6323db3caee73aba19dfda3b1d5a2dc3e4b2e6021b8b", func := "loop.example/g00910/laws.FnExactBlindSeats", spec := "fnExactBlindSeats", unfollowed := true, recurses := true, apart := false }
def FnExactBlindSeatsSaid : Prop := fnExactBlindSeatsRow.holds Try.pinned (OpenSpec.ofChange fnExactBlindSeatsSpec)

/-- ITS FALSE NEIGHBOUR: 'it returns false'. Refute it at one input. -/
def fnExactBlindSeatsWrong : ChangeSpec := { name := "fnExactBlindSeats", fn := fun _ => fun
  | [d] => { results := [.lit (.bool false)], args := [d] }
  | _ => none }
def FnExactBlindSeatsWrongFalsely : Prop := fnExactBlindSeatsRow.holds Try.pinned (OpenSpec.ofChange fnExactBlindSeatsWrong)

/-- 'laws.FnExactAntesOf': WHATEVER THE INPUT: true; the input reads as it did. -/
def fnExactAntesOfSpec : ChangeSpec := { name := "fnExactAntesOf", fn := fun _ => fun
  | [d] => { results := [.lit (.bool true)], args := [d] }
  | _ => none }
def fnExactAntesOfRow : OpenClaim := { program := "ytnbaemgidfgdaaa", sum := "0de3ff0e3fe26dfc6b4b6323db3caee73aba19dfda3b1d5a2dc3e4b2e6021b8b", func := "loop.example/g00910/laws.FnExactAntesOf", spec := "fnExactAntesOf", unfollowed := true, recurses := true, apart := false }
def FnExactAntesOfSaid : Prop := fnExactAntesOfRow.holds Try.pinned (OpenSpec.ofChange fnExactAntesOfSpec)

/-- ITS FALSE NEIGHBOUR: 'it returns false'. Refute it at one input. -/
def fnExactAntesOfWrong : ChangeSpec := { name := "fnExactAntesOf", fn := fun _ => fun
  | [d] => { results := [.lit (.bool false)], args := [d] }
  | _ => none }
def FnExactAntesOfWrongFalsely : Prop := fnExactAntesOfRow.holds Try.pinned (OpenSpec.ofChange fnExactAntesOfWrong)

/-- 'laws.FnExactBlindsOf': WHATEVER THE INPUT: true; the input reads as it did. -/
def fnExactBlindsOfSpec : ChangeSpec := { name := "fnExactBlindsOf", fn := fun _ => fun
  | [d] => { results := [.lit (.bool true)], args := [d] }
  | _ => none }
def fnExactBlindsOfRow : OpenClaim := { program := "ytnbaemgidfgdaaa", sum := "0de3ff0e3fe26dfc6b4b6323db3caee73aba19dfda3b1d5a2dc3e4b2e6021b8b", func := "loop.example/g00910/laws.FnExactBlindsOf", spec := "fnExactBlindsOf", unfollowed := true, recurses := true, apart := false }
def FnExactBlindsOfSaid : Prop := fnExactBlindsOfRow.holds Try.pinned (OpenSpec.ofChange fnExactBlindsOfSpec)

/-- ITS FALSE NEIGHBOUR: 'it returns false'. Refute it at one input. -/
def fnExactBlindsOfWrong : ChangeSpec := { name := "fnExactBlindsOf", fn := fun _ => fun
  | [d] => { results := [.lit (.bool false)], args := [d] }
  | _ => none }
def FnExactBlindsOfWrongFalsely : Prop := fnExactBlindsOfRow.holds Try.pinned (OpenSpec.ofChange fnExactBlindsOfWrong)

/-- 'laws.FnExactFirstSeat': WHATEVER THE INPUT: true; the input reads as it did. -/
def fnExactFirstSeatSpec : ChangeSpec := { name := "fnExactFirstSeat", fn := fun _ => fun
  | [d1, d2] => { results := [.lit (.bool true)], args := [d1, d2] }
  | _ => none }
def fnExactFirstSeatRow : OpenClaim := { program := "ytnbaemgidfgdaaa", sum := "0de3ff0e3fe26dfc6b4b6323db3caee73aba19dfda3b1d5a2dc3e4b2e6021b8b", func := "loop.example/g00910/laws.FnExactFirstSeat", spec := "fnExactFirstSeat", unfollowed := true, recurses := true, apart := false }
def FnExactFirstSeatSaid : Prop := fnExactFirstSeatRow.holds Try.pinned (OpenSpec.ofChange fnExactFirstSeatSpec)

/-- ITS FALSE NEIGHBOUR: 'it returns false'. Refute it at one input. -/
def fnExactFirstSeatWrong : ChangeSpec := { name := "fnExactFirstSeat", fn := fun _ => fun
  | [d1, d2] => { results := [.lit (.bool false)], args := [d1, d2] }
  | _ => none }
def FnExactFirstSeatWrongFalsely : Prop := fnExactFirstSeatRow.holds Try.pinned (OpenSpec.ofChange fnExactFirstSeatWrong)

/-- 'laws.FnExactSeatsFrom': WHATEVER THE INPUT: true; the input reads as it did. -/
def fnExactSeatsFromSpec : ChangeSpec := { name := "fnExactSeatsFrom", fn := fun _ => fun
  | [d1, d2] => { results := [.lit (.bool true)], args := [d1, d2] }
  | _ => none }
def fnExactSeatsFromRow : OpenClaim := { program := "ytnbaemgidfgdaaa", sum := "0de3ff0e3fe26dfc6b4b6323db3caee73aba19dfda3b1d5a2dc3e4b2e6021b8b", func := "loop.example/g00910/laws.FnExactSeatsFrom", spec := "fnExactSeatsFrom", unfollowed := true, recurses := true, apart := false }
def FnExactSeatsFromSaid : Prop := fnExactSeatsFromRow.holds Try.pinned (OpenSpec.ofChange fnExactSeatsFromSpec)

/-- ITS FALSE NEIGHBOUR: 'it returns false'. Refute it at one input. -/
def fnExactSeatsFromWrong : ChangeSpec := { name := "fnExactSeatsFrom", fn := fun _ => fun
  | [d1, d2] => { results := [.lit (.bool false)], args := [d1, d2] }
  | _ => none }
def FnExactSeatsFromWrongFalsely : Prop := fnExactSeatsFromRow.holds Try.pinned (OpenSpec.ofChange fnExactSeatsFromWrong)

/-- 'laws.FnExactNextTable': WHATEVER THE INPUT: true; the input reads as it did. -/
def fnExactNextTableSpec : ChangeSpec := { name := "fnExactNextTable", fn := fun _ => fun
  | [d1, d2] => { results := [.lit (.bool true)], args := [d1, d2] }
  | _ => none }
def fnExactNextTableRow : OpenClaim := { program := "ytnbaemgidfgdaaa", sum := "0de3ff0e3fe26dfc6b4b6323db3caee73aba19dfda3b1d5a2dc3e4b2e6021b8b", func := "loop.example/g00910/laws.FnExactNextTable", spec := "fnExactNextTable", unfollowed := true, recurses := true, apart := false }
def FnExactNextTableSaid : Prop := fnExactNextTableRow.holds Try.pinned (OpenSpec.ofChange fnExactNextTableSpec)

/-- ITS FALSE NEIGHBOUR: 'it returns false'. Refute it at one input. -/
def fnExactNextTableWrong : ChangeSpec := { name := "fnExactNextTable", fn := fun _ => fun
  | [d1, d2] => { results := [.lit (.bool false)], args := [d1, d2] }
  | _ => none }
def FnExactNextTableWrongFalsely : Prop := fnExactNextTableRow.holds Try.pinned (OpenSpec.ofChange fnExactNextTableWrong)

/-- 'laws.FnExactChipsAt': WHATEVER THE INPUT: true; the input reads as it did. -/
def fnExactChipsAtSpec : ChangeSpec := { name := "fnExactChipsAt", fn := fun _ => fun
  | [d] => { results := [.lit (.bool true)], args := [d] }
  | _ => none }
def fnExactChipsAtRow : OpenClaim := { program := "ytnbaemgidfgdaaa", sum := "0de3ff0e3fe26dfc6b4b6323db3caee73aba19dfda3b1d5a2dc3e4b2e6021b8b", func := "loop.example/g00910/laws.FnExactChipsAt", spec := "fnExactChipsAt", unfollowed := true, recurses := true, apart := false }
def FnExactChipsAtSaid : Prop := fnExactChipsAtRow.holds Try.pinned (OpenSpec.ofChange fnExactChipsAtSpec)

/-- ITS FALSE NEIGHBOUR: 'it returns false'. Refute it at one input. -/
def fnExactChipsAtWrong : ChangeSpec := { name := "fnExactChipsAt", fn := fun _ => fun
  | [d] => { results := [.lit (.bool false)], args := [d] }
  | _ => none }
def FnExactChipsAtWrongFalsely : Prop := fnExactChipsAtRow.holds Try.pinned (OpenSpec.ofChange fnExactChipsAtWrong)

/- THE SECOND FORM. 'bulk': how many values and letters a reading holds, each counted each time it is reached (what is shared counts as often as it is met; a slice's spare places count too). A statement '..UptoSaid' is the law's where the arguments, and the package variables that the reading takes, are together of bulk at most 1048576: NARROWER than '..Said'. Prove '..Said' where nothing that the law and all that it calls make is longer than what came in: it says more and counts as full. Else prove '..UptoSaid'. A law counts once. -/
mutual
def uptoBulk {H : Type} : DataW H → Nat
  | .lit (.string bytes) => bytes.length + 1
  | .lit _ => 1
  | .nil => 1
  | .ptr d => uptoBulk d + 1
  | .slice elems spare => uptoBulkAll elems + uptoBulkAll spare + 1
  | .agg parts => uptoBulkAll parts + 1
  | .iface _ d => uptoBulk d + 1
  | .map entries => uptoBulkEntries entries + 1
  | .held _ => 1
def uptoBulkAll {H : Type} : List (DataW H) → Nat
  | [] => 0
  | d :: r => uptoBulk d + uptoBulkAll r
def uptoBulkEntries {H : Type} : List (Lit × DataW H) → Nat
  | [] => 0
  | x :: r => uptoBulkEntry x + uptoBulkEntries r
def uptoBulkEntry {H : Type} : Lit × DataW H → Nat
  | (.string bytes, d) => bytes.length + uptoBulk d + 1
  | (_, d) => uptoBulk d + 1
 end
def uptoSmall : (H : Type) → List (DataW H) → Bool := fun _ ds => decide (uptoBulkAll ds ≤ 1048576)
def OpenSpec.upto (s : _root_.Go.ChangeSpec) : _root_.Go.OpenSpec := { _root_.Go.OpenSpec.ofChange s with cond := some uptoSmall }

/-- 'laws.FnBlinds', WHERE WHAT IT READS IS OF BULK AT MOST 1048576: true; the input reads as it did. -/
def fnBlindsUptoRow : OpenClaim := { program := "ytnbaemgidfgdaaa", sum := "0de3ff0e3fe26dfc6b4b6323db3caee73aba19dfda3b1d5a2dc3e4b2e6021b8b", func := "loop.example/g00910/laws.FnBlinds", spec := "fnBlinds", unfollowed := true, recurses := true, apart := false, narrowed := true }
def FnBlindsUptoSaid : Prop := fnBlindsUptoRow.holds Try.pinned (OpenSpec.upto fnBlindsSpec)

/-- 'laws.FnSeats', WHERE WHAT IT READS IS OF BULK AT MOST 1048576: true; the input reads as it did. -/
def fnSeatsUptoRow : OpenClaim := { program := "ytnbaemgidfgdaaa", sum := "0de3ff0e3fe26dfc6b4b6323db3caee73aba19dfda3b1d5a2dc3e4b2e6021b8b", func := "loop.example/g00910/laws.FnSeats", spec := "fnSeats", unfollowed := true, recurses := true, apart := false, narrowed := true }
def FnSeatsUptoSaid : Prop := fnSeatsUptoRow.holds Try.pinned (OpenSpec.upto fnSeatsSpec)

/-- 'laws.FnNextTables', WHERE WHAT IT READS IS OF BULK AT MOST 1048576: true; the input reads as it did. -/
def fnNextTablesUptoRow : OpenClaim := { program := "ytnbaemgidfgdaaa", sum := "0de3ff0e3fe26dfc6b4b6323db3caee73aba19dfda3b1d5a2dc3e4b2e6021b8b", func := "loop.example/g00910/laws.FnNextTables", spec := "fnNextTables", unfollowed := true, recurses := true, apart := false, narrowed := true }
def FnNextTablesUptoSaid : Prop := fnNextTablesUptoRow.holds Try.pinned (OpenSpec.upto fnNextTablesSpec)

/-- 'laws.FnExactIsTable', WHERE WHAT IT READS IS OF BULK AT MOST 1048576: true; the input reads as it did. -/
def fnExactIsTableUptoRow : OpenClaim := { program := "ytnbaemgidfgdaaa", sum := "0de3ff0e3fe26dfc6b4b6323db3caee73aba19dfda3b1d5a2dc3e4b2e6021b8b", func := "loop.example/g00910/laws.FnExactIsTable", spec := "fnExactIsTable", unfollowed := true, recurses := true, apart := false, narrowed := true }
def FnExactIsTableUptoSaid : Prop := fnExactIsTableUptoRow.holds Try.pinned (OpenSpec.upto fnExactIsTableSpec)

/-- 'laws.FnExactBlindSeats', WHERE WHAT IT READS IS OF BULK AT MOST 1048576: true; the input reads as it did. -/
def fnExactBlindSeatsUptoRow : OpenClaim := { program := "ytnbaemgidfgdaaa", sum := "0de3ff0e3fe26dfc6b4b6323db3caee73aba19dfda3b1d5a2dc3e4b2e6021b8b", func := "loop.example/g00910/laws.FnExactBlindSeats", spec := "fnExactBlindSeats", unfollowed := true, recurses := true, apart := false, narrowed := true }
def FnExactBlindSeatsUptoSaid : Prop := fnExactBlindSeatsUptoRow.holds Try.pinned (OpenSpec.upto fnExactBlindSeatsSpec)

/-- 'laws.FnExactAntesOf', WHERE WHAT IT READS IS OF BULK AT MOST 1048576: true; the input reads as it did. -/
def fnExactAntesOfUptoRow : OpenClaim := { program := "ytnbaemgidfgdaaa", sum := "0de3ff0e3fe26dfc6b4b6323db3caee73aba19dfda3b1d5a2dc3e4b2e6021b8b", func := "loop.example/g00910/laws.FnExactAntesOf", spec := "fnExactAntesOf", unfollowed := true, recurses := true, apart := false, narrowed := true }
def FnExactAntesOfUptoSaid : Prop := fnExactAntesOfUptoRow.holds Try.pinned (OpenSpec.upto fnExactAntesOfSpec)

/-- 'laws.FnExactBlindsOf', WHERE WHAT IT READS IS OF BULK AT MOST 1048576: true; the input reads as it did. -/
def fnExactBlindsOfUptoRow : OpenClaim := { program := "ytnbaemgidfgdaaa", sum := "0de3ff0e3fe26dfc6b4b6323db3caee73aba19dfda3b1d5a2dc3e4b2e6021b8b", func := "loop.example/g00910/laws.FnExactBlindsOf", spec := "fnExactBlindsOf", unfollowed := true, recurses := true, apart := false, narrowed := true }
def FnExactBlindsOfUptoSaid : Prop := fnExactBlindsOfUptoRow.holds Try.pinned (OpenSpec.upto fnExactBlindsOfSpec)

/-- 'laws.FnExactFirstSeat', WHERE WHAT IT READS IS OF BULK AT MOST 1048576: true; the input reads as it did. -/
def fnExactFirstSeatUptoRow : OpenClaim := { program := "ytnbaemgidfgdaaa", sum := "0de3ff0e3fe26dfc6b4b6323db3caee73aba19dfda3b1d5a2dc3e4b2e6021b8b", func := "loop.example/g00910/laws.FnExactFirstSeat", spec := "fnExactFirstSeat", unfollowed := true, recurses := true, apart := false, narrowed := true }
def FnExactFirstSeatUptoSaid : Prop := fnExactFirstSeatUptoRow.holds Try.pinned (OpenSpec.upto fnExactFirstSeatSpec)

/-- 'laws.FnExactSeatsFrom', WHERE WHAT IT READS IS OF BULK AT MOST 1048576: true; the input reads as it did. -/
def fnExactSeatsFromUptoRow : OpenClaim := { program := "ytnbaemgidfgdaaa", sum := "0de3ff0e3fe26dfc6b4b6323db3caee73aba19dfda3b1d5a2dc3e4b2e6021b8b", func := "loop.example/g00910/laws.FnExactSeatsFrom", spec := "fnExactSeatsFrom", unfollowed := true, recurses := true, apart := false, narrowed := true }
def FnExactSeatsFromUptoSaid : Prop := fnExactSeatsFromUptoRow.holds Try.pinned (OpenSpec.upto fnExactSeatsFromSpec)

/-- 'laws.FnExactNextTable', WHERE WHAT IT READS IS OF BULK AT MOST 1048576: true; the input reads as it did. -/
def fnExactNextTableUptoRow : OpenClaim := { program := "ytnbaemgidfgdaaa", sum := "0de3ff0e3fe26dfc6b4b6323db3caee73aba19dfda3b1d5a2dc3e4b2e6021b8b", func := "loop.example/g00910/laws.FnExactNextTable", spec := "fnExactNextTable", unfollowed := true, recurses := true, apart := false, narrowed := true }
def FnExactNextTableUptoSaid : Prop := fnExactNextTableUptoRow.holds Try.pinned (OpenSpec.upto fnExactNextTableSpec)

/-- 'laws.FnExactChipsAt', WHERE WHAT IT READS IS OF BULK AT MOST 1048576: true; the input reads as it did. -/
def fnExactChipsAtUptoRow : OpenClaim := { program := "ytnbaemgidfgdaaa", sum := "0de3ff0e3fe26dfc6b4b6323db3caee73aba19dfda3b1d5a2dc3e4b2e6021b8b", func := "loop.example/g00910/laws.FnExactChipsAt", spec := "fnExactChipsAt", unfollowed := true, recurses := true, apart := false, narrowed := true }
def FnExactChipsAtUptoSaid : Prop := fnExactChipsAtUptoRow.holds Try.pinned (OpenSpec.upto fnExactChipsAtSpec)

end Rows
end Go.Proofs.Ytnbaemgidfgdaaa
