/-
  NARROWER THAN 'FOR EVERY INPUT', by the rows' own cells (each row's printed sentence says how): FnCombos: laid · FnExactHighIn: laid · FnExactCombosOf: laid · FnExactCombosWithout: laid · FnExactCountCombos: laid · FnExactRangeCombos: laid · FnExactShareOf: laid · FnRangeShares: laid.
  DERIVED. THE GIVEN ROWS OF THIS SEAT. 8 by the template 'for every input the law returns true; each argument reads behind the call as it read before'; 0 by the template 'total and deterministic' (their statements: YtjmfecjgomkofabDoorTotals.lean).
  GIVEN WITH THE SEED: the statements are not yours to turn. If you find one false, say at which input.
  Laid BY PROGRAM, IN A SANDBOX (cutbox-rows.mjs): the forced cells as the released guide's own fill.sh prints them over the translation e8276cc58e0ea38e… (all of the seat's roots in one cut). By AI agents, Wed Nov 11 2026. No macro, syntax, notation, axiom, sorry.
-/
import Derived.Test.YtjmfecjgomkofabDoorChecked
import GoSem.Claim
import GoSem.ClaimJoined
import GoSem.ClaimMapViews
import Derived.JoinedTies
import Derived.KernelRfl
namespace Go.Proofs.YtjmfecjgomkofabDoor
/- THE CELL 'sum', in the pinned program and in every row, IS THE sha256 OF THE DUMP (.gsa) THAT YtjmfecjgomkofabDoorProg.lean LOADS. Nothing in Lean hashes anything: it is a label: what it is worth is what the hold of that sum in a sandbox is worth. -/
noncomputable def Tryd.pinned : Pinned := { name := "ytjmfecjgomkofabdoor", sum := "e8276cc58e0ea38eb9feea6c3a0de519a4b263b106ebf1514a2de712ad2255b4", checked := Tryd.checked }
namespace Rows
def none {H : Type} : Left H := { results := [], args := [] }

/- WHAT THE LISTED PACKAGE-LEVEL VARIABLES READ AS WHEN THE CALL BEGINS. Each datum BY PROGRAM (the guide's laid-datum.mjs) off the statement by which the dump's own 'gosem.cut.vars' lays the variable. In a bare row this is a premise. The card (YtjmfecjgomkofabDoorCards.lean) ties it to the program's text. -/
def laid_math_bits_deBruijn64tab {H : Type} : DataW H := .agg [.lit (.int .u8 0), .lit (.int .u8 1), .lit (.int .u8 56), .lit (.int .u8 2), .lit (.int .u8 57), .lit (.int .u8 49), .lit (.int .u8 28), .lit (.int .u8 3), .lit (.int .u8 61), .lit (.int .u8 58), .lit (.int .u8 42), .lit (.int .u8 50), .lit (.int .u8 38), .lit (.int .u8 29), .lit (.int .u8 17), .lit (.int .u8 4), .lit (.int .u8 62), .lit (.int .u8 47), .lit (.int .u8 59), .lit (.int .u8 36), .lit (.int .u8 45), .lit (.int .u8 43), .lit (.int .u8 51), .lit (.int .u8 22), .lit (.int .u8 53), .lit (.int .u8 39), .lit (.int .u8 33), .lit (.int .u8 30), .lit (.int .u8 24), .lit (.int .u8 18), .lit (.int .u8 12), .lit (.int .u8 5), .lit (.int .u8 63), .lit (.int .u8 55), .lit (.int .u8 48), .lit (.int .u8 27), .lit (.int .u8 60), .lit (.int .u8 41), .lit (.int .u8 37), .lit (.int .u8 16), .lit (.int .u8 46), .lit (.int .u8 35), .lit (.int .u8 44), .lit (.int .u8 21), .lit (.int .u8 52), .lit (.int .u8 32), .lit (.int .u8 23), .lit (.int .u8 11), .lit (.int .u8 54), .lit (.int .u8 26), .lit (.int .u8 40), .lit (.int .u8 15), .lit (.int .u8 34), .lit (.int .u8 20), .lit (.int .u8 31), .lit (.int .u8 10), .lit (.int .u8 25), .lit (.int .u8 14), .lit (.int .u8 19), .lit (.int .u8 9), .lit (.int .u8 13), .lit (.int .u8 8), .lit (.int .u8 7), .lit (.int .u8 6)]
def laid_loop_example_g00910_impl_lowestStraight {H : Type} : DataW H := .agg [.lit (.int .i64 3), .lit (.int .i64 2), .lit (.int .i64 1), .lit (.int .i64 0), .lit (.int .i64 12)]

/-- 'laws.FnCombos': WHATEVER THE INPUT: true; the input reads as it did. -/
def fnCombosSpec : ChangeSpec := { name := "fnCombos", fn := fun _ => fun
  | [d] => { results := [.lit (.bool true)], args := [d] }
  | _ => none }
def fnCombosRow : OpenClaim := { program := "ytjmfecjgomkofabdoor", sum := "e8276cc58e0ea38eb9feea6c3a0de519a4b263b106ebf1514a2de712ad2255b4", func := "loop.example/g00910/laws.FnCombos", spec := "fnCombos", named := ["math/bits.deBruijn64tab"], apart := false, laid := [("math/bits.deBruijn64tab", laid_math_bits_deBruijn64tab)] }
def FnCombosSaid : Prop := fnCombosRow.holds Tryd.pinned (OpenSpec.ofChange fnCombosSpec)

/-- ITS FALSE NEIGHBOUR: 'it returns false'. Refute it at one input. -/
def fnCombosWrong : ChangeSpec := { name := "fnCombos", fn := fun _ => fun
  | [d] => { results := [.lit (.bool false)], args := [d] }
  | _ => none }
def FnCombosWrongFalsely : Prop := fnCombosRow.holds Tryd.pinned (OpenSpec.ofChange fnCombosWrong)

/-- 'laws.FnExactHighIn': WHATEVER THE INPUT: true; the input reads as it did. -/
def fnExactHighInSpec : ChangeSpec := { name := "fnExactHighIn", vars := ["loop.example/g00910/impl.lowestStraight"], fn := fun _ => fun
  | [d1, d2, d3, g1] => { results := [.lit (.bool true)], args := [d1, d2, d3], vars := [g1] }
  | _ => none }
def fnExactHighInRow : OpenClaim := { program := "ytjmfecjgomkofabdoor", sum := "e8276cc58e0ea38eb9feea6c3a0de519a4b263b106ebf1514a2de712ad2255b4", func := "loop.example/g00910/laws.FnExactHighIn", spec := "fnExactHighIn", unfollowed := true, recurses := true, named := ["loop.example/g00910/impl.lowestStraight"], apart := false, laid := [("loop.example/g00910/impl.lowestStraight", laid_loop_example_g00910_impl_lowestStraight)] }
def FnExactHighInSaid : Prop := fnExactHighInRow.holds Tryd.pinned (OpenSpec.ofChange fnExactHighInSpec)

/-- ITS FALSE NEIGHBOUR: 'it returns false'. Refute it at one input. -/
def fnExactHighInWrong : ChangeSpec := { name := "fnExactHighIn", vars := ["loop.example/g00910/impl.lowestStraight"], fn := fun _ => fun
  | [d1, d2, d3, g1] => { results := [.lit (.bool false)], args := [d1, d2, d3], vars := [g1] }
  | _ => none }
def FnExactHighInWrongFalsely : Prop := fnExactHighInRow.holds Tryd.pinned (OpenSpec.ofChange fnExactHighInWrong)

/-- 'laws.FnExactCombosOf': WHATEVER THE INPUT: true; the input reads as it did. -/
def fnExactCombosOfSpec : ChangeSpec := { name := "fnExactCombosOf", fn := fun _ => fun
  | [d] => { results := [.lit (.bool true)], args := [d] }
  | _ => none }
def fnExactCombosOfRow : OpenClaim := { program := "ytjmfecjgomkofabdoor", sum := "e8276cc58e0ea38eb9feea6c3a0de519a4b263b106ebf1514a2de712ad2255b4", func := "loop.example/g00910/laws.FnExactCombosOf", spec := "fnExactCombosOf", named := ["math/bits.deBruijn64tab"], apart := false, laid := [("math/bits.deBruijn64tab", laid_math_bits_deBruijn64tab)] }
def FnExactCombosOfSaid : Prop := fnExactCombosOfRow.holds Tryd.pinned (OpenSpec.ofChange fnExactCombosOfSpec)

/-- ITS FALSE NEIGHBOUR: 'it returns false'. Refute it at one input. -/
def fnExactCombosOfWrong : ChangeSpec := { name := "fnExactCombosOf", fn := fun _ => fun
  | [d] => { results := [.lit (.bool false)], args := [d] }
  | _ => none }
def FnExactCombosOfWrongFalsely : Prop := fnExactCombosOfRow.holds Tryd.pinned (OpenSpec.ofChange fnExactCombosOfWrong)

/-- 'laws.FnExactCombosWithout': WHATEVER THE INPUT: true; the input reads as it did. -/
def fnExactCombosWithoutSpec : ChangeSpec := { name := "fnExactCombosWithout", fn := fun _ => fun
  | [d1, d2] => { results := [.lit (.bool true)], args := [d1, d2] }
  | _ => none }
def fnExactCombosWithoutRow : OpenClaim := { program := "ytjmfecjgomkofabdoor", sum := "e8276cc58e0ea38eb9feea6c3a0de519a4b263b106ebf1514a2de712ad2255b4", func := "loop.example/g00910/laws.FnExactCombosWithout", spec := "fnExactCombosWithout", named := ["math/bits.deBruijn64tab"], apart := false, laid := [("math/bits.deBruijn64tab", laid_math_bits_deBruijn64tab)] }
def FnExactCombosWithoutSaid : Prop := fnExactCombosWithoutRow.holds Tryd.pinned (OpenSpec.ofChange fnExactCombosWithoutSpec)

/-- ITS FALSE NEIGHBOUR: 'it returns false'. Refute it at one input. -/
def fnExactCombosWithoutWrong : ChangeSpec := { name := "fnExactCombosWithout", fn := fun _ => fun
  | [d1, d2] => { results := [.lit (.bool false)], args := [d1, d2] }
  | _ => none }
def FnExactCombosWithoutWrongFalsely : Prop := fnExactCombosWithoutRow.holds Tryd.pinned (OpenSpec.ofChange fnExactCombosWithoutWrong)

/-- 'laws.FnExactCountCombos': WHATEVER THE INPUT: true; the input reads as it did. -/
def fnExactCountCombosSpec : ChangeSpec := { name := "fnExactCountCombos", fn := fun _ => fun
  | [d1, d2] => { results := [.lit (.bool true)], args := [d1, d2] }
  | _ => none }
def fnExactCountCombosRow : OpenClaim := { program := "ytjmfecjgomkofabdoor", sum := "e8276cc58e0ea38eb9feea6c3a0de519a4b263b106ebf1514a2de712ad2255b4", func := "loop.example/g00910/laws.FnExactCountCombos", spec := "fnExactCountCombos", named := ["math/bits.deBruijn64tab"], apart := false, laid := [("math/bits.deBruijn64tab", laid_math_bits_deBruijn64tab)] }
def FnExactCountCombosSaid : Prop := fnExactCountCombosRow.holds Tryd.pinned (OpenSpec.ofChange fnExactCountCombosSpec)

/-- ITS FALSE NEIGHBOUR: 'it returns false'. Refute it at one input. -/
def fnExactCountCombosWrong : ChangeSpec := { name := "fnExactCountCombos", fn := fun _ => fun
  | [d1, d2] => { results := [.lit (.bool false)], args := [d1, d2] }
  | _ => none }
def FnExactCountCombosWrongFalsely : Prop := fnExactCountCombosRow.holds Tryd.pinned (OpenSpec.ofChange fnExactCountCombosWrong)

/-- 'laws.FnExactRangeCombos': WHATEVER THE INPUT: true; the input reads as it did. -/
def fnExactRangeCombosSpec : ChangeSpec := { name := "fnExactRangeCombos", fn := fun _ => fun
  | [d1, d2] => { results := [.lit (.bool true)], args := [d1, d2] }
  | _ => none }
def fnExactRangeCombosRow : OpenClaim := { program := "ytjmfecjgomkofabdoor", sum := "e8276cc58e0ea38eb9feea6c3a0de519a4b263b106ebf1514a2de712ad2255b4", func := "loop.example/g00910/laws.FnExactRangeCombos", spec := "fnExactRangeCombos", named := ["math/bits.deBruijn64tab"], apart := false, laid := [("math/bits.deBruijn64tab", laid_math_bits_deBruijn64tab)] }
def FnExactRangeCombosSaid : Prop := fnExactRangeCombosRow.holds Tryd.pinned (OpenSpec.ofChange fnExactRangeCombosSpec)

/-- ITS FALSE NEIGHBOUR: 'it returns false'. Refute it at one input. -/
def fnExactRangeCombosWrong : ChangeSpec := { name := "fnExactRangeCombos", fn := fun _ => fun
  | [d1, d2] => { results := [.lit (.bool false)], args := [d1, d2] }
  | _ => none }
def FnExactRangeCombosWrongFalsely : Prop := fnExactRangeCombosRow.holds Tryd.pinned (OpenSpec.ofChange fnExactRangeCombosWrong)

/-- 'laws.FnExactShareOf': WHATEVER THE INPUT: true; the input reads as it did. -/
def fnExactShareOfSpec : ChangeSpec := { name := "fnExactShareOf", fn := fun _ => fun
  | [d] => { results := [.lit (.bool true)], args := [d] }
  | _ => none }
def fnExactShareOfRow : OpenClaim := { program := "ytjmfecjgomkofabdoor", sum := "e8276cc58e0ea38eb9feea6c3a0de519a4b263b106ebf1514a2de712ad2255b4", func := "loop.example/g00910/laws.FnExactShareOf", spec := "fnExactShareOf", recurses := true, named := ["math/bits.deBruijn64tab"], apart := false, laid := [("math/bits.deBruijn64tab", laid_math_bits_deBruijn64tab)] }
def FnExactShareOfSaid : Prop := fnExactShareOfRow.holds Tryd.pinned (OpenSpec.ofChange fnExactShareOfSpec)

/-- ITS FALSE NEIGHBOUR: 'it returns false'. Refute it at one input. -/
def fnExactShareOfWrong : ChangeSpec := { name := "fnExactShareOf", fn := fun _ => fun
  | [d] => { results := [.lit (.bool false)], args := [d] }
  | _ => none }
def FnExactShareOfWrongFalsely : Prop := fnExactShareOfRow.holds Tryd.pinned (OpenSpec.ofChange fnExactShareOfWrong)

/-- 'laws.FnRangeShares': WHATEVER THE INPUT: true; the input reads as it did. -/
def fnRangeSharesSpec : ChangeSpec := { name := "fnRangeShares", fn := fun _ => fun
  | [d] => { results := [.lit (.bool true)], args := [d] }
  | _ => none }
def fnRangeSharesRow : OpenClaim := { program := "ytjmfecjgomkofabdoor", sum := "e8276cc58e0ea38eb9feea6c3a0de519a4b263b106ebf1514a2de712ad2255b4", func := "loop.example/g00910/laws.FnRangeShares", spec := "fnRangeShares", unfollowed := true, recurses := true, named := ["math/bits.deBruijn64tab"], apart := false, laid := [("math/bits.deBruijn64tab", laid_math_bits_deBruijn64tab)] }
def FnRangeSharesSaid : Prop := fnRangeSharesRow.holds Tryd.pinned (OpenSpec.ofChange fnRangeSharesSpec)

/-- ITS FALSE NEIGHBOUR: 'it returns false'. Refute it at one input. -/
def fnRangeSharesWrong : ChangeSpec := { name := "fnRangeShares", fn := fun _ => fun
  | [d] => { results := [.lit (.bool false)], args := [d] }
  | _ => none }
def FnRangeSharesWrongFalsely : Prop := fnRangeSharesRow.holds Tryd.pinned (OpenSpec.ofChange fnRangeSharesWrong)

/- THE SECOND FORM. 'bulk': how many values and letters a reading holds, each counted each time it is reached (what is shared counts as often as it is met; a slice's spare places count too). A statement '..UptoSaid' is the law's where the arguments, and the package variables that the reading takes, are together of bulk at most 1048576: NARROWER than '..Said'. Prove '..Said' where nothing that the law and all that it calls make is longer than what came in: it says more and counts as full. Else prove '..UptoSaid'. A law counts once. -/
mutual
def uptoBulk {H : Type} : DataW H → Nat
  | .lit (.string bytes) => bytes.length + 1
  | .lit _ => 1
  | .nil => 1
  | .ptr d => uptoBulk d + 1
  | .slice elems spare => uptoBulkAll elems + uptoBulkAll spare + 1
  | .agg parts => uptoBulkAll parts + 1
  | .iface _ d => uptoBulk d + 1
  | .map entries => uptoBulkEntries entries + 1
  | .held _ => 1
def uptoBulkAll {H : Type} : List (DataW H) → Nat
  | [] => 0
  | d :: r => uptoBulk d + uptoBulkAll r
def uptoBulkEntries {H : Type} : List (Lit × DataW H) → Nat
  | [] => 0
  | x :: r => uptoBulkEntry x + uptoBulkEntries r
def uptoBulkEntry {H : Type} : Lit × DataW H → Nat
  | (.string bytes, d) => bytes.length + uptoBulk d + 1
  | (_, d) => uptoBulk d + 1
 end
def uptoSmall : (H : Type) → List (DataW H) → Bool := fun _ ds => decide (uptoBulkAll ds ≤ 1048576)
def OpenSpec.upto (s : _root_.Go.ChangeSpec) : _root_.Go.OpenSpec := { _root_.Go.OpenSpec.ofChange s with cond := some uptoSmall }

/-- 'laws.FnCombos', WHERE WHAT IT READS IS OF BULK AT MOST 1048576: true; the input reads as it did. -/
def fnCombosUptoRow : OpenClaim := { program := "ytjmfecjgomkofabdoor", sum := "e8276cc58e0ea38eb9feea6c3a0de519a4b263b106ebf1514a2de712ad2255b4", func := "loop.example/g00910/laws.FnCombos", spec := "fnCombos", named := ["math/bits.deBruijn64tab"], apart := false, laid := [("math/bits.deBruijn64tab", laid_math_bits_deBruijn64tab)], narrowed := true }
def FnCombosUptoSaid : Prop := fnCombosUptoRow.holds Tryd.pinned (OpenSpec.upto fnCombosSpec)

/-- 'laws.FnExactHighIn', WHERE WHAT IT READS IS OF BULK AT MOST 1048576: true; the input reads as it did. -/
def fnExactHighInUptoRow : OpenClaim := { program := "ytjmfecjgomkofabdoor", sum := "e8276cc58e0ea38eb9feea6c3a0de519a4b263b106ebf1514a2de712ad2255b4", func := "loop.example/g00910/laws.FnExactHighIn", spec := "fnExactHighIn", unfollowed := true, recurses := true, named := ["loop.example/g00910/impl.lowestStraight"], apart := false, laid := [("loop.example/g00910/impl.lowestStraight", laid_loop_example_g00910_impl_lowestStraight)], narrowed := true }
def FnExactHighInUptoSaid : Prop := fnExactHighInUptoRow.holds Tryd.pinned (OpenSpec.upto fnExactHighInSpec)

/-- 'laws.FnExactCombosOf', WHERE WHAT IT READS IS OF BULK AT MOST 1048576: true; the input reads as it did. -/
def fnExactCombosOfUptoRow : OpenClaim := { program := "ytjmfecjgomkofabdoor", sum := "e8276cc58e0ea38eb9feea6c3a0de519a4b263b106ebf1514a2de712ad2255b4", func := "loop.example/g00910/laws.FnExactCombosOf", spec := "fnExactCombosOf", named := ["math/bits.deBruijn64tab"], apart := false, laid := [("math/bits.deBruijn64tab", laid_math_bits_deBruijn64tab)], narrowed := true }
def FnExactCombosOfUptoSaid : Prop := fnExactCombosOfUptoRow.holds Tryd.pinned (OpenSpec.upto fnExactCombosOfSpec)

/-- 'laws.FnExactCombosWithout', WHERE WHAT IT READS IS OF BULK AT MOST 1048576: true; the input reads as it did. -/
def fnExactCombosWithoutUptoRow : OpenClaim := { program := "ytjmfecjgomkofabdoor", sum := "e8276cc58e0ea38eb9feea6c3a0de519a4b263b106ebf1514a2de712ad2255b4", func := "loop.example/g00910/laws.FnExactCombosWithout", spec := "fnExactCombosWithout", named := ["math/bits.deBruijn64tab"], apart := false, laid := [("math/bits.deBruijn64tab", laid_math_bits_deBruijn64tab)], narrowed := true }
def FnExactCombosWithoutUptoSaid : Prop := fnExactCombosWithoutUptoRow.holds Tryd.pinned (OpenSpec.upto fnExactCombosWithoutSpec)

/-- 'laws.FnExactCountCombos', WHERE WHAT IT READS IS OF BULK AT MOST 1048576: true; the input reads as it did. -/
def fnExactCountCombosUptoRow : OpenClaim := { program := "ytjmfecjgomkofabdoor", sum := "e8276cc58e0ea38eb9feea6c3a0de519a4b263b106ebf1514a2de712ad2255b4", func := "loop.example/g00910/laws.FnExactCountCombos", spec := "fnExactCountCombos", named := ["math/bits.deBruijn64tab"], apart := false, laid := [("math/bits.deBruijn64tab", laid_math_bits_deBruijn64tab)], narrowed := true }
def FnExactCountCombosUptoSaid : Prop := fnExactCountCombosUptoRow.holds Tryd.pinned (OpenSpec.upto fnExactCountCombosSpec)

/-- 'laws.FnExactRangeCombos', WHERE WHAT IT READS IS OF BULK AT MOST 1048576: true; the input reads as it did. -/
def fnExactRangeCombosUptoRow : OpenClaim := { program := "ytjmfecjgomkofabdoor", sum := "e8276cc58e0ea38eb9feea6c3a0de519a4b263b106ebf1514a2de712ad2255b4", func := "loop.example/g00910/laws.FnExactRangeCombos", spec := "fnExactRangeCombos", named := ["math/bits.deBruijn64tab"], apart := false, laid := [("math/bits.deBruijn64tab", laid_math_bits_deBruijn64tab)], narrowed := true }
def FnExactRangeCombosUptoSaid : Prop := fnExactRangeCombosUptoRow.holds Tryd.pinned (OpenSpec.upto fnExactRangeCombosSpec)

/-- 'laws.FnExactShareOf', WHERE WHAT IT READS IS OF BULK AT MOST 1048576: true; the input reads as it did. -/
def fnExactShareOfUptoRow : OpenClaim := { program := "ytjmfecjgomkofabdoor", sum := "e8276cc58e0ea38eb9feea6c3a0de519a4b263b106ebf1514a2de712ad2255b4", func := "loop.example/g00910/laws.FnExactShareOf", spec := "fnExactShareOf", recurses := true, named := ["math/bits.deBruijn64tab"], apart := false, laid := [("math/bits.deBruijn64tab", laid_math_bits_deBruijn64tab)], narrowed := true }
def FnExactShareOfUptoSaid : Prop := fnExactShareOfUptoRow.holds Tryd.pinned (OpenSpec.upto fnExactShareOfSpec)

/-- 'laws.FnRangeShares', WHERE WHAT IT READS IS OF BULK AT MOST 1048576: true; the input reads as it did. -/
def fnRangeSharesUptoRow : OpenClaim := { program := "ytjmfecjgomkofabdoor", sum := "e8276cc58e0ea38eb9feea6c3a0de519a4b263b106ebf1514a2de712ad2255b4", func := "loop.example/g00910/laws.FnRangeShares", spec := "fnRangeShares", unfollowed := true, recurses := true, named := ["math/bits.deBruijn64tab"], apart := false, laid := [("math/bits.deBruijn64tab", laid_math_bits_deBruijn64tab)], narrowed := true }
def FnRangeSharesUptoSaid : Prop := fnRangeSharesUptoRow.holds Tryd.pinned (OpenSpec.upto fnRangeSharesSpec)

end Rows
end Go.Proofs.YtjmfecjgomkofabDoor
