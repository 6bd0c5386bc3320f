/-
  NARROWER THAN 'FOR EVERY INPUT', by the rows' own cells (each row's printed sentence says how): FnExactStandardVariant: laid · FnExactVariantNamed: laid · FnVariantNames: laid · FnExactHighIn: laid · FnExactBestFive: laid · FnBestHands: laid.
  DERIVED. THE GIVEN ROWS OF THIS SEAT. 6 by the template 'for every input the law returns true; each argument reads behind the call as it read before'; 0 by the template 'total and deterministic' (their statements: YtjchjjnmahddiaaDoorTotals.lean).
  GIVEN WITH THE SEED: the statements are not yours to turn. If you find one false, say at which input.
  Laid BY PROGRAM, IN A SANDBOX (cutbox-rows.mjs): the forced cells as the released guide's own fill.sh prints them over the translation 7dc8978855c7b60d… (all of the seat's roots in one cut). By AI agents, Wed Nov 11 2026. No macro, syntax, notation, axiom, sorry.
-/
import Derived.Test.YtjchjjnmahddiaaDoorChecked
import GoSem.Claim
import GoSem.ClaimJoined
import GoSem.ClaimMapViews
import Derived.JoinedTies
import Derived.KernelRfl
namespace Go.Proofs.YtjchjjnmahddiaaDoor
/- THE CELL 'sum', in the pinned program and in every row, IS THE sha256 OF THE DUMP (.gsa) THAT YtjchjjnmahddiaaDoorProg.lean LOADS. Nothing in Lean hashes anything: it is a label: what it is worth is what the hold of that sum in a sandbox is worth. -/
noncomputable def Tryd.pinned : Pinned := { name := "ytjchjjnmahddiaadoor", sum := "7dc8978855c7b60d1af35a061b804df3f08418d3a0a45433fb450256e28d28e7", checked := Tryd.checked }
namespace Rows
def none {H : Type} : Left H := { results := [], args := [] }

/- WHAT THE LISTED PACKAGE-LEVEL VARIABLES READ AS WHEN THE CALL BEGINS. Each datum BY PROGRAM (the guide's laid-datum.mjs) off the statement by which the dump's own 'gosem.cut.vars' lays the variable. In a bare row this is a premise. The card (YtjchjjnmahddiaaDoorCards.lean) ties it to the program's text. -/
def laid_loop_example_g00910_impl_standardVariants {H : Type} : DataW H := .agg [.agg [.lit (.string [104, 111, 108, 100, 101, 109]), .agg [.lit (.int .i64 2), .lit (.int .i64 0), .lit (.int .i64 2), .lit (.int .i64 5), .lit (.bool true), .lit (.int .i64 0)]], .agg [.lit (.string [111, 109, 97, 104, 97]), .agg [.lit (.int .i64 4), .lit (.int .i64 2), .lit (.int .i64 2), .lit (.int .i64 5), .lit (.bool true), .lit (.int .i64 0)]], .agg [.lit (.string [111, 109, 97, 104, 97, 32, 101, 105, 103, 104, 116]), .agg [.lit (.int .i64 4), .lit (.int .i64 2), .lit (.int .i64 2), .lit (.int .i64 5), .lit (.bool true), .lit (.int .i64 1)]], .agg [.lit (.string [115, 116, 117, 100]), .agg [.lit (.int .i64 7), .lit (.int .i64 5), .lit (.int .i64 5), .lit (.int .i64 0), .lit (.bool true), .lit (.int .i64 0)]], .agg [.lit (.string [115, 116, 117, 100, 32, 101, 105, 103, 104, 116]), .agg [.lit (.int .i64 7), .lit (.int .i64 5), .lit (.int .i64 5), .lit (.int .i64 0), .lit (.bool true), .lit (.int .i64 1)]], .agg [.lit (.string [114, 97, 122, 122]), .agg [.lit (.int .i64 7), .lit (.int .i64 5), .lit (.int .i64 5), .lit (.int .i64 0), .lit (.bool false), .lit (.int .i64 2)]], .agg [.lit (.string [100, 114, 97, 119]), .agg [.lit (.int .i64 5), .lit (.int .i64 5), .lit (.int .i64 5), .lit (.int .i64 0), .lit (.bool true), .lit (.int .i64 0)]], .agg [.lit (.string [100, 101, 117, 99, 101, 32, 116, 111, 32, 115, 101, 118, 101, 110]), .agg [.lit (.int .i64 5), .lit (.int .i64 5), .lit (.int .i64 5), .lit (.int .i64 0), .lit (.bool false), .lit (.int .i64 3)]]]
def laid_loop_example_g00910_impl_lowestStraight {H : Type} : DataW H := .agg [.lit (.int .i64 3), .lit (.int .i64 2), .lit (.int .i64 1), .lit (.int .i64 0), .lit (.int .i64 12)]

/-- 'laws.FnExactStandardVariant': WHATEVER THE INPUT: true; the input reads as it did. -/
def fnExactStandardVariantSpec : ChangeSpec := { name := "fnExactStandardVariant", vars := ["loop.example/g00910/impl.standardVariants"], fn := fun _ => fun
  | [d, g1] => { results := [.lit (.bool true)], args := [d], vars := [g1] }
  | _ => none }
def fnExactStandardVariantRow : OpenClaim := { program := "ytjchjjnmahddiaadoor", sum := "7dc8978855c7b60d1af35a061b804df3f08418d3a0a45433fb450256e28d28e7", func := "loop.example/g00910/laws.FnExactStandardVariant", spec := "fnExactStandardVariant", named := ["loop.example/g00910/impl.standardVariants"], apart := false, laid := [("loop.example/g00910/impl.standardVariants", laid_loop_example_g00910_impl_standardVariants)] }
def FnExactStandardVariantSaid : Prop := fnExactStandardVariantRow.holds Tryd.pinned (OpenSpec.ofChange fnExactStandardVariantSpec)

/-- ITS FALSE NEIGHBOUR: 'it returns false'. Refute it at one input. -/
def fnExactStandardVariantWrong : ChangeSpec := { name := "fnExactStandardVariant", vars := ["loop.example/g00910/impl.standardVariants"], fn := fun _ => fun
  | [d, g1] => { results := [.lit (.bool false)], args := [d], vars := [g1] }
  | _ => none }
def FnExactStandardVariantWrongFalsely : Prop := fnExactStandardVariantRow.holds Tryd.pinned (OpenSpec.ofChange fnExactStandardVariantWrong)

/-- 'laws.FnExactVariantNamed': WHATEVER THE INPUT: true; the input reads as it did. -/
def fnExactVariantNamedSpec : ChangeSpec := { name := "fnExactVariantNamed", vars := ["loop.example/g00910/impl.standardVariants"], fn := fun _ => fun
  | [d, g1] => { results := [.lit (.bool true)], args := [d], vars := [g1] }
  | _ => none }
def fnExactVariantNamedRow : OpenClaim := { program := "ytjchjjnmahddiaadoor", sum := "7dc8978855c7b60d1af35a061b804df3f08418d3a0a45433fb450256e28d28e7", func := "loop.example/g00910/laws.FnExactVariantNamed", spec := "fnExactVariantNamed", named := ["loop.example/g00910/impl.standardVariants"], apart := false, laid := [("loop.example/g00910/impl.standardVariants", laid_loop_example_g00910_impl_standardVariants)] }
def FnExactVariantNamedSaid : Prop := fnExactVariantNamedRow.holds Tryd.pinned (OpenSpec.ofChange fnExactVariantNamedSpec)

/-- ITS FALSE NEIGHBOUR: 'it returns false'. Refute it at one input. -/
def fnExactVariantNamedWrong : ChangeSpec := { name := "fnExactVariantNamed", vars := ["loop.example/g00910/impl.standardVariants"], fn := fun _ => fun
  | [d, g1] => { results := [.lit (.bool false)], args := [d], vars := [g1] }
  | _ => none }
def FnExactVariantNamedWrongFalsely : Prop := fnExactVariantNamedRow.holds Tryd.pinned (OpenSpec.ofChange fnExactVariantNamedWrong)

/-- 'laws.FnVariantNames': WHATEVER THE INPUT: true; the input reads as it did. -/
def fnVariantNamesSpec : ChangeSpec := { name := "fnVariantNames", vars := ["loop.example/g00910/impl.standardVariants"], fn := fun _ => fun
  | [d, g1] => { results := [.lit (.bool true)], args := [d], vars := [g1] }
  | _ => none }
def fnVariantNamesRow : OpenClaim := { program := "ytjchjjnmahddiaadoor", sum := "7dc8978855c7b60d1af35a061b804df3f08418d3a0a45433fb450256e28d28e7", func := "loop.example/g00910/laws.FnVariantNames", spec := "fnVariantNames", named := ["loop.example/g00910/impl.standardVariants"], apart := false, laid := [("loop.example/g00910/impl.standardVariants", laid_loop_example_g00910_impl_standardVariants)] }
def FnVariantNamesSaid : Prop := fnVariantNamesRow.holds Tryd.pinned (OpenSpec.ofChange fnVariantNamesSpec)

/-- ITS FALSE NEIGHBOUR: 'it returns false'. Refute it at one input. -/
def fnVariantNamesWrong : ChangeSpec := { name := "fnVariantNames", vars := ["loop.example/g00910/impl.standardVariants"], fn := fun _ => fun
  | [d, g1] => { results := [.lit (.bool false)], args := [d], vars := [g1] }
  | _ => none }
def FnVariantNamesWrongFalsely : Prop := fnVariantNamesRow.holds Tryd.pinned (OpenSpec.ofChange fnVariantNamesWrong)

/-- 'laws.FnExactHighIn': WHATEVER THE INPUT: true; the input reads as it did. -/
def fnExactHighInSpec : ChangeSpec := { name := "fnExactHighIn", vars := ["loop.example/g00910/impl.lowestStraight"], fn := fun _ => fun
  | [d1, d2, d3, g1] => { results := [.lit (.bool true)], args := [d1, d2, d3], vars := [g1] }
  | _ => none }
def fnExactHighInRow : OpenClaim := { program := "ytjchjjnmahddiaadoor", sum := "7dc8978855c7b60d1af35a061b804df3f08418d3a0a45433fb450256e28d28e7", func := "loop.example/g00910/laws.FnExactHighIn", spec := "fnExactHighIn", unfollowed := true, recurses := true, named := ["loop.example/g00910/impl.lowestStraight"], apart := false, laid := [("loop.example/g00910/impl.lowestStraight", laid_loop_example_g00910_impl_lowestStraight)] }
def FnExactHighInSaid : Prop := fnExactHighInRow.holds Tryd.pinned (OpenSpec.ofChange fnExactHighInSpec)

/-- ITS FALSE NEIGHBOUR: 'it returns false'. Refute it at one input. -/
def fnExactHighInWrong : ChangeSpec := { name := "fnExactHighIn", vars := ["loop.example/g00910/impl.lowestStraight"], fn := fun _ => fun
  | [d1, d2, d3, g1] => { results := [.lit (.bool false)], args := [d1, d2, d3], vars := [g1] }
  | _ => none }
def FnExactHighInWrongFalsely : Prop := fnExactHighInRow.holds Tryd.pinned (OpenSpec.ofChange fnExactHighInWrong)

/-- 'laws.FnExactBestFive': WHATEVER THE INPUT: true; the input reads as it did. -/
def fnExactBestFiveSpec : ChangeSpec := { name := "fnExactBestFive", vars := ["loop.example/g00910/impl.lowestStraight"], fn := fun _ => fun
  | [d, g1] => { results := [.lit (.bool true)], args := [d], vars := [g1] }
  | _ => none }
def fnExactBestFiveRow : OpenClaim := { program := "ytjchjjnmahddiaadoor", sum := "7dc8978855c7b60d1af35a061b804df3f08418d3a0a45433fb450256e28d28e7", func := "loop.example/g00910/laws.FnExactBestFive", spec := "fnExactBestFive", unfollowed := true, recurses := true, named := ["loop.example/g00910/impl.lowestStraight"], apart := false, laid := [("loop.example/g00910/impl.lowestStraight", laid_loop_example_g00910_impl_lowestStraight)] }
def FnExactBestFiveSaid : Prop := fnExactBestFiveRow.holds Tryd.pinned (OpenSpec.ofChange fnExactBestFiveSpec)

/-- ITS FALSE NEIGHBOUR: 'it returns false'. Refute it at one input. -/
def fnExactBestFiveWrong : ChangeSpec := { name := "fnExactBestFive", vars := ["loop.example/g00910/impl.lowestStraight"], fn := fun _ => fun
  | [d, g1] => { results := [.lit (.bool false)], args := [d], vars := [g1] }
  | _ => none }
def FnExactBestFiveWrongFalsely : Prop := fnExactBestFiveRow.holds Tryd.pinned (OpenSpec.ofChange fnExactBestFiveWrong)

/-- 'laws.FnBestHands': WHATEVER THE INPUT: true; the input reads as it did. -/
def fnBestHandsSpec : ChangeSpec := { name := "fnBestHands", vars := ["loop.example/g00910/impl.lowestStraight"], fn := fun _ => fun
  | [d, g1] => { results := [.lit (.bool true)], args := [d], vars := [g1] }
  | _ => none }
def fnBestHandsRow : OpenClaim := { program := "ytjchjjnmahddiaadoor", sum := "7dc8978855c7b60d1af35a061b804df3f08418d3a0a45433fb450256e28d28e7", func := "loop.example/g00910/laws.FnBestHands", spec := "fnBestHands", unfollowed := true, recurses := true, named := ["loop.example/g00910/impl.lowestStraight"], apart := false, laid := [("loop.example/g00910/impl.lowestStraight", laid_loop_example_g00910_impl_lowestStraight)] }
def FnBestHandsSaid : Prop := fnBestHandsRow.holds Tryd.pinned (OpenSpec.ofChange fnBestHandsSpec)

/-- ITS FALSE NEIGHBOUR: 'it returns false'. Refute it at one input. -/
def fnBestHandsWrong : ChangeSpec := { name := "fnBestHands", vars := ["loop.example/g00910/impl.lowestStraight"], fn := fun _ => fun
  | [d, g1] => { results := [.lit (.bool false)], args := [d], vars := [g1] }
  | _ => none }
def FnBestHandsWrongFalsely : Prop := fnBestHandsRow.holds Tryd.pinned (OpenSpec.ofChange fnBestHandsWrong)

/- THE SECOND FORM. 'bulk': how many values and letters a reading holds, each counted each time it is reached (what is shared counts as often as it is met; a slice's spare places count too). A statement '..UptoSaid' is the law's where the arguments, and the package variables that the reading takes, are together of bulk at most 1048576: NARROWER than '..Said'. Prove '..Said' where nothing that the law and all that it calls make is longer than what came in: it says more and counts as full. Else prove '..UptoSaid'. A law counts once. -/
mutual
def uptoBulk {H : Type} : DataW H → Nat
  | .lit (.string bytes) => bytes.length + 1
  | .lit _ => 1
  | .nil => 1
  | .ptr d => uptoBulk d + 1
  | .slice elems spare => uptoBulkAll elems + uptoBulkAll spare + 1
  | .agg parts => uptoBulkAll parts + 1
  | .iface _ d => uptoBulk d + 1
  | .map entries => uptoBulkEntries entries + 1
  | .held _ => 1
def uptoBulkAll {H : Type} : List (DataW H) → Nat
  | [] => 0
  | d :: r => uptoBulk d + uptoBulkAll r
def uptoBulkEntries {H : Type} : List (Lit × DataW H) → Nat
  | [] => 0
  | x :: r => uptoBulkEntry x + uptoBulkEntries r
def uptoBulkEntry {H : Type} : Lit × DataW H → Nat
  | (.string bytes, d) => bytes.length + uptoBulk d + 1
  | (_, d) => uptoBulk d + 1
 end
def uptoSmall : (H : Type) → List (DataW H) → Bool := fun _ ds => decide (uptoBulkAll ds ≤ 1048576)
def OpenSpec.upto (s : _root_.Go.ChangeSpec) : _root_.Go.OpenSpec := { _root_.Go.OpenSpec.ofChange s with cond := some uptoSmall }

/-- 'laws.FnExactStandardVariant', WHERE WHAT IT READS IS OF BULK AT MOST 1048576: true; the input reads as it did. -/
def fnExactStandardVariantUptoRow : OpenClaim := { program := "ytjchjjnmahddiaadoor", sum := "7dc8978855c7b60d1af35a061b804df3f08418d3a0a45433fb450256e28d28e7", func := "loop.example/g00910/laws.FnExactStandardVariant", spec := "fnExactStandardVariant", named := ["loop.example/g00910/impl.standardVariants"], apart := false, laid := [("loop.example/g00910/impl.standardVariants", laid_loop_example_g00910_impl_standardVariants)], narrowed := true }
def FnExactStandardVariantUptoSaid : Prop := fnExactStandardVariantUptoRow.holds Tryd.pinned (OpenSpec.upto fnExactStandardVariantSpec)

/-- 'laws.FnExactVariantNamed', WHERE WHAT IT READS IS OF BULK AT MOST 1048576: true; the input reads as it did. -/
def fnExactVariantNamedUptoRow : OpenClaim := { program := "ytjchjjnmahddiaadoor", sum := "7dc8978855c7b60d1af35a061b804df3f08418d3a0a45433fb450256e28d28e7", func := "loop.example/g00910/laws.FnExactVariantNamed", spec := "fnExactVariantNamed", named := ["loop.example/g00910/impl.standardVariants"], apart := false, laid := [("loop.example/g00910/impl.standardVariants", laid_loop_example_g00910_impl_standardVariants)], narrowed := true }
def FnExactVariantNamedUptoSaid : Prop := fnExactVariantNamedUptoRow.holds Tryd.pinned (OpenSpec.upto fnExactVariantNamedSpec)

/-- 'laws.FnVariantNames', WHERE WHAT IT READS IS OF BULK AT MOST 1048576: true; the input reads as it did. -/
def fnVariantNamesUptoRow : OpenClaim := { program := "ytjchjjnmahddiaadoor", sum := "7dc8978855c7b60d1af35a061b804df3f08418d3a0a45433fb450256e28d28e7", func := "loop.example/g00910/laws.FnVariantNames", spec := "fnVariantNames", named := ["loop.example/g00910/impl.standardVariants"], apart := false, laid := [("loop.example/g00910/impl.standardVariants", laid_loop_example_g00910_impl_standardVariants)], narrowed := true }
def FnVariantNamesUptoSaid : Prop := fnVariantNamesUptoRow.holds Tryd.pinned (OpenSpec.upto fnVariantNamesSpec)

/-- 'laws.FnExactHighIn', WHERE WHAT IT READS IS OF BULK AT MOST 1048576: true; the input reads as it did. -/
def fnExactHighInUptoRow : OpenClaim := { program := "ytjchjjnmahddiaadoor", sum := "7dc8978855c7b60d1af35a061b804df3f08418d3a0a45433fb450256e28d28e7", func := "loop.example/g00910/laws.FnExactHighIn", spec := "fnExactHighIn", unfollowed := true, recurses := true, named := ["loop.example/g00910/impl.lowestStraight"], apart := false, laid := [("loop.example/g00910/impl.lowestStraight", laid_loop_example_g00910_impl_lowestStraight)], narrowed := true }
def FnExactHighInUptoSaid : Prop := fnExactHighInUptoRow.holds Tryd.pinned (OpenSpec.upto fnExactHighInSpec)

/-- 'laws.FnExactBestFive', WHERE WHAT IT READS IS OF BULK AT MOST 1048576: true; the input reads as it did. -/
def fnExactBestFiveUptoRow : OpenClaim := { program := "ytjchjjnmahddiaadoor", sum := "7dc8978855c7b60d1af35a061b804df3f08418d3a0a45433fb450256e28d28e7", func := "loop.example/g00910/laws.FnExactBestFive", spec := "fnExactBestFive", unfollowed := true, recurses := true, named := ["loop.example/g00910/impl.lowestStraight"], apart := false, laid := [("loop.example/g00910/impl.lowestStraight", laid_loop_example_g00910_impl_lowestStraight)], narrowed := true }
def FnExactBestFiveUptoSaid : Prop := fnExactBestFiveUptoRow.holds Tryd.pinned (OpenSpec.upto fnExactBestFiveSpec)

/-- 'laws.FnBestHands', WHERE WHAT IT READS IS OF BULK AT MOST 1048576: true; the input reads as it did. -/
def fnBestHandsUptoRow : OpenClaim := { program := "ytjchjjnmahddiaadoor", sum := "7dc8978855c7b60d1af35a061b804df3f08418d3a0a45433fb450256e28d28e7", func := "loop.example/g00910/laws.FnBestHands", spec := "fnBestHands", unfollowed := true, recurses := true, named := ["loop.example/g00910/impl.lowestStraight"], apart := false, laid := [("loop.example/g00910/impl.lowestStraight", laid_loop_example_g00910_impl_lowestStraight)], narrowed := true }
def FnBestHandsUptoSaid : Prop := fnBestHandsUptoRow.holds Tryd.pinned (OpenSpec.upto fnBestHandsSpec)

end Rows
end Go.Proofs.YtjchjjnmahddiaaDoor
