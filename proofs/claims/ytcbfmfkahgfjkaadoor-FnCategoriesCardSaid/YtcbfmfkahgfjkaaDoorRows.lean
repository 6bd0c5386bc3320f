/-
  NARROWER THAN 'FOR EVERY INPUT', by the rows' own cells (each row's printed sentence says how): FnExactHighValue: laid · FnExactCategoryOf: laid · FnExactKickersOf: laid · FnExactBestHigh: laid · FnExactBestFive: laid · FnExactCompareHigh: laid · FnExactCategoryName: laid · FnExactCategorySize: laid · FnHighValues: laid · FnBestHands: laid · FnCategories: laid.
  DERIVED. THE GIVEN ROWS OF THIS SEAT. 11 by the template 'for every input the law returns true; each argument reads behind the call as it read before'; 0 by the template 'total and deterministic' (their statements: YtcbfmfkahgfjkaaDoorTotals.lean).
  GIVEN WITH THE SEED: the statements are not yours to turn. If you find one false, say at which input.
  Laid BY PROGRAM, IN A SANDBOX (cutbox-rows.mjs): the forced cells as the released guide's own fill.sh prints them over the translation 115c0ce89b8eb39b… (all of the seat's roots in one cut). By AI agents, Wed Nov 11 2026. No macro, syntax, notation, axiom, sorry.
-/
import Derived.Test.YtcbfmfkahgfjkaaDoorChecked
import GoSem.Claim
import GoSem.ClaimJoined
import GoSem.ClaimMapViews
import Derived.JoinedTies
import Derived.KernelRfl
namespace Go.Proofs.YtcbfmfkahgfjkaaDoor
/- THE CELL 'sum', in the pinned program and in every row, IS THE sha256 OF THE DUMP (.gsa) THAT YtcbfmfkahgfjkaaDoorProg.lean LOADS. Nothing in Lean hashes anything: it is a label: what it is worth is what the hold of that sum in a sandbox is worth. -/
noncomputable def Tryd.pinned : Pinned := { name := "ytcbfmfkahgfjkaadoor", sum := "115c0ce89b8eb39b2e2c3add4f9d574bf31748c61e5e748f9d82292c2429ee74", checked := Tryd.checked }
namespace Rows
def none {H : Type} : Left H := { results := [], args := [] }

/- WHAT THE LISTED PACKAGE-LEVEL VARIABLES READ AS WHEN THE CALL BEGINS. Each datum BY PROGRAM (the guide's laid-datum.mjs) off the statement by which the dump's own 'gosem.cut.vars' lays the variable. In a bare row this is a premise. The card (YtcbfmfkahgfjkaaDoorCards.lean) ties it to the program's text. -/
def laid_loop_example_g00910_impl_lowestStraight {H : Type} : DataW H := .agg [.lit (.int .i64 3), .lit (.int .i64 2), .lit (.int .i64 1), .lit (.int .i64 0), .lit (.int .i64 12)]

/-- 'laws.FnExactHighValue': WHATEVER THE INPUT: true; the input reads as it did. -/
def fnExactHighValueSpec : ChangeSpec := { name := "fnExactHighValue", vars := ["loop.example/g00910/impl.lowestStraight"], fn := fun _ => fun
  | [d, g1] => { results := [.lit (.bool true)], args := [d], vars := [g1] }
  | _ => none }
def fnExactHighValueRow : OpenClaim := { program := "ytcbfmfkahgfjkaadoor", sum := "115c0ce89b8eb39b2e2c3add4f9d574bf31748c61e5e748f9d82292c2429ee74", func := "loop.example/g00910/laws.FnExactHighValue", spec := "fnExactHighValue", unfollowed := true, recurses := true, named := ["loop.example/g00910/impl.lowestStraight"], apart := false, laid := [("loop.example/g00910/impl.lowestStraight", laid_loop_example_g00910_impl_lowestStraight)] }
def FnExactHighValueSaid : Prop := fnExactHighValueRow.holds Tryd.pinned (OpenSpec.ofChange fnExactHighValueSpec)

/-- ITS FALSE NEIGHBOUR: 'it returns false'. Refute it at one input. -/
def fnExactHighValueWrong : ChangeSpec := { name := "fnExactHighValue", vars := ["loop.example/g00910/impl.lowestStraight"], fn := fun _ => fun
  | [d, g1] => { results := [.lit (.bool false)], args := [d], vars := [g1] }
  | _ => none }
def FnExactHighValueWrongFalsely : Prop := fnExactHighValueRow.holds Tryd.pinned (OpenSpec.ofChange fnExactHighValueWrong)

/-- 'laws.FnExactCategoryOf': WHATEVER THE INPUT: true; the input reads as it did. -/
def fnExactCategoryOfSpec : ChangeSpec := { name := "fnExactCategoryOf", vars := ["loop.example/g00910/impl.lowestStraight"], fn := fun _ => fun
  | [d, g1] => { results := [.lit (.bool true)], args := [d], vars := [g1] }
  | _ => none }
def fnExactCategoryOfRow : OpenClaim := { program := "ytcbfmfkahgfjkaadoor", sum := "115c0ce89b8eb39b2e2c3add4f9d574bf31748c61e5e748f9d82292c2429ee74", func := "loop.example/g00910/laws.FnExactCategoryOf", spec := "fnExactCategoryOf", unfollowed := true, recurses := true, named := ["loop.example/g00910/impl.lowestStraight"], apart := false, laid := [("loop.example/g00910/impl.lowestStraight", laid_loop_example_g00910_impl_lowestStraight)] }
def FnExactCategoryOfSaid : Prop := fnExactCategoryOfRow.holds Tryd.pinned (OpenSpec.ofChange fnExactCategoryOfSpec)

/-- ITS FALSE NEIGHBOUR: 'it returns false'. Refute it at one input. -/
def fnExactCategoryOfWrong : ChangeSpec := { name := "fnExactCategoryOf", vars := ["loop.example/g00910/impl.lowestStraight"], fn := fun _ => fun
  | [d, g1] => { results := [.lit (.bool false)], args := [d], vars := [g1] }
  | _ => none }
def FnExactCategoryOfWrongFalsely : Prop := fnExactCategoryOfRow.holds Tryd.pinned (OpenSpec.ofChange fnExactCategoryOfWrong)

/-- 'laws.FnExactKickersOf': WHATEVER THE INPUT: true; the input reads as it did. -/
def fnExactKickersOfSpec : ChangeSpec := { name := "fnExactKickersOf", vars := ["loop.example/g00910/impl.lowestStraight"], fn := fun _ => fun
  | [d, g1] => { results := [.lit (.bool true)], args := [d], vars := [g1] }
  | _ => none }
def fnExactKickersOfRow : OpenClaim := { program := "ytcbfmfkahgfjkaadoor", sum := "115c0ce89b8eb39b2e2c3add4f9d574bf31748c61e5e748f9d82292c2429ee74", func := "loop.example/g00910/laws.FnExactKickersOf", spec := "fnExactKickersOf", unfollowed := true, recurses := true, named := ["loop.example/g00910/impl.lowestStraight"], apart := false, laid := [("loop.example/g00910/impl.lowestStraight", laid_loop_example_g00910_impl_lowestStraight)] }
def FnExactKickersOfSaid : Prop := fnExactKickersOfRow.holds Tryd.pinned (OpenSpec.ofChange fnExactKickersOfSpec)

/-- ITS FALSE NEIGHBOUR: 'it returns false'. Refute it at one input. -/
def fnExactKickersOfWrong : ChangeSpec := { name := "fnExactKickersOf", vars := ["loop.example/g00910/impl.lowestStraight"], fn := fun _ => fun
  | [d, g1] => { results := [.lit (.bool false)], args := [d], vars := [g1] }
  | _ => none }
def FnExactKickersOfWrongFalsely : Prop := fnExactKickersOfRow.holds Tryd.pinned (OpenSpec.ofChange fnExactKickersOfWrong)

/-- 'laws.FnExactBestHigh': WHATEVER THE INPUT: true; the input reads as it did. -/
def fnExactBestHighSpec : ChangeSpec := { name := "fnExactBestHigh", vars := ["loop.example/g00910/impl.lowestStraight"], fn := fun _ => fun
  | [d, g1] => { results := [.lit (.bool true)], args := [d], vars := [g1] }
  | _ => none }
def fnExactBestHighRow : OpenClaim := { program := "ytcbfmfkahgfjkaadoor", sum := "115c0ce89b8eb39b2e2c3add4f9d574bf31748c61e5e748f9d82292c2429ee74", func := "loop.example/g00910/laws.FnExactBestHigh", spec := "fnExactBestHigh", unfollowed := true, recurses := true, named := ["loop.example/g00910/impl.lowestStraight"], apart := false, laid := [("loop.example/g00910/impl.lowestStraight", laid_loop_example_g00910_impl_lowestStraight)] }
def FnExactBestHighSaid : Prop := fnExactBestHighRow.holds Tryd.pinned (OpenSpec.ofChange fnExactBestHighSpec)

/-- ITS FALSE NEIGHBOUR: 'it returns false'. Refute it at one input. -/
def fnExactBestHighWrong : ChangeSpec := { name := "fnExactBestHigh", vars := ["loop.example/g00910/impl.lowestStraight"], fn := fun _ => fun
  | [d, g1] => { results := [.lit (.bool false)], args := [d], vars := [g1] }
  | _ => none }
def FnExactBestHighWrongFalsely : Prop := fnExactBestHighRow.holds Tryd.pinned (OpenSpec.ofChange fnExactBestHighWrong)

/-- 'laws.FnExactBestFive': WHATEVER THE INPUT: true; the input reads as it did. -/
def fnExactBestFiveSpec : ChangeSpec := { name := "fnExactBestFive", vars := ["loop.example/g00910/impl.lowestStraight"], fn := fun _ => fun
  | [d, g1] => { results := [.lit (.bool true)], args := [d], vars := [g1] }
  | _ => none }
def fnExactBestFiveRow : OpenClaim := { program := "ytcbfmfkahgfjkaadoor", sum := "115c0ce89b8eb39b2e2c3add4f9d574bf31748c61e5e748f9d82292c2429ee74", func := "loop.example/g00910/laws.FnExactBestFive", spec := "fnExactBestFive", unfollowed := true, recurses := true, named := ["loop.example/g00910/impl.lowestStraight"], apart := false, laid := [("loop.example/g00910/impl.lowestStraight", laid_loop_example_g00910_impl_lowestStraight)] }
def FnExactBestFiveSaid : Prop := fnExactBestFiveRow.holds Tryd.pinned (OpenSpec.ofChange fnExactBestFiveSpec)

/-- ITS FALSE NEIGHBOUR: 'it returns false'. Refute it at one input. -/
def fnExactBestFiveWrong : ChangeSpec := { name := "fnExactBestFive", vars := ["loop.example/g00910/impl.lowestStraight"], fn := fun _ => fun
  | [d, g1] => { results := [.lit (.bool false)], args := [d], vars := [g1] }
  | _ => none }
def FnExactBestFiveWrongFalsely : Prop := fnExactBestFiveRow.holds Tryd.pinned (OpenSpec.ofChange fnExactBestFiveWrong)

/-- 'laws.FnExactCompareHigh': WHATEVER THE INPUT: true; the input reads as it did. -/
def fnExactCompareHighSpec : ChangeSpec := { name := "fnExactCompareHigh", vars := ["loop.example/g00910/impl.lowestStraight"], fn := fun _ => fun
  | [d1, d2, g1] => { results := [.lit (.bool true)], args := [d1, d2], vars := [g1] }
  | _ => none }
def fnExactCompareHighRow : OpenClaim := { program := "ytcbfmfkahgfjkaadoor", sum := "115c0ce89b8eb39b2e2c3add4f9d574bf31748c61e5e748f9d82292c2429ee74", func := "loop.example/g00910/laws.FnExactCompareHigh", spec := "fnExactCompareHigh", unfollowed := true, recurses := true, named := ["loop.example/g00910/impl.lowestStraight"], apart := false, laid := [("loop.example/g00910/impl.lowestStraight", laid_loop_example_g00910_impl_lowestStraight)] }
def FnExactCompareHighSaid : Prop := fnExactCompareHighRow.holds Tryd.pinned (OpenSpec.ofChange fnExactCompareHighSpec)

/-- ITS FALSE NEIGHBOUR: 'it returns false'. Refute it at one input. -/
def fnExactCompareHighWrong : ChangeSpec := { name := "fnExactCompareHigh", vars := ["loop.example/g00910/impl.lowestStraight"], fn := fun _ => fun
  | [d1, d2, g1] => { results := [.lit (.bool false)], args := [d1, d2], vars := [g1] }
  | _ => none }
def FnExactCompareHighWrongFalsely : Prop := fnExactCompareHighRow.holds Tryd.pinned (OpenSpec.ofChange fnExactCompareHighWrong)

/-- 'laws.FnExactCategoryName': WHATEVER THE INPUT: true; the input reads as it did. -/
def fnExactCategoryNameSpec : ChangeSpec := { name := "fnExactCategoryName", vars := ["loop.example/g00910/impl.lowestStraight"], fn := fun _ => fun
  | [d, g1] => { results := [.lit (.bool true)], args := [d], vars := [g1] }
  | _ => none }
def fnExactCategoryNameRow : OpenClaim := { program := "ytcbfmfkahgfjkaadoor", sum := "115c0ce89b8eb39b2e2c3add4f9d574bf31748c61e5e748f9d82292c2429ee74", func := "loop.example/g00910/laws.FnExactCategoryName", spec := "fnExactCategoryName", named := ["loop.example/g00910/impl.lowestStraight"], apart := false, laid := [("loop.example/g00910/impl.lowestStraight", laid_loop_example_g00910_impl_lowestStraight)] }
def FnExactCategoryNameSaid : Prop := fnExactCategoryNameRow.holds Tryd.pinned (OpenSpec.ofChange fnExactCategoryNameSpec)

/-- ITS FALSE NEIGHBOUR: 'it returns false'. Refute it at one input. -/
def fnExactCategoryNameWrong : ChangeSpec := { name := "fnExactCategoryName", vars := ["loop.example/g00910/impl.lowestStraight"], fn := fun _ => fun
  | [d, g1] => { results := [.lit (.bool false)], args := [d], vars := [g1] }
  | _ => none }
def FnExactCategoryNameWrongFalsely : Prop := fnExactCategoryNameRow.holds Tryd.pinned (OpenSpec.ofChange fnExactCategoryNameWrong)

/-- 'laws.FnExactCategorySize': WHATEVER THE INPUT: true; the input reads as it did. -/
def fnExactCategorySizeSpec : ChangeSpec := { name := "fnExactCategorySize", vars := ["loop.example/g00910/impl.lowestStraight"], fn := fun _ => fun
  | [d, g1] => { results := [.lit (.bool true)], args := [d], vars := [g1] }
  | _ => none }
def fnExactCategorySizeRow : OpenClaim := { program := "ytcbfmfkahgfjkaadoor", sum := "115c0ce89b8eb39b2e2c3add4f9d574bf31748c61e5e748f9d82292c2429ee74", func := "loop.example/g00910/laws.FnExactCategorySize", spec := "fnExactCategorySize", named := ["loop.example/g00910/impl.lowestStraight"], apart := false, laid := [("loop.example/g00910/impl.lowestStraight", laid_loop_example_g00910_impl_lowestStraight)] }
def FnExactCategorySizeSaid : Prop := fnExactCategorySizeRow.holds Tryd.pinned (OpenSpec.ofChange fnExactCategorySizeSpec)

/-- ITS FALSE NEIGHBOUR: 'it returns false'. Refute it at one input. -/
def fnExactCategorySizeWrong : ChangeSpec := { name := "fnExactCategorySize", vars := ["loop.example/g00910/impl.lowestStraight"], fn := fun _ => fun
  | [d, g1] => { results := [.lit (.bool false)], args := [d], vars := [g1] }
  | _ => none }
def FnExactCategorySizeWrongFalsely : Prop := fnExactCategorySizeRow.holds Tryd.pinned (OpenSpec.ofChange fnExactCategorySizeWrong)

/-- 'laws.FnHighValues': WHATEVER THE INPUT: true; the input reads as it did. -/
def fnHighValuesSpec : ChangeSpec := { name := "fnHighValues", vars := ["loop.example/g00910/impl.lowestStraight"], fn := fun _ => fun
  | [d, g1] => { results := [.lit (.bool true)], args := [d], vars := [g1] }
  | _ => none }
def fnHighValuesRow : OpenClaim := { program := "ytcbfmfkahgfjkaadoor", sum := "115c0ce89b8eb39b2e2c3add4f9d574bf31748c61e5e748f9d82292c2429ee74", func := "loop.example/g00910/laws.FnHighValues", spec := "fnHighValues", unfollowed := true, recurses := true, named := ["loop.example/g00910/impl.lowestStraight"], apart := false, laid := [("loop.example/g00910/impl.lowestStraight", laid_loop_example_g00910_impl_lowestStraight)] }
def FnHighValuesSaid : Prop := fnHighValuesRow.holds Tryd.pinned (OpenSpec.ofChange fnHighValuesSpec)

/-- ITS FALSE NEIGHBOUR: 'it returns false'. Refute it at one input. -/
def fnHighValuesWrong : ChangeSpec := { name := "fnHighValues", vars := ["loop.example/g00910/impl.lowestStraight"], fn := fun _ => fun
  | [d, g1] => { results := [.lit (.bool false)], args := [d], vars := [g1] }
  | _ => none }
def FnHighValuesWrongFalsely : Prop := fnHighValuesRow.holds Tryd.pinned (OpenSpec.ofChange fnHighValuesWrong)

/-- 'laws.FnBestHands': WHATEVER THE INPUT: true; the input reads as it did. -/
def fnBestHandsSpec : ChangeSpec := { name := "fnBestHands", vars := ["loop.example/g00910/impl.lowestStraight"], fn := fun _ => fun
  | [d, g1] => { results := [.lit (.bool true)], args := [d], vars := [g1] }
  | _ => none }
def fnBestHandsRow : OpenClaim := { program := "ytcbfmfkahgfjkaadoor", sum := "115c0ce89b8eb39b2e2c3add4f9d574bf31748c61e5e748f9d82292c2429ee74", func := "loop.example/g00910/laws.FnBestHands", spec := "fnBestHands", unfollowed := true, recurses := true, named := ["loop.example/g00910/impl.lowestStraight"], apart := false, laid := [("loop.example/g00910/impl.lowestStraight", laid_loop_example_g00910_impl_lowestStraight)] }
def FnBestHandsSaid : Prop := fnBestHandsRow.holds Tryd.pinned (OpenSpec.ofChange fnBestHandsSpec)

/-- ITS FALSE NEIGHBOUR: 'it returns false'. Refute it at one input. -/
def fnBestHandsWrong : ChangeSpec := { name := "fnBestHands", vars := ["loop.example/g00910/impl.lowestStraight"], fn := fun _ => fun
  | [d, g1] => { results := [.lit (.bool false)], args := [d], vars := [g1] }
  | _ => none }
def FnBestHandsWrongFalsely : Prop := fnBestHandsRow.holds Tryd.pinned (OpenSpec.ofChange fnBestHandsWrong)

/-- 'laws.FnCategories': WHATEVER THE INPUT: true; the input reads as it did. -/
def fnCategoriesSpec : ChangeSpec := { name := "fnCategories", vars := ["loop.example/g00910/impl.lowestStraight"], fn := fun _ => fun
  | [d, g1] => { results := [.lit (.bool true)], args := [d], vars := [g1] }
  | _ => none }
def fnCategoriesRow : OpenClaim := { program := "ytcbfmfkahgfjkaadoor", sum := "115c0ce89b8eb39b2e2c3add4f9d574bf31748c61e5e748f9d82292c2429ee74", func := "loop.example/g00910/laws.FnCategories", spec := "fnCategories", named := ["loop.example/g00910/impl.lowestStraight"], apart := false, laid := [("loop.example/g00910/impl.lowestStraight", laid_loop_example_g00910_impl_lowestStraight)] }
def FnCategoriesSaid : Prop := fnCategoriesRow.holds Tryd.pinned (OpenSpec.ofChange fnCategoriesSpec)

/-- ITS FALSE NEIGHBOUR: 'it returns false'. Refute it at one input. -/
def fnCategoriesWrong : ChangeSpec := { name := "fnCategories", vars := ["loop.example/g00910/impl.lowestStraight"], fn := fun _ => fun
  | [d, g1] => { results := [.lit (.bool false)], args := [d], vars := [g1] }
  | _ => none }
def FnCategoriesWrongFalsely : Prop := fnCategoriesRow.holds Tryd.pinned (OpenSpec.ofChange fnCategoriesWrong)

/- THE SECOND FORM. 'bulk': how many values and letters a reading holds, each counted each time it is reached (what is shared counts as often as it is met; a slice's spare places count too). A statement '..UptoSaid' is the law's where the arguments, and the package variables that the reading takes, are together of bulk at most 1048576: NARROWER than '..Said'. Prove '..Said' where nothing that the law and all that it calls make is longer than what came in: it says more and counts as full. Else prove '..UptoSaid'. A law counts once. -/
mutual
def uptoBulk {H : Type} : DataW H → Nat
  | .lit (.string bytes) => bytes.length + 1
  | .lit _ => 1
  | .nil => 1
  | .ptr d => uptoBulk d + 1
  | .slice elems spare => uptoBulkAll elems + uptoBulkAll spare + 1
  | .agg parts => uptoBulkAll parts + 1
  | .iface _ d => uptoBulk d + 1
  | .map entries => uptoBulkEntries entries + 1
  | .held _ => 1
def uptoBulkAll {H : Type} : List (DataW H) → Nat
  | [] => 0
  | d :: r => uptoBulk d + uptoBulkAll r
def uptoBulkEntries {H : Type} : List (Lit × DataW H) → Nat
  | [] => 0
  | x :: r => uptoBulkEntry x + uptoBulkEntries r
def uptoBulkEntry {H : Type} : Lit × DataW H → Nat
  | (.string bytes, d) => bytes.length + uptoBulk d + 1
  | (_, d) => uptoBulk d + 1
 end
def uptoSmall : (H : Type) → List (DataW H) → Bool := fun _ ds => decide (uptoBulkAll ds ≤ 1048576)
def OpenSpec.upto (s : _root_.Go.ChangeSpec) : _root_.Go.OpenSpec := { _root_.Go.OpenSpec.ofChange s with cond := some uptoSmall }

/-- 'laws.FnExactHighValue', WHERE WHAT IT READS IS OF BULK AT MOST 1048576: true; the input reads as it did. -/
def fnExactHighValueUptoRow : OpenClaim := { program := "ytcbfmfkahgfjkaadoor", sum := "115c0ce89b8eb39b2e2c3add4f9d574bf31748c61e5e748f9d82292c2429ee74", func := "loop.example/g00910/laws.FnExactHighValue", spec := "fnExactHighValue", unfollowed := true, recurses := true, named := ["loop.example/g00910/impl.lowestStraight"], apart := false, laid := [("loop.example/g00910/impl.lowestStraight", laid_loop_example_g00910_impl_lowestStraight)], narrowed := true }
def FnExactHighValueUptoSaid : Prop := fnExactHighValueUptoRow.holds Tryd.pinned (OpenSpec.upto fnExactHighValueSpec)

/-- 'laws.FnExactCategoryOf', WHERE WHAT IT READS IS OF BULK AT MOST 1048576: true; the input reads as it did. -/
def fnExactCategoryOfUptoRow : OpenClaim := { program := "ytcbfmfkahgfjkaadoor", sum := "115c0ce89b8eb39b2e2c3add4f9d574bf31748c61e5e748f9d82292c2429ee74", func := "loop.example/g00910/laws.FnExactCategoryOf", spec := "fnExactCategoryOf", unfollowed := true, recurses := true, named := ["loop.example/g00910/impl.lowestStraight"], apart := false, laid := [("loop.example/g00910/impl.lowestStraight", laid_loop_example_g00910_impl_lowestStraight)], narrowed := true }
def FnExactCategoryOfUptoSaid : Prop := fnExactCategoryOfUptoRow.holds Tryd.pinned (OpenSpec.upto fnExactCategoryOfSpec)

/-- 'laws.FnExactKickersOf', WHERE WHAT IT READS IS OF BULK AT MOST 1048576: true; the input reads as it did. -/
def fnExactKickersOfUptoRow : OpenClaim := { program := "ytcbfmfkahgfjkaadoor", sum := "115c0ce89b8eb39b2e2c3add4f9d574bf31748c61e5e748f9d82292c2429ee74", func := "loop.example/g00910/laws.FnExactKickersOf", spec := "fnExactKickersOf", unfollowed := true, recurses := true, named := ["loop.example/g00910/impl.lowestStraight"], apart := false, laid := [("loop.example/g00910/impl.lowestStraight", laid_loop_example_g00910_impl_lowestStraight)], narrowed := true }
def FnExactKickersOfUptoSaid : Prop := fnExactKickersOfUptoRow.holds Tryd.pinned (OpenSpec.upto fnExactKickersOfSpec)

/-- 'laws.FnExactBestHigh', WHERE WHAT IT READS IS OF BULK AT MOST 1048576: true; the input reads as it did. -/
def fnExactBestHighUptoRow : OpenClaim := { program := "ytcbfmfkahgfjkaadoor", sum := "115c0ce89b8eb39b2e2c3add4f9d574bf31748c61e5e748f9d82292c2429ee74", func := "loop.example/g00910/laws.FnExactBestHigh", spec := "fnExactBestHigh", unfollowed := true, recurses := true, named := ["loop.example/g00910/impl.lowestStraight"], apart := false, laid := [("loop.example/g00910/impl.lowestStraight", laid_loop_example_g00910_impl_lowestStraight)], narrowed := true }
def FnExactBestHighUptoSaid : Prop := fnExactBestHighUptoRow.holds Tryd.pinned (OpenSpec.upto fnExactBestHighSpec)

/-- 'laws.FnExactBestFive', WHERE WHAT IT READS IS OF BULK AT MOST 1048576: true; the input reads as it did. -/
def fnExactBestFiveUptoRow : OpenClaim := { program := "ytcbfmfkahgfjkaadoor", sum := "115c0ce89b8eb39b2e2c3add4f9d574bf31748c61e5e748f9d82292c2429ee74", func := "loop.example/g00910/laws.FnExactBestFive", spec := "fnExactBestFive", unfollowed := true, recurses := true, named := ["loop.example/g00910/impl.lowestStraight"], apart := false, laid := [("loop.example/g00910/impl.lowestStraight", laid_loop_example_g00910_impl_lowestStraight)], narrowed := true }
def FnExactBestFiveUptoSaid : Prop := fnExactBestFiveUptoRow.holds Tryd.pinned (OpenSpec.upto fnExactBestFiveSpec)

/-- 'laws.FnExactCompareHigh', WHERE WHAT IT READS IS OF BULK AT MOST 1048576: true; the input reads as it did. -/
def fnExactCompareHighUptoRow : OpenClaim := { program := "ytcbfmfkahgfjkaadoor", sum := "115c0ce89b8eb39b2e2c3add4f9d574bf31748c61e5e748f9d82292c2429ee74", func := "loop.example/g00910/laws.FnExactCompareHigh", spec := "fnExactCompareHigh", unfollowed := true, recurses := true, named := ["loop.example/g00910/impl.lowestStraight"], apart := false, laid := [("loop.example/g00910/impl.lowestStraight", laid_loop_example_g00910_impl_lowestStraight)], narrowed := true }
def FnExactCompareHighUptoSaid : Prop := fnExactCompareHighUptoRow.holds Tryd.pinned (OpenSpec.upto fnExactCompareHighSpec)

/-- 'laws.FnExactCategoryName', WHERE WHAT IT READS IS OF BULK AT MOST 1048576: true; the input reads as it did. -/
def fnExactCategoryNameUptoRow : OpenClaim := { program := "ytcbfmfkahgfjkaadoor", sum := "115c0ce89b8eb39b2e2c3add4f9d574bf31748c61e5e748f9d82292c2429ee74", func := "loop.example/g00910/laws.FnExactCategoryName", spec := "fnExactCategoryName", named := ["loop.example/g00910/impl.lowestStraight"], apart := false, laid := [("loop.example/g00910/impl.lowestStraight", laid_loop_example_g00910_impl_lowestStraight)], narrowed := true }
def FnExactCategoryNameUptoSaid : Prop := fnExactCategoryNameUptoRow.holds Tryd.pinned (OpenSpec.upto fnExactCategoryNameSpec)

/-- 'laws.FnExactCategorySize', WHERE WHAT IT READS IS OF BULK AT MOST 1048576: true; the input reads as it did. -/
def fnExactCategorySizeUptoRow : OpenClaim := { program := "ytcbfmfkahgfjkaadoor", sum := "115c0ce89b8eb39b2e2c3add4f9d574bf31748c61e5e748f9d82292c2429ee74", func := "loop.example/g00910/laws.FnExactCategorySize", spec := "fnExactCategorySize", named := ["loop.example/g00910/impl.lowestStraight"], apart := false, laid := [("loop.example/g00910/impl.lowestStraight", laid_loop_example_g00910_impl_lowestStraight)], narrowed := true }
def FnExactCategorySizeUptoSaid : Prop := fnExactCategorySizeUptoRow.holds Tryd.pinned (OpenSpec.upto fnExactCategorySizeSpec)

/-- 'laws.FnHighValues', WHERE WHAT IT READS IS OF BULK AT MOST 1048576: true; the input reads as it did. -/
def fnHighValuesUptoRow : OpenClaim := { program := "ytcbfmfkahgfjkaadoor", sum := "115c0ce89b8eb39b2e2c3add4f9d574bf31748c61e5e748f9d82292c2429ee74", func := "loop.example/g00910/laws.FnHighValues", spec := "fnHighValues", unfollowed := true, recurses := true, named := ["loop.example/g00910/impl.lowestStraight"], apart := false, laid := [("loop.example/g00910/impl.lowestStraight", laid_loop_example_g00910_impl_lowestStraight)], narrowed := true }
def FnHighValuesUptoSaid : Prop := fnHighValuesUptoRow.holds Tryd.pinned (OpenSpec.upto fnHighValuesSpec)

/-- 'laws.FnBestHands', WHERE WHAT IT READS IS OF BULK AT MOST 1048576: true; the input reads as it did. -/
def fnBestHandsUptoRow : OpenClaim := { program := "ytcbfmfkahgfjkaadoor", sum := "115c0ce89b8eb39b2e2c3add4f9d574bf31748c61e5e748f9d82292c2429ee74", func := "loop.example/g00910/laws.FnBestHands", spec := "fnBestHands", unfollowed := true, recurses := true, named := ["loop.example/g00910/impl.lowestStraight"], apart := false, laid := [("loop.example/g00910/impl.lowestStraight", laid_loop_example_g00910_impl_lowestStraight)], narrowed := true }
def FnBestHandsUptoSaid : Prop := fnBestHandsUptoRow.holds Tryd.pinned (OpenSpec.upto fnBestHandsSpec)

/-- 'laws.FnCategories', WHERE WHAT IT READS IS OF BULK AT MOST 1048576: true; the input reads as it did. -/
def fnCategoriesUptoRow : OpenClaim := { program := "ytcbfmfkahgfjkaadoor", sum := "115c0ce89b8eb39b2e2c3add4f9d574bf31748c61e5e748f9d82292c2429ee74", func := "loop.example/g00910/laws.FnCategories", spec := "fnCategories", named := ["loop.example/g00910/impl.lowestStraight"], apart := false, laid := [("loop.example/g00910/impl.lowestStraight", laid_loop_example_g00910_impl_lowestStraight)], narrowed := true }
def FnCategoriesUptoSaid : Prop := fnCategoriesUptoRow.holds Tryd.pinned (OpenSpec.upto fnCategoriesSpec)

end Rows
end Go.Proofs.YtcbfmfkahgfjkaaDoor
