/-
  NARROWER THAN 'FOR EVERY INPUT', by the rows' own cells (each row's printed sentence says how): FnHighValues: laid · FnBestHands: laid.
  DERIVED. THE GIVEN ROWS OF THIS SEAT. 2 by the template 'for every input the law returns true; each argument reads behind the call as it read before'; 0 by the template 'total and deterministic' (their statements: YthgcgkkanmnfdaaDoorTotals.lean).
  GIVEN WITH THE SEED: the statements are not yours to turn. If you find one false, say at which input.
  Laid BY PROGRAM, IN A SANDBOX (cutbox-rows.mjs): the forced cells as the released guide's own fill.sh prints them over the translation 0cee101ae993361d… (all of the seat's roots in one cut). By AI agents, Wed Nov 11 2026. No macro, syntax, notation, axiom, sorry.
-/
import Derived.Test.YthgcgkkanmnfdaaDoorChecked
import GoSem.Claim
import GoSem.ClaimJoined
import GoSem.ClaimMapViews
import Derived.JoinedTies
import Derived.KernelRfl
namespace Go.Proofs.YthgcgkkanmnfdaaDoor
/- THE CELL 'sum', in the pinned program and in every row, IS THE sha256 OF THE DUMP (.gsa) THAT YthgcgkkanmnfdaaDoorProg.lean LOADS. Nothing in Lean hashes anything: it is a label: what it is worth is what the hold of that sum in a sandbox is worth. -/
noncomputable def Tryd.pinned : Pinned := { name := "ythgcgkkanmnfdaadoor", sum := "0cee101ae993361d8895818a1102044aa649a0d534ebcec7a9f8fd9f6810e8c2", checked := Tryd.checked }
namespace Rows
def none {H : Type} : Left H := { results := [], args := [] }

/- WHAT THE LISTED PACKAGE-LEVEL VARIABLES READ AS WHEN THE CALL BEGINS. Each datum BY PROGRAM (the guide's laid-datum.mjs) off the statement by which the dump's own 'gosem.cut.vars' lays the variable. In a bare row this is a premise. The card (YthgcgkkanmnfdaaDoorCards.lean) ties it to the program's text. -/
def laid_loop_example_g00910_impl_lowestStraight {H : Type} : DataW H := .agg [.lit (.int .i64 3), .lit (.int .i64 2), .lit (.int .i64 1), .lit (.int .i64 0), .lit (.int .i64 12)]

/-- 'laws.FnHighValues': WHATEVER THE INPUT: true; the input reads as it did. -/
def fnHighValuesSpec : ChangeSpec := { name := "fnHighValues", vars := ["loop.example/g00910/impl.lowestStraight"], fn := fun _ => fun
  | [d, g1] => { results := [.lit (.bool true)], args := [d], vars := [g1] }
  | _ => none }
def fnHighValuesRow : OpenClaim := { program := "ythgcgkkanmnfdaadoor", sum := "0cee101ae993361d8895818a1102044aa649a0d534ebcec7a9f8fd9f6810e8c2", func := "loop.example/g00910/laws.FnHighValues", spec := "fnHighValues", unfollowed := true, recurses := true, named := ["loop.example/g00910/impl.lowestStraight"], apart := false, laid := [("loop.example/g00910/impl.lowestStraight", laid_loop_example_g00910_impl_lowestStraight)] }
def FnHighValuesSaid : Prop := fnHighValuesRow.holds Tryd.pinned (OpenSpec.ofChange fnHighValuesSpec)

/-- ITS FALSE NEIGHBOUR: 'it returns false'. Refute it at one input. -/
def fnHighValuesWrong : ChangeSpec := { name := "fnHighValues", vars := ["loop.example/g00910/impl.lowestStraight"], fn := fun _ => fun
  | [d, g1] => { results := [.lit (.bool false)], args := [d], vars := [g1] }
  | _ => none }
def FnHighValuesWrongFalsely : Prop := fnHighValuesRow.holds Tryd.pinned (OpenSpec.ofChange fnHighValuesWrong)

/-- 'laws.FnBestHands': WHATEVER THE INPUT: true; the input reads as it did. -/
def fnBestHandsSpec : ChangeSpec := { name := "fnBestHands", vars := ["loop.example/g00910/impl.lowestStraight"], fn := fun _ => fun
  | [d, g1] => { results := [.lit (.bool true)], args := [d], vars := [g1] }
  | _ => none }
def fnBestHandsRow : OpenClaim := { program := "ythgcgkkanmnfdaadoor", sum := "0cee101ae993361d8895818a1102044aa649a0d534ebcec7a9f8fd9f6810e8c2", func := "loop.example/g00910/laws.FnBestHands", spec := "fnBestHands", unfollowed := true, recurses := true, named := ["loop.example/g00910/impl.lowestStraight"], apart := false, laid := [("loop.example/g00910/impl.lowestStraight", laid_loop_example_g00910_impl_lowestStraight)] }
def FnBestHandsSaid : Prop := fnBestHandsRow.holds Tryd.pinned (OpenSpec.ofChange fnBestHandsSpec)

/-- ITS FALSE NEIGHBOUR: 'it returns false'. Refute it at one input. -/
def fnBestHandsWrong : ChangeSpec := { name := "fnBestHands", vars := ["loop.example/g00910/impl.lowestStraight"], fn := fun _ => fun
  | [d, g1] => { results := [.lit (.bool false)], args := [d], vars := [g1] }
  | _ => none }
def FnBestHandsWrongFalsely : Prop := fnBestHandsRow.holds Tryd.pinned (OpenSpec.ofChange fnBestHandsWrong)

/- THE SECOND FORM. 'bulk': how many values and letters a reading holds, each counted each time it is reached (what is shared counts as often as it is met; a slice's spare places count too). A statement '..UptoSaid' is the law's where the arguments, and the package variables that the reading takes, are together of bulk at most 1048576: NARROWER than '..Said'. Prove '..Said' where nothing that the law and all that it calls make is longer than what came in: it says more and counts as full. Else prove '..UptoSaid'. A law counts once. -/
mutual
def uptoBulk {H : Type} : DataW H → Nat
  | .lit (.string bytes) => bytes.length + 1
  | .lit _ => 1
  | .nil => 1
  | .ptr d => uptoBulk d + 1
  | .slice elems spare => uptoBulkAll elems + uptoBulkAll spare + 1
  | .agg parts => uptoBulkAll parts + 1
  | .iface _ d => uptoBulk d + 1
  | .map entries => uptoBulkEntries entries + 1
  | .held _ => 1
def uptoBulkAll {H : Type} : List (DataW H) → Nat
  | [] => 0
  | d :: r => uptoBulk d + uptoBulkAll r
def uptoBulkEntries {H : Type} : List (Lit × DataW H) → Nat
  | [] => 0
  | x :: r => uptoBulkEntry x + uptoBulkEntries r
def uptoBulkEntry {H : Type} : Lit × DataW H → Nat
  | (.string bytes, d) => bytes.length + uptoBulk d + 1
  | (_, d) => uptoBulk d + 1
 end
def uptoSmall : (H : Type) → List (DataW H) → Bool := fun _ ds => decide (uptoBulkAll ds ≤ 1048576)
def OpenSpec.upto (s : _root_.Go.ChangeSpec) : _root_.Go.OpenSpec := { _root_.Go.OpenSpec.ofChange s with cond := some uptoSmall }

/-- 'laws.FnHighValues', WHERE WHAT IT READS IS OF BULK AT MOST 1048576: true; the input reads as it did. -/
def fnHighValuesUptoRow : OpenClaim := { program := "ythgcgkkanmnfdaadoor", sum := "0cee101ae993361d8895818a1102044aa649a0d534ebcec7a9f8fd9f6810e8c2", func := "loop.example/g00910/laws.FnHighValues", spec := "fnHighValues", unfollowed := true, recurses := true, named := ["loop.example/g00910/impl.lowestStraight"], apart := false, laid := [("loop.example/g00910/impl.lowestStraight", laid_loop_example_g00910_impl_lowestStraight)], narrowed := true }
def FnHighValuesUptoSaid : Prop := fnHighValuesUptoRow.holds Tryd.pinned (OpenSpec.upto fnHighValuesSpec)

/-- 'laws.FnBestHands', WHERE WHAT IT READS IS OF BULK AT MOST 1048576: true; the input reads as it did. -/
def fnBestHandsUptoRow : OpenClaim := { program := "ythgcgkkanmnfdaadoor", sum := "0cee101ae993361d8895818a1102044aa649a0d534ebcec7a9f8fd9f6810e8c2", func := "loop.example/g00910/laws.FnBestHands", spec := "fnBestHands", unfollowed := true, recurses := true, named := ["loop.example/g00910/impl.lowestStraight"], apart := false, laid := [("loop.example/g00910/impl.lowestStraight", laid_loop_example_g00910_impl_lowestStraight)], narrowed := true }
def FnBestHandsUptoSaid : Prop := fnBestHandsUptoRow.holds Tryd.pinned (OpenSpec.upto fnBestHandsSpec)

end Rows
end Go.Proofs.YthgcgkkanmnfdaaDoor
