/-
  No cell of these rows narrows 'for every input' (looked for: loops, veiled, ifaces, maps, wideKeys, modest, calm, conditions, laid).
  DERIVED. THE GIVEN ROWS OF THIS SEAT. 10 by the template 'for every input the law returns true; each argument reads behind the call as it read before'; 0 by the template 'total and deterministic' (their statements: YthgcgkkanmnfdaaTotals.lean).
  GIVEN WITH THE SEED: the statements are not yours to turn. If you find one false, say at which input.
  Laid BY PROGRAM, IN A SANDBOX (cutbox-rows.mjs): the forced cells as the released guide's own fill.sh prints them over the translation c9b07eb4034e4591… (all of the seat's roots in one cut). By AI agents, Wed Nov 11 2026. No macro, syntax, notation, axiom, sorry.
-/
import Derived.Test.YthgcgkkanmnfdaaChecked
import GoSem.Claim
import GoSem.ClaimJoined
import GoSem.ClaimMapViews
import Derived.JoinedTies
import Derived.KernelRfl
namespace Go.Proofs.Ythgcgkkanmnfdaa
/- THE CELL 'sum', in the pinned program and in every row, IS THE sha256 OF THE DUMP (.gsa) THAT YthgcgkkanmnfdaaProg.lean LOADS. Nothing in Lean hashes anything: it is a label: what it is worth is what the hold of that sum in a sandbox is worth. -/
noncomputable def Try.pinned : Pinned := { name := "ythgcgkkanmnfdaa", sum := "c9b07eb4034e4591311aa088ee14a43467ef41e62b342177aaade008cf33bdc7", checked := Try.checked }
namespace Rows
def none {H : Type} : Left H := { results := [], args := [] }

/-- 'laws.FnLowValues': WHATEVER THE INPUT: true; the input reads as it did. -/
def fnLowValuesSpec : ChangeSpec := { name := "fnLowValues", fn := fun _ => fun
  | [d] => { results := [.lit (.bool true)], args := [d] }
  | _ => none }
def fnLowValuesRow : OpenClaim := { program := "ythgcgkkanmnfdaa", sum := "c9b07eb4034e4591311aa088ee14a43467ef41e62b342177aaade008cf33bdc7", func := "loop.example/g00910/laws.FnLowValues", spec := "fnLowValues", unfollowed := true, recurses := true, apart := false }
def FnLowValuesSaid : Prop := fnLowValuesRow.holds Try.pinned (OpenSpec.ofChange fnLowValuesSpec)

/-- ITS FALSE NEIGHBOUR: 'it returns false'. Refute it at one input. -/
def fnLowValuesWrong : ChangeSpec := { name := "fnLowValues", fn := fun _ => fun
  | [d] => { results := [.lit (.bool false)], args := [d] }
  | _ => none }
def FnLowValuesWrongFalsely : Prop := fnLowValuesRow.holds Try.pinned (OpenSpec.ofChange fnLowValuesWrong)

/-- 'laws.FnBestLows': WHATEVER THE INPUT: true; the input reads as it did. -/
def fnBestLowsSpec : ChangeSpec := { name := "fnBestLows", fn := fun _ => fun
  | [d] => { results := [.lit (.bool true)], args := [d] }
  | _ => none }
def fnBestLowsRow : OpenClaim := { program := "ythgcgkkanmnfdaa", sum := "c9b07eb4034e4591311aa088ee14a43467ef41e62b342177aaade008cf33bdc7", func := "loop.example/g00910/laws.FnBestLows", spec := "fnBestLows", unfollowed := true, recurses := true, apart := false }
def FnBestLowsSaid : Prop := fnBestLowsRow.holds Try.pinned (OpenSpec.ofChange fnBestLowsSpec)

/-- ITS FALSE NEIGHBOUR: 'it returns false'. Refute it at one input. -/
def fnBestLowsWrong : ChangeSpec := { name := "fnBestLows", fn := fun _ => fun
  | [d] => { results := [.lit (.bool false)], args := [d] }
  | _ => none }
def FnBestLowsWrongFalsely : Prop := fnBestLowsRow.holds Try.pinned (OpenSpec.ofChange fnBestLowsWrong)

/-- 'laws.FnBadugis': WHATEVER THE INPUT: true; the input reads as it did. -/
def fnBadugisSpec : ChangeSpec := { name := "fnBadugis", fn := fun _ => fun
  | [d] => { results := [.lit (.bool true)], args := [d] }
  | _ => none }
def fnBadugisRow : OpenClaim := { program := "ythgcgkkanmnfdaa", sum := "c9b07eb4034e4591311aa088ee14a43467ef41e62b342177aaade008cf33bdc7", func := "loop.example/g00910/laws.FnBadugis", spec := "fnBadugis", unfollowed := true, recurses := true, apart := false }
def FnBadugisSaid : Prop := fnBadugisRow.holds Try.pinned (OpenSpec.ofChange fnBadugisSpec)

/-- ITS FALSE NEIGHBOUR: 'it returns false'. Refute it at one input. -/
def fnBadugisWrong : ChangeSpec := { name := "fnBadugis", fn := fun _ => fun
  | [d] => { results := [.lit (.bool false)], args := [d] }
  | _ => none }
def FnBadugisWrongFalsely : Prop := fnBadugisRow.holds Try.pinned (OpenSpec.ofChange fnBadugisWrong)

/-- 'laws.FnExactAceValue': WHATEVER THE INPUT: true; the input reads as it did. -/
def fnExactAceValueSpec : ChangeSpec := { name := "fnExactAceValue", fn := fun _ => fun
  | [d] => { results := [.lit (.bool true)], args := [d] }
  | _ => none }
def fnExactAceValueRow : OpenClaim := { program := "ythgcgkkanmnfdaa", sum := "c9b07eb4034e4591311aa088ee14a43467ef41e62b342177aaade008cf33bdc7", func := "loop.example/g00910/laws.FnExactAceValue", spec := "fnExactAceValue", unfollowed := true, recurses := true, apart := false }
def FnExactAceValueSaid : Prop := fnExactAceValueRow.holds Try.pinned (OpenSpec.ofChange fnExactAceValueSpec)

/-- ITS FALSE NEIGHBOUR: 'it returns false'. Refute it at one input. -/
def fnExactAceValueWrong : ChangeSpec := { name := "fnExactAceValue", fn := fun _ => fun
  | [d] => { results := [.lit (.bool false)], args := [d] }
  | _ => none }
def FnExactAceValueWrongFalsely : Prop := fnExactAceValueRow.holds Try.pinned (OpenSpec.ofChange fnExactAceValueWrong)

/-- 'laws.FnExactDeuceValue': WHATEVER THE INPUT: true; the input reads as it did. -/
def fnExactDeuceValueSpec : ChangeSpec := { name := "fnExactDeuceValue", fn := fun _ => fun
  | [d] => { results := [.lit (.bool true)], args := [d] }
  | _ => none }
def fnExactDeuceValueRow : OpenClaim := { program := "ythgcgkkanmnfdaa", sum := "c9b07eb4034e4591311aa088ee14a43467ef41e62b342177aaade008cf33bdc7", func := "loop.example/g00910/laws.FnExactDeuceValue", spec := "fnExactDeuceValue", unfollowed := true, recurses := true, apart := false }
def FnExactDeuceValueSaid : Prop := fnExactDeuceValueRow.holds Try.pinned (OpenSpec.ofChange fnExactDeuceValueSpec)

/-- ITS FALSE NEIGHBOUR: 'it returns false'. Refute it at one input. -/
def fnExactDeuceValueWrong : ChangeSpec := { name := "fnExactDeuceValue", fn := fun _ => fun
  | [d] => { results := [.lit (.bool false)], args := [d] }
  | _ => none }
def FnExactDeuceValueWrongFalsely : Prop := fnExactDeuceValueRow.holds Try.pinned (OpenSpec.ofChange fnExactDeuceValueWrong)

/-- 'laws.FnExactBadugiValue': WHATEVER THE INPUT: true; the input reads as it did. -/
def fnExactBadugiValueSpec : ChangeSpec := { name := "fnExactBadugiValue", fn := fun _ => fun
  | [d] => { results := [.lit (.bool true)], args := [d] }
  | _ => none }
def fnExactBadugiValueRow : OpenClaim := { program := "ythgcgkkanmnfdaa", sum := "c9b07eb4034e4591311aa088ee14a43467ef41e62b342177aaade008cf33bdc7", func := "loop.example/g00910/laws.FnExactBadugiValue", spec := "fnExactBadugiValue", unfollowed := true, recurses := true, apart := false }
def FnExactBadugiValueSaid : Prop := fnExactBadugiValueRow.holds Try.pinned (OpenSpec.ofChange fnExactBadugiValueSpec)

/-- ITS FALSE NEIGHBOUR: 'it returns false'. Refute it at one input. -/
def fnExactBadugiValueWrong : ChangeSpec := { name := "fnExactBadugiValue", fn := fun _ => fun
  | [d] => { results := [.lit (.bool false)], args := [d] }
  | _ => none }
def FnExactBadugiValueWrongFalsely : Prop := fnExactBadugiValueRow.holds Try.pinned (OpenSpec.ofChange fnExactBadugiValueWrong)

/-- 'laws.FnExactBestAce': WHATEVER THE INPUT: true; the input reads as it did. -/
def fnExactBestAceSpec : ChangeSpec := { name := "fnExactBestAce", fn := fun _ => fun
  | [d] => { results := [.lit (.bool true)], args := [d] }
  | _ => none }
def fnExactBestAceRow : OpenClaim := { program := "ythgcgkkanmnfdaa", sum := "c9b07eb4034e4591311aa088ee14a43467ef41e62b342177aaade008cf33bdc7", func := "loop.example/g00910/laws.FnExactBestAce", spec := "fnExactBestAce", unfollowed := true, recurses := true, apart := false }
def FnExactBestAceSaid : Prop := fnExactBestAceRow.holds Try.pinned (OpenSpec.ofChange fnExactBestAceSpec)

/-- ITS FALSE NEIGHBOUR: 'it returns false'. Refute it at one input. -/
def fnExactBestAceWrong : ChangeSpec := { name := "fnExactBestAce", fn := fun _ => fun
  | [d] => { results := [.lit (.bool false)], args := [d] }
  | _ => none }
def FnExactBestAceWrongFalsely : Prop := fnExactBestAceRow.holds Try.pinned (OpenSpec.ofChange fnExactBestAceWrong)

/-- 'laws.FnExactBestDeuce': WHATEVER THE INPUT: true; the input reads as it did. -/
def fnExactBestDeuceSpec : ChangeSpec := { name := "fnExactBestDeuce", fn := fun _ => fun
  | [d] => { results := [.lit (.bool true)], args := [d] }
  | _ => none }
def fnExactBestDeuceRow : OpenClaim := { program := "ythgcgkkanmnfdaa", sum := "c9b07eb4034e4591311aa088ee14a43467ef41e62b342177aaade008cf33bdc7", func := "loop.example/g00910/laws.FnExactBestDeuce", spec := "fnExactBestDeuce", unfollowed := true, recurses := true, apart := false }
def FnExactBestDeuceSaid : Prop := fnExactBestDeuceRow.holds Try.pinned (OpenSpec.ofChange fnExactBestDeuceSpec)

/-- ITS FALSE NEIGHBOUR: 'it returns false'. Refute it at one input. -/
def fnExactBestDeuceWrong : ChangeSpec := { name := "fnExactBestDeuce", fn := fun _ => fun
  | [d] => { results := [.lit (.bool false)], args := [d] }
  | _ => none }
def FnExactBestDeuceWrongFalsely : Prop := fnExactBestDeuceRow.holds Try.pinned (OpenSpec.ofChange fnExactBestDeuceWrong)

/-- 'laws.FnExactBadugiCards': WHATEVER THE INPUT: true; the input reads as it did. -/
def fnExactBadugiCardsSpec : ChangeSpec := { name := "fnExactBadugiCards", fn := fun _ => fun
  | [d] => { results := [.lit (.bool true)], args := [d] }
  | _ => none }
def fnExactBadugiCardsRow : OpenClaim := { program := "ythgcgkkanmnfdaa", sum := "c9b07eb4034e4591311aa088ee14a43467ef41e62b342177aaade008cf33bdc7", func := "loop.example/g00910/laws.FnExactBadugiCards", spec := "fnExactBadugiCards", unfollowed := true, recurses := true, apart := false }
def FnExactBadugiCardsSaid : Prop := fnExactBadugiCardsRow.holds Try.pinned (OpenSpec.ofChange fnExactBadugiCardsSpec)

/-- ITS FALSE NEIGHBOUR: 'it returns false'. Refute it at one input. -/
def fnExactBadugiCardsWrong : ChangeSpec := { name := "fnExactBadugiCards", fn := fun _ => fun
  | [d] => { results := [.lit (.bool false)], args := [d] }
  | _ => none }
def FnExactBadugiCardsWrongFalsely : Prop := fnExactBadugiCardsRow.holds Try.pinned (OpenSpec.ofChange fnExactBadugiCardsWrong)

/-- 'laws.FnExactLowRanks': WHATEVER THE INPUT: true; the input reads as it did. -/
def fnExactLowRanksSpec : ChangeSpec := { name := "fnExactLowRanks", fn := fun _ => fun
  | [d] => { results := [.lit (.bool true)], args := [d] }
  | _ => none }
def fnExactLowRanksRow : OpenClaim := { program := "ythgcgkkanmnfdaa", sum := "c9b07eb4034e4591311aa088ee14a43467ef41e62b342177aaade008cf33bdc7", func := "loop.example/g00910/laws.FnExactLowRanks", spec := "fnExactLowRanks", unfollowed := true, recurses := true, apart := false }
def FnExactLowRanksSaid : Prop := fnExactLowRanksRow.holds Try.pinned (OpenSpec.ofChange fnExactLowRanksSpec)

/-- ITS FALSE NEIGHBOUR: 'it returns false'. Refute it at one input. -/
def fnExactLowRanksWrong : ChangeSpec := { name := "fnExactLowRanks", fn := fun _ => fun
  | [d] => { results := [.lit (.bool false)], args := [d] }
  | _ => none }
def FnExactLowRanksWrongFalsely : Prop := fnExactLowRanksRow.holds Try.pinned (OpenSpec.ofChange fnExactLowRanksWrong)

/- THE SECOND FORM. 'bulk': how many values and letters a reading holds, each counted each time it is reached (what is shared counts as often as it is met; a slice's spare places count too). A statement '..UptoSaid' is the law's where the arguments, and the package variables that the reading takes, are together of bulk at most 1048576: NARROWER than '..Said'. Prove '..Said' where nothing that the law and all that it calls make is longer than what came in: it says more and counts as full. Else prove '..UptoSaid'. A law counts once. -/
mutual
def uptoBulk {H : Type} : DataW H → Nat
  | .lit (.string bytes) => bytes.length + 1
  | .lit _ => 1
  | .nil => 1
  | .ptr d => uptoBulk d + 1
  | .slice elems spare => uptoBulkAll elems + uptoBulkAll spare + 1
  | .agg parts => uptoBulkAll parts + 1
  | .iface _ d => uptoBulk d + 1
  | .map entries => uptoBulkEntries entries + 1
  | .held _ => 1
def uptoBulkAll {H : Type} : List (DataW H) → Nat
  | [] => 0
  | d :: r => uptoBulk d + uptoBulkAll r
def uptoBulkEntries {H : Type} : List (Lit × DataW H) → Nat
  | [] => 0
  | x :: r => uptoBulkEntry x + uptoBulkEntries r
def uptoBulkEntry {H : Type} : Lit × DataW H → Nat
  | (.string bytes, d) => bytes.length + uptoBulk d + 1
  | (_, d) => uptoBulk d + 1
 end
def uptoSmall : (H : Type) → List (DataW H) → Bool := fun _ ds => decide (uptoBulkAll ds ≤ 1048576)
def OpenSpec.upto (s : _root_.Go.ChangeSpec) : _root_.Go.OpenSpec := { _root_.Go.OpenSpec.ofChange s with cond := some uptoSmall }

/-- 'laws.FnLowValues', WHERE WHAT IT READS IS OF BULK AT MOST 1048576: true; the input reads as it did. -/
def fnLowValuesUptoRow : OpenClaim := { program := "ythgcgkkanmnfdaa", sum := "c9b07eb4034e4591311aa088ee14a43467ef41e62b342177aaade008cf33bdc7", func := "loop.example/g00910/laws.FnLowValues", spec := "fnLowValues", unfollowed := true, recurses := true, apart := false, narrowed := true }
def FnLowValuesUptoSaid : Prop := fnLowValuesUptoRow.holds Try.pinned (OpenSpec.upto fnLowValuesSpec)

/-- 'laws.FnBestLows', WHERE WHAT IT READS IS OF BULK AT MOST 1048576: true; the input reads as it did. -/
def fnBestLowsUptoRow : OpenClaim := { program := "ythgcgkkanmnfdaa", sum := "c9b07eb4034e4591311aa088ee14a43467ef41e62b342177aaade008cf33bdc7", func := "loop.example/g00910/laws.FnBestLows", spec := "fnBestLows", unfollowed := true, recurses := true, apart := false, narrowed := true }
def FnBestLowsUptoSaid : Prop := fnBestLowsUptoRow.holds Try.pinned (OpenSpec.upto fnBestLowsSpec)

/-- 'laws.FnBadugis', WHERE WHAT IT READS IS OF BULK AT MOST 1048576: true; the input reads as it did. -/
def fnBadugisUptoRow : OpenClaim := { program := "ythgcgkkanmnfdaa", sum := "c9b07eb4034e4591311aa088ee14a43467ef41e62b342177aaade008cf33bdc7", func := "loop.example/g00910/laws.FnBadugis", spec := "fnBadugis", unfollowed := true, recurses := true, apart := false, narrowed := true }
def FnBadugisUptoSaid : Prop := fnBadugisUptoRow.holds Try.pinned (OpenSpec.upto fnBadugisSpec)

/-- 'laws.FnExactAceValue', WHERE WHAT IT READS IS OF BULK AT MOST 1048576: true; the input reads as it did. -/
def fnExactAceValueUptoRow : OpenClaim := { program := "ythgcgkkanmnfdaa", sum := "c9b07eb4034e4591311aa088ee14a43467ef41e62b342177aaade008cf33bdc7", func := "loop.example/g00910/laws.FnExactAceValue", spec := "fnExactAceValue", unfollowed := true, recurses := true, apart := false, narrowed := true }
def FnExactAceValueUptoSaid : Prop := fnExactAceValueUptoRow.holds Try.pinned (OpenSpec.upto fnExactAceValueSpec)

/-- 'laws.FnExactDeuceValue', WHERE WHAT IT READS IS OF BULK AT MOST 1048576: true; the input reads as it did. -/
def fnExactDeuceValueUptoRow : OpenClaim := { program := "ythgcgkkanmnfdaa", sum := "c9b07eb4034e4591311aa088ee14a43467ef41e62b342177aaade008cf33bdc7", func := "loop.example/g00910/laws.FnExactDeuceValue", spec := "fnExactDeuceValue", unfollowed := true, recurses := true, apart := false, narrowed := true }
def FnExactDeuceValueUptoSaid : Prop := fnExactDeuceValueUptoRow.holds Try.pinned (OpenSpec.upto fnExactDeuceValueSpec)

/-- 'laws.FnExactBadugiValue', WHERE WHAT IT READS IS OF BULK AT MOST 1048576: true; the input reads as it did. -/
def fnExactBadugiValueUptoRow : OpenClaim := { program := "ythgcgkkanmnfdaa", sum := "c9b07eb4034e4591311aa088ee14a43467ef41e62b342177aaade008cf33bdc7", func := "loop.example/g00910/laws.FnExactBadugiValue", spec := "fnExactBadugiValue", unfollowed := true, recurses := true, apart := false, narrowed := true }
def FnExactBadugiValueUptoSaid : Prop := fnExactBadugiValueUptoRow.holds Try.pinned (OpenSpec.upto fnExactBadugiValueSpec)

/-- 'laws.FnExactBestAce', WHERE WHAT IT READS IS OF BULK AT MOST 1048576: true; the input reads as it did. -/
def fnExactBestAceUptoRow : OpenClaim := { program := "ythgcgkkanmnfdaa", sum := "c9b07eb4034e4591311aa088ee14a43467ef41e62b342177aaade008cf33bdc7", func := "loop.example/g00910/laws.FnExactBestAce", spec := "fnExactBestAce", unfollowed := true, recurses := true, apart := false, narrowed := true }
def FnExactBestAceUptoSaid : Prop := fnExactBestAceUptoRow.holds Try.pinned (OpenSpec.upto fnExactBestAceSpec)

/-- 'laws.FnExactBestDeuce', WHERE WHAT IT READS IS OF BULK AT MOST 1048576: true; the input reads as it did. -/
def fnExactBestDeuceUptoRow : OpenClaim := { program := "ythgcgkkanmnfdaa", sum := "c9b07eb4034e4591311aa088ee14a43467ef41e62b342177aaade008cf33bdc7", func := "loop.example/g00910/laws.FnExactBestDeuce", spec := "fnExactBestDeuce", unfollowed := true, recurses := true, apart := false, narrowed := true }
def FnExactBestDeuceUptoSaid : Prop := fnExactBestDeuceUptoRow.holds Try.pinned (OpenSpec.upto fnExactBestDeuceSpec)

/-- 'laws.FnExactBadugiCards', WHERE WHAT IT READS IS OF BULK AT MOST 1048576: true; the input reads as it did. -/
def fnExactBadugiCardsUptoRow : OpenClaim := { program := "ythgcgkkanmnfdaa", sum := "c9b07eb4034e4591311aa088ee14a43467ef41e62b342177aaade008cf33bdc7", func := "loop.example/g00910/laws.FnExactBadugiCards", spec := "fnExactBadugiCards", unfollowed := true, recurses := true, apart := false, narrowed := true }
def FnExactBadugiCardsUptoSaid : Prop := fnExactBadugiCardsUptoRow.holds Try.pinned (OpenSpec.upto fnExactBadugiCardsSpec)

/-- 'laws.FnExactLowRanks', WHERE WHAT IT READS IS OF BULK AT MOST 1048576: true; the input reads as it did. -/
def fnExactLowRanksUptoRow : OpenClaim := { program := "ythgcgkkanmnfdaa", sum := "c9b07eb4034e4591311aa088ee14a43467ef41e62b342177aaade008cf33bdc7", func := "loop.example/g00910/laws.FnExactLowRanks", spec := "fnExactLowRanks", unfollowed := true, recurses := true, apart := false, narrowed := true }
def FnExactLowRanksUptoSaid : Prop := fnExactLowRanksUptoRow.holds Try.pinned (OpenSpec.upto fnExactLowRanksSpec)

end Rows
end Go.Proofs.Ythgcgkkanmnfdaa
