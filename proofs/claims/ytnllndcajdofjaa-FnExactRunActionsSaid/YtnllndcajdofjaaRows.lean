/-
  No cell of these rows narrows 'for every input' (looked for: loops, veiled, ifaces, maps, wideKeys, modest, calm, conditions, laid).
  DERIVED. THE GIVEN ROWS OF THIS SEAT. 8 by the template 'for every input the law returns true; each argument reads behind the call as it read before'; 0 by the template 'total and deterministic' (their statements: YtnllndcajdofjaaTotals.lean).
  GIVEN WITH THE SEED: the statements are not yours to turn. If you find one false, say at which input.
  Laid BY PROGRAM, IN A SANDBOX (cutbox-rows.mjs): the forced cells as the released guide's own fill.sh prints them over the translation 1635faf261f49229… (all of the seat's roots in one cut). By AI agents, Wed Nov 11 2026. No macro, syntax, notation, axiom, sorry.
-/
import Derived.Test.YtnllndcajdofjaaChecked
import GoSem.Claim
import GoSem.ClaimJoined
import GoSem.ClaimMapViews
import Derived.JoinedTies
import Derived.KernelRfl
namespace Go.Proofs.Ytnllndcajdofjaa
/- THE CELL 'sum', in the pinned program and in every row, IS THE sha256 OF THE DUMP (.gsa) THAT YtnllndcajdofjaaProg.lean LOADS. Nothing in Lean hashes anything: it is a label: what it is worth is what the hold of that sum in a sandbox is worth. -/
noncomputable def Try.pinned : Pinned := { name := "ytnllndcajdofjaa", sum := "1635faf261f492293c87ff9ff3857839380f8df22204b44c31a86b6d79d03f30", checked := Try.checked }
namespace Rows
def none {H : Type} : Left H := { results := [], args := [] }

/-- 'laws.FnChoices': WHATEVER THE INPUT: true; the input reads as it did. -/
def fnChoicesSpec : ChangeSpec := { name := "fnChoices", fn := fun _ => fun
  | [d] => { results := [.lit (.bool true)], args := [d] }
  | _ => none }
def fnChoicesRow : OpenClaim := { program := "ytnllndcajdofjaa", sum := "1635faf261f492293c87ff9ff3857839380f8df22204b44c31a86b6d79d03f30", func := "loop.example/g00910/laws.FnChoices", spec := "fnChoices", unfollowed := true, recurses := true, apart := false }
def FnChoicesSaid : Prop := fnChoicesRow.holds Try.pinned (OpenSpec.ofChange fnChoicesSpec)

/-- ITS FALSE NEIGHBOUR: 'it returns false'. Refute it at one input. -/
def fnChoicesWrong : ChangeSpec := { name := "fnChoices", fn := fun _ => fun
  | [d] => { results := [.lit (.bool false)], args := [d] }
  | _ => none }
def FnChoicesWrongFalsely : Prop := fnChoicesRow.holds Try.pinned (OpenSpec.ofChange fnChoicesWrong)

/-- 'laws.FnActions': WHATEVER THE INPUT: true; the input reads as it did. -/
def fnActionsSpec : ChangeSpec := { name := "fnActions", fn := fun _ => fun
  | [d] => { results := [.lit (.bool true)], args := [d] }
  | _ => none }
def fnActionsRow : OpenClaim := { program := "ytnllndcajdofjaa", sum := "1635faf261f492293c87ff9ff3857839380f8df22204b44c31a86b6d79d03f30", func := "loop.example/g00910/laws.FnActions", spec := "fnActions", unfollowed := true, recurses := true, apart := false }
def FnActionsSaid : Prop := fnActionsRow.holds Try.pinned (OpenSpec.ofChange fnActionsSpec)

/-- ITS FALSE NEIGHBOUR: 'it returns false'. Refute it at one input. -/
def fnActionsWrong : ChangeSpec := { name := "fnActions", fn := fun _ => fun
  | [d] => { results := [.lit (.bool false)], args := [d] }
  | _ => none }
def FnActionsWrongFalsely : Prop := fnActionsRow.holds Try.pinned (OpenSpec.ofChange fnActionsWrong)

/-- 'laws.FnChips': WHATEVER THE INPUT: true; the input reads as it did. -/
def fnChipsSpec : ChangeSpec := { name := "fnChips", fn := fun _ => fun
  | [d] => { results := [.lit (.bool true)], args := [d] }
  | _ => none }
def fnChipsRow : OpenClaim := { program := "ytnllndcajdofjaa", sum := "1635faf261f492293c87ff9ff3857839380f8df22204b44c31a86b6d79d03f30", func := "loop.example/g00910/laws.FnChips", spec := "fnChips", unfollowed := true, recurses := true, apart := false }
def FnChipsSaid : Prop := fnChipsRow.holds Try.pinned (OpenSpec.ofChange fnChipsSpec)

/-- ITS FALSE NEIGHBOUR: 'it returns false'. Refute it at one input. -/
def fnChipsWrong : ChangeSpec := { name := "fnChips", fn := fun _ => fun
  | [d] => { results := [.lit (.bool false)], args := [d] }
  | _ => none }
def FnChipsWrongFalsely : Prop := fnChipsRow.holds Try.pinned (OpenSpec.ofChange fnChipsWrong)

/-- 'laws.FnNextRounds': WHATEVER THE INPUT: true; the input reads as it did. -/
def fnNextRoundsSpec : ChangeSpec := { name := "fnNextRounds", fn := fun _ => fun
  | [d] => { results := [.lit (.bool true)], args := [d] }
  | _ => none }
def fnNextRoundsRow : OpenClaim := { program := "ytnllndcajdofjaa", sum := "1635faf261f492293c87ff9ff3857839380f8df22204b44c31a86b6d79d03f30", func := "loop.example/g00910/laws.FnNextRounds", spec := "fnNextRounds", unfollowed := true, recurses := true, apart := false }
def FnNextRoundsSaid : Prop := fnNextRoundsRow.holds Try.pinned (OpenSpec.ofChange fnNextRoundsSpec)

/-- ITS FALSE NEIGHBOUR: 'it returns false'. Refute it at one input. -/
def fnNextRoundsWrong : ChangeSpec := { name := "fnNextRounds", fn := fun _ => fun
  | [d] => { results := [.lit (.bool false)], args := [d] }
  | _ => none }
def FnNextRoundsWrongFalsely : Prop := fnNextRoundsRow.holds Try.pinned (OpenSpec.ofChange fnNextRoundsWrong)

/-- 'laws.FnActionLists': WHATEVER THE INPUT: true; the input reads as it did. -/
def fnActionListsSpec : ChangeSpec := { name := "fnActionLists", fn := fun _ => fun
  | [d] => { results := [.lit (.bool true)], args := [d] }
  | _ => none }
def fnActionListsRow : OpenClaim := { program := "ytnllndcajdofjaa", sum := "1635faf261f492293c87ff9ff3857839380f8df22204b44c31a86b6d79d03f30", func := "loop.example/g00910/laws.FnActionLists", spec := "fnActionLists", unfollowed := true, recurses := true, apart := false }
def FnActionListsSaid : Prop := fnActionListsRow.holds Try.pinned (OpenSpec.ofChange fnActionListsSpec)

/-- ITS FALSE NEIGHBOUR: 'it returns false'. Refute it at one input. -/
def fnActionListsWrong : ChangeSpec := { name := "fnActionLists", fn := fun _ => fun
  | [d] => { results := [.lit (.bool false)], args := [d] }
  | _ => none }
def FnActionListsWrongFalsely : Prop := fnActionListsRow.holds Try.pinned (OpenSpec.ofChange fnActionListsWrong)

/-- 'laws.FnExactFirstRound': WHATEVER THE INPUT: true; the input reads as it did. -/
def fnExactFirstRoundSpec : ChangeSpec := { name := "fnExactFirstRound", fn := fun _ => fun
  | [d] => { results := [.lit (.bool true)], args := [d] }
  | _ => none }
def fnExactFirstRoundRow : OpenClaim := { program := "ytnllndcajdofjaa", sum := "1635faf261f492293c87ff9ff3857839380f8df22204b44c31a86b6d79d03f30", func := "loop.example/g00910/laws.FnExactFirstRound", spec := "fnExactFirstRound", unfollowed := true, recurses := true, apart := false }
def FnExactFirstRoundSaid : Prop := fnExactFirstRoundRow.holds Try.pinned (OpenSpec.ofChange fnExactFirstRoundSpec)

/-- ITS FALSE NEIGHBOUR: 'it returns false'. Refute it at one input. -/
def fnExactFirstRoundWrong : ChangeSpec := { name := "fnExactFirstRound", fn := fun _ => fun
  | [d] => { results := [.lit (.bool false)], args := [d] }
  | _ => none }
def FnExactFirstRoundWrongFalsely : Prop := fnExactFirstRoundRow.holds Try.pinned (OpenSpec.ofChange fnExactFirstRoundWrong)

/-- 'laws.FnExactNextRound': WHATEVER THE INPUT: true; the input reads as it did. -/
def fnExactNextRoundSpec : ChangeSpec := { name := "fnExactNextRound", fn := fun _ => fun
  | [d1, d2, d3] => { results := [.lit (.bool true)], args := [d1, d2, d3] }
  | _ => none }
def fnExactNextRoundRow : OpenClaim := { program := "ytnllndcajdofjaa", sum := "1635faf261f492293c87ff9ff3857839380f8df22204b44c31a86b6d79d03f30", func := "loop.example/g00910/laws.FnExactNextRound", spec := "fnExactNextRound", unfollowed := true, recurses := true, apart := false }
def FnExactNextRoundSaid : Prop := fnExactNextRoundRow.holds Try.pinned (OpenSpec.ofChange fnExactNextRoundSpec)

/-- ITS FALSE NEIGHBOUR: 'it returns false'. Refute it at one input. -/
def fnExactNextRoundWrong : ChangeSpec := { name := "fnExactNextRound", fn := fun _ => fun
  | [d1, d2, d3] => { results := [.lit (.bool false)], args := [d1, d2, d3] }
  | _ => none }
def FnExactNextRoundWrongFalsely : Prop := fnExactNextRoundRow.holds Try.pinned (OpenSpec.ofChange fnExactNextRoundWrong)

/-- 'laws.FnExactRunActions': WHATEVER THE INPUT: true; the input reads as it did. -/
def fnExactRunActionsSpec : ChangeSpec := { name := "fnExactRunActions", fn := fun _ => fun
  | [d1, d2] => { results := [.lit (.bool true)], args := [d1, d2] }
  | _ => none }
def fnExactRunActionsRow : OpenClaim := { program := "ytnllndcajdofjaa", sum := "1635faf261f492293c87ff9ff3857839380f8df22204b44c31a86b6d79d03f30", func := "loop.example/g00910/laws.FnExactRunActions", spec := "fnExactRunActions", unfollowed := true, recurses := true, apart := false }
def FnExactRunActionsSaid : Prop := fnExactRunActionsRow.holds Try.pinned (OpenSpec.ofChange fnExactRunActionsSpec)

/-- ITS FALSE NEIGHBOUR: 'it returns false'. Refute it at one input. -/
def fnExactRunActionsWrong : ChangeSpec := { name := "fnExactRunActions", fn := fun _ => fun
  | [d1, d2] => { results := [.lit (.bool false)], args := [d1, d2] }
  | _ => none }
def FnExactRunActionsWrongFalsely : Prop := fnExactRunActionsRow.holds Try.pinned (OpenSpec.ofChange fnExactRunActionsWrong)

/- THE SECOND FORM. 'bulk': how many values and letters a reading holds, each counted each time it is reached (what is shared counts as often as it is met; a slice's spare places count too). A statement '..UptoSaid' is the law's where the arguments, and the package variables that the reading takes, are together of bulk at most 1048576: NARROWER than '..Said'. Prove '..Said' where nothing that the law and all that it calls make is longer than what came in: it says more and counts as full. Else prove '..UptoSaid'. A law counts once. -/
mutual
def uptoBulk {H : Type} : DataW H → Nat
  | .lit (.string bytes) => bytes.length + 1
  | .lit _ => 1
  | .nil => 1
  | .ptr d => uptoBulk d + 1
  | .slice elems spare => uptoBulkAll elems + uptoBulkAll spare + 1
  | .agg parts => uptoBulkAll parts + 1
  | .iface _ d => uptoBulk d + 1
  | .map entries => uptoBulkEntries entries + 1
  | .held _ => 1
def uptoBulkAll {H : Type} : List (DataW H) → Nat
  | [] => 0
  | d :: r => uptoBulk d + uptoBulkAll r
def uptoBulkEntries {H : Type} : List (Lit × DataW H) → Nat
  | [] => 0
  | x :: r => uptoBulkEntry x + uptoBulkEntries r
def uptoBulkEntry {H : Type} : Lit × DataW H → Nat
  | (.string bytes, d) => bytes.length + uptoBulk d + 1
  | (_, d) => uptoBulk d + 1
 end
def uptoSmall : (H : Type) → List (DataW H) → Bool := fun _ ds => decide (uptoBulkAll ds ≤ 1048576)
def OpenSpec.upto (s : _root_.Go.ChangeSpec) : _root_.Go.OpenSpec := { _root_.Go.OpenSpec.ofChange s with cond := some uptoSmall }

/-- 'laws.FnChoices', WHERE WHAT IT READS IS OF BULK AT MOST 1048576: true; the input reads as it did. -/
def fnChoicesUptoRow : OpenClaim := { program := "ytnllndcajdofjaa", sum := "1635faf261f492293c87ff9ff3857839380f8df22204b44c31a86b6d79d03f30", func := "loop.example/g00910/laws.FnChoices", spec := "fnChoices", unfollowed := true, recurses := true, apart := false, narrowed := true }
def FnChoicesUptoSaid : Prop := fnChoicesUptoRow.holds Try.pinned (OpenSpec.upto fnChoicesSpec)

/-- 'laws.FnActions', WHERE WHAT IT READS IS OF BULK AT MOST 1048576: true; the input reads as it did. -/
def fnActionsUptoRow : OpenClaim := { program := "ytnllndcajdofjaa", sum := "1635faf261f492293c87ff9ff3857839380f8df22204b44c31a86b6d79d03f30", func := "loop.example/g00910/laws.FnActions", spec := "fnActions", unfollowed := true, recurses := true, apart := false, narrowed := true }
def FnActionsUptoSaid : Prop := fnActionsUptoRow.holds Try.pinned (OpenSpec.upto fnActionsSpec)

/-- 'laws.FnChips', WHERE WHAT IT READS IS OF BULK AT MOST 1048576: true; the input reads as it did. -/
def fnChipsUptoRow : OpenClaim := { program := "ytnllndcajdofjaa", sum := "1635faf261f492293c87ff9ff3857839380f8df22204b44c31a86b6d79d03f30", func := "loop.example/g00910/laws.FnChips", spec := "fnChips", unfollowed := true, recurses := true, apart := false, narrowed := true }
def FnChipsUptoSaid : Prop := fnChipsUptoRow.holds Try.pinned (OpenSpec.upto fnChipsSpec)

/-- 'laws.FnNextRounds', WHERE WHAT IT READS IS OF BULK AT MOST 1048576: true; the input reads as it did. -/
def fnNextRoundsUptoRow : OpenClaim := { program := "ytnllndcajdofjaa", sum := "1635faf261f492293c87ff9ff3857839380f8df22204b44c31a86b6d79d03f30", func := "loop.example/g00910/laws.FnNextRounds", spec := "fnNextRounds", unfollowed := true, recurses := true, apart := false, narrowed := true }
def FnNextRoundsUptoSaid : Prop := fnNextRoundsUptoRow.holds Try.pinned (OpenSpec.upto fnNextRoundsSpec)

/-- 'laws.FnActionLists', WHERE WHAT IT READS IS OF BULK AT MOST 1048576: true; the input reads as it did. -/
def fnActionListsUptoRow : OpenClaim := { program := "ytnllndcajdofjaa", sum := "1635faf261f492293c87ff9ff3857839380f8df22204b44c31a86b6d79d03f30", func := "loop.example/g00910/laws.FnActionLists", spec := "fnActionLists", unfollowed := true, recurses := true, apart := false, narrowed := true }
def FnActionListsUptoSaid : Prop := fnActionListsUptoRow.holds Try.pinned (OpenSpec.upto fnActionListsSpec)

/-- 'laws.FnExactFirstRound', WHERE WHAT IT READS IS OF BULK AT MOST 1048576: true; the input reads as it did. -/
def fnExactFirstRoundUptoRow : OpenClaim := { program := "ytnllndcajdofjaa", sum := "1635faf261f492293c87ff9ff3857839380f8df22204b44c31a86b6d79d03f30", func := "loop.example/g00910/laws.FnExactFirstRound", spec := "fnExactFirstRound", unfollowed := true, recurses := true, apart := false, narrowed := true }
def FnExactFirstRoundUptoSaid : Prop := fnExactFirstRoundUptoRow.holds Try.pinned (OpenSpec.upto fnExactFirstRoundSpec)

/-- 'laws.FnExactNextRound', WHERE WHAT IT READS IS OF BULK AT MOST 1048576: true; the input reads as it did. -/
def fnExactNextRoundUptoRow : OpenClaim := { program := "ytnllndcajdofjaa", sum := "1635faf261f492293c87ff9ff3857839380f8df22204b44c31a86b6d79d03f30", func := "loop.example/g00910/laws.FnExactNextRound", spec := "fnExactNextRound", unfollowed := true, recurses := true, apart := false, narrowed := true }
def FnExactNextRoundUptoSaid : Prop := fnExactNextRoundUptoRow.holds Try.pinned (OpenSpec.upto fnExactNextRoundSpec)

/-- 'laws.FnExactRunActions', WHERE WHAT IT READS IS OF BULK AT MOST 1048576: true; the input reads as it did. -/
def fnExactRunActionsUptoRow : OpenClaim := { program := "ytnllndcajdofjaa", sum := "1635faf261f492293c87ff9ff3857839380f8df22204b44c31a86b6d79d03f30", func := "loop.example/g00910/laws.FnExactRunActions", spec := "fnExactRunActions", unfollowed := true, recurses := true, apart := false, narrowed := true }
def FnExactRunActionsUptoSaid : Prop := fnExactRunActionsUptoRow.holds Try.pinned (OpenSpec.upto fnExactRunActionsSpec)

end Rows
end Go.Proofs.Ytnllndcajdofjaa
