/-
  No cell of these rows narrows 'for every input' (looked for: loops, veiled, ifaces, maps, wideKeys, modest, calm, conditions, laid).
  DERIVED. THE GIVEN ROWS OF THIS SEAT. 12 by the template 'for every input the law returns true; each argument reads behind the call as it read before'; 0 by the template 'total and deterministic' (their statements: YtljakfbdacimlaaTotals.lean).
  GIVEN WITH THE SEED: the statements are not yours to turn. If you find one false, say at which input.
  Laid BY PROGRAM, IN A SANDBOX (cutbox-rows.mjs): the forced cells as the released guide's own fill.sh prints them over the translation 725dce8e739e5857… (all of the seat's roots in one cut). By AI agents, Wed Nov 11 2026. No macro, syntax, notation, axiom, sorry.
-/
import Derived.Test.YtljakfbdacimlaaChecked
import GoSem.Claim
import GoSem.ClaimJoined
import GoSem.ClaimMapViews
import Derived.JoinedTies
import Derived.KernelRfl
namespace Go.Proofs.Ytljakfbdacimlaa
/- THE CELL 'sum', in the pinned program and in every row, IS THE sha256 OF THE DUMP (.gsa) THAT YtljakfbdacimlaaProg.lean LOADS. Nothing in Lean hashes anything: it is a label: what it is worth is what the hold of that sum in a sandbox is worth. -/
noncomputable def Try.pinned : Pinned := { name := "ytljakfbdacimlaa", sum := "725dce8e739e5857479138cf3f3a725b2d6102478f6f299191e4405c301967ec", checked := Try.checked }
namespace Rows
def none {H : Type} : Left H := { results := [], args := [] }

/-- 'laws.FnChoices': WHATEVER THE INPUT: true; the input reads as it did. -/
def fnChoicesSpec : ChangeSpec := { name := "fnChoices", fn := fun _ => fun
  | [d] => { results := [.lit (.bool true)], args := [d] }
  | _ => none }
def fnChoicesRow : OpenClaim := { program := "ytljakfbdacimlaa", sum := "725dce8e739e5857479138cf3f3a725b2d6102478f6f299191e4405c301967ec", func := "loop.example/g00910/laws.FnChoices", spec := "fnChoices", unfollowed := true, recurses := true, apart := false }
def FnChoicesSaid : Prop := fnChoicesRow.holds Try.pinned (OpenSpec.ofChange fnChoicesSpec)

/-- ITS FALSE NEIGHBOUR: 'it returns false'. Refute it at one input. -/
def fnChoicesWrong : ChangeSpec := { name := "fnChoices", fn := fun _ => fun
  | [d] => { results := [.lit (.bool false)], args := [d] }
  | _ => none }
def FnChoicesWrongFalsely : Prop := fnChoicesRow.holds Try.pinned (OpenSpec.ofChange fnChoicesWrong)

/-- 'laws.FnActions': WHATEVER THE INPUT: true; the input reads as it did. -/
def fnActionsSpec : ChangeSpec := { name := "fnActions", fn := fun _ => fun
  | [d] => { results := [.lit (.bool true)], args := [d] }
  | _ => none }
def fnActionsRow : OpenClaim := { program := "ytljakfbdacimlaa", sum := "725dce8e739e5857479138cf3f3a725b2d6102478f6f299191e4405c301967ec", func := "loop.example/g00910/laws.FnActions", spec := "fnActions", unfollowed := true, recurses := true, apart := false }
def FnActionsSaid : Prop := fnActionsRow.holds Try.pinned (OpenSpec.ofChange fnActionsSpec)

/-- ITS FALSE NEIGHBOUR: 'it returns false'. Refute it at one input. -/
def fnActionsWrong : ChangeSpec := { name := "fnActions", fn := fun _ => fun
  | [d] => { results := [.lit (.bool false)], args := [d] }
  | _ => none }
def FnActionsWrongFalsely : Prop := fnActionsRow.holds Try.pinned (OpenSpec.ofChange fnActionsWrong)

/-- 'laws.FnChips': WHATEVER THE INPUT: true; the input reads as it did. -/
def fnChipsSpec : ChangeSpec := { name := "fnChips", fn := fun _ => fun
  | [d] => { results := [.lit (.bool true)], args := [d] }
  | _ => none }
def fnChipsRow : OpenClaim := { program := "ytljakfbdacimlaa", sum := "725dce8e739e5857479138cf3f3a725b2d6102478f6f299191e4405c301967ec", func := "loop.example/g00910/laws.FnChips", spec := "fnChips", unfollowed := true, recurses := true, apart := false }
def FnChipsSaid : Prop := fnChipsRow.holds Try.pinned (OpenSpec.ofChange fnChipsSpec)

/-- ITS FALSE NEIGHBOUR: 'it returns false'. Refute it at one input. -/
def fnChipsWrong : ChangeSpec := { name := "fnChips", fn := fun _ => fun
  | [d] => { results := [.lit (.bool false)], args := [d] }
  | _ => none }
def FnChipsWrongFalsely : Prop := fnChipsRow.holds Try.pinned (OpenSpec.ofChange fnChipsWrong)

/-- 'laws.FnExactChipsAt': WHATEVER THE INPUT: true; the input reads as it did. -/
def fnExactChipsAtSpec : ChangeSpec := { name := "fnExactChipsAt", fn := fun _ => fun
  | [d] => { results := [.lit (.bool true)], args := [d] }
  | _ => none }
def fnExactChipsAtRow : OpenClaim := { program := "ytljakfbdacimlaa", sum := "725dce8e739e5857479138cf3f3a725b2d6102478f6f299191e4405c301967ec", func := "loop.example/g00910/laws.FnExactChipsAt", spec := "fnExactChipsAt", unfollowed := true, recurses := true, apart := false }
def FnExactChipsAtSaid : Prop := fnExactChipsAtRow.holds Try.pinned (OpenSpec.ofChange fnExactChipsAtSpec)

/-- ITS FALSE NEIGHBOUR: 'it returns false'. Refute it at one input. -/
def fnExactChipsAtWrong : ChangeSpec := { name := "fnExactChipsAt", fn := fun _ => fun
  | [d] => { results := [.lit (.bool false)], args := [d] }
  | _ => none }
def FnExactChipsAtWrongFalsely : Prop := fnExactChipsAtRow.holds Try.pinned (OpenSpec.ofChange fnExactChipsAtWrong)

/-- 'laws.FnExactIsBetting': WHATEVER THE INPUT: true; the input reads as it did. -/
def fnExactIsBettingSpec : ChangeSpec := { name := "fnExactIsBetting", fn := fun _ => fun
  | [d] => { results := [.lit (.bool true)], args := [d] }
  | _ => none }
def fnExactIsBettingRow : OpenClaim := { program := "ytljakfbdacimlaa", sum := "725dce8e739e5857479138cf3f3a725b2d6102478f6f299191e4405c301967ec", func := "loop.example/g00910/laws.FnExactIsBetting", spec := "fnExactIsBetting", unfollowed := true, recurses := true, apart := false }
def FnExactIsBettingSaid : Prop := fnExactIsBettingRow.holds Try.pinned (OpenSpec.ofChange fnExactIsBettingSpec)

/-- ITS FALSE NEIGHBOUR: 'it returns false'. Refute it at one input. -/
def fnExactIsBettingWrong : ChangeSpec := { name := "fnExactIsBetting", fn := fun _ => fun
  | [d] => { results := [.lit (.bool false)], args := [d] }
  | _ => none }
def FnExactIsBettingWrongFalsely : Prop := fnExactIsBettingRow.holds Try.pinned (OpenSpec.ofChange fnExactIsBettingWrong)

/-- 'laws.FnExactIsOpen': WHATEVER THE INPUT: true; the input reads as it did. -/
def fnExactIsOpenSpec : ChangeSpec := { name := "fnExactIsOpen", fn := fun _ => fun
  | [d] => { results := [.lit (.bool true)], args := [d] }
  | _ => none }
def fnExactIsOpenRow : OpenClaim := { program := "ytljakfbdacimlaa", sum := "725dce8e739e5857479138cf3f3a725b2d6102478f6f299191e4405c301967ec", func := "loop.example/g00910/laws.FnExactIsOpen", spec := "fnExactIsOpen", unfollowed := true, recurses := true, apart := false }
def FnExactIsOpenSaid : Prop := fnExactIsOpenRow.holds Try.pinned (OpenSpec.ofChange fnExactIsOpenSpec)

/-- ITS FALSE NEIGHBOUR: 'it returns false'. Refute it at one input. -/
def fnExactIsOpenWrong : ChangeSpec := { name := "fnExactIsOpen", fn := fun _ => fun
  | [d] => { results := [.lit (.bool false)], args := [d] }
  | _ => none }
def FnExactIsOpenWrongFalsely : Prop := fnExactIsOpenRow.holds Try.pinned (OpenSpec.ofChange fnExactIsOpenWrong)

/-- 'laws.FnExactChoicesIn': WHATEVER THE INPUT: true; the input reads as it did. -/
def fnExactChoicesInSpec : ChangeSpec := { name := "fnExactChoicesIn", fn := fun _ => fun
  | [d] => { results := [.lit (.bool true)], args := [d] }
  | _ => none }
def fnExactChoicesInRow : OpenClaim := { program := "ytljakfbdacimlaa", sum := "725dce8e739e5857479138cf3f3a725b2d6102478f6f299191e4405c301967ec", func := "loop.example/g00910/laws.FnExactChoicesIn", spec := "fnExactChoicesIn", unfollowed := true, recurses := true, apart := false }
def FnExactChoicesInSaid : Prop := fnExactChoicesInRow.holds Try.pinned (OpenSpec.ofChange fnExactChoicesInSpec)

/-- ITS FALSE NEIGHBOUR: 'it returns false'. Refute it at one input. -/
def fnExactChoicesInWrong : ChangeSpec := { name := "fnExactChoicesIn", fn := fun _ => fun
  | [d] => { results := [.lit (.bool false)], args := [d] }
  | _ => none }
def FnExactChoicesInWrongFalsely : Prop := fnExactChoicesInRow.holds Try.pinned (OpenSpec.ofChange fnExactChoicesInWrong)

/-- 'laws.FnExactIsLegal': WHATEVER THE INPUT: true; the input reads as it did. -/
def fnExactIsLegalSpec : ChangeSpec := { name := "fnExactIsLegal", fn := fun _ => fun
  | [d1, d2] => { results := [.lit (.bool true)], args := [d1, d2] }
  | _ => none }
def fnExactIsLegalRow : OpenClaim := { program := "ytljakfbdacimlaa", sum := "725dce8e739e5857479138cf3f3a725b2d6102478f6f299191e4405c301967ec", func := "loop.example/g00910/laws.FnExactIsLegal", spec := "fnExactIsLegal", unfollowed := true, recurses := true, apart := false }
def FnExactIsLegalSaid : Prop := fnExactIsLegalRow.holds Try.pinned (OpenSpec.ofChange fnExactIsLegalSpec)

/-- ITS FALSE NEIGHBOUR: 'it returns false'. Refute it at one input. -/
def fnExactIsLegalWrong : ChangeSpec := { name := "fnExactIsLegal", fn := fun _ => fun
  | [d1, d2] => { results := [.lit (.bool false)], args := [d1, d2] }
  | _ => none }
def FnExactIsLegalWrongFalsely : Prop := fnExactIsLegalRow.holds Try.pinned (OpenSpec.ofChange fnExactIsLegalWrong)

/-- 'laws.FnExactApplyAction': WHATEVER THE INPUT: true; the input reads as it did. -/
def fnExactApplyActionSpec : ChangeSpec := { name := "fnExactApplyAction", fn := fun _ => fun
  | [d1, d2] => { results := [.lit (.bool true)], args := [d1, d2] }
  | _ => none }
def fnExactApplyActionRow : OpenClaim := { program := "ytljakfbdacimlaa", sum := "725dce8e739e5857479138cf3f3a725b2d6102478f6f299191e4405c301967ec", func := "loop.example/g00910/laws.FnExactApplyAction", spec := "fnExactApplyAction", unfollowed := true, recurses := true, apart := false }
def FnExactApplyActionSaid : Prop := fnExactApplyActionRow.holds Try.pinned (OpenSpec.ofChange fnExactApplyActionSpec)

/-- ITS FALSE NEIGHBOUR: 'it returns false'. Refute it at one input. -/
def fnExactApplyActionWrong : ChangeSpec := { name := "fnExactApplyAction", fn := fun _ => fun
  | [d1, d2] => { results := [.lit (.bool false)], args := [d1, d2] }
  | _ => none }
def FnExactApplyActionWrongFalsely : Prop := fnExactApplyActionRow.holds Try.pinned (OpenSpec.ofChange fnExactApplyActionWrong)

/-- 'laws.FnExactPotIn': WHATEVER THE INPUT: true; the input reads as it did. -/
def fnExactPotInSpec : ChangeSpec := { name := "fnExactPotIn", fn := fun _ => fun
  | [d] => { results := [.lit (.bool true)], args := [d] }
  | _ => none }
def fnExactPotInRow : OpenClaim := { program := "ytljakfbdacimlaa", sum := "725dce8e739e5857479138cf3f3a725b2d6102478f6f299191e4405c301967ec", func := "loop.example/g00910/laws.FnExactPotIn", spec := "fnExactPotIn", unfollowed := true, recurses := true, apart := false }
def FnExactPotInSaid : Prop := fnExactPotInRow.holds Try.pinned (OpenSpec.ofChange fnExactPotInSpec)

/-- ITS FALSE NEIGHBOUR: 'it returns false'. Refute it at one input. -/
def fnExactPotInWrong : ChangeSpec := { name := "fnExactPotIn", fn := fun _ => fun
  | [d] => { results := [.lit (.bool false)], args := [d] }
  | _ => none }
def FnExactPotInWrongFalsely : Prop := fnExactPotInRow.holds Try.pinned (OpenSpec.ofChange fnExactPotInWrong)

/-- 'laws.FnExactChipsIn': WHATEVER THE INPUT: true; the input reads as it did. -/
def fnExactChipsInSpec : ChangeSpec := { name := "fnExactChipsIn", fn := fun _ => fun
  | [d] => { results := [.lit (.bool true)], args := [d] }
  | _ => none }
def fnExactChipsInRow : OpenClaim := { program := "ytljakfbdacimlaa", sum := "725dce8e739e5857479138cf3f3a725b2d6102478f6f299191e4405c301967ec", func := "loop.example/g00910/laws.FnExactChipsIn", spec := "fnExactChipsIn", unfollowed := true, recurses := true, apart := false }
def FnExactChipsInSaid : Prop := fnExactChipsInRow.holds Try.pinned (OpenSpec.ofChange fnExactChipsInSpec)

/-- ITS FALSE NEIGHBOUR: 'it returns false'. Refute it at one input. -/
def fnExactChipsInWrong : ChangeSpec := { name := "fnExactChipsIn", fn := fun _ => fun
  | [d] => { results := [.lit (.bool false)], args := [d] }
  | _ => none }
def FnExactChipsInWrongFalsely : Prop := fnExactChipsInRow.holds Try.pinned (OpenSpec.ofChange fnExactChipsInWrong)

/-- 'laws.FnExactLiveSeats': WHATEVER THE INPUT: true; the input reads as it did. -/
def fnExactLiveSeatsSpec : ChangeSpec := { name := "fnExactLiveSeats", fn := fun _ => fun
  | [d] => { results := [.lit (.bool true)], args := [d] }
  | _ => none }
def fnExactLiveSeatsRow : OpenClaim := { program := "ytljakfbdacimlaa", sum := "725dce8e739e5857479138cf3f3a725b2d6102478f6f299191e4405c301967ec", func := "loop.example/g00910/laws.FnExactLiveSeats", spec := "fnExactLiveSeats", unfollowed := true, recurses := true, apart := false }
def FnExactLiveSeatsSaid : Prop := fnExactLiveSeatsRow.holds Try.pinned (OpenSpec.ofChange fnExactLiveSeatsSpec)

/-- ITS FALSE NEIGHBOUR: 'it returns false'. Refute it at one input. -/
def fnExactLiveSeatsWrong : ChangeSpec := { name := "fnExactLiveSeats", fn := fun _ => fun
  | [d] => { results := [.lit (.bool false)], args := [d] }
  | _ => none }
def FnExactLiveSeatsWrongFalsely : Prop := fnExactLiveSeatsRow.holds Try.pinned (OpenSpec.ofChange fnExactLiveSeatsWrong)

/- THE SECOND FORM. 'bulk': how many values and letters a reading holds, each counted each time it is reached (what is shared counts as often as it is met; a slice's spare places count too). A statement '..UptoSaid' is the law's where the arguments, and the package variables that the reading takes, are together of bulk at most 1048576: NARROWER than '..Said'. Prove '..Said' where nothing that the law and all that it calls make is longer than what came in: it says more and counts as full. Else prove '..UptoSaid'. A law counts once. -/
mutual
def uptoBulk {H : Type} : DataW H → Nat
  | .lit (.string bytes) => bytes.length + 1
  | .lit _ => 1
  | .nil => 1
  | .ptr d => uptoBulk d + 1
  | .slice elems spare => uptoBulkAll elems + uptoBulkAll spare + 1
  | .agg parts => uptoBulkAll parts + 1
  | .iface _ d => uptoBulk d + 1
  | .map entries => uptoBulkEntries entries + 1
  | .held _ => 1
def uptoBulkAll {H : Type} : List (DataW H) → Nat
  | [] => 0
  | d :: r => uptoBulk d + uptoBulkAll r
def uptoBulkEntries {H : Type} : List (Lit × DataW H) → Nat
  | [] => 0
  | x :: r => uptoBulkEntry x + uptoBulkEntries r
def uptoBulkEntry {H : Type} : Lit × DataW H → Nat
  | (.string bytes, d) => bytes.length + uptoBulk d + 1
  | (_, d) => uptoBulk d + 1
 end
def uptoSmall : (H : Type) → List (DataW H) → Bool := fun _ ds => decide (uptoBulkAll ds ≤ 1048576)
def OpenSpec.upto (s : _root_.Go.ChangeSpec) : _root_.Go.OpenSpec := { _root_.Go.OpenSpec.ofChange s with cond := some uptoSmall }

/-- 'laws.FnChoices', WHERE WHAT IT READS IS OF BULK AT MOST 1048576: true; the input reads as it did. -/
def fnChoicesUptoRow : OpenClaim := { program := "ytljakfbdacimlaa", sum := "725dce8e739e5857479138cf3f3a725b2d6102478f6f299191e4405c301967ec", func := "loop.example/g00910/laws.FnChoices", spec := "fnChoices", unfollowed := true, recurses := true, apart := false, narrowed := true }
def FnChoicesUptoSaid : Prop := fnChoicesUptoRow.holds Try.pinned (OpenSpec.upto fnChoicesSpec)

/-- 'laws.FnActions', WHERE WHAT IT READS IS OF BULK AT MOST 1048576: true; the input reads as it did. -/
def fnActionsUptoRow : OpenClaim := { program := "ytljakfbdacimlaa", sum := "725dce8e739e5857479138cf3f3a725b2d6102478f6f299191e4405c301967ec", func := "loop.example/g00910/laws.FnActions", spec := "fnActions", unfollowed := true, recurses := true, apart := false, narrowed := true }
def FnActionsUptoSaid : Prop := fnActionsUptoRow.holds Try.pinned (OpenSpec.upto fnActionsSpec)

/-- 'laws.FnChips', WHERE WHAT IT READS IS OF BULK AT MOST 1048576: true; the input reads as it did. -/
def fnChipsUptoRow : OpenClaim := { program := "ytljakfbdacimlaa", sum := "725dce8e739e5857479138cf3f3a725b2d6102478f6f299191e4405c301967ec", func := "loop.example/g00910/laws.FnChips", spec := "fnChips", unfollowed := true, recurses := true, apart := false, narrowed := true }
def FnChipsUptoSaid : Prop := fnChipsUptoRow.holds Try.pinned (OpenSpec.upto fnChipsSpec)

/-- 'laws.FnExactChipsAt', WHERE WHAT IT READS IS OF BULK AT MOST 1048576: true; the input reads as it did. -/
def fnExactChipsAtUptoRow : OpenClaim := { program := "ytljakfbdacimlaa", sum := "725dce8e739e5857479138cf3f3a725b2d6102478f6f299191e4405c301967ec", func := "loop.example/g00910/laws.FnExactChipsAt", spec := "fnExactChipsAt", unfollowed := true, recurses := true, apart := false, narrowed := true }
def FnExactChipsAtUptoSaid : Prop := fnExactChipsAtUptoRow.holds Try.pinned (OpenSpec.upto fnExactChipsAtSpec)

/-- 'laws.FnExactIsBetting', WHERE WHAT IT READS IS OF BULK AT MOST 1048576: true; the input reads as it did. -/
def fnExactIsBettingUptoRow : OpenClaim := { program := "ytljakfbdacimlaa", sum := "725dce8e739e5857479138cf3f3a725b2d6102478f6f299191e4405c301967ec", func := "loop.example/g00910/laws.FnExactIsBetting", spec := "fnExactIsBetting", unfollowed := true, recurses := true, apart := false, narrowed := true }
def FnExactIsBettingUptoSaid : Prop := fnExactIsBettingUptoRow.holds Try.pinned (OpenSpec.upto fnExactIsBettingSpec)

/-- 'laws.FnExactIsOpen', WHERE WHAT IT READS IS OF BULK AT MOST 1048576: true; the input reads as it did. -/
def fnExactIsOpenUptoRow : OpenClaim := { program := "ytljakfbdacimlaa", sum := "725dce8e739e5857479138cf3f3a725b2d6102478f6f299191e4405c301967ec", func := "loop.example/g00910/laws.FnExactIsOpen", spec := "fnExactIsOpen", unfollowed := true, recurses := true, apart := false, narrowed := true }
def FnExactIsOpenUptoSaid : Prop := fnExactIsOpenUptoRow.holds Try.pinned (OpenSpec.upto fnExactIsOpenSpec)

/-- 'laws.FnExactChoicesIn', WHERE WHAT IT READS IS OF BULK AT MOST 1048576: true; the input reads as it did. -/
def fnExactChoicesInUptoRow : OpenClaim := { program := "ytljakfbdacimlaa", sum := "725dce8e739e5857479138cf3f3a725b2d6102478f6f299191e4405c301967ec", func := "loop.example/g00910/laws.FnExactChoicesIn", spec := "fnExactChoicesIn", unfollowed := true, recurses := true, apart := false, narrowed := true }
def FnExactChoicesInUptoSaid : Prop := fnExactChoicesInUptoRow.holds Try.pinned (OpenSpec.upto fnExactChoicesInSpec)

/-- 'laws.FnExactIsLegal', WHERE WHAT IT READS IS OF BULK AT MOST 1048576: true; the input reads as it did. -/
def fnExactIsLegalUptoRow : OpenClaim := { program := "ytljakfbdacimlaa", sum := "725dce8e739e5857479138cf3f3a725b2d6102478f6f299191e4405c301967ec", func := "loop.example/g00910/laws.FnExactIsLegal", spec := "fnExactIsLegal", unfollowed := true, recurses := true, apart := false, narrowed := true }
def FnExactIsLegalUptoSaid : Prop := fnExactIsLegalUptoRow.holds Try.pinned (OpenSpec.upto fnExactIsLegalSpec)

/-- 'laws.FnExactApplyAction', WHERE WHAT IT READS IS OF BULK AT MOST 1048576: true; the input reads as it did. -/
def fnExactApplyActionUptoRow : OpenClaim := { program := "ytljakfbdacimlaa", sum := "725dce8e739e5857479138cf3f3a725b2d6102478f6f299191e4405c301967ec", func := "loop.example/g00910/laws.FnExactApplyAction", spec := "fnExactApplyAction", unfollowed := true, recurses := true, apart := false, narrowed := true }
def FnExactApplyActionUptoSaid : Prop := fnExactApplyActionUptoRow.holds Try.pinned (OpenSpec.upto fnExactApplyActionSpec)

/-- 'laws.FnExactPotIn', WHERE WHAT IT READS IS OF BULK AT MOST 1048576: true; the input reads as it did. -/
def fnExactPotInUptoRow : OpenClaim := { program := "ytljakfbdacimlaa", sum := "725dce8e739e5857479138cf3f3a725b2d6102478f6f299191e4405c301967ec", func := "loop.example/g00910/laws.FnExactPotIn", spec := "fnExactPotIn", unfollowed := true, recurses := true, apart := false, narrowed := true }
def FnExactPotInUptoSaid : Prop := fnExactPotInUptoRow.holds Try.pinned (OpenSpec.upto fnExactPotInSpec)

/-- 'laws.FnExactChipsIn', WHERE WHAT IT READS IS OF BULK AT MOST 1048576: true; the input reads as it did. -/
def fnExactChipsInUptoRow : OpenClaim := { program := "ytljakfbdacimlaa", sum := "725dce8e739e5857479138cf3f3a725b2d6102478f6f299191e4405c301967ec", func := "loop.example/g00910/laws.FnExactChipsIn", spec := "fnExactChipsIn", unfollowed := true, recurses := true, apart := false, narrowed := true }
def FnExactChipsInUptoSaid : Prop := fnExactChipsInUptoRow.holds Try.pinned (OpenSpec.upto fnExactChipsInSpec)

/-- 'laws.FnExactLiveSeats', WHERE WHAT IT READS IS OF BULK AT MOST 1048576: true; the input reads as it did. -/
def fnExactLiveSeatsUptoRow : OpenClaim := { program := "ytljakfbdacimlaa", sum := "725dce8e739e5857479138cf3f3a725b2d6102478f6f299191e4405c301967ec", func := "loop.example/g00910/laws.FnExactLiveSeats", spec := "fnExactLiveSeats", unfollowed := true, recurses := true, apart := false, narrowed := true }
def FnExactLiveSeatsUptoSaid : Prop := fnExactLiveSeatsUptoRow.holds Try.pinned (OpenSpec.upto fnExactLiveSeatsSpec)

end Rows
end Go.Proofs.Ytljakfbdacimlaa
