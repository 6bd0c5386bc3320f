/-
  No cell of these rows narrows 'for every input' (looked for: loops, veiled, ifaces, maps, wideKeys, modest, calm, conditions, laid).
  DERIVED. THE GIVEN ROWS OF THIS SEAT. 9 by the template 'for every input the law returns true; each argument reads behind the call as it read before'; 0 by the template 'total and deterministic' (their statements: YtoidchkgibngiaaTotals.lean).
  GIVEN WITH THE SEED: the statements are not yours to turn. If you find one false, say at which input.
  Laid BY PROGRAM, IN A SANDBOX (cutbox-rows.mjs): the forced cells as the released guide's own fill.sh prints them over the translation 55649782357224c3… (all of the seat's roots in one cut). By AI agents, Wed Nov 11 2026. No macro, syntax, notation, axiom, sorry.
-/
import Derived.Test.YtoidchkgibngiaaChecked
import GoSem.Claim
import GoSem.ClaimJoined
import GoSem.ClaimMapViews
import Derived.JoinedTies
import Derived.KernelRfl
namespace Go.Proofs.Ytoidchkgibngiaa
/- THE CELL 'sum', in the pinned program and in every row, IS THE sha256 OF THE DUMP (.gsa) THAT YtoidchkgibngiaaProg.lean LOADS. Nothing in Lean hashes anything: it is a label: what it is worth is what the hold of that sum in a sandbox is worth. -/
noncomputable def Try.pinned : Pinned := { name := "ytoidchkgibngiaa", sum := "55649782357224c3f18267e8fb6330f09f41959186999f5b30a8a1e25b2e5f94", checked := Try.checked }
namespace Rows
def none {H : Type} : Left H := { results := [], args := [] }

/-- 'laws.FnCounts': WHATEVER THE INPUT: true; the input reads as it did. -/
def fnCountsSpec : ChangeSpec := { name := "fnCounts", fn := fun _ => fun
  | [d] => { results := [.lit (.bool true)], args := [d] }
  | _ => none }
def fnCountsRow : OpenClaim := { program := "ytoidchkgibngiaa", sum := "55649782357224c3f18267e8fb6330f09f41959186999f5b30a8a1e25b2e5f94", func := "loop.example/g00910/laws.FnCounts", spec := "fnCounts", unfollowed := true, recurses := true, apart := false }
def FnCountsSaid : Prop := fnCountsRow.holds Try.pinned (OpenSpec.ofChange fnCountsSpec)

/-- ITS FALSE NEIGHBOUR: 'it returns false'. Refute it at one input. -/
def fnCountsWrong : ChangeSpec := { name := "fnCounts", fn := fun _ => fun
  | [d] => { results := [.lit (.bool false)], args := [d] }
  | _ => none }
def FnCountsWrongFalsely : Prop := fnCountsRow.holds Try.pinned (OpenSpec.ofChange fnCountsWrong)

/-- 'laws.FnExactRankOf': WHATEVER THE INPUT: true; the input reads as it did. -/
def fnExactRankOfSpec : ChangeSpec := { name := "fnExactRankOf", fn := fun _ => fun
  | [d] => { results := [.lit (.bool true)], args := [d] }
  | _ => none }
def fnExactRankOfRow : OpenClaim := { program := "ytoidchkgibngiaa", sum := "55649782357224c3f18267e8fb6330f09f41959186999f5b30a8a1e25b2e5f94", func := "loop.example/g00910/laws.FnExactRankOf", spec := "fnExactRankOf", apart := false }
def FnExactRankOfSaid : Prop := fnExactRankOfRow.holds Try.pinned (OpenSpec.ofChange fnExactRankOfSpec)

/-- ITS FALSE NEIGHBOUR: 'it returns false'. Refute it at one input. -/
def fnExactRankOfWrong : ChangeSpec := { name := "fnExactRankOf", fn := fun _ => fun
  | [d] => { results := [.lit (.bool false)], args := [d] }
  | _ => none }
def FnExactRankOfWrongFalsely : Prop := fnExactRankOfRow.holds Try.pinned (OpenSpec.ofChange fnExactRankOfWrong)

/-- 'laws.FnExactSuitOf': WHATEVER THE INPUT: true; the input reads as it did. -/
def fnExactSuitOfSpec : ChangeSpec := { name := "fnExactSuitOf", fn := fun _ => fun
  | [d] => { results := [.lit (.bool true)], args := [d] }
  | _ => none }
def fnExactSuitOfRow : OpenClaim := { program := "ytoidchkgibngiaa", sum := "55649782357224c3f18267e8fb6330f09f41959186999f5b30a8a1e25b2e5f94", func := "loop.example/g00910/laws.FnExactSuitOf", spec := "fnExactSuitOf", apart := false }
def FnExactSuitOfSaid : Prop := fnExactSuitOfRow.holds Try.pinned (OpenSpec.ofChange fnExactSuitOfSpec)

/-- ITS FALSE NEIGHBOUR: 'it returns false'. Refute it at one input. -/
def fnExactSuitOfWrong : ChangeSpec := { name := "fnExactSuitOf", fn := fun _ => fun
  | [d] => { results := [.lit (.bool false)], args := [d] }
  | _ => none }
def FnExactSuitOfWrongFalsely : Prop := fnExactSuitOfRow.holds Try.pinned (OpenSpec.ofChange fnExactSuitOfWrong)

/-- 'laws.FnExactCardOf': WHATEVER THE INPUT: true; the input reads as it did. -/
def fnExactCardOfSpec : ChangeSpec := { name := "fnExactCardOf", fn := fun _ => fun
  | [d1, d2] => { results := [.lit (.bool true)], args := [d1, d2] }
  | _ => none }
def fnExactCardOfRow : OpenClaim := { program := "ytoidchkgibngiaa", sum := "55649782357224c3f18267e8fb6330f09f41959186999f5b30a8a1e25b2e5f94", func := "loop.example/g00910/laws.FnExactCardOf", spec := "fnExactCardOf", apart := false }
def FnExactCardOfSaid : Prop := fnExactCardOfRow.holds Try.pinned (OpenSpec.ofChange fnExactCardOfSpec)

/-- ITS FALSE NEIGHBOUR: 'it returns false'. Refute it at one input. -/
def fnExactCardOfWrong : ChangeSpec := { name := "fnExactCardOf", fn := fun _ => fun
  | [d1, d2] => { results := [.lit (.bool false)], args := [d1, d2] }
  | _ => none }
def FnExactCardOfWrongFalsely : Prop := fnExactCardOfRow.holds Try.pinned (OpenSpec.ofChange fnExactCardOfWrong)

/-- 'laws.FnExactAreCards': WHATEVER THE INPUT: true; the input reads as it did. -/
def fnExactAreCardsSpec : ChangeSpec := { name := "fnExactAreCards", fn := fun _ => fun
  | [d] => { results := [.lit (.bool true)], args := [d] }
  | _ => none }
def fnExactAreCardsRow : OpenClaim := { program := "ytoidchkgibngiaa", sum := "55649782357224c3f18267e8fb6330f09f41959186999f5b30a8a1e25b2e5f94", func := "loop.example/g00910/laws.FnExactAreCards", spec := "fnExactAreCards", apart := false }
def FnExactAreCardsSaid : Prop := fnExactAreCardsRow.holds Try.pinned (OpenSpec.ofChange fnExactAreCardsSpec)

/-- ITS FALSE NEIGHBOUR: 'it returns false'. Refute it at one input. -/
def fnExactAreCardsWrong : ChangeSpec := { name := "fnExactAreCards", fn := fun _ => fun
  | [d] => { results := [.lit (.bool false)], args := [d] }
  | _ => none }
def FnExactAreCardsWrongFalsely : Prop := fnExactAreCardsRow.holds Try.pinned (OpenSpec.ofChange fnExactAreCardsWrong)

/-- 'laws.FnExactCardsText': WHATEVER THE INPUT: true; the input reads as it did. -/
def fnExactCardsTextSpec : ChangeSpec := { name := "fnExactCardsText", fn := fun _ => fun
  | [d] => { results := [.lit (.bool true)], args := [d] }
  | _ => none }
def fnExactCardsTextRow : OpenClaim := { program := "ytoidchkgibngiaa", sum := "55649782357224c3f18267e8fb6330f09f41959186999f5b30a8a1e25b2e5f94", func := "loop.example/g00910/laws.FnExactCardsText", spec := "fnExactCardsText", inPlace := ["internal/abi.NoEscape"], apart := false }
def FnExactCardsTextSaid : Prop := fnExactCardsTextRow.holds Try.pinned (OpenSpec.ofChange fnExactCardsTextSpec)

/-- ITS FALSE NEIGHBOUR: 'it returns false'. Refute it at one input. -/
def fnExactCardsTextWrong : ChangeSpec := { name := "fnExactCardsText", fn := fun _ => fun
  | [d] => { results := [.lit (.bool false)], args := [d] }
  | _ => none }
def FnExactCardsTextWrongFalsely : Prop := fnExactCardsTextRow.holds Try.pinned (OpenSpec.ofChange fnExactCardsTextWrong)

/-- 'laws.FnExactReadCards': WHATEVER THE INPUT: true; the input reads as it did. -/
def fnExactReadCardsSpec : ChangeSpec := { name := "fnExactReadCards", fn := fun _ => fun
  | [d] => { results := [.lit (.bool true)], args := [d] }
  | _ => none }
def fnExactReadCardsRow : OpenClaim := { program := "ytoidchkgibngiaa", sum := "55649782357224c3f18267e8fb6330f09f41959186999f5b30a8a1e25b2e5f94", func := "loop.example/g00910/laws.FnExactReadCards", spec := "fnExactReadCards", inPlace := ["internal/bytealg.IndexByteString"], apart := false }
def FnExactReadCardsSaid : Prop := fnExactReadCardsRow.holds Try.pinned (OpenSpec.ofChange fnExactReadCardsSpec)

/-- ITS FALSE NEIGHBOUR: 'it returns false'. Refute it at one input. -/
def fnExactReadCardsWrong : ChangeSpec := { name := "fnExactReadCards", fn := fun _ => fun
  | [d] => { results := [.lit (.bool false)], args := [d] }
  | _ => none }
def FnExactReadCardsWrongFalsely : Prop := fnExactReadCardsRow.holds Try.pinned (OpenSpec.ofChange fnExactReadCardsWrong)

/-- 'laws.FnExactRanksIn': WHATEVER THE INPUT: true; the input reads as it did. -/
def fnExactRanksInSpec : ChangeSpec := { name := "fnExactRanksIn", fn := fun _ => fun
  | [d] => { results := [.lit (.bool true)], args := [d] }
  | _ => none }
def fnExactRanksInRow : OpenClaim := { program := "ytoidchkgibngiaa", sum := "55649782357224c3f18267e8fb6330f09f41959186999f5b30a8a1e25b2e5f94", func := "loop.example/g00910/laws.FnExactRanksIn", spec := "fnExactRanksIn", unfollowed := true, recurses := true, apart := false }
def FnExactRanksInSaid : Prop := fnExactRanksInRow.holds Try.pinned (OpenSpec.ofChange fnExactRanksInSpec)

/-- ITS FALSE NEIGHBOUR: 'it returns false'. Refute it at one input. -/
def fnExactRanksInWrong : ChangeSpec := { name := "fnExactRanksIn", fn := fun _ => fun
  | [d] => { results := [.lit (.bool false)], args := [d] }
  | _ => none }
def FnExactRanksInWrongFalsely : Prop := fnExactRanksInRow.holds Try.pinned (OpenSpec.ofChange fnExactRanksInWrong)

/-- 'laws.FnExactSuitsIn': WHATEVER THE INPUT: true; the input reads as it did. -/
def fnExactSuitsInSpec : ChangeSpec := { name := "fnExactSuitsIn", fn := fun _ => fun
  | [d] => { results := [.lit (.bool true)], args := [d] }
  | _ => none }
def fnExactSuitsInRow : OpenClaim := { program := "ytoidchkgibngiaa", sum := "55649782357224c3f18267e8fb6330f09f41959186999f5b30a8a1e25b2e5f94", func := "loop.example/g00910/laws.FnExactSuitsIn", spec := "fnExactSuitsIn", unfollowed := true, recurses := true, apart := false }
def FnExactSuitsInSaid : Prop := fnExactSuitsInRow.holds Try.pinned (OpenSpec.ofChange fnExactSuitsInSpec)

/-- ITS FALSE NEIGHBOUR: 'it returns false'. Refute it at one input. -/
def fnExactSuitsInWrong : ChangeSpec := { name := "fnExactSuitsIn", fn := fun _ => fun
  | [d] => { results := [.lit (.bool false)], args := [d] }
  | _ => none }
def FnExactSuitsInWrongFalsely : Prop := fnExactSuitsInRow.holds Try.pinned (OpenSpec.ofChange fnExactSuitsInWrong)

/- THE SECOND FORM. 'bulk': how many values and letters a reading holds, each counted each time it is reached (what is shared counts as often as it is met; a slice's spare places count too). A statement '..UptoSaid' is the law's where the arguments, and the package variables that the reading takes, are together of bulk at most 1048576: NARROWER than '..Said'. Prove '..Said' where nothing that the law and all that it calls make is longer than what came in: it says more and counts as full. Else prove '..UptoSaid'. A law counts once. -/
mutual
def uptoBulk {H : Type} : DataW H → Nat
  | .lit (.string bytes) => bytes.length + 1
  | .lit _ => 1
  | .nil => 1
  | .ptr d => uptoBulk d + 1
  | .slice elems spare => uptoBulkAll elems + uptoBulkAll spare + 1
  | .agg parts => uptoBulkAll parts + 1
  | .iface _ d => uptoBulk d + 1
  | .map entries => uptoBulkEntries entries + 1
  | .held _ => 1
def uptoBulkAll {H : Type} : List (DataW H) → Nat
  | [] => 0
  | d :: r => uptoBulk d + uptoBulkAll r
def uptoBulkEntries {H : Type} : List (Lit × DataW H) → Nat
  | [] => 0
  | x :: r => uptoBulkEntry x + uptoBulkEntries r
def uptoBulkEntry {H : Type} : Lit × DataW H → Nat
  | (.string bytes, d) => bytes.length + uptoBulk d + 1
  | (_, d) => uptoBulk d + 1
 end
def uptoSmall : (H : Type) → List (DataW H) → Bool := fun _ ds => decide (uptoBulkAll ds ≤ 1048576)
def OpenSpec.upto (s : _root_.Go.ChangeSpec) : _root_.Go.OpenSpec := { _root_.Go.OpenSpec.ofChange s with cond := some uptoSmall }

/-- 'laws.FnCounts', WHERE WHAT IT READS IS OF BULK AT MOST 1048576: true; the input reads as it did. -/
def fnCountsUptoRow : OpenClaim := { program := "ytoidchkgibngiaa", sum := "55649782357224c3f18267e8fb6330f09f41959186999f5b30a8a1e25b2e5f94", func := "loop.example/g00910/laws.FnCounts", spec := "fnCounts", unfollowed := true, recurses := true, apart := false, narrowed := true }
def FnCountsUptoSaid : Prop := fnCountsUptoRow.holds Try.pinned (OpenSpec.upto fnCountsSpec)

/-- 'laws.FnExactRankOf', WHERE WHAT IT READS IS OF BULK AT MOST 1048576: true; the input reads as it did. -/
def fnExactRankOfUptoRow : OpenClaim := { program := "ytoidchkgibngiaa", sum := "55649782357224c3f18267e8fb6330f09f41959186999f5b30a8a1e25b2e5f94", func := "loop.example/g00910/laws.FnExactRankOf", spec := "fnExactRankOf", apart := false, narrowed := true }
def FnExactRankOfUptoSaid : Prop := fnExactRankOfUptoRow.holds Try.pinned (OpenSpec.upto fnExactRankOfSpec)

/-- 'laws.FnExactSuitOf', WHERE WHAT IT READS IS OF BULK AT MOST 1048576: true; the input reads as it did. -/
def fnExactSuitOfUptoRow : OpenClaim := { program := "ytoidchkgibngiaa", sum := "55649782357224c3f18267e8fb6330f09f41959186999f5b30a8a1e25b2e5f94", func := "loop.example/g00910/laws.FnExactSuitOf", spec := "fnExactSuitOf", apart := false, narrowed := true }
def FnExactSuitOfUptoSaid : Prop := fnExactSuitOfUptoRow.holds Try.pinned (OpenSpec.upto fnExactSuitOfSpec)

/-- 'laws.FnExactCardOf', WHERE WHAT IT READS IS OF BULK AT MOST 1048576: true; the input reads as it did. -/
def fnExactCardOfUptoRow : OpenClaim := { program := "ytoidchkgibngiaa", sum := "55649782357224c3f18267e8fb6330f09f41959186999f5b30a8a1e25b2e5f94", func := "loop.example/g00910/laws.FnExactCardOf", spec := "fnExactCardOf", apart := false, narrowed := true }
def FnExactCardOfUptoSaid : Prop := fnExactCardOfUptoRow.holds Try.pinned (OpenSpec.upto fnExactCardOfSpec)

/-- 'laws.FnExactAreCards', WHERE WHAT IT READS IS OF BULK AT MOST 1048576: true; the input reads as it did. -/
def fnExactAreCardsUptoRow : OpenClaim := { program := "ytoidchkgibngiaa", sum := "55649782357224c3f18267e8fb6330f09f41959186999f5b30a8a1e25b2e5f94", func := "loop.example/g00910/laws.FnExactAreCards", spec := "fnExactAreCards", apart := false, narrowed := true }
def FnExactAreCardsUptoSaid : Prop := fnExactAreCardsUptoRow.holds Try.pinned (OpenSpec.upto fnExactAreCardsSpec)

/-- 'laws.FnExactCardsText', WHERE WHAT IT READS IS OF BULK AT MOST 1048576: true; the input reads as it did. -/
def fnExactCardsTextUptoRow : OpenClaim := { program := "ytoidchkgibngiaa", sum := "55649782357224c3f18267e8fb6330f09f41959186999f5b30a8a1e25b2e5f94", func := "loop.example/g00910/laws.FnExactCardsText", spec := "fnExactCardsText", inPlace := ["internal/abi.NoEscape"], apart := false, narrowed := true }
def FnExactCardsTextUptoSaid : Prop := fnExactCardsTextUptoRow.holds Try.pinned (OpenSpec.upto fnExactCardsTextSpec)

/-- 'laws.FnExactReadCards', WHERE WHAT IT READS IS OF BULK AT MOST 1048576: true; the input reads as it did. -/
def fnExactReadCardsUptoRow : OpenClaim := { program := "ytoidchkgibngiaa", sum := "55649782357224c3f18267e8fb6330f09f41959186999f5b30a8a1e25b2e5f94", func := "loop.example/g00910/laws.FnExactReadCards", spec := "fnExactReadCards", inPlace := ["internal/bytealg.IndexByteString"], apart := false, narrowed := true }
def FnExactReadCardsUptoSaid : Prop := fnExactReadCardsUptoRow.holds Try.pinned (OpenSpec.upto fnExactReadCardsSpec)

/-- 'laws.FnExactRanksIn', WHERE WHAT IT READS IS OF BULK AT MOST 1048576: true; the input reads as it did. -/
def fnExactRanksInUptoRow : OpenClaim := { program := "ytoidchkgibngiaa", sum := "55649782357224c3f18267e8fb6330f09f41959186999f5b30a8a1e25b2e5f94", func := "loop.example/g00910/laws.FnExactRanksIn", spec := "fnExactRanksIn", unfollowed := true, recurses := true, apart := false, narrowed := true }
def FnExactRanksInUptoSaid : Prop := fnExactRanksInUptoRow.holds Try.pinned (OpenSpec.upto fnExactRanksInSpec)

/-- 'laws.FnExactSuitsIn', WHERE WHAT IT READS IS OF BULK AT MOST 1048576: true; the input reads as it did. -/
def fnExactSuitsInUptoRow : OpenClaim := { program := "ytoidchkgibngiaa", sum := "55649782357224c3f18267e8fb6330f09f41959186999f5b30a8a1e25b2e5f94", func := "loop.example/g00910/laws.FnExactSuitsIn", spec := "fnExactSuitsIn", unfollowed := true, recurses := true, apart := false, narrowed := true }
def FnExactSuitsInUptoSaid : Prop := fnExactSuitsInUptoRow.holds Try.pinned (OpenSpec.upto fnExactSuitsInSpec)

end Rows
end Go.Proofs.Ytoidchkgibngiaa
