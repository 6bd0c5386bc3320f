/-
  No cell of these rows narrows 'for every input' (looked for: loops, veiled, ifaces, maps, wideKeys, modest, calm, conditions, laid).
  DERIVED. THE GIVEN ROWS OF THIS SEAT. 10 by the template 'for every input the law returns true; each argument reads behind the call as it read before'; 0 by the template 'total and deterministic' (their statements: YtjmfecjgomkofaaTotals.lean).
  GIVEN WITH THE SEED: the statements are not yours to turn. If you find one false, say at which input.
  Laid BY PROGRAM, IN A SANDBOX (cutbox-rows.mjs): the forced cells as the released guide's own fill.sh prints them over the translation d1e867f20722bb71… (all of the seat's roots in one cut). By AI agents, Wed Nov 11 2026. No macro, syntax, notation, axiom, sorry.
-/
import Derived.Test.YtjmfecjgomkofaaChecked
import GoSem.Claim
import GoSem.ClaimJoined
import GoSem.ClaimMapViews
import Derived.JoinedTies
import Derived.KernelRfl
namespace Go.Proofs.Ytjmfecjgomkofaa
/- THE CELL 'sum', in the pinned program and in every row, IS THE sha256 OF THE DUMP (.gsa) THAT YtjmfecjgomkofaaProg.lean LOADS. Nothing in Lean hashes anything: it is a label: what it is worth is what the hold of that sum in a sandbox is worth. -/
noncomputable def Try.pinned : Pinned := { name := "ytjmfecjgomkofaa", sum := "d1e867f20722bb717b7ad89e57710115ca38fffdd74a6842bbda7a21c9804429", checked := Try.checked }
namespace Rows
def none {H : Type} : Left H := { results := [], args := [] }

/-- 'laws.FnAllowedHands': WHATEVER THE INPUT: true; the input reads as it did. -/
def fnAllowedHandsSpec : ChangeSpec := { name := "fnAllowedHands", fn := fun _ => fun
  | [d] => { results := [.lit (.bool true)], args := [d] }
  | _ => none }
def fnAllowedHandsRow : OpenClaim := { program := "ytjmfecjgomkofaa", sum := "d1e867f20722bb717b7ad89e57710115ca38fffdd74a6842bbda7a21c9804429", func := "loop.example/g00910/laws.FnAllowedHands", spec := "fnAllowedHands", unfollowed := true, recurses := true, apart := false }
def FnAllowedHandsSaid : Prop := fnAllowedHandsRow.holds Try.pinned (OpenSpec.ofChange fnAllowedHandsSpec)

/-- ITS FALSE NEIGHBOUR: 'it returns false'. Refute it at one input. -/
def fnAllowedHandsWrong : ChangeSpec := { name := "fnAllowedHands", fn := fun _ => fun
  | [d] => { results := [.lit (.bool false)], args := [d] }
  | _ => none }
def FnAllowedHandsWrongFalsely : Prop := fnAllowedHandsRow.holds Try.pinned (OpenSpec.ofChange fnAllowedHandsWrong)

/-- 'laws.FnExactClassOf': WHATEVER THE INPUT: true; the input reads as it did. -/
def fnExactClassOfSpec : ChangeSpec := { name := "fnExactClassOf", fn := fun _ => fun
  | [d] => { results := [.lit (.bool true)], args := [d] }
  | _ => none }
def fnExactClassOfRow : OpenClaim := { program := "ytjmfecjgomkofaa", sum := "d1e867f20722bb717b7ad89e57710115ca38fffdd74a6842bbda7a21c9804429", func := "loop.example/g00910/laws.FnExactClassOf", spec := "fnExactClassOf", apart := false }
def FnExactClassOfSaid : Prop := fnExactClassOfRow.holds Try.pinned (OpenSpec.ofChange fnExactClassOfSpec)

/-- ITS FALSE NEIGHBOUR: 'it returns false'. Refute it at one input. -/
def fnExactClassOfWrong : ChangeSpec := { name := "fnExactClassOf", fn := fun _ => fun
  | [d] => { results := [.lit (.bool false)], args := [d] }
  | _ => none }
def FnExactClassOfWrongFalsely : Prop := fnExactClassOfRow.holds Try.pinned (OpenSpec.ofChange fnExactClassOfWrong)

/-- 'laws.FnExactClassText': WHATEVER THE INPUT: true; the input reads as it did. -/
def fnExactClassTextSpec : ChangeSpec := { name := "fnExactClassText", fn := fun _ => fun
  | [d] => { results := [.lit (.bool true)], args := [d] }
  | _ => none }
def fnExactClassTextRow : OpenClaim := { program := "ytjmfecjgomkofaa", sum := "d1e867f20722bb717b7ad89e57710115ca38fffdd74a6842bbda7a21c9804429", func := "loop.example/g00910/laws.FnExactClassText", spec := "fnExactClassText", apart := false }
def FnExactClassTextSaid : Prop := fnExactClassTextRow.holds Try.pinned (OpenSpec.ofChange fnExactClassTextSpec)

/-- ITS FALSE NEIGHBOUR: 'it returns false'. Refute it at one input. -/
def fnExactClassTextWrong : ChangeSpec := { name := "fnExactClassText", fn := fun _ => fun
  | [d] => { results := [.lit (.bool false)], args := [d] }
  | _ => none }
def FnExactClassTextWrongFalsely : Prop := fnExactClassTextRow.holds Try.pinned (OpenSpec.ofChange fnExactClassTextWrong)

/-- 'laws.FnExactReadClass': WHATEVER THE INPUT: true; the input reads as it did. -/
def fnExactReadClassSpec : ChangeSpec := { name := "fnExactReadClass", fn := fun _ => fun
  | [d] => { results := [.lit (.bool true)], args := [d] }
  | _ => none }
def fnExactReadClassRow : OpenClaim := { program := "ytjmfecjgomkofaa", sum := "d1e867f20722bb717b7ad89e57710115ca38fffdd74a6842bbda7a21c9804429", func := "loop.example/g00910/laws.FnExactReadClass", spec := "fnExactReadClass", apart := false }
def FnExactReadClassSaid : Prop := fnExactReadClassRow.holds Try.pinned (OpenSpec.ofChange fnExactReadClassSpec)

/-- ITS FALSE NEIGHBOUR: 'it returns false'. Refute it at one input. -/
def fnExactReadClassWrong : ChangeSpec := { name := "fnExactReadClass", fn := fun _ => fun
  | [d] => { results := [.lit (.bool false)], args := [d] }
  | _ => none }
def FnExactReadClassWrongFalsely : Prop := fnExactReadClassRow.holds Try.pinned (OpenSpec.ofChange fnExactReadClassWrong)

/-- 'laws.FnExactIsRange': WHATEVER THE INPUT: true; the input reads as it did. -/
def fnExactIsRangeSpec : ChangeSpec := { name := "fnExactIsRange", fn := fun _ => fun
  | [d] => { results := [.lit (.bool true)], args := [d] }
  | _ => none }
def fnExactIsRangeRow : OpenClaim := { program := "ytjmfecjgomkofaa", sum := "d1e867f20722bb717b7ad89e57710115ca38fffdd74a6842bbda7a21c9804429", func := "loop.example/g00910/laws.FnExactIsRange", spec := "fnExactIsRange", apart := false }
def FnExactIsRangeSaid : Prop := fnExactIsRangeRow.holds Try.pinned (OpenSpec.ofChange fnExactIsRangeSpec)

/-- ITS FALSE NEIGHBOUR: 'it returns false'. Refute it at one input. -/
def fnExactIsRangeWrong : ChangeSpec := { name := "fnExactIsRange", fn := fun _ => fun
  | [d] => { results := [.lit (.bool false)], args := [d] }
  | _ => none }
def FnExactIsRangeWrongFalsely : Prop := fnExactIsRangeRow.holds Try.pinned (OpenSpec.ofChange fnExactIsRangeWrong)

/-- 'laws.FnExactJoinRanges': WHATEVER THE INPUT: true; the input reads as it did. -/
def fnExactJoinRangesSpec : ChangeSpec := { name := "fnExactJoinRanges", fn := fun _ => fun
  | [d1, d2] => { results := [.lit (.bool true)], args := [d1, d2] }
  | _ => none }
def fnExactJoinRangesRow : OpenClaim := { program := "ytjmfecjgomkofaa", sum := "d1e867f20722bb717b7ad89e57710115ca38fffdd74a6842bbda7a21c9804429", func := "loop.example/g00910/laws.FnExactJoinRanges", spec := "fnExactJoinRanges", unfollowed := true, recurses := true, apart := false }
def FnExactJoinRangesSaid : Prop := fnExactJoinRangesRow.holds Try.pinned (OpenSpec.ofChange fnExactJoinRangesSpec)

/-- ITS FALSE NEIGHBOUR: 'it returns false'. Refute it at one input. -/
def fnExactJoinRangesWrong : ChangeSpec := { name := "fnExactJoinRanges", fn := fun _ => fun
  | [d1, d2] => { results := [.lit (.bool false)], args := [d1, d2] }
  | _ => none }
def FnExactJoinRangesWrongFalsely : Prop := fnExactJoinRangesRow.holds Try.pinned (OpenSpec.ofChange fnExactJoinRangesWrong)

/-- 'laws.FnExactCommonRange': WHATEVER THE INPUT: true; the input reads as it did. -/
def fnExactCommonRangeSpec : ChangeSpec := { name := "fnExactCommonRange", fn := fun _ => fun
  | [d1, d2] => { results := [.lit (.bool true)], args := [d1, d2] }
  | _ => none }
def fnExactCommonRangeRow : OpenClaim := { program := "ytjmfecjgomkofaa", sum := "d1e867f20722bb717b7ad89e57710115ca38fffdd74a6842bbda7a21c9804429", func := "loop.example/g00910/laws.FnExactCommonRange", spec := "fnExactCommonRange", unfollowed := true, recurses := true, apart := false }
def FnExactCommonRangeSaid : Prop := fnExactCommonRangeRow.holds Try.pinned (OpenSpec.ofChange fnExactCommonRangeSpec)

/-- ITS FALSE NEIGHBOUR: 'it returns false'. Refute it at one input. -/
def fnExactCommonRangeWrong : ChangeSpec := { name := "fnExactCommonRange", fn := fun _ => fun
  | [d1, d2] => { results := [.lit (.bool false)], args := [d1, d2] }
  | _ => none }
def FnExactCommonRangeWrongFalsely : Prop := fnExactCommonRangeRow.holds Try.pinned (OpenSpec.ofChange fnExactCommonRangeWrong)

/-- 'laws.FnExactOtherRange': WHATEVER THE INPUT: true; the input reads as it did. -/
def fnExactOtherRangeSpec : ChangeSpec := { name := "fnExactOtherRange", fn := fun _ => fun
  | [d] => { results := [.lit (.bool true)], args := [d] }
  | _ => none }
def fnExactOtherRangeRow : OpenClaim := { program := "ytjmfecjgomkofaa", sum := "d1e867f20722bb717b7ad89e57710115ca38fffdd74a6842bbda7a21c9804429", func := "loop.example/g00910/laws.FnExactOtherRange", spec := "fnExactOtherRange", unfollowed := true, recurses := true, apart := false }
def FnExactOtherRangeSaid : Prop := fnExactOtherRangeRow.holds Try.pinned (OpenSpec.ofChange fnExactOtherRangeSpec)

/-- ITS FALSE NEIGHBOUR: 'it returns false'. Refute it at one input. -/
def fnExactOtherRangeWrong : ChangeSpec := { name := "fnExactOtherRange", fn := fun _ => fun
  | [d] => { results := [.lit (.bool false)], args := [d] }
  | _ => none }
def FnExactOtherRangeWrongFalsely : Prop := fnExactOtherRangeRow.holds Try.pinned (OpenSpec.ofChange fnExactOtherRangeWrong)

/-- 'laws.FnRangeSets': WHATEVER THE INPUT: true; the input reads as it did. -/
def fnRangeSetsSpec : ChangeSpec := { name := "fnRangeSets", fn := fun _ => fun
  | [d] => { results := [.lit (.bool true)], args := [d] }
  | _ => none }
def fnRangeSetsRow : OpenClaim := { program := "ytjmfecjgomkofaa", sum := "d1e867f20722bb717b7ad89e57710115ca38fffdd74a6842bbda7a21c9804429", func := "loop.example/g00910/laws.FnRangeSets", spec := "fnRangeSets", unfollowed := true, recurses := true, apart := false }
def FnRangeSetsSaid : Prop := fnRangeSetsRow.holds Try.pinned (OpenSpec.ofChange fnRangeSetsSpec)

/-- ITS FALSE NEIGHBOUR: 'it returns false'. Refute it at one input. -/
def fnRangeSetsWrong : ChangeSpec := { name := "fnRangeSets", fn := fun _ => fun
  | [d] => { results := [.lit (.bool false)], args := [d] }
  | _ => none }
def FnRangeSetsWrongFalsely : Prop := fnRangeSetsRow.holds Try.pinned (OpenSpec.ofChange fnRangeSetsWrong)

/-- 'laws.FnExactRangeText': WHATEVER THE INPUT: true; the input reads as it did. -/
def fnExactRangeTextSpec : ChangeSpec := { name := "fnExactRangeText", fn := fun _ => fun
  | [d] => { results := [.lit (.bool true)], args := [d] }
  | _ => none }
def fnExactRangeTextRow : OpenClaim := { program := "ytjmfecjgomkofaa", sum := "d1e867f20722bb717b7ad89e57710115ca38fffdd74a6842bbda7a21c9804429", func := "loop.example/g00910/laws.FnExactRangeText", spec := "fnExactRangeText", inPlace := ["internal/abi.NoEscape", "internal/bytealg.MakeNoZero"], unfollowed := true, recurses := true, apart := false }
def FnExactRangeTextSaid : Prop := fnExactRangeTextRow.holds Try.pinned (OpenSpec.ofChange fnExactRangeTextSpec)

/-- ITS FALSE NEIGHBOUR: 'it returns false'. Refute it at one input. -/
def fnExactRangeTextWrong : ChangeSpec := { name := "fnExactRangeText", fn := fun _ => fun
  | [d] => { results := [.lit (.bool false)], args := [d] }
  | _ => none }
def FnExactRangeTextWrongFalsely : Prop := fnExactRangeTextRow.holds Try.pinned (OpenSpec.ofChange fnExactRangeTextWrong)

/- THE SECOND FORM. 'bulk': how many values and letters a reading holds, each counted each time it is reached (what is shared counts as often as it is met; a slice's spare places count too). A statement '..UptoSaid' is the law's where the arguments, and the package variables that the reading takes, are together of bulk at most 1048576: NARROWER than '..Said'. Prove '..Said' where nothing that the law and all that it calls make is longer than what came in: it says more and counts as full. Else prove '..UptoSaid'. A law counts once. -/
mutual
def uptoBulk {H : Type} : DataW H → Nat
  | .lit (.string bytes) => bytes.length + 1
  | .lit _ => 1
  | .nil => 1
  | .ptr d => uptoBulk d + 1
  | .slice elems spare => uptoBulkAll elems + uptoBulkAll spare + 1
  | .agg parts => uptoBulkAll parts + 1
  | .iface _ d => uptoBulk d + 1
  | .map entries => uptoBulkEntries entries + 1
  | .held _ => 1
def uptoBulkAll {H : Type} : List (DataW H) → Nat
  | [] => 0
  | d :: r => uptoBulk d + uptoBulkAll r
def uptoBulkEntries {H : Type} : List (Lit × DataW H) → Nat
  | [] => 0
  | x :: r => uptoBulkEntry x + uptoBulkEntries r
def uptoBulkEntry {H : Type} : Lit × DataW H → Nat
  | (.string bytes, d) => bytes.length + uptoBulk d + 1
  | (_, d) => uptoBulk d + 1
 end
def uptoSmall : (H : Type) → List (DataW H) → Bool := fun _ ds => decide (uptoBulkAll ds ≤ 1048576)
def OpenSpec.upto (s : _root_.Go.ChangeSpec) : _root_.Go.OpenSpec := { _root_.Go.OpenSpec.ofChange s with cond := some uptoSmall }

/-- 'laws.FnAllowedHands', WHERE WHAT IT READS IS OF BULK AT MOST 1048576: true; the input reads as it did. -/
def fnAllowedHandsUptoRow : OpenClaim := { program := "ytjmfecjgomkofaa", sum := "d1e867f20722bb717b7ad89e57710115ca38fffdd74a6842bbda7a21c9804429", func := "loop.example/g00910/laws.FnAllowedHands", spec := "fnAllowedHands", unfollowed := true, recurses := true, apart := false, narrowed := true }
def FnAllowedHandsUptoSaid : Prop := fnAllowedHandsUptoRow.holds Try.pinned (OpenSpec.upto fnAllowedHandsSpec)

/-- 'laws.FnExactClassOf', WHERE WHAT IT READS IS OF BULK AT MOST 1048576: true; the input reads as it did. -/
def fnExactClassOfUptoRow : OpenClaim := { program := "ytjmfecjgomkofaa", sum := "d1e867f20722bb717b7ad89e57710115ca38fffdd74a6842bbda7a21c9804429", func := "loop.example/g00910/laws.FnExactClassOf", spec := "fnExactClassOf", apart := false, narrowed := true }
def FnExactClassOfUptoSaid : Prop := fnExactClassOfUptoRow.holds Try.pinned (OpenSpec.upto fnExactClassOfSpec)

/-- 'laws.FnExactClassText', WHERE WHAT IT READS IS OF BULK AT MOST 1048576: true; the input reads as it did. -/
def fnExactClassTextUptoRow : OpenClaim := { program := "ytjmfecjgomkofaa", sum := "d1e867f20722bb717b7ad89e57710115ca38fffdd74a6842bbda7a21c9804429", func := "loop.example/g00910/laws.FnExactClassText", spec := "fnExactClassText", apart := false, narrowed := true }
def FnExactClassTextUptoSaid : Prop := fnExactClassTextUptoRow.holds Try.pinned (OpenSpec.upto fnExactClassTextSpec)

/-- 'laws.FnExactReadClass', WHERE WHAT IT READS IS OF BULK AT MOST 1048576: true; the input reads as it did. -/
def fnExactReadClassUptoRow : OpenClaim := { program := "ytjmfecjgomkofaa", sum := "d1e867f20722bb717b7ad89e57710115ca38fffdd74a6842bbda7a21c9804429", func := "loop.example/g00910/laws.FnExactReadClass", spec := "fnExactReadClass", apart := false, narrowed := true }
def FnExactReadClassUptoSaid : Prop := fnExactReadClassUptoRow.holds Try.pinned (OpenSpec.upto fnExactReadClassSpec)

/-- 'laws.FnExactIsRange', WHERE WHAT IT READS IS OF BULK AT MOST 1048576: true; the input reads as it did. -/
def fnExactIsRangeUptoRow : OpenClaim := { program := "ytjmfecjgomkofaa", sum := "d1e867f20722bb717b7ad89e57710115ca38fffdd74a6842bbda7a21c9804429", func := "loop.example/g00910/laws.FnExactIsRange", spec := "fnExactIsRange", apart := false, narrowed := true }
def FnExactIsRangeUptoSaid : Prop := fnExactIsRangeUptoRow.holds Try.pinned (OpenSpec.upto fnExactIsRangeSpec)

/-- 'laws.FnExactJoinRanges', WHERE WHAT IT READS IS OF BULK AT MOST 1048576: true; the input reads as it did. -/
def fnExactJoinRangesUptoRow : OpenClaim := { program := "ytjmfecjgomkofaa", sum := "d1e867f20722bb717b7ad89e57710115ca38fffdd74a6842bbda7a21c9804429", func := "loop.example/g00910/laws.FnExactJoinRanges", spec := "fnExactJoinRanges", unfollowed := true, recurses := true, apart := false, narrowed := true }
def FnExactJoinRangesUptoSaid : Prop := fnExactJoinRangesUptoRow.holds Try.pinned (OpenSpec.upto fnExactJoinRangesSpec)

/-- 'laws.FnExactCommonRange', WHERE WHAT IT READS IS OF BULK AT MOST 1048576: true; the input reads as it did. -/
def fnExactCommonRangeUptoRow : OpenClaim := { program := "ytjmfecjgomkofaa", sum := "d1e867f20722bb717b7ad89e57710115ca38fffdd74a6842bbda7a21c9804429", func := "loop.example/g00910/laws.FnExactCommonRange", spec := "fnExactCommonRange", unfollowed := true, recurses := true, apart := false, narrowed := true }
def FnExactCommonRangeUptoSaid : Prop := fnExactCommonRangeUptoRow.holds Try.pinned (OpenSpec.upto fnExactCommonRangeSpec)

/-- 'laws.FnExactOtherRange', WHERE WHAT IT READS IS OF BULK AT MOST 1048576: true; the input reads as it did. -/
def fnExactOtherRangeUptoRow : OpenClaim := { program := "ytjmfecjgomkofaa", sum := "d1e867f20722bb717b7ad89e57710115ca38fffdd74a6842bbda7a21c9804429", func := "loop.example/g00910/laws.FnExactOtherRange", spec := "fnExactOtherRange", unfollowed := true, recurses := true, apart := false, narrowed := true }
def FnExactOtherRangeUptoSaid : Prop := fnExactOtherRangeUptoRow.holds Try.pinned (OpenSpec.upto fnExactOtherRangeSpec)

/-- 'laws.FnRangeSets', WHERE WHAT IT READS IS OF BULK AT MOST 1048576: true; the input reads as it did. -/
def fnRangeSetsUptoRow : OpenClaim := { program := "ytjmfecjgomkofaa", sum := "d1e867f20722bb717b7ad89e57710115ca38fffdd74a6842bbda7a21c9804429", func := "loop.example/g00910/laws.FnRangeSets", spec := "fnRangeSets", unfollowed := true, recurses := true, apart := false, narrowed := true }
def FnRangeSetsUptoSaid : Prop := fnRangeSetsUptoRow.holds Try.pinned (OpenSpec.upto fnRangeSetsSpec)

/-- 'laws.FnExactRangeText', WHERE WHAT IT READS IS OF BULK AT MOST 1048576: true; the input reads as it did. -/
def fnExactRangeTextUptoRow : OpenClaim := { program := "ytjmfecjgomkofaa", sum := "d1e867f20722bb717b7ad89e57710115ca38fffdd74a6842bbda7a21c9804429", func := "loop.example/g00910/laws.FnExactRangeText", spec := "fnExactRangeText", inPlace := ["internal/abi.NoEscape", "internal/bytealg.MakeNoZero"], unfollowed := true, recurses := true, apart := false, narrowed := true }
def FnExactRangeTextUptoSaid : Prop := fnExactRangeTextUptoRow.holds Try.pinned (OpenSpec.upto fnExactRangeTextSpec)

end Rows
end Go.Proofs.Ytjmfecjgomkofaa
