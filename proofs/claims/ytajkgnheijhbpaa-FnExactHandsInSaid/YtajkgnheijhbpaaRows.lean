/-
  No cell of these rows narrows 'for every input' (looked for: loops, veiled, ifaces, maps, wideKeys, modest, calm, conditions, laid).
  DERIVED. THE GIVEN ROWS OF THIS SEAT. 7 by the template 'for every input the law returns true; each argument reads behind the call as it read before'; 0 by the template 'total and deterministic' (their statements: YtajkgnheijhbpaaTotals.lean).
  GIVEN WITH THE SEED: the statements are not yours to turn. If you find one false, say at which input.
  Laid BY PROGRAM, IN A SANDBOX (cutbox-rows.mjs): the forced cells as the released guide's own fill.sh prints them over the translation eba0253aac96d20a… (all of the seat's roots in one cut). By AI agents, Wed Nov 11 2026. No macro, syntax, notation, axiom, sorry.
-/
import Derived.Test.YtajkgnheijhbpaaChecked
import GoSem.Claim
import GoSem.ClaimJoined
import GoSem.ClaimMapViews
import Derived.JoinedTies
import Derived.KernelRfl
namespace Go.Proofs.Ytajkgnheijhbpaa
/- THE CELL 'sum', in the pinned program and in every row, IS THE sha256 OF THE DUMP (.gsa) THAT YtajkgnheijhbpaaProg.lean LOADS. Nothing in Lean hashes anything: it is a label: what it is worth is what the hold of that sum in a sandbox is worth. -/
noncomputable def Try.pinned : Pinned := { name := "ytajkgnheijhbpaa", sum := "eba0253aac96d20a512064415cd682f695abd2e2a96aea845ad932274694b5cd", checked := Try.checked }
namespace Rows
def none {H : Type} : Left H := { results := [], args := [] }

/-- 'laws.FnBadugis': WHATEVER THE INPUT: true; the input reads as it did. -/
def fnBadugisSpec : ChangeSpec := { name := "fnBadugis", fn := fun _ => fun
  | [d] => { results := [.lit (.bool true)], args := [d] }
  | _ => none }
def fnBadugisRow : OpenClaim := { program := "ytajkgnheijhbpaa", sum := "eba0253aac96d20a512064415cd682f695abd2e2a96aea845ad932274694b5cd", func := "loop.example/g00910/laws.FnBadugis", spec := "fnBadugis", unfollowed := true, recurses := true, apart := false }
def FnBadugisSaid : Prop := fnBadugisRow.holds Try.pinned (OpenSpec.ofChange fnBadugisSpec)

/-- ITS FALSE NEIGHBOUR: 'it returns false'. Refute it at one input. -/
def fnBadugisWrong : ChangeSpec := { name := "fnBadugis", fn := fun _ => fun
  | [d] => { results := [.lit (.bool false)], args := [d] }
  | _ => none }
def FnBadugisWrongFalsely : Prop := fnBadugisRow.holds Try.pinned (OpenSpec.ofChange fnBadugisWrong)

/-- 'laws.FnExactAceValue': WHATEVER THE INPUT: true; the input reads as it did. -/
def fnExactAceValueSpec : ChangeSpec := { name := "fnExactAceValue", fn := fun _ => fun
  | [d] => { results := [.lit (.bool true)], args := [d] }
  | _ => none }
def fnExactAceValueRow : OpenClaim := { program := "ytajkgnheijhbpaa", sum := "eba0253aac96d20a512064415cd682f695abd2e2a96aea845ad932274694b5cd", func := "loop.example/g00910/laws.FnExactAceValue", spec := "fnExactAceValue", unfollowed := true, recurses := true, apart := false }
def FnExactAceValueSaid : Prop := fnExactAceValueRow.holds Try.pinned (OpenSpec.ofChange fnExactAceValueSpec)

/-- ITS FALSE NEIGHBOUR: 'it returns false'. Refute it at one input. -/
def fnExactAceValueWrong : ChangeSpec := { name := "fnExactAceValue", fn := fun _ => fun
  | [d] => { results := [.lit (.bool false)], args := [d] }
  | _ => none }
def FnExactAceValueWrongFalsely : Prop := fnExactAceValueRow.holds Try.pinned (OpenSpec.ofChange fnExactAceValueWrong)

/-- 'laws.FnExactBestAce': WHATEVER THE INPUT: true; the input reads as it did. -/
def fnExactBestAceSpec : ChangeSpec := { name := "fnExactBestAce", fn := fun _ => fun
  | [d] => { results := [.lit (.bool true)], args := [d] }
  | _ => none }
def fnExactBestAceRow : OpenClaim := { program := "ytajkgnheijhbpaa", sum := "eba0253aac96d20a512064415cd682f695abd2e2a96aea845ad932274694b5cd", func := "loop.example/g00910/laws.FnExactBestAce", spec := "fnExactBestAce", unfollowed := true, recurses := true, apart := false }
def FnExactBestAceSaid : Prop := fnExactBestAceRow.holds Try.pinned (OpenSpec.ofChange fnExactBestAceSpec)

/-- ITS FALSE NEIGHBOUR: 'it returns false'. Refute it at one input. -/
def fnExactBestAceWrong : ChangeSpec := { name := "fnExactBestAce", fn := fun _ => fun
  | [d] => { results := [.lit (.bool false)], args := [d] }
  | _ => none }
def FnExactBestAceWrongFalsely : Prop := fnExactBestAceRow.holds Try.pinned (OpenSpec.ofChange fnExactBestAceWrong)

/-- 'laws.FnExactIsVariant': WHATEVER THE INPUT: true; the input reads as it did. -/
def fnExactIsVariantSpec : ChangeSpec := { name := "fnExactIsVariant", fn := fun _ => fun
  | [d] => { results := [.lit (.bool true)], args := [d] }
  | _ => none }
def fnExactIsVariantRow : OpenClaim := { program := "ytajkgnheijhbpaa", sum := "eba0253aac96d20a512064415cd682f695abd2e2a96aea845ad932274694b5cd", func := "loop.example/g00910/laws.FnExactIsVariant", spec := "fnExactIsVariant", apart := false }
def FnExactIsVariantSaid : Prop := fnExactIsVariantRow.holds Try.pinned (OpenSpec.ofChange fnExactIsVariantSpec)

/-- ITS FALSE NEIGHBOUR: 'it returns false'. Refute it at one input. -/
def fnExactIsVariantWrong : ChangeSpec := { name := "fnExactIsVariant", fn := fun _ => fun
  | [d] => { results := [.lit (.bool false)], args := [d] }
  | _ => none }
def FnExactIsVariantWrongFalsely : Prop := fnExactIsVariantRow.holds Try.pinned (OpenSpec.ofChange fnExactIsVariantWrong)

/-- 'laws.FnExactHandsIn': WHATEVER THE INPUT: true; the input reads as it did. -/
def fnExactHandsInSpec : ChangeSpec := { name := "fnExactHandsIn", fn := fun _ => fun
  | [d1, d2, d3] => { results := [.lit (.bool true)], args := [d1, d2, d3] }
  | _ => none }
def fnExactHandsInRow : OpenClaim := { program := "ytajkgnheijhbpaa", sum := "eba0253aac96d20a512064415cd682f695abd2e2a96aea845ad932274694b5cd", func := "loop.example/g00910/laws.FnExactHandsIn", spec := "fnExactHandsIn", unfollowed := true, recurses := true, apart := false }
def FnExactHandsInSaid : Prop := fnExactHandsInRow.holds Try.pinned (OpenSpec.ofChange fnExactHandsInSpec)

/-- ITS FALSE NEIGHBOUR: 'it returns false'. Refute it at one input. -/
def fnExactHandsInWrong : ChangeSpec := { name := "fnExactHandsIn", fn := fun _ => fun
  | [d1, d2, d3] => { results := [.lit (.bool false)], args := [d1, d2, d3] }
  | _ => none }
def FnExactHandsInWrongFalsely : Prop := fnExactHandsInRow.holds Try.pinned (OpenSpec.ofChange fnExactHandsInWrong)

/-- 'laws.FnExactCountHands': WHATEVER THE INPUT: true; the input reads as it did. -/
def fnExactCountHandsSpec : ChangeSpec := { name := "fnExactCountHands", fn := fun _ => fun
  | [d] => { results := [.lit (.bool true)], args := [d] }
  | _ => none }
def fnExactCountHandsRow : OpenClaim := { program := "ytajkgnheijhbpaa", sum := "eba0253aac96d20a512064415cd682f695abd2e2a96aea845ad932274694b5cd", func := "loop.example/g00910/laws.FnExactCountHands", spec := "fnExactCountHands", apart := false }
def FnExactCountHandsSaid : Prop := fnExactCountHandsRow.holds Try.pinned (OpenSpec.ofChange fnExactCountHandsSpec)

/-- ITS FALSE NEIGHBOUR: 'it returns false'. Refute it at one input. -/
def fnExactCountHandsWrong : ChangeSpec := { name := "fnExactCountHands", fn := fun _ => fun
  | [d] => { results := [.lit (.bool false)], args := [d] }
  | _ => none }
def FnExactCountHandsWrongFalsely : Prop := fnExactCountHandsRow.holds Try.pinned (OpenSpec.ofChange fnExactCountHandsWrong)

/-- 'laws.FnAllowedHands': WHATEVER THE INPUT: true; the input reads as it did. -/
def fnAllowedHandsSpec : ChangeSpec := { name := "fnAllowedHands", fn := fun _ => fun
  | [d] => { results := [.lit (.bool true)], args := [d] }
  | _ => none }
def fnAllowedHandsRow : OpenClaim := { program := "ytajkgnheijhbpaa", sum := "eba0253aac96d20a512064415cd682f695abd2e2a96aea845ad932274694b5cd", func := "loop.example/g00910/laws.FnAllowedHands", spec := "fnAllowedHands", unfollowed := true, recurses := true, apart := false }
def FnAllowedHandsSaid : Prop := fnAllowedHandsRow.holds Try.pinned (OpenSpec.ofChange fnAllowedHandsSpec)

/-- ITS FALSE NEIGHBOUR: 'it returns false'. Refute it at one input. -/
def fnAllowedHandsWrong : ChangeSpec := { name := "fnAllowedHands", fn := fun _ => fun
  | [d] => { results := [.lit (.bool false)], args := [d] }
  | _ => none }
def FnAllowedHandsWrongFalsely : Prop := fnAllowedHandsRow.holds Try.pinned (OpenSpec.ofChange fnAllowedHandsWrong)

/- THE SECOND FORM. 'bulk': how many values and letters a reading holds, each counted each time it is reached (what is shared counts as often as it is met; a slice's spare places count too). A statement '..UptoSaid' is the law's where the arguments, and the package variables that the reading takes, are together of bulk at most 1048576: NARROWER than '..Said'. Prove '..Said' where nothing that the law and all that it calls make is longer than what came in: it says more and counts as full. Else prove '..UptoSaid'. A law counts once. -/
mutual
def uptoBulk {H : Type} : DataW H → Nat
  | .lit (.string bytes) => bytes.length + 1
  | .lit _ => 1
  | .nil => 1
  | .ptr d => uptoBulk d + 1
  | .slice elems spare => uptoBulkAll elems + uptoBulkAll spare + 1
  | .agg parts => uptoBulkAll parts + 1
  | .iface _ d => uptoBulk d + 1
  | .map entries => uptoBulkEntries entries + 1
  | .held _ => 1
def uptoBulkAll {H : Type} : List (DataW H) → Nat
  | [] => 0
  | d :: r => uptoBulk d + uptoBulkAll r
def uptoBulkEntries {H : Type} : List (Lit × DataW H) → Nat
  | [] => 0
  | x :: r => uptoBulkEntry x + uptoBulkEntries r
def uptoBulkEntry {H : Type} : Lit × DataW H → Nat
  | (.string bytes, d) => bytes.length + uptoBulk d + 1
  | (_, d) => uptoBulk d + 1
 end
def uptoSmall : (H : Type) → List (DataW H) → Bool := fun _ ds => decide (uptoBulkAll ds ≤ 1048576)
def OpenSpec.upto (s : _root_.Go.ChangeSpec) : _root_.Go.OpenSpec := { _root_.Go.OpenSpec.ofChange s with cond := some uptoSmall }

/-- 'laws.FnBadugis', WHERE WHAT IT READS IS OF BULK AT MOST 1048576: true; the input reads as it did. -/
def fnBadugisUptoRow : OpenClaim := { program := "ytajkgnheijhbpaa", sum := "eba0253aac96d20a512064415cd682f695abd2e2a96aea845ad932274694b5cd", func := "loop.example/g00910/laws.FnBadugis", spec := "fnBadugis", unfollowed := true, recurses := true, apart := false, narrowed := true }
def FnBadugisUptoSaid : Prop := fnBadugisUptoRow.holds Try.pinned (OpenSpec.upto fnBadugisSpec)

/-- 'laws.FnExactAceValue', WHERE WHAT IT READS IS OF BULK AT MOST 1048576: true; the input reads as it did. -/
def fnExactAceValueUptoRow : OpenClaim := { program := "ytajkgnheijhbpaa", sum := "eba0253aac96d20a512064415cd682f695abd2e2a96aea845ad932274694b5cd", func := "loop.example/g00910/laws.FnExactAceValue", spec := "fnExactAceValue", unfollowed := true, recurses := true, apart := false, narrowed := true }
def FnExactAceValueUptoSaid : Prop := fnExactAceValueUptoRow.holds Try.pinned (OpenSpec.upto fnExactAceValueSpec)

/-- 'laws.FnExactBestAce', WHERE WHAT IT READS IS OF BULK AT MOST 1048576: true; the input reads as it did. -/
def fnExactBestAceUptoRow : OpenClaim := { program := "ytajkgnheijhbpaa", sum := "eba0253aac96d20a512064415cd682f695abd2e2a96aea845ad932274694b5cd", func := "loop.example/g00910/laws.FnExactBestAce", spec := "fnExactBestAce", unfollowed := true, recurses := true, apart := false, narrowed := true }
def FnExactBestAceUptoSaid : Prop := fnExactBestAceUptoRow.holds Try.pinned (OpenSpec.upto fnExactBestAceSpec)

/-- 'laws.FnExactIsVariant', WHERE WHAT IT READS IS OF BULK AT MOST 1048576: true; the input reads as it did. -/
def fnExactIsVariantUptoRow : OpenClaim := { program := "ytajkgnheijhbpaa", sum := "eba0253aac96d20a512064415cd682f695abd2e2a96aea845ad932274694b5cd", func := "loop.example/g00910/laws.FnExactIsVariant", spec := "fnExactIsVariant", apart := false, narrowed := true }
def FnExactIsVariantUptoSaid : Prop := fnExactIsVariantUptoRow.holds Try.pinned (OpenSpec.upto fnExactIsVariantSpec)

/-- 'laws.FnExactHandsIn', WHERE WHAT IT READS IS OF BULK AT MOST 1048576: true; the input reads as it did. -/
def fnExactHandsInUptoRow : OpenClaim := { program := "ytajkgnheijhbpaa", sum := "eba0253aac96d20a512064415cd682f695abd2e2a96aea845ad932274694b5cd", func := "loop.example/g00910/laws.FnExactHandsIn", spec := "fnExactHandsIn", unfollowed := true, recurses := true, apart := false, narrowed := true }
def FnExactHandsInUptoSaid : Prop := fnExactHandsInUptoRow.holds Try.pinned (OpenSpec.upto fnExactHandsInSpec)

/-- 'laws.FnExactCountHands', WHERE WHAT IT READS IS OF BULK AT MOST 1048576: true; the input reads as it did. -/
def fnExactCountHandsUptoRow : OpenClaim := { program := "ytajkgnheijhbpaa", sum := "eba0253aac96d20a512064415cd682f695abd2e2a96aea845ad932274694b5cd", func := "loop.example/g00910/laws.FnExactCountHands", spec := "fnExactCountHands", apart := false, narrowed := true }
def FnExactCountHandsUptoSaid : Prop := fnExactCountHandsUptoRow.holds Try.pinned (OpenSpec.upto fnExactCountHandsSpec)

/-- 'laws.FnAllowedHands', WHERE WHAT IT READS IS OF BULK AT MOST 1048576: true; the input reads as it did. -/
def fnAllowedHandsUptoRow : OpenClaim := { program := "ytajkgnheijhbpaa", sum := "eba0253aac96d20a512064415cd682f695abd2e2a96aea845ad932274694b5cd", func := "loop.example/g00910/laws.FnAllowedHands", spec := "fnAllowedHands", unfollowed := true, recurses := true, apart := false, narrowed := true }
def FnAllowedHandsUptoSaid : Prop := fnAllowedHandsUptoRow.holds Try.pinned (OpenSpec.upto fnAllowedHandsSpec)

end Rows
end Go.Proofs.Ytajkgnheijhbpaa
