/-
  No cell of these rows narrows 'for every input' (looked for: loops, veiled, ifaces, maps, wideKeys, modest, calm, conditions, laid).
  DERIVED. THE GIVEN ROWS OF THIS SEAT. 9 by the template 'for every input the law returns true; each argument reads behind the call as it read before'; 0 by the template 'total and deterministic' (their statements: YtlcimofhpphefaaTotals.lean).
  GIVEN WITH THE SEED: the statements are not yours to turn. If you find one false, say at which input.
  Laid BY PROGRAM, IN A SANDBOX (cutbox-rows.mjs): the forced cells as the released guide's own fill.sh prints them over the translation 4a4b1d201ee2a0bf… (all of the seat's roots in one cut). By AI agents, Wed Nov 11 2026. No macro, syntax, notation, axiom, sorry.
-/
import Derived.Test.YtlcimofhpphefaaChecked
import GoSem.Claim
import GoSem.ClaimJoined
import GoSem.ClaimMapViews
import Derived.JoinedTies
import Derived.KernelRfl
namespace Go.Proofs.Ytlcimofhpphefaa
/- THE CELL 'sum', in the pinned program and in every row, IS THE sha256 OF THE DUMP (.gsa) THAT YtlcimofhpphefaaProg.lean LOADS. Nothing in Lean hashes anything: it is a label: what it is worth is what the hold of that sum in a sandbox is worth. -/
noncomputable def Try.pinned : Pinned := { name := "ytlcimofhpphefaa", sum := "4a4b1d201ee2a0bf2b1b64a87259096e105500edc0539586c66df62e51b24df8", checked := Try.checked }
namespace Rows
def none {H : Type} : Left H := { results := [], args := [] }

/-- 'laws.FnExactArePayments': WHATEVER THE INPUT: true; the input reads as it did. -/
def fnExactArePaymentsSpec : ChangeSpec := { name := "fnExactArePayments", fn := fun _ => fun
  | [d1, d2] => { results := [.lit (.bool true)], args := [d1, d2] }
  | _ => none }
def fnExactArePaymentsRow : OpenClaim := { program := "ytlcimofhpphefaa", sum := "4a4b1d201ee2a0bf2b1b64a87259096e105500edc0539586c66df62e51b24df8", func := "loop.example/g00910/laws.FnExactArePayments", spec := "fnExactArePayments", unfollowed := true, recurses := true, apart := false }
def FnExactArePaymentsSaid : Prop := fnExactArePaymentsRow.holds Try.pinned (OpenSpec.ofChange fnExactArePaymentsSpec)

/-- ITS FALSE NEIGHBOUR: 'it returns false'. Refute it at one input. -/
def fnExactArePaymentsWrong : ChangeSpec := { name := "fnExactArePayments", fn := fun _ => fun
  | [d1, d2] => { results := [.lit (.bool false)], args := [d1, d2] }
  | _ => none }
def FnExactArePaymentsWrongFalsely : Prop := fnExactArePaymentsRow.holds Try.pinned (OpenSpec.ofChange fnExactArePaymentsWrong)

/-- 'laws.FnExactUncalledOf': WHATEVER THE INPUT: true; the input reads as it did. -/
def fnExactUncalledOfSpec : ChangeSpec := { name := "fnExactUncalledOf", fn := fun _ => fun
  | [d1, d2] => { results := [.lit (.bool true)], args := [d1, d2] }
  | _ => none }
def fnExactUncalledOfRow : OpenClaim := { program := "ytlcimofhpphefaa", sum := "4a4b1d201ee2a0bf2b1b64a87259096e105500edc0539586c66df62e51b24df8", func := "loop.example/g00910/laws.FnExactUncalledOf", spec := "fnExactUncalledOf", unfollowed := true, recurses := true, apart := false }
def FnExactUncalledOfSaid : Prop := fnExactUncalledOfRow.holds Try.pinned (OpenSpec.ofChange fnExactUncalledOfSpec)

/-- ITS FALSE NEIGHBOUR: 'it returns false'. Refute it at one input. -/
def fnExactUncalledOfWrong : ChangeSpec := { name := "fnExactUncalledOf", fn := fun _ => fun
  | [d1, d2] => { results := [.lit (.bool false)], args := [d1, d2] }
  | _ => none }
def FnExactUncalledOfWrongFalsely : Prop := fnExactUncalledOfRow.holds Try.pinned (OpenSpec.ofChange fnExactUncalledOfWrong)

/-- 'laws.FnExactPotsOf': WHATEVER THE INPUT: true; the input reads as it did. -/
def fnExactPotsOfSpec : ChangeSpec := { name := "fnExactPotsOf", fn := fun _ => fun
  | [d1, d2] => { results := [.lit (.bool true)], args := [d1, d2] }
  | _ => none }
def fnExactPotsOfRow : OpenClaim := { program := "ytlcimofhpphefaa", sum := "4a4b1d201ee2a0bf2b1b64a87259096e105500edc0539586c66df62e51b24df8", func := "loop.example/g00910/laws.FnExactPotsOf", spec := "fnExactPotsOf", unfollowed := true, recurses := true, apart := false }
def FnExactPotsOfSaid : Prop := fnExactPotsOfRow.holds Try.pinned (OpenSpec.ofChange fnExactPotsOfSpec)

/-- ITS FALSE NEIGHBOUR: 'it returns false'. Refute it at one input. -/
def fnExactPotsOfWrong : ChangeSpec := { name := "fnExactPotsOf", fn := fun _ => fun
  | [d1, d2] => { results := [.lit (.bool false)], args := [d1, d2] }
  | _ => none }
def FnExactPotsOfWrongFalsely : Prop := fnExactPotsOfRow.holds Try.pinned (OpenSpec.ofChange fnExactPotsOfWrong)

/-- 'laws.FnExactCountPots': WHATEVER THE INPUT: true; the input reads as it did. -/
def fnExactCountPotsSpec : ChangeSpec := { name := "fnExactCountPots", fn := fun _ => fun
  | [d1, d2] => { results := [.lit (.bool true)], args := [d1, d2] }
  | _ => none }
def fnExactCountPotsRow : OpenClaim := { program := "ytlcimofhpphefaa", sum := "4a4b1d201ee2a0bf2b1b64a87259096e105500edc0539586c66df62e51b24df8", func := "loop.example/g00910/laws.FnExactCountPots", spec := "fnExactCountPots", unfollowed := true, recurses := true, apart := false }
def FnExactCountPotsSaid : Prop := fnExactCountPotsRow.holds Try.pinned (OpenSpec.ofChange fnExactCountPotsSpec)

/-- ITS FALSE NEIGHBOUR: 'it returns false'. Refute it at one input. -/
def fnExactCountPotsWrong : ChangeSpec := { name := "fnExactCountPots", fn := fun _ => fun
  | [d1, d2] => { results := [.lit (.bool false)], args := [d1, d2] }
  | _ => none }
def FnExactCountPotsWrongFalsely : Prop := fnExactCountPotsRow.holds Try.pinned (OpenSpec.ofChange fnExactCountPotsWrong)

/-- 'laws.FnExactShareIn': WHATEVER THE INPUT: true; the input reads as it did. -/
def fnExactShareInSpec : ChangeSpec := { name := "fnExactShareIn", fn := fun _ => fun
  | [d1, d2, d3] => { results := [.lit (.bool true)], args := [d1, d2, d3] }
  | _ => none }
def fnExactShareInRow : OpenClaim := { program := "ytlcimofhpphefaa", sum := "4a4b1d201ee2a0bf2b1b64a87259096e105500edc0539586c66df62e51b24df8", func := "loop.example/g00910/laws.FnExactShareIn", spec := "fnExactShareIn", unfollowed := true, recurses := true, apart := false }
def FnExactShareInSaid : Prop := fnExactShareInRow.holds Try.pinned (OpenSpec.ofChange fnExactShareInSpec)

/-- ITS FALSE NEIGHBOUR: 'it returns false'. Refute it at one input. -/
def fnExactShareInWrong : ChangeSpec := { name := "fnExactShareIn", fn := fun _ => fun
  | [d1, d2, d3] => { results := [.lit (.bool false)], args := [d1, d2, d3] }
  | _ => none }
def FnExactShareInWrongFalsely : Prop := fnExactShareInRow.holds Try.pinned (OpenSpec.ofChange fnExactShareInWrong)

/-- 'laws.FnExactRefundOf': WHATEVER THE INPUT: true; the input reads as it did. -/
def fnExactRefundOfSpec : ChangeSpec := { name := "fnExactRefundOf", fn := fun _ => fun
  | [d1, d2] => { results := [.lit (.bool true)], args := [d1, d2] }
  | _ => none }
def fnExactRefundOfRow : OpenClaim := { program := "ytlcimofhpphefaa", sum := "4a4b1d201ee2a0bf2b1b64a87259096e105500edc0539586c66df62e51b24df8", func := "loop.example/g00910/laws.FnExactRefundOf", spec := "fnExactRefundOf", unfollowed := true, recurses := true, apart := false }
def FnExactRefundOfSaid : Prop := fnExactRefundOfRow.holds Try.pinned (OpenSpec.ofChange fnExactRefundOfSpec)

/-- ITS FALSE NEIGHBOUR: 'it returns false'. Refute it at one input. -/
def fnExactRefundOfWrong : ChangeSpec := { name := "fnExactRefundOf", fn := fun _ => fun
  | [d1, d2] => { results := [.lit (.bool false)], args := [d1, d2] }
  | _ => none }
def FnExactRefundOfWrongFalsely : Prop := fnExactRefundOfRow.holds Try.pinned (OpenSpec.ofChange fnExactRefundOfWrong)

/-- 'laws.FnExactMainPot': WHATEVER THE INPUT: true; the input reads as it did. -/
def fnExactMainPotSpec : ChangeSpec := { name := "fnExactMainPot", fn := fun _ => fun
  | [d1, d2] => { results := [.lit (.bool true)], args := [d1, d2] }
  | _ => none }
def fnExactMainPotRow : OpenClaim := { program := "ytlcimofhpphefaa", sum := "4a4b1d201ee2a0bf2b1b64a87259096e105500edc0539586c66df62e51b24df8", func := "loop.example/g00910/laws.FnExactMainPot", spec := "fnExactMainPot", unfollowed := true, recurses := true, apart := false }
def FnExactMainPotSaid : Prop := fnExactMainPotRow.holds Try.pinned (OpenSpec.ofChange fnExactMainPotSpec)

/-- ITS FALSE NEIGHBOUR: 'it returns false'. Refute it at one input. -/
def fnExactMainPotWrong : ChangeSpec := { name := "fnExactMainPot", fn := fun _ => fun
  | [d1, d2] => { results := [.lit (.bool false)], args := [d1, d2] }
  | _ => none }
def FnExactMainPotWrongFalsely : Prop := fnExactMainPotRow.holds Try.pinned (OpenSpec.ofChange fnExactMainPotWrong)

/-- 'laws.FnPots': WHATEVER THE INPUT: true; the input reads as it did. -/
def fnPotsSpec : ChangeSpec := { name := "fnPots", fn := fun _ => fun
  | [d] => { results := [.lit (.bool true)], args := [d] }
  | _ => none }
def fnPotsRow : OpenClaim := { program := "ytlcimofhpphefaa", sum := "4a4b1d201ee2a0bf2b1b64a87259096e105500edc0539586c66df62e51b24df8", func := "loop.example/g00910/laws.FnPots", spec := "fnPots", unfollowed := true, recurses := true, apart := false }
def FnPotsSaid : Prop := fnPotsRow.holds Try.pinned (OpenSpec.ofChange fnPotsSpec)

/-- ITS FALSE NEIGHBOUR: 'it returns false'. Refute it at one input. -/
def fnPotsWrong : ChangeSpec := { name := "fnPots", fn := fun _ => fun
  | [d] => { results := [.lit (.bool false)], args := [d] }
  | _ => none }
def FnPotsWrongFalsely : Prop := fnPotsRow.holds Try.pinned (OpenSpec.ofChange fnPotsWrong)

/-- 'laws.FnShares': WHATEVER THE INPUT: true; the input reads as it did. -/
def fnSharesSpec : ChangeSpec := { name := "fnShares", fn := fun _ => fun
  | [d] => { results := [.lit (.bool true)], args := [d] }
  | _ => none }
def fnSharesRow : OpenClaim := { program := "ytlcimofhpphefaa", sum := "4a4b1d201ee2a0bf2b1b64a87259096e105500edc0539586c66df62e51b24df8", func := "loop.example/g00910/laws.FnShares", spec := "fnShares", unfollowed := true, recurses := true, apart := false }
def FnSharesSaid : Prop := fnSharesRow.holds Try.pinned (OpenSpec.ofChange fnSharesSpec)

/-- ITS FALSE NEIGHBOUR: 'it returns false'. Refute it at one input. -/
def fnSharesWrong : ChangeSpec := { name := "fnShares", fn := fun _ => fun
  | [d] => { results := [.lit (.bool false)], args := [d] }
  | _ => none }
def FnSharesWrongFalsely : Prop := fnSharesRow.holds Try.pinned (OpenSpec.ofChange fnSharesWrong)

/- THE SECOND FORM. 'bulk': how many values and letters a reading holds, each counted each time it is reached (what is shared counts as often as it is met; a slice's spare places count too). A statement '..UptoSaid' is the law's where the arguments, and the package variables that the reading takes, are together of bulk at most 1048576: NARROWER than '..Said'. Prove '..Said' where nothing that the law and all that it calls make is longer than what came in: it says more and counts as full. Else prove '..UptoSaid'. A law counts once. -/
mutual
def uptoBulk {H : Type} : DataW H → Nat
  | .lit (.string bytes) => bytes.length + 1
  | .lit _ => 1
  | .nil => 1
  | .ptr d => uptoBulk d + 1
  | .slice elems spare => uptoBulkAll elems + uptoBulkAll spare + 1
  | .agg parts => uptoBulkAll parts + 1
  | .iface _ d => uptoBulk d + 1
  | .map entries => uptoBulkEntries entries + 1
  | .held _ => 1
def uptoBulkAll {H : Type} : List (DataW H) → Nat
  | [] => 0
  | d :: r => uptoBulk d + uptoBulkAll r
def uptoBulkEntries {H : Type} : List (Lit × DataW H) → Nat
  | [] => 0
  | x :: r => uptoBulkEntry x + uptoBulkEntries r
def uptoBulkEntry {H : Type} : Lit × DataW H → Nat
  | (.string bytes, d) => bytes.length + uptoBulk d + 1
  | (_, d) => uptoBulk d + 1
 end
def uptoSmall : (H : Type) → List (DataW H) → Bool := fun _ ds => decide (uptoBulkAll ds ≤ 1048576)
def OpenSpec.upto (s : _root_.Go.ChangeSpec) : _root_.Go.OpenSpec := { _root_.Go.OpenSpec.ofChange s with cond := some uptoSmall }

/-- 'laws.FnExactArePayments', WHERE WHAT IT READS IS OF BULK AT MOST 1048576: true; the input reads as it did. -/
def fnExactArePaymentsUptoRow : OpenClaim := { program := "ytlcimofhpphefaa", sum := "4a4b1d201ee2a0bf2b1b64a87259096e105500edc0539586c66df62e51b24df8", func := "loop.example/g00910/laws.FnExactArePayments", spec := "fnExactArePayments", unfollowed := true, recurses := true, apart := false, narrowed := true }
def FnExactArePaymentsUptoSaid : Prop := fnExactArePaymentsUptoRow.holds Try.pinned (OpenSpec.upto fnExactArePaymentsSpec)

/-- 'laws.FnExactUncalledOf', WHERE WHAT IT READS IS OF BULK AT MOST 1048576: true; the input reads as it did. -/
def fnExactUncalledOfUptoRow : OpenClaim := { program := "ytlcimofhpphefaa", sum := "4a4b1d201ee2a0bf2b1b64a87259096e105500edc0539586c66df62e51b24df8", func := "loop.example/g00910/laws.FnExactUncalledOf", spec := "fnExactUncalledOf", unfollowed := true, recurses := true, apart := false, narrowed := true }
def FnExactUncalledOfUptoSaid : Prop := fnExactUncalledOfUptoRow.holds Try.pinned (OpenSpec.upto fnExactUncalledOfSpec)

/-- 'laws.FnExactPotsOf', WHERE WHAT IT READS IS OF BULK AT MOST 1048576: true; the input reads as it did. -/
def fnExactPotsOfUptoRow : OpenClaim := { program := "ytlcimofhpphefaa", sum := "4a4b1d201ee2a0bf2b1b64a87259096e105500edc0539586c66df62e51b24df8", func := "loop.example/g00910/laws.FnExactPotsOf", spec := "fnExactPotsOf", unfollowed := true, recurses := true, apart := false, narrowed := true }
def FnExactPotsOfUptoSaid : Prop := fnExactPotsOfUptoRow.holds Try.pinned (OpenSpec.upto fnExactPotsOfSpec)

/-- 'laws.FnExactCountPots', WHERE WHAT IT READS IS OF BULK AT MOST 1048576: true; the input reads as it did. -/
def fnExactCountPotsUptoRow : OpenClaim := { program := "ytlcimofhpphefaa", sum := "4a4b1d201ee2a0bf2b1b64a87259096e105500edc0539586c66df62e51b24df8", func := "loop.example/g00910/laws.FnExactCountPots", spec := "fnExactCountPots", unfollowed := true, recurses := true, apart := false, narrowed := true }
def FnExactCountPotsUptoSaid : Prop := fnExactCountPotsUptoRow.holds Try.pinned (OpenSpec.upto fnExactCountPotsSpec)

/-- 'laws.FnExactShareIn', WHERE WHAT IT READS IS OF BULK AT MOST 1048576: true; the input reads as it did. -/
def fnExactShareInUptoRow : OpenClaim := { program := "ytlcimofhpphefaa", sum := "4a4b1d201ee2a0bf2b1b64a87259096e105500edc0539586c66df62e51b24df8", func := "loop.example/g00910/laws.FnExactShareIn", spec := "fnExactShareIn", unfollowed := true, recurses := true, apart := false, narrowed := true }
def FnExactShareInUptoSaid : Prop := fnExactShareInUptoRow.holds Try.pinned (OpenSpec.upto fnExactShareInSpec)

/-- 'laws.FnExactRefundOf', WHERE WHAT IT READS IS OF BULK AT MOST 1048576: true; the input reads as it did. -/
def fnExactRefundOfUptoRow : OpenClaim := { program := "ytlcimofhpphefaa", sum := "4a4b1d201ee2a0bf2b1b64a87259096e105500edc0539586c66df62e51b24df8", func := "loop.example/g00910/laws.FnExactRefundOf", spec := "fnExactRefundOf", unfollowed := true, recurses := true, apart := false, narrowed := true }
def FnExactRefundOfUptoSaid : Prop := fnExactRefundOfUptoRow.holds Try.pinned (OpenSpec.upto fnExactRefundOfSpec)

/-- 'laws.FnExactMainPot', WHERE WHAT IT READS IS OF BULK AT MOST 1048576: true; the input reads as it did. -/
def fnExactMainPotUptoRow : OpenClaim := { program := "ytlcimofhpphefaa", sum := "4a4b1d201ee2a0bf2b1b64a87259096e105500edc0539586c66df62e51b24df8", func := "loop.example/g00910/laws.FnExactMainPot", spec := "fnExactMainPot", unfollowed := true, recurses := true, apart := false, narrowed := true }
def FnExactMainPotUptoSaid : Prop := fnExactMainPotUptoRow.holds Try.pinned (OpenSpec.upto fnExactMainPotSpec)

/-- 'laws.FnPots', WHERE WHAT IT READS IS OF BULK AT MOST 1048576: true; the input reads as it did. -/
def fnPotsUptoRow : OpenClaim := { program := "ytlcimofhpphefaa", sum := "4a4b1d201ee2a0bf2b1b64a87259096e105500edc0539586c66df62e51b24df8", func := "loop.example/g00910/laws.FnPots", spec := "fnPots", unfollowed := true, recurses := true, apart := false, narrowed := true }
def FnPotsUptoSaid : Prop := fnPotsUptoRow.holds Try.pinned (OpenSpec.upto fnPotsSpec)

/-- 'laws.FnShares', WHERE WHAT IT READS IS OF BULK AT MOST 1048576: true; the input reads as it did. -/
def fnSharesUptoRow : OpenClaim := { program := "ytlcimofhpphefaa", sum := "4a4b1d201ee2a0bf2b1b64a87259096e105500edc0539586c66df62e51b24df8", func := "loop.example/g00910/laws.FnShares", spec := "fnShares", unfollowed := true, recurses := true, apart := false, narrowed := true }
def FnSharesUptoSaid : Prop := fnSharesUptoRow.holds Try.pinned (OpenSpec.upto fnSharesSpec)

end Rows
end Go.Proofs.Ytlcimofhpphefaa
