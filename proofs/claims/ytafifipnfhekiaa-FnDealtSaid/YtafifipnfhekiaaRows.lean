/-
  No cell of these rows narrows 'for every input' (looked for: loops, veiled, ifaces, maps, wideKeys, modest, calm, conditions, laid).
  DERIVED. THE GIVEN ROWS OF THIS SEAT. 10 by the template 'for every input the law returns true; each argument reads behind the call as it read before'; 0 by the template 'total and deterministic' (their statements: YtafifipnfhekiaaTotals.lean).
  GIVEN WITH THE SEED: the statements are not yours to turn. If you find one false, say at which input.
  Laid BY PROGRAM, IN A SANDBOX (cutbox-rows.mjs): the forced cells as the released guide's own fill.sh prints them over the translation 26dd489777d7d40f… (all of the seat's roots in one cut). By AI agents, Wed Nov 11 2026. No macro, syntax, notation, axiom, sorry.
-/
import Derived.Test.YtafifipnfhekiaaChecked
import GoSem.Claim
import GoSem.ClaimJoined
import GoSem.ClaimMapViews
import Derived.JoinedTies
import Derived.KernelRfl
namespace Go.Proofs.Ytafifipnfhekiaa
/- THE CELL 'sum', in the pinned program and in every row, IS THE sha256 OF THE DUMP (.gsa) THAT YtafifipnfhekiaaProg.lean LOADS. Nothing in Lean hashes anything: it is a label: what it is worth is what the hold of that sum in a sandbox is worth. -/
noncomputable def Try.pinned : Pinned := { name := "ytafifipnfhekiaa", sum := "26dd489777d7d40f534611acf09b59344c9bfb3eb051fd2c1d66029d310c5273", checked := Try.checked }
namespace Rows
def none {H : Type} : Left H := { results := [], args := [] }

/-- 'laws.FnRiffles': WHATEVER THE INPUT: true; the input reads as it did. -/
def fnRifflesSpec : ChangeSpec := { name := "fnRiffles", fn := fun _ => fun
  | [d] => { results := [.lit (.bool true)], args := [d] }
  | _ => none }
def fnRifflesRow : OpenClaim := { program := "ytafifipnfhekiaa", sum := "26dd489777d7d40f534611acf09b59344c9bfb3eb051fd2c1d66029d310c5273", func := "loop.example/g00910/laws.FnRiffles", spec := "fnRiffles", unfollowed := true, recurses := true, apart := false }
def FnRifflesSaid : Prop := fnRifflesRow.holds Try.pinned (OpenSpec.ofChange fnRifflesSpec)

/-- ITS FALSE NEIGHBOUR: 'it returns false'. Refute it at one input. -/
def fnRifflesWrong : ChangeSpec := { name := "fnRiffles", fn := fun _ => fun
  | [d] => { results := [.lit (.bool false)], args := [d] }
  | _ => none }
def FnRifflesWrongFalsely : Prop := fnRifflesRow.holds Try.pinned (OpenSpec.ofChange fnRifflesWrong)

/-- 'laws.FnDealt': WHATEVER THE INPUT: true; the input reads as it did. -/
def fnDealtSpec : ChangeSpec := { name := "fnDealt", fn := fun _ => fun
  | [d] => { results := [.lit (.bool true)], args := [d] }
  | _ => none }
def fnDealtRow : OpenClaim := { program := "ytafifipnfhekiaa", sum := "26dd489777d7d40f534611acf09b59344c9bfb3eb051fd2c1d66029d310c5273", func := "loop.example/g00910/laws.FnDealt", spec := "fnDealt", apart := false }
def FnDealtSaid : Prop := fnDealtRow.holds Try.pinned (OpenSpec.ofChange fnDealtSpec)

/-- ITS FALSE NEIGHBOUR: 'it returns false'. Refute it at one input. -/
def fnDealtWrong : ChangeSpec := { name := "fnDealt", fn := fun _ => fun
  | [d] => { results := [.lit (.bool false)], args := [d] }
  | _ => none }
def FnDealtWrongFalsely : Prop := fnDealtRow.holds Try.pinned (OpenSpec.ofChange fnDealtWrong)

/-- 'laws.FnExactIsDeck': WHATEVER THE INPUT: true; the input reads as it did. -/
def fnExactIsDeckSpec : ChangeSpec := { name := "fnExactIsDeck", fn := fun _ => fun
  | [d] => { results := [.lit (.bool true)], args := [d] }
  | _ => none }
def fnExactIsDeckRow : OpenClaim := { program := "ytafifipnfhekiaa", sum := "26dd489777d7d40f534611acf09b59344c9bfb3eb051fd2c1d66029d310c5273", func := "loop.example/g00910/laws.FnExactIsDeck", spec := "fnExactIsDeck", apart := false }
def FnExactIsDeckSaid : Prop := fnExactIsDeckRow.holds Try.pinned (OpenSpec.ofChange fnExactIsDeckSpec)

/-- ITS FALSE NEIGHBOUR: 'it returns false'. Refute it at one input. -/
def fnExactIsDeckWrong : ChangeSpec := { name := "fnExactIsDeck", fn := fun _ => fun
  | [d] => { results := [.lit (.bool false)], args := [d] }
  | _ => none }
def FnExactIsDeckWrongFalsely : Prop := fnExactIsDeckRow.holds Try.pinned (OpenSpec.ofChange fnExactIsDeckWrong)

/-- 'laws.FnExactNextSeed': WHATEVER THE INPUT: true; the input reads as it did. -/
def fnExactNextSeedSpec : ChangeSpec := { name := "fnExactNextSeed", fn := fun _ => fun
  | [d] => { results := [.lit (.bool true)], args := [d] }
  | _ => none }
def fnExactNextSeedRow : OpenClaim := { program := "ytafifipnfhekiaa", sum := "26dd489777d7d40f534611acf09b59344c9bfb3eb051fd2c1d66029d310c5273", func := "loop.example/g00910/laws.FnExactNextSeed", spec := "fnExactNextSeed", unfollowed := true, recurses := true, apart := false }
def FnExactNextSeedSaid : Prop := fnExactNextSeedRow.holds Try.pinned (OpenSpec.ofChange fnExactNextSeedSpec)

/-- ITS FALSE NEIGHBOUR: 'it returns false'. Refute it at one input. -/
def fnExactNextSeedWrong : ChangeSpec := { name := "fnExactNextSeed", fn := fun _ => fun
  | [d] => { results := [.lit (.bool false)], args := [d] }
  | _ => none }
def FnExactNextSeedWrongFalsely : Prop := fnExactNextSeedRow.holds Try.pinned (OpenSpec.ofChange fnExactNextSeedWrong)

/-- 'laws.FnExactCutDeck': WHATEVER THE INPUT: true; the input reads as it did. -/
def fnExactCutDeckSpec : ChangeSpec := { name := "fnExactCutDeck", fn := fun _ => fun
  | [d1, d2] => { results := [.lit (.bool true)], args := [d1, d2] }
  | _ => none }
def fnExactCutDeckRow : OpenClaim := { program := "ytafifipnfhekiaa", sum := "26dd489777d7d40f534611acf09b59344c9bfb3eb051fd2c1d66029d310c5273", func := "loop.example/g00910/laws.FnExactCutDeck", spec := "fnExactCutDeck", unfollowed := true, recurses := true, apart := false }
def FnExactCutDeckSaid : Prop := fnExactCutDeckRow.holds Try.pinned (OpenSpec.ofChange fnExactCutDeckSpec)

/-- ITS FALSE NEIGHBOUR: 'it returns false'. Refute it at one input. -/
def fnExactCutDeckWrong : ChangeSpec := { name := "fnExactCutDeck", fn := fun _ => fun
  | [d1, d2] => { results := [.lit (.bool false)], args := [d1, d2] }
  | _ => none }
def FnExactCutDeckWrongFalsely : Prop := fnExactCutDeckRow.holds Try.pinned (OpenSpec.ofChange fnExactCutDeckWrong)

/-- 'laws.FnExactRiffleDeck': WHATEVER THE INPUT: true; the input reads as it did. -/
def fnExactRiffleDeckSpec : ChangeSpec := { name := "fnExactRiffleDeck", fn := fun _ => fun
  | [d] => { results := [.lit (.bool true)], args := [d] }
  | _ => none }
def fnExactRiffleDeckRow : OpenClaim := { program := "ytafifipnfhekiaa", sum := "26dd489777d7d40f534611acf09b59344c9bfb3eb051fd2c1d66029d310c5273", func := "loop.example/g00910/laws.FnExactRiffleDeck", spec := "fnExactRiffleDeck", unfollowed := true, recurses := true, apart := false }
def FnExactRiffleDeckSaid : Prop := fnExactRiffleDeckRow.holds Try.pinned (OpenSpec.ofChange fnExactRiffleDeckSpec)

/-- ITS FALSE NEIGHBOUR: 'it returns false'. Refute it at one input. -/
def fnExactRiffleDeckWrong : ChangeSpec := { name := "fnExactRiffleDeck", fn := fun _ => fun
  | [d] => { results := [.lit (.bool false)], args := [d] }
  | _ => none }
def FnExactRiffleDeckWrongFalsely : Prop := fnExactRiffleDeckRow.holds Try.pinned (OpenSpec.ofChange fnExactRiffleDeckWrong)

/-- 'laws.FnExactUnriffleDeck': WHATEVER THE INPUT: true; the input reads as it did. -/
def fnExactUnriffleDeckSpec : ChangeSpec := { name := "fnExactUnriffleDeck", fn := fun _ => fun
  | [d] => { results := [.lit (.bool true)], args := [d] }
  | _ => none }
def fnExactUnriffleDeckRow : OpenClaim := { program := "ytafifipnfhekiaa", sum := "26dd489777d7d40f534611acf09b59344c9bfb3eb051fd2c1d66029d310c5273", func := "loop.example/g00910/laws.FnExactUnriffleDeck", spec := "fnExactUnriffleDeck", unfollowed := true, recurses := true, apart := false }
def FnExactUnriffleDeckSaid : Prop := fnExactUnriffleDeckRow.holds Try.pinned (OpenSpec.ofChange fnExactUnriffleDeckSpec)

/-- ITS FALSE NEIGHBOUR: 'it returns false'. Refute it at one input. -/
def fnExactUnriffleDeckWrong : ChangeSpec := { name := "fnExactUnriffleDeck", fn := fun _ => fun
  | [d] => { results := [.lit (.bool false)], args := [d] }
  | _ => none }
def FnExactUnriffleDeckWrongFalsely : Prop := fnExactUnriffleDeckRow.holds Try.pinned (OpenSpec.ofChange fnExactUnriffleDeckWrong)

/-- 'laws.FnExactPlaceOf': WHATEVER THE INPUT: true; the input reads as it did. -/
def fnExactPlaceOfSpec : ChangeSpec := { name := "fnExactPlaceOf", fn := fun _ => fun
  | [d1, d2] => { results := [.lit (.bool true)], args := [d1, d2] }
  | _ => none }
def fnExactPlaceOfRow : OpenClaim := { program := "ytafifipnfhekiaa", sum := "26dd489777d7d40f534611acf09b59344c9bfb3eb051fd2c1d66029d310c5273", func := "loop.example/g00910/laws.FnExactPlaceOf", spec := "fnExactPlaceOf", apart := false }
def FnExactPlaceOfSaid : Prop := fnExactPlaceOfRow.holds Try.pinned (OpenSpec.ofChange fnExactPlaceOfSpec)

/-- ITS FALSE NEIGHBOUR: 'it returns false'. Refute it at one input. -/
def fnExactPlaceOfWrong : ChangeSpec := { name := "fnExactPlaceOf", fn := fun _ => fun
  | [d1, d2] => { results := [.lit (.bool false)], args := [d1, d2] }
  | _ => none }
def FnExactPlaceOfWrongFalsely : Prop := fnExactPlaceOfRow.holds Try.pinned (OpenSpec.ofChange fnExactPlaceOfWrong)

/-- 'laws.FnExactDealHands': WHATEVER THE INPUT: true; the input reads as it did. -/
def fnExactDealHandsSpec : ChangeSpec := { name := "fnExactDealHands", fn := fun _ => fun
  | [d1, d2, d3] => { results := [.lit (.bool true)], args := [d1, d2, d3] }
  | _ => none }
def fnExactDealHandsRow : OpenClaim := { program := "ytafifipnfhekiaa", sum := "26dd489777d7d40f534611acf09b59344c9bfb3eb051fd2c1d66029d310c5273", func := "loop.example/g00910/laws.FnExactDealHands", spec := "fnExactDealHands", apart := false }
def FnExactDealHandsSaid : Prop := fnExactDealHandsRow.holds Try.pinned (OpenSpec.ofChange fnExactDealHandsSpec)

/-- ITS FALSE NEIGHBOUR: 'it returns false'. Refute it at one input. -/
def fnExactDealHandsWrong : ChangeSpec := { name := "fnExactDealHands", fn := fun _ => fun
  | [d1, d2, d3] => { results := [.lit (.bool false)], args := [d1, d2, d3] }
  | _ => none }
def FnExactDealHandsWrongFalsely : Prop := fnExactDealHandsRow.holds Try.pinned (OpenSpec.ofChange fnExactDealHandsWrong)

/-- 'laws.FnExactRestOfDeck': WHATEVER THE INPUT: true; the input reads as it did. -/
def fnExactRestOfDeckSpec : ChangeSpec := { name := "fnExactRestOfDeck", fn := fun _ => fun
  | [d1, d2] => { results := [.lit (.bool true)], args := [d1, d2] }
  | _ => none }
def fnExactRestOfDeckRow : OpenClaim := { program := "ytafifipnfhekiaa", sum := "26dd489777d7d40f534611acf09b59344c9bfb3eb051fd2c1d66029d310c5273", func := "loop.example/g00910/laws.FnExactRestOfDeck", spec := "fnExactRestOfDeck", apart := false }
def FnExactRestOfDeckSaid : Prop := fnExactRestOfDeckRow.holds Try.pinned (OpenSpec.ofChange fnExactRestOfDeckSpec)

/-- ITS FALSE NEIGHBOUR: 'it returns false'. Refute it at one input. -/
def fnExactRestOfDeckWrong : ChangeSpec := { name := "fnExactRestOfDeck", fn := fun _ => fun
  | [d1, d2] => { results := [.lit (.bool false)], args := [d1, d2] }
  | _ => none }
def FnExactRestOfDeckWrongFalsely : Prop := fnExactRestOfDeckRow.holds Try.pinned (OpenSpec.ofChange fnExactRestOfDeckWrong)

/- THE SECOND FORM. 'bulk': how many values and letters a reading holds, each counted each time it is reached (what is shared counts as often as it is met; a slice's spare places count too). A statement '..UptoSaid' is the law's where the arguments, and the package variables that the reading takes, are together of bulk at most 1048576: NARROWER than '..Said'. Prove '..Said' where nothing that the law and all that it calls make is longer than what came in: it says more and counts as full. Else prove '..UptoSaid'. A law counts once. -/
mutual
def uptoBulk {H : Type} : DataW H → Nat
  | .lit (.string bytes) => bytes.length + 1
  | .lit _ => 1
  | .nil => 1
  | .ptr d => uptoBulk d + 1
  | .slice elems spare => uptoBulkAll elems + uptoBulkAll spare + 1
  | .agg parts => uptoBulkAll parts + 1
  | .iface _ d => uptoBulk d + 1
  | .map entries => uptoBulkEntries entries + 1
  | .held _ => 1
def uptoBulkAll {H : Type} : List (DataW H) → Nat
  | [] => 0
  | d :: r => uptoBulk d + uptoBulkAll r
def uptoBulkEntries {H : Type} : List (Lit × DataW H) → Nat
  | [] => 0
  | x :: r => uptoBulkEntry x + uptoBulkEntries r
def uptoBulkEntry {H : Type} : Lit × DataW H → Nat
  | (.string bytes, d) => bytes.length + uptoBulk d + 1
  | (_, d) => uptoBulk d + 1
 end
def uptoSmall : (H : Type) → List (DataW H) → Bool := fun _ ds => decide (uptoBulkAll ds ≤ 1048576)
def OpenSpec.upto (s : _root_.Go.ChangeSpec) : _root_.Go.OpenSpec := { _root_.Go.OpenSpec.ofChange s with cond := some uptoSmall }

/-- 'laws.FnRiffles', WHERE WHAT IT READS IS OF BULK AT MOST 1048576: true; the input reads as it did. -/
def fnRifflesUptoRow : OpenClaim := { program := "ytafifipnfhekiaa", sum := "26dd489777d7d40f534611acf09b59344c9bfb3eb051fd2c1d66029d310c5273", func := "loop.example/g00910/laws.FnRiffles", spec := "fnRiffles", unfollowed := true, recurses := true, apart := false, narrowed := true }
def FnRifflesUptoSaid : Prop := fnRifflesUptoRow.holds Try.pinned (OpenSpec.upto fnRifflesSpec)

/-- 'laws.FnDealt', WHERE WHAT IT READS IS OF BULK AT MOST 1048576: true; the input reads as it did. -/
def fnDealtUptoRow : OpenClaim := { program := "ytafifipnfhekiaa", sum := "26dd489777d7d40f534611acf09b59344c9bfb3eb051fd2c1d66029d310c5273", func := "loop.example/g00910/laws.FnDealt", spec := "fnDealt", apart := false, narrowed := true }
def FnDealtUptoSaid : Prop := fnDealtUptoRow.holds Try.pinned (OpenSpec.upto fnDealtSpec)

/-- 'laws.FnExactIsDeck', WHERE WHAT IT READS IS OF BULK AT MOST 1048576: true; the input reads as it did. -/
def fnExactIsDeckUptoRow : OpenClaim := { program := "ytafifipnfhekiaa", sum := "26dd489777d7d40f534611acf09b59344c9bfb3eb051fd2c1d66029d310c5273", func := "loop.example/g00910/laws.FnExactIsDeck", spec := "fnExactIsDeck", apart := false, narrowed := true }
def FnExactIsDeckUptoSaid : Prop := fnExactIsDeckUptoRow.holds Try.pinned (OpenSpec.upto fnExactIsDeckSpec)

/-- 'laws.FnExactNextSeed', WHERE WHAT IT READS IS OF BULK AT MOST 1048576: true; the input reads as it did. -/
def fnExactNextSeedUptoRow : OpenClaim := { program := "ytafifipnfhekiaa", sum := "26dd489777d7d40f534611acf09b59344c9bfb3eb051fd2c1d66029d310c5273", func := "loop.example/g00910/laws.FnExactNextSeed", spec := "fnExactNextSeed", unfollowed := true, recurses := true, apart := false, narrowed := true }
def FnExactNextSeedUptoSaid : Prop := fnExactNextSeedUptoRow.holds Try.pinned (OpenSpec.upto fnExactNextSeedSpec)

/-- 'laws.FnExactCutDeck', WHERE WHAT IT READS IS OF BULK AT MOST 1048576: true; the input reads as it did. -/
def fnExactCutDeckUptoRow : OpenClaim := { program := "ytafifipnfhekiaa", sum := "26dd489777d7d40f534611acf09b59344c9bfb3eb051fd2c1d66029d310c5273", func := "loop.example/g00910/laws.FnExactCutDeck", spec := "fnExactCutDeck", unfollowed := true, recurses := true, apart := false, narrowed := true }
def FnExactCutDeckUptoSaid : Prop := fnExactCutDeckUptoRow.holds Try.pinned (OpenSpec.upto fnExactCutDeckSpec)

/-- 'laws.FnExactRiffleDeck', WHERE WHAT IT READS IS OF BULK AT MOST 1048576: true; the input reads as it did. -/
def fnExactRiffleDeckUptoRow : OpenClaim := { program := "ytafifipnfhekiaa", sum := "26dd489777d7d40f534611acf09b59344c9bfb3eb051fd2c1d66029d310c5273", func := "loop.example/g00910/laws.FnExactRiffleDeck", spec := "fnExactRiffleDeck", unfollowed := true, recurses := true, apart := false, narrowed := true }
def FnExactRiffleDeckUptoSaid : Prop := fnExactRiffleDeckUptoRow.holds Try.pinned (OpenSpec.upto fnExactRiffleDeckSpec)

/-- 'laws.FnExactUnriffleDeck', WHERE WHAT IT READS IS OF BULK AT MOST 1048576: true; the input reads as it did. -/
def fnExactUnriffleDeckUptoRow : OpenClaim := { program := "ytafifipnfhekiaa", sum := "26dd489777d7d40f534611acf09b59344c9bfb3eb051fd2c1d66029d310c5273", func := "loop.example/g00910/laws.FnExactUnriffleDeck", spec := "fnExactUnriffleDeck", unfollowed := true, recurses := true, apart := false, narrowed := true }
def FnExactUnriffleDeckUptoSaid : Prop := fnExactUnriffleDeckUptoRow.holds Try.pinned (OpenSpec.upto fnExactUnriffleDeckSpec)

/-- 'laws.FnExactPlaceOf', WHERE WHAT IT READS IS OF BULK AT MOST 1048576: true; the input reads as it did. -/
def fnExactPlaceOfUptoRow : OpenClaim := { program := "ytafifipnfhekiaa", sum := "26dd489777d7d40f534611acf09b59344c9bfb3eb051fd2c1d66029d310c5273", func := "loop.example/g00910/laws.FnExactPlaceOf", spec := "fnExactPlaceOf", apart := false, narrowed := true }
def FnExactPlaceOfUptoSaid : Prop := fnExactPlaceOfUptoRow.holds Try.pinned (OpenSpec.upto fnExactPlaceOfSpec)

/-- 'laws.FnExactDealHands', WHERE WHAT IT READS IS OF BULK AT MOST 1048576: true; the input reads as it did. -/
def fnExactDealHandsUptoRow : OpenClaim := { program := "ytafifipnfhekiaa", sum := "26dd489777d7d40f534611acf09b59344c9bfb3eb051fd2c1d66029d310c5273", func := "loop.example/g00910/laws.FnExactDealHands", spec := "fnExactDealHands", apart := false, narrowed := true }
def FnExactDealHandsUptoSaid : Prop := fnExactDealHandsUptoRow.holds Try.pinned (OpenSpec.upto fnExactDealHandsSpec)

/-- 'laws.FnExactRestOfDeck', WHERE WHAT IT READS IS OF BULK AT MOST 1048576: true; the input reads as it did. -/
def fnExactRestOfDeckUptoRow : OpenClaim := { program := "ytafifipnfhekiaa", sum := "26dd489777d7d40f534611acf09b59344c9bfb3eb051fd2c1d66029d310c5273", func := "loop.example/g00910/laws.FnExactRestOfDeck", spec := "fnExactRestOfDeck", apart := false, narrowed := true }
def FnExactRestOfDeckUptoSaid : Prop := fnExactRestOfDeckUptoRow.holds Try.pinned (OpenSpec.upto fnExactRestOfDeckSpec)

end Rows
end Go.Proofs.Ytafifipnfhekiaa
