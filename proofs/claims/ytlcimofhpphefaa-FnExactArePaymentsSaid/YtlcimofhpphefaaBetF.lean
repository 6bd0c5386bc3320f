/-
  The program: ChoicesIn, LiveSeats.
-/
import Derived.Test.YtlcimofhpphefaaBetE
namespace Go.Proofs.Ytlcimofhpphefaa
open Go.RowKit
set_option linter.unusedVariables false

noncomputable def chR (b : Bt) : Value := if okB b = true then (if openB b = true then chV (checkB b) (callI b) (leastI b) (mostI b) else chV false 0 0 0) else chV false 0 0 0
theorem chR_form (b : Bt) : ∃ c k l m, chR b = chV c k l m := by
  unfold chR
  split
  · split
    · exact ⟨_, _, _, _, rfl⟩
    · exact ⟨_, _, _, _, rfl⟩
  · exact ⟨_, _, _, _, rfl⟩
def chT (v : Value) (k : Int) : Value := .tuple #[v, .int .i64 k]
noncomputable def liveR (b : Bt) : List Int := if okB b = true then liveL b b.st.length else []
theorem liveR_len (b : Bt) : (liveR b).length ≤ 6 := by
  unfold liveR
  split
  · next h => exact Nat.le_trans (liveL_len b _) (ok_of h).n6
  · simp
end Go.Proofs.Ytlcimofhpphefaa
