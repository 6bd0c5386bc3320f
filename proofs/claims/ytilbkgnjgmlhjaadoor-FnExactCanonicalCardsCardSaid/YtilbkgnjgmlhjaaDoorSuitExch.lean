/-
  The program's suitExchanges: all 24 exchanges.
-/
import Derived.Test.YtilbkgnjgmlhjaaDoorSuitSet
import Derived.Maps.AppendAt
import Derived.Lib.SliceRun
import Derived.LoopN
namespace Go.Proofs.YtilbkgnjgmlhjaaDoor
open Go.RowKit
set_option linter.unusedVariables false

/-- Which suits have been taken. -/
def tkn (e : List Int) : List Bool := [e.contains 0, e.contains 1, e.contains 2, e.contains 3]
theorem okX_tkn (n : Nat) : okX n = !(tkn (sdig n)).contains false := by
  unfold okX tkn
  cases (sdig n).contains 0 <;> cases (sdig n).contains 1 <;> cases (sdig n).contains 2 <;> cases (sdig n).contains 3 <;> rfl
def bools (l : List Bool) : List Value := l.map Value.bool
theorem tkn_set (e : List Int) (x : Int) (h0 : 0 ≤ x) (h1 : x < 4) : (bools (tkn e)).set x.toNat (.bool true) = bools (tkn (e ++ [x])) := by
  have hx : x = 0 ∨ x = 1 ∨ x = 2 ∨ x = 3 := by omega
  unfold tkn bools
  rcases hx with rfl | rfl | rfl | rfl <;> simp
/-- The cells of exchanges. -/
def cells4 (l : List (List Int)) : List Value := l.flatMap ints
theorem cells4_snoc (l : List (List Int)) (e : List Int) : cells4 (l ++ [e]) = cells4 l ++ ints e := by unfold cells4; rw [List.flatMap_append]; simp
theorem infoExch : (Tryd.prog.info? 100).map (fun i => (i.zero, i.size, i.bytes)) = some (some (.agg #[.int .i64 0, .int .i64 0, .int .i64 0, .int .i64 0]), 4, 32) := by kernel_rfl
def OwnX (w : World) (b : Nat) (v : Value) (l : List (List Int)) : Prop := w.ownsRow b 100 4 v l.length (cells4 l)
theorem zeroBool (w : World) : (zeroValue 4).run Tryd.prog w = .ok (.bool false) w := by kernel_rfl
/-- What the loop over all numbers keeps. -/
structure Exch (w0 : World) (g : Nat) (n : Nat) (v : Value) (wr : World) : Prop where
  own : OwnX wr (g + 1) v (exN n)
  tak : ∃ bs : List Bool, bs.length = 4 ∧ Blk wr g 126 (bools bs)
  below : Below w0.heap.size w0 wr
  lo : w0.heap.size ≤ g

set_option maxRecDepth 100000 in
set_option maxHeartbeats 1000000 in
theorem index_bools (g c : Nat) (T : TypeId) (bs : List Bool) (w : World) (hb : Blk w g T (bools bs)) (hl : bs.length = 4) :
    Calls Tryd.prog 121 #[.slice (some ⟨g, 0, none⟩) 4 c, .bool false] w (fun e w' => w = w' ∧ ∃ i : Int, e = .returned (.int .i64 i) ∧ (0 ≤ i ↔ bs.contains false = true)) := by
  obtain ⟨a, b, d, e, rfl⟩ : ∃ a b d e, bs = [a, b, d, e] := by
    match bs, hl with
    | [a, b, d, e], _ => exact ⟨a, b, d, e, rfl⟩
  have c0 := (hb.cell 0 (.bool a) rfl).1
  have c1 := (hb.cell 1 (.bool b) rfl).1
  have c2 := (hb.cell 2 (.bool d) rfl).1
  have c3 := (hb.cell 3 (.bool e) rfl).1
  clear hb hl
  cases a <;> cases b <;> cases d <;> cases e <;>
  (go_enter Tryd.func121, Tryd.ntmps121
   go_wp2_with fail
   refine wp_loop_rounds 5 ?_
   repeat (first | (rw [rounds_succ]; go_wp2_with fail))
   go_ret
   refine ⟨rfl, _, rfl, ?_⟩
   decide)
set_option maxHeartbeats 400000 in
theorem contains_bools (g c : Nat) (T : TypeId) (bs : List Bool) (w : World) (hb : Blk w g T (bools bs)) (hl : bs.length = 4) :
    Calls Tryd.prog 104 #[.slice (some ⟨g, 0, none⟩) 4 c, .bool false] w (Same (.bool (bs.contains false)) w) := by
  have K := Lib.hid (index_bools g c T bs w hb hl)
  clear hb hl
  generalize bs.contains false = r at *
  go_enter Tryd.func104, Tryd.ntmps104
  go_wp2_with (go_at_call 121; refine K.out.mono ?_; rintro e w1 ⟨rfl, i, rfl, hi⟩; have HI := Lib.hid hi; clear hi)
  go_ret
  exact ⟨ret_bool (by have := HI.out; cases r <;> simp at this ⊢ <;> omega), rfl⟩
end Go.Proofs.YtilbkgnjgmlhjaaDoor
