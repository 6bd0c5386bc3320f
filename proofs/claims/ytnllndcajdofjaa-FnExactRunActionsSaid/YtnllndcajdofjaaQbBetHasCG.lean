/-
  Put together, what this law needs of: BetHasC, BetLegal, Iter.
-/
import Derived.Test.YtnllndcajdofjaaQbSpecBetLG
import Derived.Deep.RegionWith
import Derived.Test.YtnllndcajdofjaaQbBaseG
import Derived.RangeFuncNested
import Derived.RangeFuncBound
import Derived.RangeFuncCalls
import Derived.RangeFuncLeaves
import Derived.Shelf.Abstract
import Derived.Shelf.RegionOpen
import Derived.OwnWalkIn
import Derived.TacticsInMore
import Derived.LoopNIn
import Derived.LoopIn
namespace Go.Proofs.Ytnllndcajdofjaa
open Go.RowKit
set_option linter.unusedVariables false

set_option maxRecDepth 100000 in
set_option maxHeartbeats 6000000 in
theorem has4_any (c : Bool) (ca le mo k x : Int) (w : World) (hk : ¬ (0 ≤ k ∧ k ≤ 3)) :
    Calls Try.prog 83 #[.agg #[.bool c, .int .i64 ca, .int .i64 le, .int .i64 mo], .agg #[.int .i64 k, .int .i64 x]] w (Fresh (.bool false) w) := by
  have HK := Lib.hid hk
  clear hk
  have hmx : Try.prog.follows .mixedOrders = true := by kernel_rfl
  have NC := Lib.hid ((blk_new w 30 [.bool c, .int .i64 ca, .int .i64 le, .int .i64 mo]).below (bl_alloc (bl_refl _) (.cells ([.int .i64 k, .int .i64 x] : List Value).toArray 34)))
  have N0 := blk_new (w.alloc (.cells ([.bool c, .int .i64 ca, .int .i64 le, .int .i64 mo] : List Value).toArray 30)) 34 [.int .i64 k, .int .i64 x]
  rw [World.size_alloc] at N0
  have NA := Lib.hid N0
  have B := Lib.hid (bl_alloc (bl_alloc (bl_refl w) (.cells ([.bool c, .int .i64 ca, .int .i64 le, .int .i64 mo] : List Value).toArray 30)) (.cells ([.int .i64 k, .int .i64 x] : List Value).toArray 34))
  have NA1 := NA.out
  obtain ⟨y0, -⟩ := NA1.cell 0 _ rfl
  obtain ⟨y1, -⟩ := NA1.cell 1 _ rfl
  clear N0 NA1
  have hs0 := fun (W : World) (a : Addr) => run_store Try.prog W a (.nilFunc) .plain rfl
  have hs1 := fun (W : World) (a : Addr) => run_store Try.prog W a (.nilFunc) .plain rfl
  go_enter Try.func83, Try.ntmps83
  go_wp2_with fail
  go_region_with (first
      | (go_at_call 86; refine (actionRules_any _).mono ?_; rintro e w3 ⟨gm, rfl, hgl, hm, hb⟩; have N5 := (blk_new _ 99 [.nilFunc, .nilFunc]).below (bl_trans (bl_drew (bl_refl _)) hb); simp only [World.size_alloc] at N5; have N5h := Lib.hid N5; obtain ⟨n50, f50⟩ := N5.cell 0 _ rfl; obtain ⟨n51, f51⟩ := N5.cell 1 _ rfl; have hl : (Instr.lookup 100 (.map (some gm)) (.int .i64 k) true).run Try.prog w3 = .ok (.tuple #[.agg #[.nilFunc, .nilFunc], .bool false]) w3 := run_lookN k HK.out hm; have XW := Lib.hid (bl_trans (bl_drew (bl_alloc (bl_refl _) _)) hb); obtain ⟨z0, -⟩ := (NA.out.below XW.out).cell 0 _ rfl; clear N5 hm hb hgl)
      | (go_at_call 86; refine (actionRules_any _).mono ?_; rintro e w3 ⟨gm, rfl, hgl, hm, hb⟩; have hl : (Instr.lookup 100 (.map (some gm)) (.int .i64 k) true).run Try.prog w3 = .ok (.tuple #[.agg #[.nilFunc, .nilFunc], .bool false]) w3 := run_lookN k HK.out hm; have hm2 : (w3.alloc (.cells #[.nilFunc, .nilFunc] 99)).heap[gm]? = some (.map (rulE 4) 4) := ((Go.MapKept.heap_alloc w3 _).2 gm (Array.getElem?_eq_some_iff.1 hm).1).trans hm; have hl2 : (Instr.lookup 100 (.map (some gm)) (.int .i64 k) true).run Try.prog (w3.alloc (.cells #[.nilFunc, .nilFunc] 99)) = .ok (.tuple #[.agg #[.nilFunc, .nilFunc], .bool false]) (w3.alloc (.cells #[.nilFunc, .nilFunc] 99)) := run_lookN k HK.out hm2; have XW := Lib.hid (bl_trans (bl_drew (bl_refl _)) hb); obtain ⟨zz0, -⟩ := (NA.out.below (bl_trans XW.out (bl_alloc (bl_refl w3) (.cells #[.nilFunc, .nilFunc] 99)))).cell 0 _ rfl; obtain ⟨z0, -⟩ := (NA.out.below XW.out).cell 0 _ rfl; clear hm hm2 hb hgl))
  all_goals first
    | (have N6 := blk_new w3 99 [.nilFunc, .nilFunc]; have NC6 := (NC.out.below XW.out).below (bl_alloc (bl_refl w3) (.cells #[.nilFunc, .nilFunc] 99)); have NA6 := (NA.out.below XW.out).below (bl_alloc (bl_refl w3) (.cells #[.nilFunc, .nilFunc] 99)); have BW := Lib.hid (bl_alloc (bl_trans B.out XW.out) (.cells #[.nilFunc, .nilFunc] 99)); obtain ⟨c0, -⟩ := NC6.cell 0 _ rfl; obtain ⟨c1, -⟩ := NC6.cell 1 _ rfl; obtain ⟨c2, -⟩ := NC6.cell 2 _ rfl; obtain ⟨c3, -⟩ := NC6.cell 3 _ rfl; obtain ⟨a0, -⟩ := NA6.cell 0 _ rfl; obtain ⟨a1, -⟩ := NA6.cell 1 _ rfl; obtain ⟨r0, -⟩ := N6.cell 0 _ rfl; obtain ⟨r1, -⟩ := N6.cell 1 _ rfl; clear N6 NC6 NA6 hs0 hs1; go_wp2_with fail; go_ret; exact ⟨ret_bool (by first | rfl | simp), BW.out⟩)
    | (obtain ⟨k5, g5⟩ := blk_set N5h.out 0 (.nilFunc); obtain ⟨k6, g6⟩ := blk_set k5 1 (.nilFunc); obtain ⟨w6, e6⟩ : ∃ w6, w6 = (w3.setCell ⟨w.heap.size + 1 + 1, 0, none⟩ (.nilFunc)).setCell ⟨w.heap.size + 1 + 1, 1, none⟩ (.nilFunc) := ⟨_, rfl⟩; rw [← e6] at k6 g6 ⊢; have N6 : Blk w6 (w.heap.size + 1 + 1) 99 [.nilFunc, .nilFunc] := k6; have NC6 := ((NC.out.below XW.out).grown g5 (fun e => by have := Option.some.inj e; omega)).grown g6 (fun e => by have := Option.some.inj e; omega); have NA6 := ((NA.out.below XW.out).grown g5 (fun e => by have := Option.some.inj e; omega)).grown g6 (fun e => by have := Option.some.inj e; omega); have BW := Lib.hid (below_grown1 (below_grown1 (bl_trans B.out XW.out) g5 (by omega)) g6 (by omega)); clear e6 g5 g6 k5 k6 n50 n51 f50 f51; obtain ⟨c0, -⟩ := NC6.cell 0 _ rfl; obtain ⟨c1, -⟩ := NC6.cell 1 _ rfl; obtain ⟨c2, -⟩ := NC6.cell 2 _ rfl; obtain ⟨c3, -⟩ := NC6.cell 3 _ rfl; obtain ⟨a0, -⟩ := NA6.cell 0 _ rfl; obtain ⟨a1, -⟩ := NA6.cell 1 _ rfl; obtain ⟨r0, -⟩ := N6.cell 0 _ rfl; obtain ⟨r1, -⟩ := N6.cell 1 _ rfl; clear N6 NC6 NA6 hs0 hs1; go_wp2_with fail; go_ret; exact ⟨ret_bool (by first | rfl | simp), BW.out⟩)
end Go.Proofs.Ytnllndcajdofjaa

namespace Go.Proofs.Ytnllndcajdofjaa
open Go.RowKit
set_option linter.unusedVariables false

theorem hasChoice_any (c : Bool) (ca le mo k x : Int) (w : World) :
    Calls Try.prog 83 #[.agg #[.bool c, .int .i64 ca, .int .i64 le, .int .i64 mo], .agg #[.int .i64 k, .int .i64 x]] w (Fresh (.bool (legV c ca le mo k x)) w) := by
  by_cases k0 : k = 0
  · subst k0; exact has0_any c ca le mo x w
  by_cases k1 : k = 1
  · subst k1; exact has1_any c ca le mo x w
  by_cases k2 : k = 2
  · subst k2; exact has2_any c ca le mo x w
  by_cases k3 : k = 3
  · subst k3; exact has3_any c ca le mo x w
  rw [legV_no _ _ _ _ _ _ k0 k1 k2 k3]
  exact has4_any c ca le mo k x w (by omega)
end Go.Proofs.Ytnllndcajdofjaa


/-! Plain facts: all choices of five, by lists and by indices; the best one. Nothing of the program is imported. -/
namespace Go.Proofs.Ytnllndcajdofjaa
set_option linter.unusedVariables false

/-! The best of some lists, by a value: the first one with the greatest. -/
end Go.Proofs.Ytnllndcajdofjaa

/-! The next choice of indices; the elements at the indices of a choice. -/
namespace Go.Proofs.Ytnllndcajdofjaa
open Go.RowKit
set_option linter.unusedVariables false

/-! The elements at a choice. -/
end Go.Proofs.Ytnllndcajdofjaa

/-! A range over a function whose iterator keeps memory of its own: the caller's walk, for loops that run to their end. -/
namespace Go.Proofs.Ytnllndcajdofjaa
open Go.RowKit
set_option linter.unusedVariables false

variable {F : Fence} {n : Nat} {P : Program}

/-- How a body that never leaves ends. -/
def endsIn (R : World → Prop) : Exit → Go.Act → World → Prop
  | .normal, _, W => R W
  | _, _, _ => False
theorem putObj_below {n0 : Nat} (W : World) (l : Nat) (o : Obj) (hl : n0 ≤ l) (hlt : l < W.heap.size) : Below n0 W (W.putObj l o) :=
  (Below.refl n0 W).grown (grownBy_putObj' W l o) (by omega) (fun k e => by cases e; exact hl)

end Go.Proofs.Ytnllndcajdofjaa

/-! The program's iterator over all choices of five indices. -/
namespace Go.Proofs.Ytnllndcajdofjaa
open Go.RowKit
set_option linter.unusedVariables false
attribute [local go_sem] Oper.semAt_some

end Go.Proofs.Ytnllndcajdofjaa

/-! The chosen lists, by their numbers. -/
namespace Go.Proofs.Ytnllndcajdofjaa
open Go.RowKit
set_option linter.unusedVariables false

end Go.Proofs.Ytnllndcajdofjaa
