/-
  Put together, what this law needs of: BetHasB, BetHasC, BetLegal.
-/
import Derived.Test.YtnllndcajdofjaaQaSpecBetLG
import Derived.Deep.RegionWith
namespace Go.Proofs.Ytnllndcajdofjaa
open Go.RowKit
set_option linter.unusedVariables false

set_option maxRecDepth 100000 in
set_option maxHeartbeats 6000000 in
theorem has2_any (c : Bool) (ca le mo x : Int) (w : World) :
    Calls Try.prog 83 #[.agg #[.bool c, .int .i64 ca, .int .i64 le, .int .i64 mo], .agg #[.int .i64 2, .int .i64 x]] w (Fresh (.bool (legV c ca le mo 2 x)) w) := by
  have hmx : Try.prog.follows .mixedOrders = true := by kernel_rfl
  have NC := Lib.hid ((blk_new w 30 [.bool c, .int .i64 ca, .int .i64 le, .int .i64 mo]).below (bl_alloc (bl_refl _) (.cells ([.int .i64 2, .int .i64 x] : List Value).toArray 34)))
  have N0 := blk_new (w.alloc (.cells ([.bool c, .int .i64 ca, .int .i64 le, .int .i64 mo] : List Value).toArray 30)) 34 [.int .i64 2, .int .i64 x]
  rw [World.size_alloc] at N0
  have NA := Lib.hid N0
  have B := Lib.hid (bl_alloc (bl_alloc (bl_refl w) (.cells ([.bool c, .int .i64 ca, .int .i64 le, .int .i64 mo] : List Value).toArray 30)) (.cells ([.int .i64 2, .int .i64 x] : List Value).toArray 34))
  have NA1 := NA.out
  obtain ⟨y0, -⟩ := NA1.cell 0 _ rfl
  obtain ⟨y1, -⟩ := NA1.cell 1 _ rfl
  clear N0 NA1
  have hs0 := fun (W : World) (a : Addr) => run_store Try.prog W a (.func (.func 147) #[] #[]) .plain rfl
  have hs1 := fun (W : World) (a : Addr) => run_store Try.prog W a (.func (.func 148) #[] #[]) .plain rfl
  go_enter Try.func83, Try.ntmps83
  go_wp2_with fail
  go_region_with (first
      | (go_at_call 86; refine (actionRules_any _).mono ?_; rintro e w3 ⟨gm, rfl, hgl, hm, hb⟩; have N5 := (blk_new _ 99 [.nilFunc, .nilFunc]).below (bl_trans (bl_drew (bl_refl _)) hb); simp only [World.size_alloc] at N5; have N5h := Lib.hid N5; obtain ⟨n50, f50⟩ := N5.cell 0 _ rfl; obtain ⟨n51, f51⟩ := N5.cell 1 _ rfl; have hl : (Instr.lookup 100 (.map (some gm)) (.int .i64 (2 : Int)) true).run Try.prog w3 = .ok (.tuple #[.agg #[.func (.func 147) #[] #[], .func (.func 148) #[] #[]], .bool true]) w3 := run_lookR 2 (by omega) hm true; have XW := Lib.hid (bl_trans (bl_drew (bl_alloc (bl_refl _) _)) hb); obtain ⟨z0, -⟩ := (NA.out.below XW.out).cell 0 _ rfl; clear N5 hm hb hgl)
      | (go_at_call 86; refine (actionRules_any _).mono ?_; rintro e w3 ⟨gm, rfl, hgl, hm, hb⟩; have hl : (Instr.lookup 100 (.map (some gm)) (.int .i64 (2 : Int)) true).run Try.prog w3 = .ok (.tuple #[.agg #[.func (.func 147) #[] #[], .func (.func 148) #[] #[]], .bool true]) w3 := run_lookR 2 (by omega) hm true; have hm2 : (w3.alloc (.cells #[.nilFunc, .nilFunc] 99)).heap[gm]? = some (.map (rulE 4) 4) := ((Go.MapKept.heap_alloc w3 _).2 gm (Array.getElem?_eq_some_iff.1 hm).1).trans hm; have hl2 : (Instr.lookup 100 (.map (some gm)) (.int .i64 (2 : Int)) true).run Try.prog (w3.alloc (.cells #[.nilFunc, .nilFunc] 99)) = .ok (.tuple #[.agg #[.func (.func 147) #[] #[], .func (.func 148) #[] #[]], .bool true]) (w3.alloc (.cells #[.nilFunc, .nilFunc] 99)) := run_lookR 2 (by omega) hm2 true; have XW := Lib.hid (bl_trans (bl_drew (bl_refl _)) hb); obtain ⟨zz0, -⟩ := (NA.out.below (bl_trans XW.out (bl_alloc (bl_refl w3) (.cells #[.nilFunc, .nilFunc] 99)))).cell 0 _ rfl; obtain ⟨z0, -⟩ := (NA.out.below XW.out).cell 0 _ rfl; clear hm hm2 hb hgl))
  all_goals first
    | (have N6 := blk_new w3 99 [.func (.func 147) #[] #[], .func (.func 148) #[] #[]]; have NC6 := (NC.out.below XW.out).below (bl_alloc (bl_refl w3) (.cells #[.func (.func 147) #[] #[], .func (.func 148) #[] #[]] 99)); have NA6 := (NA.out.below XW.out).below (bl_alloc (bl_refl w3) (.cells #[.func (.func 147) #[] #[], .func (.func 148) #[] #[]] 99)); have BW := Lib.hid (bl_alloc (bl_trans B.out XW.out) (.cells #[.func (.func 147) #[] #[], .func (.func 148) #[] #[]] 99)); obtain ⟨c0, -⟩ := NC6.cell 0 _ rfl; obtain ⟨c1, -⟩ := NC6.cell 1 _ rfl; obtain ⟨c2, -⟩ := NC6.cell 2 _ rfl; obtain ⟨c3, -⟩ := NC6.cell 3 _ rfl; obtain ⟨a0, -⟩ := NA6.cell 0 _ rfl; obtain ⟨a1, -⟩ := NA6.cell 1 _ rfl; obtain ⟨r0, -⟩ := N6.cell 0 _ rfl; obtain ⟨r1, -⟩ := N6.cell 1 _ rfl; clear N6 NC6 NA6 hs0 hs1; go_wp2_with (go_at_call 147; refine (hasCall_any c ca le mo x _).mono ?_; rintro e w9 ⟨rfl, hb9⟩; have B9 := Lib.hid (bl_trans BW.out hb9)); go_ret; exact ⟨rfl, B9.out⟩)
    | (obtain ⟨k5, g5⟩ := blk_set N5h.out 0 (.func (.func 147) #[] #[]); obtain ⟨k6, g6⟩ := blk_set k5 1 (.func (.func 148) #[] #[]); obtain ⟨w6, e6⟩ : ∃ w6, w6 = (w3.setCell ⟨w.heap.size + 1 + 1, 0, none⟩ (.func (.func 147) #[] #[])).setCell ⟨w.heap.size + 1 + 1, 1, none⟩ (.func (.func 148) #[] #[]) := ⟨_, rfl⟩; rw [← e6] at k6 g6 ⊢; have N6 : Blk w6 (w.heap.size + 1 + 1) 99 [.func (.func 147) #[] #[], .func (.func 148) #[] #[]] := k6; have NC6 := ((NC.out.below XW.out).grown g5 (fun e => by have := Option.some.inj e; omega)).grown g6 (fun e => by have := Option.some.inj e; omega); have NA6 := ((NA.out.below XW.out).grown g5 (fun e => by have := Option.some.inj e; omega)).grown g6 (fun e => by have := Option.some.inj e; omega); have BW := Lib.hid (below_grown1 (below_grown1 (bl_trans B.out XW.out) g5 (by omega)) g6 (by omega)); clear e6 g5 g6 k5 k6 n50 n51 f50 f51; obtain ⟨c0, -⟩ := NC6.cell 0 _ rfl; obtain ⟨c1, -⟩ := NC6.cell 1 _ rfl; obtain ⟨c2, -⟩ := NC6.cell 2 _ rfl; obtain ⟨c3, -⟩ := NC6.cell 3 _ rfl; obtain ⟨a0, -⟩ := NA6.cell 0 _ rfl; obtain ⟨a1, -⟩ := NA6.cell 1 _ rfl; obtain ⟨r0, -⟩ := N6.cell 0 _ rfl; obtain ⟨r1, -⟩ := N6.cell 1 _ rfl; clear N6 NC6 NA6 hs0 hs1; go_wp2_with (go_at_call 147; refine (hasCall_any c ca le mo x _).mono ?_; rintro e w9 ⟨rfl, hb9⟩; have B9 := Lib.hid (bl_trans BW.out hb9)); go_ret; exact ⟨rfl, B9.out⟩)
set_option maxRecDepth 100000 in
set_option maxHeartbeats 6000000 in
theorem has3_any (c : Bool) (ca le mo x : Int) (w : World) :
    Calls Try.prog 83 #[.agg #[.bool c, .int .i64 ca, .int .i64 le, .int .i64 mo], .agg #[.int .i64 3, .int .i64 x]] w (Fresh (.bool (legV c ca le mo 3 x)) w) := by
  have hmx : Try.prog.follows .mixedOrders = true := by kernel_rfl
  have NC := Lib.hid ((blk_new w 30 [.bool c, .int .i64 ca, .int .i64 le, .int .i64 mo]).below (bl_alloc (bl_refl _) (.cells ([.int .i64 3, .int .i64 x] : List Value).toArray 34)))
  have N0 := blk_new (w.alloc (.cells ([.bool c, .int .i64 ca, .int .i64 le, .int .i64 mo] : List Value).toArray 30)) 34 [.int .i64 3, .int .i64 x]
  rw [World.size_alloc] at N0
  have NA := Lib.hid N0
  have B := Lib.hid (bl_alloc (bl_alloc (bl_refl w) (.cells ([.bool c, .int .i64 ca, .int .i64 le, .int .i64 mo] : List Value).toArray 30)) (.cells ([.int .i64 3, .int .i64 x] : List Value).toArray 34))
  have NA1 := NA.out
  obtain ⟨y0, -⟩ := NA1.cell 0 _ rfl
  obtain ⟨y1, -⟩ := NA1.cell 1 _ rfl
  clear N0 NA1
  have hs0 := fun (W : World) (a : Addr) => run_store Try.prog W a (.func (.func 149) #[] #[]) .plain rfl
  have hs1 := fun (W : World) (a : Addr) => run_store Try.prog W a (.func (.func 150) #[] #[]) .plain rfl
  go_enter Try.func83, Try.ntmps83
  go_wp2_with fail
  go_region_with (first
      | (go_at_call 86; refine (actionRules_any _).mono ?_; rintro e w3 ⟨gm, rfl, hgl, hm, hb⟩; have N5 := (blk_new _ 99 [.nilFunc, .nilFunc]).below (bl_trans (bl_drew (bl_refl _)) hb); simp only [World.size_alloc] at N5; have N5h := Lib.hid N5; obtain ⟨n50, f50⟩ := N5.cell 0 _ rfl; obtain ⟨n51, f51⟩ := N5.cell 1 _ rfl; have hl : (Instr.lookup 100 (.map (some gm)) (.int .i64 (3 : Int)) true).run Try.prog w3 = .ok (.tuple #[.agg #[.func (.func 149) #[] #[], .func (.func 150) #[] #[]], .bool true]) w3 := run_lookR 3 (by omega) hm true; have XW := Lib.hid (bl_trans (bl_drew (bl_alloc (bl_refl _) _)) hb); obtain ⟨z0, -⟩ := (NA.out.below XW.out).cell 0 _ rfl; clear N5 hm hb hgl)
      | (go_at_call 86; refine (actionRules_any _).mono ?_; rintro e w3 ⟨gm, rfl, hgl, hm, hb⟩; have hl : (Instr.lookup 100 (.map (some gm)) (.int .i64 (3 : Int)) true).run Try.prog w3 = .ok (.tuple #[.agg #[.func (.func 149) #[] #[], .func (.func 150) #[] #[]], .bool true]) w3 := run_lookR 3 (by omega) hm true; have hm2 : (w3.alloc (.cells #[.nilFunc, .nilFunc] 99)).heap[gm]? = some (.map (rulE 4) 4) := ((Go.MapKept.heap_alloc w3 _).2 gm (Array.getElem?_eq_some_iff.1 hm).1).trans hm; have hl2 : (Instr.lookup 100 (.map (some gm)) (.int .i64 (3 : Int)) true).run Try.prog (w3.alloc (.cells #[.nilFunc, .nilFunc] 99)) = .ok (.tuple #[.agg #[.func (.func 149) #[] #[], .func (.func 150) #[] #[]], .bool true]) (w3.alloc (.cells #[.nilFunc, .nilFunc] 99)) := run_lookR 3 (by omega) hm2 true; have XW := Lib.hid (bl_trans (bl_drew (bl_refl _)) hb); obtain ⟨zz0, -⟩ := (NA.out.below (bl_trans XW.out (bl_alloc (bl_refl w3) (.cells #[.nilFunc, .nilFunc] 99)))).cell 0 _ rfl; obtain ⟨z0, -⟩ := (NA.out.below XW.out).cell 0 _ rfl; clear hm hm2 hb hgl))
  all_goals first
    | (have N6 := blk_new w3 99 [.func (.func 149) #[] #[], .func (.func 150) #[] #[]]; have NC6 := (NC.out.below XW.out).below (bl_alloc (bl_refl w3) (.cells #[.func (.func 149) #[] #[], .func (.func 150) #[] #[]] 99)); have NA6 := (NA.out.below XW.out).below (bl_alloc (bl_refl w3) (.cells #[.func (.func 149) #[] #[], .func (.func 150) #[] #[]] 99)); have BW := Lib.hid (bl_alloc (bl_trans B.out XW.out) (.cells #[.func (.func 149) #[] #[], .func (.func 150) #[] #[]] 99)); obtain ⟨c0, -⟩ := NC6.cell 0 _ rfl; obtain ⟨c1, -⟩ := NC6.cell 1 _ rfl; obtain ⟨c2, -⟩ := NC6.cell 2 _ rfl; obtain ⟨c3, -⟩ := NC6.cell 3 _ rfl; obtain ⟨a0, -⟩ := NA6.cell 0 _ rfl; obtain ⟨a1, -⟩ := NA6.cell 1 _ rfl; obtain ⟨r0, -⟩ := N6.cell 0 _ rfl; obtain ⟨r1, -⟩ := N6.cell 1 _ rfl; clear N6 NC6 NA6 hs0 hs1; go_wp2_with (go_at_call 149; refine (hasRaise_any c ca le mo x _).mono ?_; rintro e w9 ⟨rfl, hb9⟩; have B9 := Lib.hid (bl_trans BW.out hb9)); go_ret; exact ⟨rfl, B9.out⟩)
    | (obtain ⟨k5, g5⟩ := blk_set N5h.out 0 (.func (.func 149) #[] #[]); obtain ⟨k6, g6⟩ := blk_set k5 1 (.func (.func 150) #[] #[]); obtain ⟨w6, e6⟩ : ∃ w6, w6 = (w3.setCell ⟨w.heap.size + 1 + 1, 0, none⟩ (.func (.func 149) #[] #[])).setCell ⟨w.heap.size + 1 + 1, 1, none⟩ (.func (.func 150) #[] #[]) := ⟨_, rfl⟩; rw [← e6] at k6 g6 ⊢; have N6 : Blk w6 (w.heap.size + 1 + 1) 99 [.func (.func 149) #[] #[], .func (.func 150) #[] #[]] := k6; have NC6 := ((NC.out.below XW.out).grown g5 (fun e => by have := Option.some.inj e; omega)).grown g6 (fun e => by have := Option.some.inj e; omega); have NA6 := ((NA.out.below XW.out).grown g5 (fun e => by have := Option.some.inj e; omega)).grown g6 (fun e => by have := Option.some.inj e; omega); have BW := Lib.hid (below_grown1 (below_grown1 (bl_trans B.out XW.out) g5 (by omega)) g6 (by omega)); clear e6 g5 g6 k5 k6 n50 n51 f50 f51; obtain ⟨c0, -⟩ := NC6.cell 0 _ rfl; obtain ⟨c1, -⟩ := NC6.cell 1 _ rfl; obtain ⟨c2, -⟩ := NC6.cell 2 _ rfl; obtain ⟨c3, -⟩ := NC6.cell 3 _ rfl; obtain ⟨a0, -⟩ := NA6.cell 0 _ rfl; obtain ⟨a1, -⟩ := NA6.cell 1 _ rfl; obtain ⟨r0, -⟩ := N6.cell 0 _ rfl; obtain ⟨r1, -⟩ := N6.cell 1 _ rfl; clear N6 NC6 NA6 hs0 hs1; go_wp2_with (go_at_call 149; refine (hasRaise_any c ca le mo x _).mono ?_; rintro e w9 ⟨rfl, hb9⟩; have B9 := Lib.hid (bl_trans BW.out hb9)); go_ret; exact ⟨rfl, B9.out⟩)
end Go.Proofs.Ytnllndcajdofjaa

namespace Go.Proofs.Ytnllndcajdofjaa
open Go.RowKit
set_option linter.unusedVariables false

set_option maxRecDepth 100000 in
set_option maxHeartbeats 6000000 in
theorem has4_any (c : Bool) (ca le mo k x : Int) (w : World) (hk : ¬ (0 ≤ k ∧ k ≤ 3)) :
    Calls Try.prog 83 #[.agg #[.bool c, .int .i64 ca, .int .i64 le, .int .i64 mo], .agg #[.int .i64 k, .int .i64 x]] w (Fresh (.bool false) w) := by
  have HK := Lib.hid hk
  clear hk
  have hmx : Try.prog.follows .mixedOrders = true := by kernel_rfl
  have NC := Lib.hid ((blk_new w 30 [.bool c, .int .i64 ca, .int .i64 le, .int .i64 mo]).below (bl_alloc (bl_refl _) (.cells ([.int .i64 k, .int .i64 x] : List Value).toArray 34)))
  have N0 := blk_new (w.alloc (.cells ([.bool c, .int .i64 ca, .int .i64 le, .int .i64 mo] : List Value).toArray 30)) 34 [.int .i64 k, .int .i64 x]
  rw [World.size_alloc] at N0
  have NA := Lib.hid N0
  have B := Lib.hid (bl_alloc (bl_alloc (bl_refl w) (.cells ([.bool c, .int .i64 ca, .int .i64 le, .int .i64 mo] : List Value).toArray 30)) (.cells ([.int .i64 k, .int .i64 x] : List Value).toArray 34))
  have NA1 := NA.out
  obtain ⟨y0, -⟩ := NA1.cell 0 _ rfl
  obtain ⟨y1, -⟩ := NA1.cell 1 _ rfl
  clear N0 NA1
  have hs0 := fun (W : World) (a : Addr) => run_store Try.prog W a (.nilFunc) .plain rfl
  have hs1 := fun (W : World) (a : Addr) => run_store Try.prog W a (.nilFunc) .plain rfl
  go_enter Try.func83, Try.ntmps83
  go_wp2_with fail
  go_region_with (first
      | (go_at_call 86; refine (actionRules_any _).mono ?_; rintro e w3 ⟨gm, rfl, hgl, hm, hb⟩; have N5 := (blk_new _ 99 [.nilFunc, .nilFunc]).below (bl_trans (bl_drew (bl_refl _)) hb); simp only [World.size_alloc] at N5; have N5h := Lib.hid N5; obtain ⟨n50, f50⟩ := N5.cell 0 _ rfl; obtain ⟨n51, f51⟩ := N5.cell 1 _ rfl; have hl : (Instr.lookup 100 (.map (some gm)) (.int .i64 k) true).run Try.prog w3 = .ok (.tuple #[.agg #[.nilFunc, .nilFunc], .bool false]) w3 := run_lookN k HK.out hm; have XW := Lib.hid (bl_trans (bl_drew (bl_alloc (bl_refl _) _)) hb); obtain ⟨z0, -⟩ := (NA.out.below XW.out).cell 0 _ rfl; clear N5 hm hb hgl)
      | (go_at_call 86; refine (actionRules_any _).mono ?_; rintro e w3 ⟨gm, rfl, hgl, hm, hb⟩; have hl : (Instr.lookup 100 (.map (some gm)) (.int .i64 k) true).run Try.prog w3 = .ok (.tuple #[.agg #[.nilFunc, .nilFunc], .bool false]) w3 := run_lookN k HK.out hm; have hm2 : (w3.alloc (.cells #[.nilFunc, .nilFunc] 99)).heap[gm]? = some (.map (rulE 4) 4) := ((Go.MapKept.heap_alloc w3 _).2 gm (Array.getElem?_eq_some_iff.1 hm).1).trans hm; have hl2 : (Instr.lookup 100 (.map (some gm)) (.int .i64 k) true).run Try.prog (w3.alloc (.cells #[.nilFunc, .nilFunc] 99)) = .ok (.tuple #[.agg #[.nilFunc, .nilFunc], .bool false]) (w3.alloc (.cells #[.nilFunc, .nilFunc] 99)) := run_lookN k HK.out hm2; have XW := Lib.hid (bl_trans (bl_drew (bl_refl _)) hb); obtain ⟨zz0, -⟩ := (NA.out.below (bl_trans XW.out (bl_alloc (bl_refl w3) (.cells #[.nilFunc, .nilFunc] 99)))).cell 0 _ rfl; obtain ⟨z0, -⟩ := (NA.out.below XW.out).cell 0 _ rfl; clear hm hm2 hb hgl))
  all_goals first
    | (have N6 := blk_new w3 99 [.nilFunc, .nilFunc]; have NC6 := (NC.out.below XW.out).below (bl_alloc (bl_refl w3) (.cells #[.nilFunc, .nilFunc] 99)); have NA6 := (NA.out.below XW.out).below (bl_alloc (bl_refl w3) (.cells #[.nilFunc, .nilFunc] 99)); have BW := Lib.hid (bl_alloc (bl_trans B.out XW.out) (.cells #[.nilFunc, .nilFunc] 99)); obtain ⟨c0, -⟩ := NC6.cell 0 _ rfl; obtain ⟨c1, -⟩ := NC6.cell 1 _ rfl; obtain ⟨c2, -⟩ := NC6.cell 2 _ rfl; obtain ⟨c3, -⟩ := NC6.cell 3 _ rfl; obtain ⟨a0, -⟩ := NA6.cell 0 _ rfl; obtain ⟨a1, -⟩ := NA6.cell 1 _ rfl; obtain ⟨r0, -⟩ := N6.cell 0 _ rfl; obtain ⟨r1, -⟩ := N6.cell 1 _ rfl; clear N6 NC6 NA6 hs0 hs1; go_wp2_with fail; go_ret; exact ⟨ret_bool (by first | rfl | simp), BW.out⟩)
    | (obtain ⟨k5, g5⟩ := blk_set N5h.out 0 (.nilFunc); obtain ⟨k6, g6⟩ := blk_set k5 1 (.nilFunc); obtain ⟨w6, e6⟩ : ∃ w6, w6 = (w3.setCell ⟨w.heap.size + 1 + 1, 0, none⟩ (.nilFunc)).setCell ⟨w.heap.size + 1 + 1, 1, none⟩ (.nilFunc) := ⟨_, rfl⟩; rw [← e6] at k6 g6 ⊢; have N6 : Blk w6 (w.heap.size + 1 + 1) 99 [.nilFunc, .nilFunc] := k6; have NC6 := ((NC.out.below XW.out).grown g5 (fun e => by have := Option.some.inj e; omega)).grown g6 (fun e => by have := Option.some.inj e; omega); have NA6 := ((NA.out.below XW.out).grown g5 (fun e => by have := Option.some.inj e; omega)).grown g6 (fun e => by have := Option.some.inj e; omega); have BW := Lib.hid (below_grown1 (below_grown1 (bl_trans B.out XW.out) g5 (by omega)) g6 (by omega)); clear e6 g5 g6 k5 k6 n50 n51 f50 f51; obtain ⟨c0, -⟩ := NC6.cell 0 _ rfl; obtain ⟨c1, -⟩ := NC6.cell 1 _ rfl; obtain ⟨c2, -⟩ := NC6.cell 2 _ rfl; obtain ⟨c3, -⟩ := NC6.cell 3 _ rfl; obtain ⟨a0, -⟩ := NA6.cell 0 _ rfl; obtain ⟨a1, -⟩ := NA6.cell 1 _ rfl; obtain ⟨r0, -⟩ := N6.cell 0 _ rfl; obtain ⟨r1, -⟩ := N6.cell 1 _ rfl; clear N6 NC6 NA6 hs0 hs1; go_wp2_with fail; go_ret; exact ⟨ret_bool (by first | rfl | simp), BW.out⟩)
end Go.Proofs.Ytnllndcajdofjaa

namespace Go.Proofs.Ytnllndcajdofjaa
open Go.RowKit
set_option linter.unusedVariables false

theorem hasChoice_any (c : Bool) (ca le mo k x : Int) (w : World) :
    Calls Try.prog 83 #[.agg #[.bool c, .int .i64 ca, .int .i64 le, .int .i64 mo], .agg #[.int .i64 k, .int .i64 x]] w (Fresh (.bool (legV c ca le mo k x)) w) := by
  by_cases k0 : k = 0
  · subst k0; exact has0_any c ca le mo x w
  by_cases k1 : k = 1
  · subst k1; exact has1_any c ca le mo x w
  by_cases k2 : k = 2
  · subst k2; exact has2_any c ca le mo x w
  by_cases k3 : k = 3
  · subst k3; exact has3_any c ca le mo x w
  rw [legV_no _ _ _ _ _ _ k0 k1 k2 k3]
  exact has4_any c ca le mo k x w (by omega)
set_option maxRecDepth 100000 in
set_option maxHeartbeats 3000000 in
theorem implIsLegal_any (L : At5) (b : Bt) (k x : Int) (w : World) (h : Rd5 w L b) :
    Calls Try.prog 19 #[bV L b, .agg #[.int .i64 k, .int .i64 x]] w (Fresh (.bool (legR b k x)) w) := by
  have KV := Lib.hid (fun (W : World) (hW : Rd5 W L b) => implChoicesIn_any L b W hW)
  have BT := (btAt_new h).below (bl_alloc (bl_refl _) (.cells ([.int .i64 k, .int .i64 x] : List Value).toArray 34))
  have B := Lib.hid (bl_alloc (bl_box (w := w) (L := L) (b := b)) (.cells ([.int .i64 k, .int .i64 x] : List Value).toArray 34))
  have N0 := blk_new (w.alloc (.cells (btL L b).toArray 27)) 34 [.int .i64 k, .int .i64 x]
  rw [World.size_alloc] at N0
  have NA := Lib.hid N0
  have BH := Lib.hid BT
  obtain ⟨q0, -⟩ := BT.blk.cell 0 _ rfl
  obtain ⟨q1, -⟩ := BT.blk.cell 1 _ rfl
  obtain ⟨q2, -⟩ := BT.blk.cell 2 _ rfl
  obtain ⟨q3, -⟩ := BT.blk.cell 3 _ rfl
  obtain ⟨q4, -⟩ := BT.blk.cell 4 _ rfl
  obtain ⟨q5, -⟩ := BT.blk.cell 5 _ rfl
  obtain ⟨q6, -⟩ := BT.blk.cell 6 _ rfl
  obtain ⟨q7, -⟩ := BT.blk.cell 7 _ rfl
  obtain ⟨q8, -⟩ := BT.blk.cell 8 _ rfl
  clear h BT N0
  obtain ⟨c, ca, le, mo, hch⟩ := chR_form b
  have HC : Hid (okB b = true → openB b = true → chR b = chV (checkB b) (callI b) (leastI b) (mostI b)) := Lib.hid (fun h1 h2 => by unfold chR; rw [h1, h2]; rfl)
  have KH := Lib.hid (fun W => hasChoice_any c ca le mo k x W)
  rw [hch] at KV HC
  rcases hv : okB b with _ | _
  · have e1 : legR b k x = false := by unfold legR; rw [hv]; rfl
    rw [codeB_no hv] at KV
    rw [e1]
    clear HC e1 KH
    unfold bV chT chV at *
    go_enter Try.func19, Try.ntmps19
    go_wp2_with (first
        | (go_at_call 13; refine (KV.out _ BH.out.rd).mono ?_; rintro e w1 ⟨rfl, hb⟩; have Ba := Lib.hid (bl_trans B.out (bl_trans hb (bl_alloc (bl_refl w1) (.cells ([.bool c, .int .i64 ca, .int .i64 le, .int .i64 mo] : List Value).toArray 30)))); have N5 := blk_new w1 30 [.bool c, .int .i64 ca, .int .i64 le, .int .i64 mo]; have N4 := (NA.out.below hb).below (bl_alloc (bl_refl w1) (.cells ([.bool c, .int .i64 ca, .int .i64 le, .int .i64 mo] : List Value).toArray 30)); obtain ⟨p0, -⟩ := N4.cell 0 _ rfl; obtain ⟨p1, -⟩ := N4.cell 1 _ rfl; obtain ⟨r0, -⟩ := N5.cell 0 _ rfl; obtain ⟨r1, -⟩ := N5.cell 1 _ rfl; obtain ⟨r2, -⟩ := N5.cell 2 _ rfl; obtain ⟨r3, -⟩ := N5.cell 3 _ rfl; clear N4 N5))
    go_ret
    exact ⟨rfl, Ba.out⟩
  rcases ho : openB b with _ | _
  · have e1 : legR b k x = false := by unfold legR; rw [hv, ho]; rfl
    rw [codeB_shut hv ho] at KV
    rw [e1]
    clear HC e1 KH
    unfold bV chT chV at *
    go_enter Try.func19, Try.ntmps19
    go_wp2_with (first
        | (go_at_call 13; refine (KV.out _ BH.out.rd).mono ?_; rintro e w1 ⟨rfl, hb⟩; have Ba := Lib.hid (bl_trans B.out (bl_trans hb (bl_alloc (bl_refl w1) (.cells ([.bool c, .int .i64 ca, .int .i64 le, .int .i64 mo] : List Value).toArray 30)))); have N5 := blk_new w1 30 [.bool c, .int .i64 ca, .int .i64 le, .int .i64 mo]; have N4 := (NA.out.below hb).below (bl_alloc (bl_refl w1) (.cells ([.bool c, .int .i64 ca, .int .i64 le, .int .i64 mo] : List Value).toArray 30)); obtain ⟨p0, -⟩ := N4.cell 0 _ rfl; obtain ⟨p1, -⟩ := N4.cell 1 _ rfl; obtain ⟨r0, -⟩ := N5.cell 0 _ rfl; obtain ⟨r1, -⟩ := N5.cell 1 _ rfl; obtain ⟨r2, -⟩ := N5.cell 2 _ rfl; obtain ⟨r3, -⟩ := N5.cell 3 _ rfl; clear N4 N5))
    go_ret
    exact ⟨rfl, Ba.out⟩
  have e1 : legR b k x = legV c ca le mo k x := by
    unfold legR; rw [hv, ho, leg_same]
    have q := HC.out hv ho
    unfold chV at q
    simp at q
    obtain ⟨q1, q2, q3, q4⟩ := q
    rw [q1, q2, q3, q4]; rfl
  rw [codeB_open hv ho] at KV
  rw [e1]
  clear HC hv ho e1
  unfold bV chT chV at *
  generalize legV c ca le mo k x = r at *
  go_enter Try.func19, Try.ntmps19
  go_wp2_with (first
      | (go_at_call 13; refine (KV.out _ BH.out.rd).mono ?_; rintro e w1 ⟨rfl, hb⟩; have Ba := Lib.hid (bl_trans B.out (bl_trans hb (bl_alloc (bl_refl w1) (.cells ([.bool c, .int .i64 ca, .int .i64 le, .int .i64 mo] : List Value).toArray 30)))); have N5 := blk_new w1 30 [.bool c, .int .i64 ca, .int .i64 le, .int .i64 mo]; have N4 := (NA.out.below hb).below (bl_alloc (bl_refl w1) (.cells ([.bool c, .int .i64 ca, .int .i64 le, .int .i64 mo] : List Value).toArray 30)); obtain ⟨p0, -⟩ := N4.cell 0 _ rfl; obtain ⟨p1, -⟩ := N4.cell 1 _ rfl; obtain ⟨r0, -⟩ := N5.cell 0 _ rfl; obtain ⟨r1, -⟩ := N5.cell 1 _ rfl; obtain ⟨r2, -⟩ := N5.cell 2 _ rfl; obtain ⟨r3, -⟩ := N5.cell 3 _ rfl; clear N4 N5)
      | (go_at_call 83; refine (KH.out _).mono ?_; rintro e w2 ⟨rfl, hb⟩; have Bb := Lib.hid (bl_trans Ba.out hb)))
  go_ret
  exact ⟨ret_bool (by simp), Bb.out⟩
end Go.Proofs.Ytnllndcajdofjaa
