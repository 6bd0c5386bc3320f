/-
  The program's suitListOf: the digits of a number.
-/
import Derived.Test.YtilbkgnjgmlhjaaDoorExchPure
import Derived.Test.YtilbkgnjgmlhjaaDoorBase
import Derived.LoopN
namespace Go.Proofs.YtilbkgnjgmlhjaaDoor
open Go.RowKit
set_option linter.unusedVariables false

theorem sdig_four (n : Nat) (hn : n < 256) : ints (sdig n) = [.int .i64 ((n : Int) / 4 / 4 / 4 % 4), .int .i64 ((n : Int) / 4 / 4 % 4), .int .i64 ((n : Int) / 4 % 4), .int .i64 ((n : Int) % 4)] := by
  have e1 : (((n / 64 : Nat)) : Int) = (n : Int) / 4 / 4 / 4 % 4 := by omega
  have e2 : (((n / 16 % 4 : Nat)) : Int) = (n : Int) / 4 / 4 % 4 := by omega
  have e3 : (((n / 4 % 4 : Nat)) : Int) = (n : Int) / 4 % 4 := by omega
  have e4 : (((n % 4 : Nat)) : Int) = (n : Int) % 4 := by omega
  unfold sdig
  rw [e1, e2, e3, e4]
  rfl
set_option maxRecDepth 100000 in
set_option maxHeartbeats 2000000 in
theorem suitList_any (n : Nat) (w : World) (hn : n < 256) : Calls Tryd.prog 103 #[.int .i64 n] w (Fresh (.agg (ints (sdig n)).toArray) w) := by
  rw [sdig_four n hn]
  have b0 : (0 : Int) ≤ (n : Int) := by omega
  have b1 : (0 : Int) ≤ (n : Int) / 4 := by omega
  have b2 : (0 : Int) ≤ (n : Int) / 4 / 4 := by omega
  have b3 : (0 : Int) ≤ (n : Int) / 4 / 4 / 4 := by omega
  have c0 : (n : Int) ≤ 256 := by omega
  have c1 : (n : Int) / 4 ≤ 256 := by omega
  have c2 : (n : Int) / 4 / 4 ≤ 256 := by omega
  have c3 : (n : Int) / 4 / 4 / 4 ≤ 256 := by omega
  go_enter Tryd.func103, Tryd.ntmps103
  go_wp2_with fail
  refine wp_loop_rounds 5 ?_
  rw [rounds_succ]
  go_wp2_with fail
  rw [rounds_succ]
  go_wp2_with fail
  rw [rounds_succ]
  go_wp2_with fail
  rw [rounds_succ]
  go_wp2_with fail
  rw [rounds_succ]
  go_wp2_with fail
  exact bodyPost_ret (v := .agg #[.int .i64 ((n : Int) / 4 / 4 / 4 % 4), .int .i64 ((n : Int) / 4 / 4 % 4), .int .i64 ((n : Int) / 4 % 4), .int .i64 ((n : Int) % 4)]) (by simp [results, Tryd.results103, go_sem]) rfl ⟨rfl, by repeat (first | exact bl_refl _ | apply bl_alloc | apply bl_drewN | apply bl_drew)⟩
end Go.Proofs.YtilbkgnjgmlhjaaDoor
