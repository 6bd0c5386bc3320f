/-
  The program's blinds and first seats.
-/
import Derived.Test.YtimdgaclmejjhaaImplTab
import Derived.Test.YtimdgaclmejjhaaStoreB
import Derived.Test.YtimdgaclmejjhaaAnyR
namespace Go.Proofs.Ytimdgaclmejjhaa
open Go.RowKit
set_option linter.unusedVariables false

set_option maxRecDepth 100000 in
set_option maxHeartbeats 1000000 in
theorem leftOfM_any (A : Option Addr) (c : Nat) (xs : List Int) (b s g a l : Int) (t : Int) (w : World) (h2 : 2 ≤ xs.length) (h6 : xs.length ≤ 6) (h0 : 0 ≤ t) (h1 : t < xs.length) :
    Calls Try.prog 36 #[tV A xs.length c b s g a l, .int .i64 t] w (Fresh (.int .i64 (leftI t xs.length)) w) := by
  have KN := Lib.hid (fun (W : World) => seatCount_any A xs.length c b s g a l W)
  have KL := Lib.hid (fun W : World => leftOf_any t xs.length W h0 (by omega) (by omega) (by omega))
  have n0 := blk_new w 26 [.slice A xs.length c, .int .i64 b, .int .i64 s, .int .i64 g, .int .i64 a, .int .i64 l]
  have N0 := Lib.hid n0
  have B := Lib.hid (bl_alloc (bl_refl w) (.cells ([.slice A xs.length c, .int .i64 b, .int .i64 s, .int .i64 g, .int .i64 a, .int .i64 l] : List Value).toArray 26))
  clear n0
  unfold tV at *
  generalize leftI t xs.length = r at *
  go_enter Try.func36, Try.ntmps36
  go_wp2_with (first
    | (go_at_call 21; refine (KN.out _).mono ?_; rintro e wn ⟨rfl, hb⟩; have N0a := Lib.hid (N0.out.below hb); clear N0; have N0 := N0a; clear N0a; have Ba := Lib.hid (bl_trans B.out hb); clear B hb; have B := Ba; clear Ba; obtain ⟨q0_0, _⟩ := N0.out.cell 0 _ rfl; obtain ⟨q0_1, _⟩ := N0.out.cell 1 _ rfl; obtain ⟨q0_2, _⟩ := N0.out.cell 2 _ rfl; obtain ⟨q0_3, _⟩ := N0.out.cell 3 _ rfl; obtain ⟨q0_4, _⟩ := N0.out.cell 4 _ rfl; obtain ⟨q0_5, _⟩ := N0.out.cell 5 _ rfl)
    | (go_at_call 39; refine (KL.out _).mono ?_; rintro e wn ⟨rfl, rfl⟩))
  go_ret
  exact ⟨rfl, B.out⟩
end Go.Proofs.Ytimdgaclmejjhaa
