/-
  SeatsFrom: the program's.
-/
import Derived.Test.YtimdgaclmejjhaaSeatColl
import Derived.Test.YtimdgaclmejjhaaImplSeats
namespace Go.Proofs.Ytimdgaclmejjhaa
open Go.RowKit
set_option linter.unusedVariables false

set_option maxRecDepth 100000 in
set_option maxHeartbeats 1000000 in
theorem walkFrom_any (A : Option Addr) (c : Nat) (xs : List Int) (b s g a l : Int) (t : Int) (w : World) :
    Calls Try.prog 35 #[tV A xs.length c b s g a l, .int .i64 t] w (Fresh (wkV t xs.length) w) := by
  have KN := Lib.hid (fun (W : World) => seatCount_any A xs.length c b s g a l W)
  have iW : (Try.prog.info? 54).map (·.size) = some 2 := by kernel_rfl
  have n0 := blk_new w 26 [.slice A xs.length c, .int .i64 b, .int .i64 s, .int .i64 g, .int .i64 a, .int .i64 l]
  have n1 := blk_new (w.alloc (.cells ([.slice A xs.length c, .int .i64 b, .int .i64 s, .int .i64 g, .int .i64 a, .int .i64 l] : List Value).toArray 26)) 54 [.int .i64 0, .int .i64 0]
  rw [World.size_alloc] at n1
  have N0 := Lib.hid (n0.below (bl_alloc (bl_refl _) (.cells ([.int .i64 0, .int .i64 0] : List Value).toArray 54)))
  have N1 := Lib.hid n1
  have B := Lib.hid (bl_alloc (bl_alloc (bl_refl w) (.cells ([.slice A xs.length c, .int .i64 b, .int .i64 s, .int .i64 g, .int .i64 a, .int .i64 l] : List Value).toArray 26)) (.cells ([.int .i64 0, .int .i64 0] : List Value).toArray 54))
  clear n0 n1
  unfold tV at *
  go_enter Try.func35, Try.ntmps35
  go_wp2_with (first
    | (go_at_call 21; refine (KN.out _).mono ?_; rintro e wn ⟨rfl, hb⟩; have N0a := Lib.hid (N0.out.below hb); clear N0; have N0 := N0a; clear N0a; have N1a := Lib.hid (N1.out.below hb); clear N1; have N1 := N1a; clear N1a; have Ba := Lib.hid (bl_trans B.out hb); clear B hb; have B := Ba; clear Ba; obtain ⟨q0_0, _⟩ := N0.out.cell 0 _ rfl; obtain ⟨q0_1, _⟩ := N0.out.cell 1 _ rfl; obtain ⟨q0_2, _⟩ := N0.out.cell 2 _ rfl; obtain ⟨q0_3, _⟩ := N0.out.cell 3 _ rfl; obtain ⟨q0_4, _⟩ := N0.out.cell 4 _ rfl; obtain ⟨q0_5, _⟩ := N0.out.cell 5 _ rfl)
    | (refine wpList_store_blk 54 2 rfl (.tmp 4) (.tmp 8) rfl iW (w.heap.size + 1) rfl [.int .i64 t, .int .i64 xs.length] rfl rfl (by simp [Value.oneCell']) _ N1.out rfl ?_; intro w9 k9 g9; have B9 := hbl_grown B g9 (by omega); have N9 := Lib.hid k9; clear k9 g9))
  obtain ⟨z0, _⟩ := N9.out.cell 0 _ rfl
  obtain ⟨z1, _⟩ := N9.out.cell 1 _ rfl
  exact bodyPost_ret (v := .agg #[.int .i64 t, .int .i64 xs.length]) (by simp [results, Try.results35, go_sem, z0, z1]) rfl ⟨rfl, B9.out⟩
end Go.Proofs.Ytimdgaclmejjhaa
