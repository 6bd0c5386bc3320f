/-
  A table is like itself; the sum of a list.
-/
import Derived.Test.YtimdgaclmejjhaaTabPure
import Derived.Test.YtimdgaclmejjhaaTabHelp
import Derived.Test.YtimdgaclmejjhaaLike
import Derived.Test.YtimdgaclmejjhaaSum
namespace Go.Proofs.Ytimdgaclmejjhaa
open Go.RowKit
set_option linter.unusedVariables false

set_option maxRecDepth 100000 in
set_option maxHeartbeats 2000000 in
theorem likeTables_same (A : Option Addr) (c : Nat) (A2 : Option Addr) (c2 : Nat) (xs : List Int) (b s g a l : Int) (w : World) (hr : Rd w A xs) (hq : Rd w A2 xs) (hn : xs.length ≤ 4000000) :
    Calls Try.prog 11 #[.agg #[.slice A xs.length c, .int .i64 b, .int .i64 s, .int .i64 g, .int .i64 a, .int .i64 l], .agg #[.slice A2 xs.length c2, .int .i64 b, .int .i64 s, .int .i64 g, .int .i64 a, .int .i64 l]] w (Fresh (.bool true) w) := by
  have K := Lib.hid (fun (W : World) (h : Below w.heap.size w W) => likeInts_same A A2 c c2 xs W (hr.below h) (hq.below h) hn)
  clear hr hq hn
  have n0 := blk_new w 26 [.slice A xs.length c, .int .i64 b, .int .i64 s, .int .i64 g, .int .i64 a, .int .i64 l]
  have n1 := blk_new (w.alloc (.cells ([.slice A xs.length c, .int .i64 b, .int .i64 s, .int .i64 g, .int .i64 a, .int .i64 l] : List Value).toArray 26)) 26 [.slice A2 xs.length c2, .int .i64 b, .int .i64 s, .int .i64 g, .int .i64 a, .int .i64 l]
  rw [World.size_alloc] at n1
  have N0 := Lib.hid (n0.below (bl_alloc (bl_refl _) (.cells ([.slice A2 xs.length c2, .int .i64 b, .int .i64 s, .int .i64 g, .int .i64 a, .int .i64 l] : List Value).toArray 26)))
  have N1 := Lib.hid n1
  have B := Lib.hid (bl_alloc (bl_alloc (bl_refl w) (.cells ([.slice A xs.length c, .int .i64 b, .int .i64 s, .int .i64 g, .int .i64 a, .int .i64 l] : List Value).toArray 26)) (.cells ([.slice A2 xs.length c2, .int .i64 b, .int .i64 s, .int .i64 g, .int .i64 a, .int .i64 l] : List Value).toArray 26))
  clear n0 n1
  go_enter Try.func11, Try.ntmps11
  go_wp2_with (first
    | (go_at_call 28; refine (K.out _ B.out).mono ?_; rintro e wn ⟨rfl, hb⟩; have N0a := Lib.hid (N0.out.below hb); clear N0; have N0 := N0a; clear N0a; have N1a := Lib.hid (N1.out.below hb); clear N1; have N1 := N1a; clear N1a; have Ba := Lib.hid (bl_trans B.out hb); clear B hb; have B := Ba; clear Ba; obtain ⟨q0_0, _⟩ := N0.out.cell 0 _ rfl; obtain ⟨q0_1, _⟩ := N0.out.cell 1 _ rfl; obtain ⟨q0_2, _⟩ := N0.out.cell 2 _ rfl; obtain ⟨q0_3, _⟩ := N0.out.cell 3 _ rfl; obtain ⟨q0_4, _⟩ := N0.out.cell 4 _ rfl; obtain ⟨q0_5, _⟩ := N0.out.cell 5 _ rfl; obtain ⟨q1_0, _⟩ := N1.out.cell 0 _ rfl; obtain ⟨q1_1, _⟩ := N1.out.cell 1 _ rfl; obtain ⟨q1_2, _⟩ := N1.out.cell 2 _ rfl; obtain ⟨q1_3, _⟩ := N1.out.cell 3 _ rfl; obtain ⟨q1_4, _⟩ := N1.out.cell 4 _ rfl; obtain ⟨q1_5, _⟩ := N1.out.cell 5 _ rfl))
  exact bodyPost_ret (v := .bool true) (by simp [results, Try.results11, go_sem]) rfl ⟨rfl, B.out⟩
theorem sumI_T (xs : List Int) : ∀ k, sumI xs k = sumT xs k
  | 0 => rfl
  | k + 1 => by show sumI xs k + nth xs k = sumT xs k + nth xs k; rw [sumI_T xs k]
end Go.Proofs.Ytimdgaclmejjhaa
