/-
  The law FnSums returns true for every code, and leaves it as it was: subtracting undoes adding, and sums do not depend on the order.
  No condition.
-/
import Derived.Test.YtohhjcnkbifdbaaDrawAll
import Derived.Test.YtohhjcnkbifdbaaFrac
import Derived.Deep.RegionHeld3
import Derived.Deep.DeepCutAuto
namespace Go.Proofs.Ytohhjcnkbifdbaa
open Go.ChangeShapes Go.WideShapes Go.ChangeAt Go.RowKit Go.Joins
set_option linter.unusedVariables false

theorem small_bd (n : Int) (h : small n) : -9223372036854775808 ≤ n ∧ n ≤ 9223372036854775807 := by unfold small at h; omega

theorem six_call {w W W1 : World} {g1 g2 g3 g4 g5 g6 : Nat} {n1 n2 n3 n4 n5 n6 d1 d2 d3 d4 d5 d6 : Int} (h : RatAt W g1 n1 d1 ∧ RatAt W g2 n2 d2 ∧ RatAt W g3 n3 d3 ∧ RatAt W g4 n4 d4 ∧ RatAt W g5 n5 d5 ∧ RatAt W g6 n6 d6 ∧ Below w.heap.size w W) (hb : Below W.heap.size W W1) :
    RatAt W1 g1 n1 d1 ∧ RatAt W1 g2 n2 d2 ∧ RatAt W1 g3 n3 d3 ∧ RatAt W1 g4 n4 d4 ∧ RatAt W1 g5 n5 d5 ∧ RatAt W1 g6 n6 d6 ∧ Below w.heap.size w W1 :=
  ⟨ratAt_below h.1 hb, ratAt_below h.2.1 hb, ratAt_below h.2.2.1 hb, ratAt_below h.2.2.2.1 hb, ratAt_below h.2.2.2.2.1 hb, ratAt_below h.2.2.2.2.2.1 hb, bl_trans h.2.2.2.2.2.2 hb⟩

theorem six_fin {w W W1 : World} {g1 g2 g3 g4 g5 g6 : Nat} {n1 n2 n3 n4 n5 n6 d1 d2 d3 d4 d5 d6 : Int} (h : RatAt W g1 n1 d1 ∧ RatAt W g2 n2 d2 ∧ RatAt W g3 n3 d3 ∧ RatAt W g4 n4 d4 ∧ RatAt W g5 n5 d5 ∧ RatAt W g6 n6 d6 ∧ Below w.heap.size w W) (hb : Below W.heap.size W W1) : Below w.heap.size w W1 := bl_trans h.2.2.2.2.2.2 hb

set_option maxHeartbeats 4000000 in
theorem walkSums (a : Option Addr) (L c : Nat) (zs : Nat → Int) (w : World) (hL : L ≤ 4096) (hc : CodeIn w a L zs) :
    Calls Try.prog 3 #[.slice a L c] w (Fresh (.bool true) w) := by
  have HC := Lib.hid hc
  clear hc
  go_enter Try.func3, Try.ntmps3
  go_wp2_with (go_at_call 13; refine (big_no a L c _ hL).mono ?_; rintro e w0 ⟨rfl, rfl⟩)
  go_wp2_with (go_at_call 14; refine (drawAdd_any a L c zs _ hL HC.out).mono ?_; rintro e w1 ⟨n, d, m, k, rfl, bn, bd, bm, bk, hb1⟩; have A1 := fun o => ratAt_alloc (ratAt_new w1 n d 25) o; have B1 := fun o => ratAt_new2 w1 m k 25 o; have M1 := hb1)
  obtain ⟨T, hT⟩ : ∃ T, T = opR (rat (n * k + m * d) (d * k)) n d m k := ⟨_, rfl⟩
  have K1 := Lib.hid (fun W => hT ▸ implAdd_any n d m k W)
  have K2 := Lib.hid (fun W => hT ▸ specAdd_any n d m k W)
  have HT := Lib.hid hT
  clear hT
  go_wp2_with (go_at_call 15; refine (K1.out _).mono ?_; rintro e w2 ⟨rfl, hb2⟩; have A2 := fun o => ratAt_alloc (ratAt_below (A1 _) hb2) o; have B2 := fun o => ratAt_alloc (ratAt_below (B1 _) hb2) o; have M2 := bl_trans (bl_alloc (bl_alloc M1 _) _) hb2)
  go_wp2_with (go_at_call 16; refine (K2.out _).mono ?_; rintro e w3 ⟨rfl, hb3⟩; have A3 := fun o => ratAt_alloc (ratAt_below (A2 _) hb3) o; have B3 := fun o => ratAt_alloc (ratAt_below (B2 _) hb3) o; have X3 := fun o => ratAt_alloc (ratAt_below (ratAt_new w2 T.1 T.2.1 25) hb3) o; have M3 := bl_trans (bl_alloc M2 _) hb3)
  clear A1 B1 A2 B2
  go_wp2_with (go_at_call 17; refine (drawSubtract_any a L c zs _ hL (codeIn_below HC.out (bl_alloc M3 _))).mono ?_; rintro e w4 ⟨n', d', m', k', rfl, bn', bd', bm', bk', hb4⟩; have C4 := fun o => ratAt_alloc (ratAt_new w4 n' d' 25) o; have D4 := fun o => ratAt_new2 w4 m' k' 25 o; have A4 := fun o o' => ratAt_alloc (ratAt_alloc (ratAt_below (A3 _) hb4) o) o'; have B4 := fun o o' => ratAt_alloc (ratAt_alloc (ratAt_below (B3 _) hb4) o) o'; have X4 := fun o o' => ratAt_alloc (ratAt_alloc (ratAt_below (X3 _) hb4) o) o'; have Y4 := fun o o' => ratAt_alloc (ratAt_alloc (ratAt_below (ratAt_new w3 T.1 T.2.1 25) hb4) o) o'; have M4 := bl_trans (bl_alloc M3 _) hb4)
  clear A3 B3 X3
  obtain ⟨U, hU⟩ : ∃ U, U = opR (rat (n' * k' - m' * d') (d' * k')) n' d' m' k' := ⟨_, rfl⟩
  have J1 := Lib.hid (fun W => hU ▸ implSub_any n' d' m' k' W)
  have J2 := Lib.hid (fun W => hU ▸ specSub_any n' d' m' k' W (small_bd m' bm'))
  clear hU
  go_wp2_with (go_at_call 18; refine (J1.out _).mono ?_; rintro e w5 ⟨rfl, hb5⟩; have C5 := fun o => ratAt_alloc (ratAt_below (C4 _) hb5) o; have D5 := fun o => ratAt_alloc (ratAt_below (D4 _) hb5) o; have A5 := fun o => ratAt_alloc (ratAt_below (A4 _ _) hb5) o; have B5 := fun o => ratAt_alloc (ratAt_below (B4 _ _) hb5) o; have X5 := fun o => ratAt_alloc (ratAt_below (X4 _ _) hb5) o; have Y5 := fun o => ratAt_alloc (ratAt_below (Y4 _ _) hb5) o; have M5 := bl_trans (bl_alloc (bl_alloc M4 _) _) hb5)
  clear C4 D4 A4 B4 X4 Y4
  go_wp2_with (go_at_call 19; refine (J2.out _).mono ?_; rintro e w6 ⟨rfl, hb6⟩; have A6 := fun o => ratAt_alloc (ratAt_below (A5 _) hb6) o; have B6 := fun o => ratAt_alloc (ratAt_below (B5 _) hb6) o; have X6 := fun o => ratAt_alloc (ratAt_below (X5 _) hb6) o; have Y6 := fun o => ratAt_alloc (ratAt_below (Y5 _) hb6) o; have V6 := fun o => ratAt_alloc (ratAt_below (ratAt_new w5 U.1 U.2.1 25) hb6) o; have M6 := bl_trans (bl_alloc M5 _) hb6)
  clear C5 D5 A5 B5 X5 Y5
  have S6 : RatAt (w6.alloc (.cells #[.int .i64 U.1, .int .i64 U.2.1] 25)) w1.heap.size n d ∧ RatAt (w6.alloc (.cells #[.int .i64 U.1, .int .i64 U.2.1] 25)) (w1.heap.size + 1) m k ∧ RatAt (w6.alloc (.cells #[.int .i64 U.1, .int .i64 U.2.1] 25)) w2.heap.size T.1 T.2.1 ∧ RatAt (w6.alloc (.cells #[.int .i64 U.1, .int .i64 U.2.1] 25)) w3.heap.size T.1 T.2.1 ∧ RatAt (w6.alloc (.cells #[.int .i64 U.1, .int .i64 U.2.1] 25)) w5.heap.size U.1 U.2.1 ∧ RatAt (w6.alloc (.cells #[.int .i64 U.1, .int .i64 U.2.1] 25)) w6.heap.size U.1 U.2.1 ∧ Below w.heap.size w (w6.alloc (.cells #[.int .i64 U.1, .int .i64 U.2.1] 25)) :=
    ⟨A6 _, B6 _, X6 _, Y6 _, V6 _, ratAt_new _ _ _ _, bl_alloc M6 _⟩
  clear A6 B6 X6 Y6 V6
  go_region_held3 (fun w' => RatAt w' w1.heap.size n d ∧ RatAt w' (w1.heap.size + 1) m k ∧ RatAt w' w2.heap.size T.1 T.2.1 ∧ RatAt w' w3.heap.size T.1 T.2.1 ∧ RatAt w' w5.heap.size U.1 U.2.1 ∧ RatAt w' w6.heap.size U.1 U.2.1 ∧ Below w.heap.size w w')
    (first | exact six_call S6 (bl_drew (bl_refl _)) | exact six_call (by assumption) hb)
    (first | (go_at_call 20; refine (implIs_any n d _).mono ?_; rintro e w7 ⟨rfl, hb⟩) | (go_at_call 21; refine (specIs_any n d _).mono ?_; rintro e w8 ⟨rfl, hb⟩))
  by_cases h0 : T.2.2 = 0
  · have K3 : Hid (∀ W, Calls Try.prog 18 #[.agg #[.int .i64 T.1, .int .i64 T.2.1], .agg #[.int .i64 m, .int .i64 k]] W (Fresh (resV n d 0) W)) := Lib.hid (fun W => by
      have := implSub_any T.1 T.2.1 m k W
      rw [sub_undoes n d m k T HT.out h0] at this
      exact this)
    have K4 : Hid (∀ W, Calls Try.prog 15 #[.agg #[.int .i64 m, .int .i64 k], .agg #[.int .i64 n, .int .i64 d]] W (Fresh (tripV T) W)) := Lib.hid (fun W => by
      have := implAdd_any m k n d W
      rw [add_comm' n d m k, ← HT.out] at this
      exact this)
    go_wp2_with (go_at_call 18; refine (K3.out _).mono ?_; rintro e w9 ⟨rfl, hb9⟩; have S9 := fun o => six_call (six_call (by assumption) hb9) (bl_alloc (bl_refl _) o))
    go_wp2_with (go_at_call 15; refine (K4.out _).mono ?_; rintro e w10 ⟨rfl, hb10⟩; have S10 := fun o => six_call (six_call (S9 _) hb10) (bl_alloc (bl_refl _) o); have Z10 := fun o => ratAt_alloc (ratAt_below (ratAt_new w9 n d 25) hb10) o; clear S9)
    go_ret
    exact ⟨rfl, six_fin (S10 _) (bl_refl _)⟩
  · go_wp2_with fail
    go_ret
    exact ⟨rfl, six_fin (by assumption) (bl_refl _)⟩

set_option maxHeartbeats 400000 in
theorem walkSums_big (a : Option Addr) (L c : Nat) (w : World) (h : 4096 < L) (hm : (L : Int) ≤ 9223372036854775807) :
    Calls Try.prog 3 #[.slice a L c] w (Fresh (.bool true) w) := by
  go_enter Try.func3, Try.ntmps3
  go_wp2_with (go_at_call 13; refine (big_yes a L c _ h hm).mono ?_; rintro e w0 ⟨rfl, rfl⟩)
  go_ret
  exact ⟨rfl, bl_refl _⟩

set_option maxRecDepth 100000 in
theorem fnSums_lifted (os : Os) (started : os.Started) (H : Type) (enc : TypeId × Value → H) :
    ReturnsInHanded {} Try.checked os 3 .any (Rows.fnSumsSpec.pre6 enc Try.prog Try.f3 Rows.fnSumsRow.domain false) (Rows.fnSumsSpec.post enc Try.prog Try.f3 false true false false) := by
  refine law_lifted started (by kernel_rfl) Try.func3 (by kernel_rfl) rfl (fun ds h => ?_) ?_
    (ChangeSpec.witness6 (enc := enc) (C := Try.checked) false ⟨#[], #[.slice none 0 0], []⟩ 8 (by kernel_rfl) (by kernel_rfl) (by kernel_rfl) (by kernel_rfl)) ?_
  · match ds, h with
    | [d0], _ => rfl
  · rw [Try.params3]
    intro t ht
    obtain rfl : t = 22 := by simpa using ht
    exact ⟨by kernel_rfl, of_decide_eq_true (by kernel_rfl)⟩
  · intro W base args ds ps hval hA
    rw [Try.params3] at hA hval
    obtain ⟨v0, d0, rfl, rfl, h0⟩ := trodAll_one hA
    obtain ⟨a, L, c, zs, rfl, hm, hc⟩ := open_code (hval 0 22 v0 rfl rfl) h0
    by_cases hL : L ≤ 4096
    · exact walkSums a L c zs W hL hc
    · exact walkSums_big a L c W (by omega) (by unfold maxLen at hm; omega)

/-- FnSums returns true for every code. -/
theorem fnSums_holds : Rows.FnSumsSaid :=
  OpenClaim.holds_of_wide 3 Try.f3 rfl rfl rfl rfl rfl rfl rfl ⟨rfl, rfl, rfl, rfl, rfl⟩ rfl rfl rfl rfl rfl (by kernel_rfl) Try.func3 (by kernel_rfl)
    (of_decide_eq_true (by kernel_rfl)) (by unfold Func.isWrapper; first | (rw [if_pos (by decide +kernel)]; kernel_rfl) | (rw [if_neg (by decide +kernel)]; exact ⟨rfl, rfl⟩))
    (fun os started H enc _ => fnSums_lifted os started H enc)

end Go.Proofs.Ytohhjcnkbifdbaa
