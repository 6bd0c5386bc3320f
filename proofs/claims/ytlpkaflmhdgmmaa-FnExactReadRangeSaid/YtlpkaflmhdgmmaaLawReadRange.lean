/-
  The law FnExactReadRange returns true for every text, and leaves it as it was: ReadRange answers as its model, in new memory.
  No condition.
-/
import Derived.Test.YtlpkaflmhdgmmaaSpecRange
import Derived.Test.YtlpkaflmhdgmmaaRdrRange
import Derived.Test.YtlpkaflmhdgmmaaMark
import Derived.Lib.SmallJoins
import Derived.ChangeMaps5
namespace Go.Proofs.Ytlpkaflmhdgmmaa
open Go.ChangeShapes Go.WideShapes Go.ChangeAt Go.RowKit Go.Joins
set_option linter.unusedVariables false

theorem rdR_len (l : List UInt8) : (rdR l).length ≤ 4000000 := by
  unfold rdR
  split
  · have := clsIn_len (hasB (accK (splitB 44 l) (splitB 44 l).length)); omega
  · simp
set_option maxRecDepth 100000 in
set_option maxHeartbeats 400000 in
theorem walkRR_big (s : ByteArray) (w : World) (hm : s.size ≤ maxLen) (h : 1048576 < s.size) :
    Calls Try.prog 4 #[.string s] w (Fresh (.bool true) w) := by
  unfold maxLen at hm
  have h' : (1048576 : Int) < s.size := by omega
  go_enter Try.func4, Try.ntmps4
  go_wp2_with fail
  go_ret
  exact ⟨rfl, bl_refl _⟩

set_option maxRecDepth 100000 in
set_option maxHeartbeats 2000000 in
theorem walkRR_in (s : ByteArray) (w : World) (hn : s.size ≤ 1048576) :
    Calls Try.prog 4 #[.string s] w (Fresh (.bool true) w) := by
  have hn' : (s.size : Int) ≤ 1048576 := by omega
  have B0 := Lib.hid (bl_refl w)
  obtain ⟨ys, ky, hyl, K1, K2⟩ : ∃ (ys : List Int) (ky : Int), ys.length ≤ 4000000 ∧ Hid (∀ (W : World), Calls Try.prog 11 #[.string s] W (NewLC ys ky W)) ∧ Hid (∀ (W : World), Calls Try.prog 10 #[.string s] W (NewLC ys ky W)) :=
    ⟨_, _, rdR_len s.data.toList, Lib.hid (fun W => specReadRange_any s W (by omega)), Lib.hid (fun W => implReadRange_any s W (by omega))⟩
  have k2 : decide ((1 : Int) + (ys.length : Int) < 0) = false := by simp; omega
  go_enter Try.func4, Try.ntmps4
  go_wp2_with (go_at_call 11; ((with_reducible refine (K1.out _).mono ?_); rintro e w1 ⟨A1, c1, rfl, ho1, hb1⟩; have O1 := Lib.hid ho1; have B1 := Lib.hid hb1; clear ho1 hb1))
  go_wp2_with (go_at_call 10; ((with_reducible refine (K2.out _).mono ?_); rintro e w2 ⟨A2, c2, rfl, ho2, hb2⟩; have O2 := Lib.hid ho2; have X2 := Lib.hid hb2; have B2 := Lib.hid (bl_trans B1.out hb2); clear ho2 hb2))
  go_wp2_with (go_at_call 14; ((with_reducible refine (eqInts_same A2 A1 _ _ ys _ O2.out.rd (O1.out.below X2.out).rd hyl).mono ?_); rintro e w3 ⟨rfl, hb3⟩; have X3 := Lib.hid hb3; have B3 := Lib.hid (bl_trans B2.out hb3); clear hb3))
  have D3 : Hid (Own w3 w.heap.size (.slice A1 ys.length c1) ys) := Lib.hid ((O1.out.below X2.out).below X3.out)
  have G3 : Hid (Own w3 w1.heap.size (.slice A2 ys.length c2) ys) := Lib.hid (O2.out.below X3.out)
  have N1 : Hid (_ ∨ _) := Lib.hid (own_ne O1.out G3.out (Nat.le_refl _))
  go_wp2_with (go_at_call 15; ((with_reducible refine (mark_any A2 c2 _ ys _ _ G3.out hyl (by omega) (by omega)).mono ?_); rintro e w4 ⟨rfl, ho4, hg4⟩; have B4 := Lib.hid (bl_mark B3.out hg4 G3.out B1.out.size); have D4 := Lib.hid (D3.out.grown hg4 N1.out); have G4 := Lib.hid ho4; clear ho4 hg4))
  go_wp2_with (go_at_call 16; ((with_reducible refine (held_any A2 c2 1 ys.length _ G4.out.rd hyl (by omega) (by omega)).mono ?_); rintro e w4b ⟨rfl, rfl⟩))
  go_wp2_with (go_at_call 10; ((with_reducible refine (K2.out _).mono ?_); rintro e w5 ⟨A5, c5, rfl, ho5, hb5⟩; have O5 := Lib.hid ho5; have X5 := Lib.hid hb5; have B5 := Lib.hid (bl_trans B4.out hb5); clear ho5 hb5))
  go_wp2_with (go_at_call 14; ((with_reducible refine (eqInts_same A5 A1 _ _ ys _ O5.out.rd (D4.out.below X5.out).rd hyl).mono ?_); rintro e w6 ⟨rfl, hb6⟩; have X6 := Lib.hid hb6; have B6 := Lib.hid (bl_trans B5.out hb6); clear hb6))
  have G6 := Lib.hid ((G4.out.below X5.out).below X6.out)
  go_wp2_with (go_at_call 16; ((with_reducible refine (held_any A2 c2 1 ys.length _ G6.out.rd hyl (by omega) (by omega)).mono ?_); rintro e w7 ⟨rfl, rfl⟩))
  go_ret
  exact ⟨rfl, B6.out⟩

theorem walkRR (s : ByteArray) (w : World) (hm : s.size ≤ maxLen) : Calls Try.prog 4 #[.string s] w (Fresh (.bool true) w) := by
  by_cases h : s.size ≤ 1048576
  · exact walkRR_in s w h
  · exact walkRR_big s w hm (by omega)

set_option maxRecDepth 100000 in
theorem fnExactReadRange_lifted (os : Os) (started : os.Started) (H : Type) (enc : TypeId × Value → H) :
    ReturnsInHanded {} Try.checked os 4 .any (Rows.fnExactReadRangeSpec.pre6 enc Try.prog Try.f4 Rows.fnExactReadRangeRow.domain false) (Rows.fnExactReadRangeSpec.post enc Try.prog Try.f4 false true false false) := by
  refine law_lifted started (by kernel_rfl) Try.func4 (by kernel_rfl) rfl (fun ds h => ?_) ?_
    (ChangeSpec.witness6 (enc := enc) (C := Try.checked) false ⟨#[], #[.string ByteArray.empty], []⟩ 8 (by kernel_rfl) (by kernel_rfl) (by kernel_rfl) (by kernel_rfl)) ?_
  · match ds, h with
    | [d0], _ => rfl
  · rw [Try.params4]
    intro t ht
    obtain rfl : t = 9 := by simpa using ht
    exact ⟨by kernel_rfl, of_decide_eq_true (by kernel_rfl)⟩
  · intro W base args ds ps hval hA
    rw [Try.params4] at hA hval
    obtain ⟨v0, d0, rfl, rfl, h0⟩ := trodAll_one hA
    obtain ⟨s0, rfl, rfl, rfl, hs0⟩ := Go.ChangeMaps.open_string Try.underlying9 (hval 0 9 v0 rfl rfl) h0
    exact walkRR s0 W hs0

/-- ReadRange answers as its model, for every text. -/
theorem fnExactReadRange_holds : Rows.FnExactReadRangeSaid :=
  OpenClaim.holds_of_wide 4 Try.f4 rfl rfl rfl rfl rfl rfl rfl ⟨rfl, rfl, rfl, rfl, rfl⟩ rfl rfl rfl rfl rfl (by kernel_rfl) Try.func4 (by kernel_rfl)
    (of_decide_eq_true (by kernel_rfl)) (by unfold Func.isWrapper; first | (rw [if_pos (by decide +kernel)]; kernel_rfl) | (rw [if_neg (by decide +kernel)]; exact ⟨rfl, rfl⟩))
    (fun os started H enc _ => fnExactReadRange_lifted os started H enc)

end Go.Proofs.Ytlpkaflmhdgmmaa
