/-
  The greatest common divisor: the walks of the model's and of the program's function.
-/
import Derived.Test.YtjmfecjgomkofabDoorRows
import Derived.Test.YtjmfecjgomkofabDoorBase
import Derived.WalkKit
import Derived.WalkSpells
import Derived.Deep.QuietTactic
import Derived.BigQuiet
import Derived.Lib.Hide
namespace Go.Proofs.YtjmfecjgomkofabDoor
open Go.RowKit

set_option maxHeartbeats 400000 in
theorem specGcd_any (k : Nat) : ∀ (a b : Int) (w : World), b ≤ k → 0 ≤ a → a ≤ 4000000000000000000 → 0 ≤ b → b ≤ 4000000000000000000 →
    Calls Tryd.prog 100 #[.int .i64 a, .int .i64 b] w fun e w' => e = .returned (.int .i64 (gcdI a b)) ∧ w = w' := by
  induction k with
  | zero =>
    intro a b w hk ha ha' hb hb'
    have hb0 : b = 0 := by omega
    subst hb0
    go_enter Tryd.func100, Tryd.ntmps100
    go_wp2_with fail
    go_ret
    exact ⟨ret_int (gcdI_zero a ha).symm, rfl⟩
  | succ k ih =>
    intro a b w hk ha ha' hb hb'
    by_cases hb0 : b = 0
    · subst hb0
      go_enter Tryd.func100, Tryd.ntmps100
      go_wp2_with fail
      go_ret
      exact ⟨ret_int (gcdI_zero a ha).symm, rfl⟩
    · have hpos : 0 < b := by omega
      have hm0 : 0 ≤ a % b := Int.emod_nonneg a hb0
      have hm1 : a % b < b := Int.emod_lt_of_pos a hpos
      go_enter Tryd.func100, Tryd.ntmps100
      go_wp2_with (go_at_call 100; refine (ih b (a % b) _ (by omega) (by omega) (by omega) (by omega) (by omega)).mono ?_; rintro e w' ⟨rfl, rfl⟩)
      go_ret
      exact ⟨ret_int (gcdI_step a b ha hpos), rfl⟩

def Drawn (v : Value) (w : World) (e : Ending) (w' : World) : Prop := e = .returned v ∧ ∃ m, w' = w.drewN m

set_option maxHeartbeats 400000 in
theorem implGcd_any (a b : Int) (w : World) (ha : 0 ≤ a) (ha' : a ≤ 4000000000000000000) (hb : 0 ≤ b) (hb' : b ≤ 4000000000000000000) :
    Calls Tryd.prog 103 #[.int .i64 a, .int .i64 b] w (Drawn (.int .i64 (gcdI a b)) w) := by
  obtain ⟨w0, rfl⟩ : ∃ w0 : World, w0 = w := ⟨w, rfl⟩
  go_enter Tryd.func103, Tryd.ntmps103
  go_wp2_with fail
  go_loopw [0, 1] (fun x y wr => ∃ p q : Int, x = .int .i64 p ∧ y = .int .i64 q ∧ 0 ≤ p ∧ p ≤ 4000000000000000000 ∧ 0 ≤ q ∧ q ≤ 4000000000000000000 ∧ Hid (gcdI p q = gcdI a b) ∧ ∃ m, wr = w0.drewN m) (fun _ y _ => (intOf y).toNat)
  case atStart => exact ⟨a, b, rfl, rfl, ha, ha', hb, hb', Lib.hid rfl, 0, rfl⟩
  case round =>
    obtain ⟨p, q, rfl, rfl, hp, hp', hq, hq', hg, m, rfl⟩ := hrel
    by_cases hq0 : q = 0
    · subst hq0
      go_wp2_with fail
      go_ret
      exact ⟨ret_int (by rw [← hg.out, gcdI_zero p hp]), m, rfl⟩
    · have hpos : 0 < q := by omega
      have hm0 : 0 ≤ p % q := Int.emod_nonneg p hq0
      have hm1 : p % q < q := Int.emod_lt_of_pos p hpos
      go_wp2_with fail
      go_quiet (fail)
      go_wp2_with fail
      go_roundw
      case rel => exact ⟨q, p % q, rfl, rfl, hq, hq', hm0, by omega, Lib.hid (by rw [gcdI_step p q hp hpos]; exact hg.out), _, by rw [World.drewN_drewN]⟩
      case measure => simp [intOf]; omega

end Go.Proofs.YtjmfecjgomkofabDoor
