/-
  CountHands: the program's walks and the model's.
-/
import Derived.Test.YtlpkaflmhdgmmaaGreatDoorVarFns
import Derived.Test.YtlpkaflmhdgmmaaGreatDoorCountPure
import Derived.Test.YtlpkaflmhdgmmaaGreatDoorBase
namespace Go.Proofs.YtlpkaflmhdgmmaaGreatDoor
open Go.RowKit
set_option linter.unusedVariables false

set_option maxRecDepth 100000 in
set_option maxHeartbeats 2000000 in
theorem choiceCountN_any (n k : Nat) (w : World) (hn : n ≤ 7) (hk : k ≤ 5) :
    Calls Tryz.prog 66 #[.int .i64 n, .int .i64 k] w (Same (.int .i64 (chq n k)) w) := by
  go_enter Tryz.func66, Tryz.ntmps66
  go_wp2_with fail
  go_loopw [5, 6, 8] (fun c _ i wr => ∃ j : Nat, j ≤ k ∧ c = .int .i64 (chq n j) ∧ i = .int .i64 j ∧ wr = w) (fun c _ i _ => k - (intOf i).toNat)
  case atStart => exact ⟨0, Nat.zero_le _, rfl, rfl, rfl⟩
  case round =>
    obtain ⟨j, hj, rfl, rfl, rfl⟩ := hrel
    by_cases hlt : j < k
    · obtain ⟨f1, f2, _⟩ := chq_facts n j hn (by omega)
      have HX : Hid ((chq n j * ((n : Int) - (j : Int))).tdiv ((j : Int) + 1) = chq n (j + 1)) := Lib.hid rfl
      have e2 : wrap64 (chq n j * ((n : Int) - (j : Int))) = chq n j * ((n : Int) - (j : Int)) := by unfold wrap64; omega
      have e3 : wrap64 ((chq n j * ((n : Int) - (j : Int))).tdiv ((j : Int) + 1)) = (chq n j * ((n : Int) - (j : Int))).tdiv ((j : Int) + 1) := by
        rw [HX.out]
        have := (chq_facts n (j + 1) hn (by omega)).1
        unfold wrap64; omega
      generalize chq n j = q at *
      have hlt' : (j : Int) < (k : Int) := by omega
      have HL := Lib.hid hlt
      go_wp2_with fail
      go_roundw
      case rel => exact ⟨j + 1, by have := HL.out; omega, by rw [← HX.out], by go_num, trivial⟩
      case measure => have := HL.out; simp [intOf]; omega
    · obtain rfl : j = k := by omega
      generalize chq n j = q at *
      go_wp2_with fail
      go_ret
      exact ⟨rfl, rfl⟩
theorem choiceCount_any (n x : Int) (w : World) (h0 : 0 ≤ n) (h7 : n ≤ 7) (x0 : 0 ≤ x) (x5 : x ≤ 5) :
    Calls Tryz.prog 66 #[.int .i64 n, .int .i64 x] w (Same (.int .i64 (chq n.toNat x.toNat)) w) := by
  obtain ⟨a, rfl⟩ := Int.eq_ofNat_of_zero_le h0
  obtain ⟨b, rfl⟩ := Int.eq_ofNat_of_zero_le x0
  exact choiceCountN_any a b w (by omega) (by omega)
set_option maxRecDepth 100000 in
set_option maxHeartbeats 1000000 in
theorem handCount_any (h l m b : Int) (hi : Bool) (lo : Int) (w : World) (hc : hasCardsB h l m b = true) :
    Calls Tryz.prog 40 #[vV h l m b hi lo] w (Fresh (.int .i64 (cntH h l m b)) w) := by
  obtain ⟨⟨h1, h7⟩, ⟨b0, b5⟩, ⟨l0, lm⟩, ⟨mh, m5⟩, mb⟩ := hasCards_iff.1 hc
  unfold vV
  have HS0 := Lib.hid (And.intro (blk_new w 25 [.int .i64 h, .int .i64 l, .int .i64 m, .int .i64 b, .bool hi, .int .i64 lo]) (bl_alloc (bl_refl w) (.cells #[.int .i64 h, .int .i64 l, .int .i64 m, .int .i64 b, .bool hi, .int .i64 lo] 25)))
  clear hc
  go_enter Tryz.func40, Tryz.ntmps40
  go_wp2_with fail
  go_loopw [3, 4] (fun s o wr => ∃ j : Nat, l + j ≤ m + 1 ∧ s = .int .i64 (sumH h.toNat b.toNat l.toNat j) ∧ o = .int .i64 (l + j) ∧ Hid (Blk wr w.heap.size 25 [.int .i64 h, .int .i64 l, .int .i64 m, .int .i64 b, .bool hi, .int .i64 lo] ∧ Below w.heap.size w wr)) (fun _ o _ => (m + 1 - intOf o).toNat)
  case atStart => exact ⟨0, by omega, rfl, by simp, HS0⟩
  case round =>
    obtain ⟨j, hj, rfl, rfl, hs⟩ := hrel
    obtain ⟨q0, _⟩ := hs.out.1.cell 0 _ rfl
    obtain ⟨q1, _⟩ := hs.out.1.cell 1 _ rfl
    obtain ⟨q2, _⟩ := hs.out.1.cell 2 _ rfl
    obtain ⟨q3, _⟩ := hs.out.1.cell 3 _ rfl
    by_cases hlt : l + j ≤ m
    · have K1 := Lib.hid (fun (W : World) (n : Nat) => quiet_left (choiceCount_any h (l + j) (W.drewN n) (by omega) (by omega) (by omega) (by omega)))
      have K2 := Lib.hid (fun (W : World) (n : Nat) => quiet_left (choiceCount_any b (5 - (l + j)) (W.drewN n) (by omega) (by omega) (by omega) (by omega)))
      have HS : Hid (sumH h.toNat b.toNat l.toNat (j + 1) = sumH h.toNat b.toNat l.toNat j + chq h.toNat (l + j).toNat * chq b.toNat (5 - (l + j)).toNat) := Lib.hid (by
        rw [sumH, show l.toNat + j = (l + j).toNat by omega, show 5 - (l + (j : Int)).toNat = (5 - (l + (j : Int))).toNat by omega])
      have hsb := sumH_bd h.toNat b.toNat l.toNat (by omega) (by omega) j (by omega)
      have hpb := prodQ_bd (chq_facts h.toNat (l + j).toNat (by omega) (by omega)).1 (chq_facts b.toNat (5 - (l + j)).toNat (by omega) (by omega)).1
      generalize sumH h.toNat b.toNat l.toNat j = s at *
      generalize chq h.toNat (l + j).toNat = u at *
      generalize chq b.toNat (5 - (l + j)).toNat = v at *
      have e1 : IntKind.i64.wrap (5 - (l + (j : Int))) = 5 - (l + (j : Int)) := IntWalk.i64_in _ (by omega)
      have e2 : IntKind.i64.wrap (u * v) = u * v := IntWalk.i64_in _ (by omega)
      have e3 : IntKind.i64.wrap (s + u * v) = s + u * v := IntWalk.i64_in _ (by omega)
      have HL := Lib.hid hlt
      clear hsb hpb
      go_wp2_with fail
      go_quiet ((go_at_call 66; first | (with_reducible exact K1.out _ _) | (with_reducible exact K2.out _ _)))
      go_wp2_with fail
      go_roundw
      case rel => exact ⟨j + 1, by have := HL.out; omega, by rw [HS.out], by first | go_num | (congr 1; omega), Lib.hid ⟨hs.out.1, bl_drewN hs.out.2 _⟩⟩
      case measure => have := HL.out; simp [intOf]; omega
    · have HE : Hid (sumH h.toNat b.toNat l.toNat j = cntH h l m b) := Lib.hid (by unfold cntH; rw [show (m + 1 - l).toNat = j by omega])
      generalize sumH h.toNat b.toNat l.toNat j = s at *
      go_wp2_with fail
      go_ret
      exact ⟨ret_int HE.out, hs.out.2⟩
theorem isVar_cards {h l m b : Int} {hi : Bool} {lo : Int} (hv : isVarB h l m b hi lo = true) : hasCardsB h l m b = true := by unfold isVarB at hv; exact ((Bool.and_eq_true _ _).mp hv).1
end Go.Proofs.YtlpkaflmhdgmmaaGreatDoor
