/-
  The model's seats in their order.
-/
import Derived.Test.YtnbaemgidfgdaaaSpecTab
import Derived.Test.YtnbaemgidfgdaaaSpecH
import Derived.Test.YtnbaemgidfgdaaaBase
namespace Go.Proofs.Ytnbaemgidfgdaaa
open Go.RowKit
set_option linter.unusedVariables false

set_option maxRecDepth 100000 in
set_option maxHeartbeats 1000000 in
theorem specFrom_any (n : Nat) (t : Int) (w : World) (hn0 : 0 < n) (hn : n ≤ 6) (h0 : 0 ≤ t) (h1 : t < n) :
    Calls Try.prog 68 #[.int .i64 n, .int .i64 t] w (NewL (fromL n t) w) := by
  obtain ⟨i0, hi, hz0, hz1, hz2⟩ := info_parts infoInt
  have HT := Lib.hid (fun k (hk : k < n) => fromL_take n t k hk)
  have HL := Lib.hid (fromL_len n t)
  have HA : Hid ((fromL n t).take n = fromL n t) := Lib.hid (List.take_of_length_le (by rw [fromL_len]; exact Nat.le_refl _))
  obtain ⟨w0, rfl⟩ : ∃ w0 : World, w0 = w := ⟨w, rfl⟩
  go_enter Try.func68, Try.ntmps68
  go_wp2_with fail
  go_loopw [5, 6] (fun v i wr => ∃ k : Nat, k ≤ n ∧ i = .int .i64 k ∧ Hid (Grow w0 ((fromL n t).take k) v wr)) (fun _ i _ => n - (intOf i).toNat)
  case atStart => exact ⟨0, Nat.zero_le _, rfl, Lib.hid (grow_start w0)⟩
  case round =>
    obtain ⟨k, hk, rfl, HS⟩ := hrel
    by_cases hlt : k < n
    · have hlt' : (k : Int) < n := by omega
      have hl : ((fromL n t).take k).length ≤ 6 := by rw [List.length_take, HL.out]; omega
      have HO := Lib.hid (HT.out k hlt)
      have hz : (n : Int) ≠ 0 := by omega
      have hsb := seatAt_bd n t k (by omega)
      unfold seatAt at *
      generalize (fromL n t).take k = ys at *
      go_wp2_with (at_builtin; refine wpList_append_own _ rfl _ _ 24 rfl w0.heap.size 2 i0 (.int .i64 0) 1 8 Try.underlying24 hi hz0 hz1 hz2 rfl (by decide) _ _ _ rfl (HS.out.1.alloc _) ⟨wr.heap.size, 0, none⟩ 1 1 [.int .i64 ((t + k) % n)] rfl rfl ?c1 ?c2 ?c3 ?c4 ?c5 ?_)
      case c1 =>
        intro j u hj
        match j, hj with
        | 0, hj => simp at hj; subst hj; simp [Addr.add]
      case c2 => intro u hu; simp at hu; subst hu; rfl
      case c3 => unfold maxLen; omega
      case c4 => omega
      case c5 => have := HS.out.2.size; simp; omega
      intro v' w1 hown' hgrow _
      have HG := Lib.hid (grow_app HS.out hown' hgrow)
      clear hown' hgrow
      go_wp2_with fail
      go_roundw
      case rel => exact ⟨k + 1, by omega, by go_num, by rw [HO.out]; exact HG⟩
      case measure => simp [intOf]; omega
    · obtain rfl : k = n := by omega
      rw [HA.out] at HS
      obtain ⟨A', c', rfl, hO⟩ := own_form HS.out.1
      have HO := Lib.hid hO
      clear hO
      go_wp2_with fail
      go_ret
      exact ⟨_, _, rfl, HO.out, HS.out.2⟩
set_option maxRecDepth 100000 in
set_option maxHeartbeats 1000000 in
theorem specSeatsFrom_any (A : Option Addr) (c : Nat) (xs : List Int) (b s g a l : Int) (t : Int) (w : World) (hr : Rd w A xs) (hn : xs.length ≤ 4000000) :
    Calls Try.prog 26 #[tV A xs.length c b s g a l, .int .i64 t] w (NewRC (sfR xs b s g a l t) (sfC xs b s g a l t) w) := by
  have KV := Lib.hid (fun (W : World) (h : Below w.heap.size w W) => specIsTable_any A c xs b s g a l W (hr.below h) hn)
  have n0 := blk_new w 26 [.slice A xs.length c, .int .i64 b, .int .i64 s, .int .i64 g, .int .i64 a, .int .i64 l]
  have N0 := Lib.hid n0
  have B := Lib.hid (bl_alloc (bl_refl w) (.cells ([.slice A xs.length c, .int .i64 b, .int .i64 s, .int .i64 g, .int .i64 a, .int .i64 l] : List Value).toArray 26))
  clear n0
  rcases hv : tabB xs b s g a l with _ | _
  · rw [(sf_no t hv).1, (sf_no t hv).2]
    rw [hv] at KV
    clear hv
    unfold tV at *
    go_enter Try.func26, Try.ntmps26
    go_wp2_with (first
    | (go_at_call 39; refine (KV.out _ B.out).mono ?_; rintro e wn ⟨rfl, hb⟩; have N0a := Lib.hid (N0.out.below hb); clear N0; have N0 := N0a; clear N0a; have Ba := Lib.hid (bl_trans B.out hb); clear B hb; have B := Ba; clear Ba; obtain ⟨q0_0, _⟩ := N0.out.cell 0 _ rfl; obtain ⟨q0_1, _⟩ := N0.out.cell 1 _ rfl; obtain ⟨q0_2, _⟩ := N0.out.cell 2 _ rfl; obtain ⟨q0_3, _⟩ := N0.out.cell 3 _ rfl; obtain ⟨q0_4, _⟩ := N0.out.cell 4 _ rfl; obtain ⟨q0_5, _⟩ := N0.out.cell 5 _ rfl))
    go_ret2
    exact ⟨none, 0, rfl, Row.nil _ _, B.out⟩
  by_cases ht : 0 ≤ t ∧ t < xs.length
  rotate_left
  · rw [(sf_out hv ht).1, (sf_out hv ht).2]
    have tt := tab_iff.1 hv
    have hn6 : xs.length ≤ 6 := tt.2.1
    have KI := Lib.hid (fun W : World => specIn_no t 0 ((xs.length : Int) - 1) W (by unfold outB; omega))
    rw [hv] at KV
    clear hv tt
    unfold tV at *
    go_enter Try.func26, Try.ntmps26
    go_wp2_with (first
    | (go_at_call 39; refine (KV.out _ B.out).mono ?_; rintro e wn ⟨rfl, hb⟩; have N0a := Lib.hid (N0.out.below hb); clear N0; have N0 := N0a; clear N0a; have Ba := Lib.hid (bl_trans B.out hb); clear B hb; have B := Ba; clear Ba; obtain ⟨q0_0, _⟩ := N0.out.cell 0 _ rfl; obtain ⟨q0_1, _⟩ := N0.out.cell 1 _ rfl; obtain ⟨q0_2, _⟩ := N0.out.cell 2 _ rfl; obtain ⟨q0_3, _⟩ := N0.out.cell 3 _ rfl; obtain ⟨q0_4, _⟩ := N0.out.cell 4 _ rfl; obtain ⟨q0_5, _⟩ := N0.out.cell 5 _ rfl)
    | (go_at_call 67; refine (KI.out _).mono ?_; rintro e wz ⟨rfl, rfl⟩))
    go_ret2
    exact ⟨none, 0, rfl, Row.nil _ _, B.out⟩
  · rw [(sf_yes hv ht).1, (sf_yes hv ht).2]
    have tt := tab_iff.1 hv
    have hn6 : xs.length ≤ 6 := tt.2.1
    have KI := Lib.hid (fun W : World => specIn_yes t 0 ((xs.length : Int) - 1) W (by omega) (by omega))
    have KF := Lib.hid (fun W : World => specFrom_any xs.length t W (by omega) (by omega) ht.1 ht.2)
    rw [hv] at KV
    clear hv tt
    unfold tV at *
    go_enter Try.func26, Try.ntmps26
    go_wp2_with (first
    | (go_at_call 39; refine (KV.out _ B.out).mono ?_; rintro e wn ⟨rfl, hb⟩; have N0a := Lib.hid (N0.out.below hb); clear N0; have N0 := N0a; clear N0a; have Ba := Lib.hid (bl_trans B.out hb); clear B hb; have B := Ba; clear Ba; obtain ⟨q0_0, _⟩ := N0.out.cell 0 _ rfl; obtain ⟨q0_1, _⟩ := N0.out.cell 1 _ rfl; obtain ⟨q0_2, _⟩ := N0.out.cell 2 _ rfl; obtain ⟨q0_3, _⟩ := N0.out.cell 3 _ rfl; obtain ⟨q0_4, _⟩ := N0.out.cell 4 _ rfl; obtain ⟨q0_5, _⟩ := N0.out.cell 5 _ rfl)
    | (go_at_call 67; refine (KI.out _).mono ?_; rintro e wz ⟨rfl, rfl⟩)
    | (go_at_call 68; refine (KF.out _).mono ?_; rintro e wz ⟨A1, c1, rfl, ho, hb⟩; have HO := Lib.hid ho; have BZ := Lib.hid (bl_trans B.out hb); have HZ := Lib.hid B.out.size; clear ho hb))
    go_ret2
    exact ⟨_, _, rfl, Row.of_own (HO.out.less HZ.out), BZ.out⟩
end Go.Proofs.Ytnbaemgidfgdaaa
