/-
  The validity of a ratio: the walks of the model's and of the program's IsRatio and of their helpers.
-/
import Derived.Test.YtjmfecjgomkofabDoorGcd
import Derived.Test.YtjmfecjgomkofabDoorBase
import Derived.WalkLawsBesides
namespace Go.Proofs.YtjmfecjgomkofabDoor
open Go.RowKit

set_option maxHeartbeats 400000 in
theorem implMag_any (n : Int) (w : World) (h : -4000000000000000000 ≤ n) (h' : n ≤ 4000000000000000000) :
    Calls Tryd.prog 104 #[.int .i64 n] w fun e w' => e = .returned (.int .i64 (absI n)) ∧ w = w' := by
  by_cases hn : n < 0
  · have H := Lib.hid (absI_neg n hn)
    go_enter Tryd.func104, Tryd.ntmps104
    go_wp2
    go_ret
    exact ⟨ret_int H.out.symm, rfl⟩
  · have H := Lib.hid (absI_pos n hn)
    go_enter Tryd.func104, Tryd.ntmps104
    go_wp2
    all_goals
      go_ret
      exact ⟨ret_int (by rw [H.out]; try omega), rfl⟩

set_option maxHeartbeats 400000 in
theorem specAbs_any (n : Int) (w : World) (h : -4000000000000000000 ≤ n) (h' : n ≤ 4000000000000000000) :
    Calls Tryd.prog 101 #[.int .i64 n] w fun e w' => e = .returned (.int .i64 (absI n)) ∧ w = w' := by
  by_cases hn : n < 0
  · have H := Lib.hid (absI_neg n hn)
    go_enter Tryd.func101, Tryd.ntmps101
    go_wp2
    go_ret
    exact ⟨ret_int (by rw [H.out]; try omega), rfl⟩
  · have H := Lib.hid (absI_pos n hn)
    go_enter Tryd.func101, Tryd.ntmps101
    go_wp2
    all_goals
      go_ret
      exact ⟨ret_int (by rw [H.out]; try omega), rfl⟩


set_option maxHeartbeats 400000 in
theorem implNum_any (n : Int) (w : World) :
    Calls Tryd.prog 105 #[.int .i64 n] w fun e w' => e = .returned (.bool (inB n (-1000000000) 1000000000)) ∧ w = w' := by
  by_cases h1 : n < -1000000000
  · have H := Lib.hid (inB_lo n _ 1000000000 h1)
    go_enter Tryd.func105, Tryd.ntmps105
    go_wp2
    go_ret
    exact ⟨ret_bool (by rw [H.out]), rfl⟩
  · by_cases h2 : 1000000000 < n
    · have H := Lib.hid (inB_hi n (-1000000000) _ h2)
      go_enter Tryd.func105, Tryd.ntmps105
      go_wp2
      go_ret
      exact ⟨ret_bool (by rw [H.out]; exact decide_eq_false (by omega)), rfl⟩
    · have H := Lib.hid (inB_yes n (-1000000000) 1000000000 (by omega) (by omega))
      go_enter Tryd.func105, Tryd.ntmps105
      go_wp2
      go_ret
      exact ⟨ret_bool (by rw [H.out]), rfl⟩
theorem implNum_yes (n : Int) (w : World) (h : -1000000000 ≤ n) (h' : n ≤ 1000000000) :
    Calls Tryd.prog 105 #[.int .i64 n] w fun e w' => e = .returned (.bool true) ∧ w = w' :=
  (implNum_any n w).mono fun _ _ ⟨he, hw⟩ => ⟨by rw [he, inB_yes n _ _ h h'], hw⟩
theorem implNum_no (n : Int) (w : World) (h : outB n (-1000000000) 1000000000) :
    Calls Tryd.prog 105 #[.int .i64 n] w fun e w' => e = .returned (.bool false) ∧ w = w' :=
  (implNum_any n w).mono fun _ _ ⟨he, hw⟩ => ⟨by rw [he, outB_inB n _ _ h], hw⟩

set_option maxHeartbeats 400000 in
theorem implDen_any (n : Int) (w : World) :
    Calls Tryd.prog 106 #[.int .i64 n] w fun e w' => e = .returned (.bool (inB n 1 1000000000)) ∧ w = w' := by
  by_cases h1 : n < 1
  · have H := Lib.hid (inB_lo n _ 1000000000 h1)
    go_enter Tryd.func106, Tryd.ntmps106
    go_wp2
    go_ret
    exact ⟨ret_bool (by rw [H.out]), rfl⟩
  · by_cases h2 : 1000000000 < n
    · have H := Lib.hid (inB_hi n 1 _ h2)
      go_enter Tryd.func106, Tryd.ntmps106
      go_wp2
      go_ret
      exact ⟨ret_bool (by rw [H.out]; exact decide_eq_false (by omega)), rfl⟩
    · have H := Lib.hid (inB_yes n 1 1000000000 (by omega) (by omega))
      go_enter Tryd.func106, Tryd.ntmps106
      go_wp2
      go_ret
      exact ⟨ret_bool (by rw [H.out]), rfl⟩
theorem implDen_yes (n : Int) (w : World) (h : 1 ≤ n) (h' : n ≤ 1000000000) :
    Calls Tryd.prog 106 #[.int .i64 n] w fun e w' => e = .returned (.bool true) ∧ w = w' :=
  (implDen_any n w).mono fun _ _ ⟨he, hw⟩ => ⟨by rw [he, inB_yes n _ _ h h'], hw⟩
theorem implDen_no (n : Int) (w : World) (h : outB n 1 1000000000) :
    Calls Tryd.prog 106 #[.int .i64 n] w fun e w' => e = .returned (.bool false) ∧ w = w' :=
  (implDen_any n w).mono fun _ _ ⟨he, hw⟩ => ⟨by rw [he, outB_inB n _ _ h], hw⟩

set_option maxHeartbeats 400000 in
theorem specIs_any (n d : Int) (w : World) :
    Calls Tryd.prog 102 #[.agg #[.int .i64 n, .int .i64 d]] w (Fresh (.bool (isR n d)) w) := by
  rcases in_or_out n (-1000000000) 1000000000 with ⟨h1, h2⟩ | hn
  · rcases in_or_out d 1 1000000000 with ⟨h3, h4⟩ | hd
    · have H := Lib.hid (isR_in n d h1 h2 h3 h4)
      have K : Hid (∀ W : World, Calls Tryd.prog 100 #[.int .i64 (absI n), .int .i64 d] W fun e w' => e = .returned (.int .i64 (gcdI (absI n) d)) ∧ W = w') := by
        obtain ⟨b1, b2, b3, b4⟩ := absI_bd n
        exact Lib.hid (fun W => specGcd_any d.toNat _ _ W (by omega) (by omega) (by omega) (by omega) (by omega))
      have K2 := Lib.hid (fun W : World => specAbs_any n W (by omega) (by omega))
      go_enter Tryd.func102, Tryd.ntmps102
      go_wp2_with fail
      go_quiet ((first | (go_at_call 81; exact quiet_left (specIn_yes _ _ _ _ (by omega) (by omega))) | (go_at_call 101; exact quiet_left (K2.out _)) | (go_at_call 100; exact quiet_left (K.out _))))
      go_wp2_with fail
      go_ret
      exact ⟨ret_bool (by rw [H.out]), below_drewN ((Below.refl _ _).alloc (Nat.le_refl _) _) _⟩
    · have H := Lib.hid (isR_d n d hd)
      have hd' := Lib.hid hd
      clear hd
      go_enter Tryd.func102, Tryd.ntmps102
      go_wp2_with fail
      go_quiet ((go_at_call 81; first | exact quiet_left (specIn_yes _ _ _ _ h1 h2) | exact quiet_left (specIn_no _ _ _ _ hd'.out)))
      go_wp2_with fail
      go_ret
      exact ⟨ret_bool (by rw [H.out]), below_drewN ((Below.refl _ _).alloc (Nat.le_refl _) _) _⟩
  · have H := Lib.hid (isR_n n d hn)
    have hn' := Lib.hid hn
    clear hn
    go_enter Tryd.func102, Tryd.ntmps102
    go_wp2_with fail
    go_quiet ((go_at_call 81; exact quiet_left (specIn_no _ _ _ _ hn'.out)))
    go_wp2_with fail
    go_ret
    exact ⟨ret_bool (by rw [H.out]), below_drewN ((Below.refl _ _).alloc (Nat.le_refl _) _) _⟩

end Go.Proofs.YtjmfecjgomkofabDoor
