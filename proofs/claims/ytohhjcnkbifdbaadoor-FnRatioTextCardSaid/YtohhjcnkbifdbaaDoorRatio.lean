/-
  The validity of a ratio: the walks of the model's and of the program's IsRatio and of their helpers.
-/
import Derived.Test.YtohhjcnkbifdbaaDoorGcd
import Derived.WalkLawsBesides
namespace Go.Proofs.YtohhjcnkbifdbaaDoor
open Go.RowKit

/-- What a call leaves that makes memory and writes into none that was there. -/
def Fresh (v : Value) (w : World) (e : Ending) (w' : World) : Prop := e = .returned v ∧ Below w.heap.size w w'
theorem below_drewN {B : Nat} {a w : World} (h : Below B a w) (n : Nat) : Below B a (w.drewN n) := ⟨h.os, h.tape, h.output, h.size, h.block⟩
theorem ret_bool {a b : Bool} (h : a = b) : Ending.returned (.bool a) = .returned (.bool b) := by rw [h]
theorem quiet_left {P : Program} {f : FuncId} {args : Array Value} {w : World} {n : Nat} {v : Value}
    (h : Calls P f args (w.drewN n) fun e w' => e = .returned v ∧ w.drewN n = w') : Calls P f args (w.drewN n) fun e w'' => e = .returned v ∧ ∃ m, w'' = w.drewN m :=
  h.mono fun _ _ ⟨he, hm⟩ => ⟨he, n, hm.symm⟩
theorem quiet_add {P : Program} {f : FuncId} {args : Array Value} {w : World} {a n : Nat} {v : Value}
    (h : Calls P f args (w.drewN (a + n)) fun e w' => e = .returned v ∧ ∃ m, w' = (w.drewN (a + n)).drewN m) :
    Calls P f args (w.drewN (a + n)) fun e w'' => e = .returned v ∧ ∃ m, w'' = w.drewN (a + m) :=
  h.mono fun _ _ ⟨he, m, hm⟩ => ⟨he, n + m, by rw [hm, World.drewN_drewN, Nat.add_assoc]⟩
theorem quiet_add_left {P : Program} {f : FuncId} {args : Array Value} {w : World} {a n : Nat} {v : Value}
    (h : Calls P f args (w.drewN (a + n)) fun e w' => e = .returned v ∧ w.drewN (a + n) = w') :
    Calls P f args (w.drewN (a + n)) fun e w'' => e = .returned v ∧ ∃ m, w'' = w.drewN (a + m) :=
  h.mono fun _ _ ⟨he, hm⟩ => ⟨he, n, hm.symm⟩

set_option maxHeartbeats 400000 in
theorem implMag_any (n : Int) (w : World) (h : -4000000000000000000 ≤ n) (h' : n ≤ 4000000000000000000) :
    Calls Tryd.prog 45 #[.int .i64 n] w fun e w' => e = .returned (.int .i64 (absI n)) ∧ w = w' := by
  by_cases hn : n < 0
  · have H := Lib.hid (absI_neg n hn)
    go_enter Tryd.func45, Tryd.ntmps45
    go_wp2
    go_ret
    exact ⟨ret_int H.out.symm, rfl⟩
  · have H := Lib.hid (absI_pos n hn)
    go_enter Tryd.func45, Tryd.ntmps45
    go_wp2
    all_goals
      go_ret
      exact ⟨ret_int (by rw [H.out]; try omega), rfl⟩

set_option maxHeartbeats 400000 in
theorem specAbs_any (n : Int) (w : World) (h : -4000000000000000000 ≤ n) (h' : n ≤ 4000000000000000000) :
    Calls Tryd.prog 51 #[.int .i64 n] w fun e w' => e = .returned (.int .i64 (absI n)) ∧ w = w' := by
  by_cases hn : n < 0
  · have H := Lib.hid (absI_neg n hn)
    go_enter Tryd.func51, Tryd.ntmps51
    go_wp2
    go_ret
    exact ⟨ret_int (by rw [H.out]; try omega), rfl⟩
  · have H := Lib.hid (absI_pos n hn)
    go_enter Tryd.func51, Tryd.ntmps51
    go_wp2
    all_goals
      go_ret
      exact ⟨ret_int (by rw [H.out]; try omega), rfl⟩

set_option maxHeartbeats 400000 in
theorem specIn_any (n lo hi : Int) (w : World) :
    Calls Tryd.prog 36 #[.int .i64 n, .int .i64 lo, .int .i64 hi] w fun e w' => e = .returned (.bool (inB n lo hi)) ∧ w = w' := by
  by_cases h1 : n < lo
  · have H := Lib.hid (inB_lo n lo hi h1)
    go_enter Tryd.func36, Tryd.ntmps36
    go_wp2
    go_ret
    exact ⟨ret_bool (by rw [H.out]), rfl⟩
  · by_cases h2 : hi < n
    · have H := Lib.hid (inB_hi n lo hi h2)
      go_enter Tryd.func36, Tryd.ntmps36
      go_wp2
      go_ret
      exact ⟨ret_bool (by rw [H.out]; exact decide_eq_false (by omega)), rfl⟩
    · have H := Lib.hid (inB_yes n lo hi (by omega) (by omega))
      go_enter Tryd.func36, Tryd.ntmps36
      go_wp2
      go_ret
      exact ⟨ret_bool (by rw [H.out]), rfl⟩

theorem specIn_yes (n lo hi : Int) (w : World) (h : lo ≤ n) (h' : n ≤ hi) :
    Calls Tryd.prog 36 #[.int .i64 n, .int .i64 lo, .int .i64 hi] w fun e w' => e = .returned (.bool true) ∧ w = w' :=
  (specIn_any n lo hi w).mono fun _ _ ⟨he, hw⟩ => ⟨by rw [he, inB_yes n lo hi h h'], hw⟩
theorem specIn_no (n lo hi : Int) (w : World) (h : outB n lo hi) :
    Calls Tryd.prog 36 #[.int .i64 n, .int .i64 lo, .int .i64 hi] w fun e w' => e = .returned (.bool false) ∧ w = w' :=
  (specIn_any n lo hi w).mono fun _ _ ⟨he, hw⟩ => ⟨by rw [he, outB_inB n lo hi h], hw⟩

set_option maxHeartbeats 400000 in
theorem implNum_any (n : Int) (w : World) :
    Calls Tryd.prog 33 #[.int .i64 n] w fun e w' => e = .returned (.bool (inB n (-1000000000) 1000000000)) ∧ w = w' := by
  by_cases h1 : n < -1000000000
  · have H := Lib.hid (inB_lo n _ 1000000000 h1)
    go_enter Tryd.func33, Tryd.ntmps33
    go_wp2
    go_ret
    exact ⟨ret_bool (by rw [H.out]), rfl⟩
  · by_cases h2 : 1000000000 < n
    · have H := Lib.hid (inB_hi n (-1000000000) _ h2)
      go_enter Tryd.func33, Tryd.ntmps33
      go_wp2
      go_ret
      exact ⟨ret_bool (by rw [H.out]; exact decide_eq_false (by omega)), rfl⟩
    · have H := Lib.hid (inB_yes n (-1000000000) 1000000000 (by omega) (by omega))
      go_enter Tryd.func33, Tryd.ntmps33
      go_wp2
      go_ret
      exact ⟨ret_bool (by rw [H.out]), rfl⟩
theorem implNum_yes (n : Int) (w : World) (h : -1000000000 ≤ n) (h' : n ≤ 1000000000) :
    Calls Tryd.prog 33 #[.int .i64 n] w fun e w' => e = .returned (.bool true) ∧ w = w' :=
  (implNum_any n w).mono fun _ _ ⟨he, hw⟩ => ⟨by rw [he, inB_yes n _ _ h h'], hw⟩
theorem implNum_no (n : Int) (w : World) (h : outB n (-1000000000) 1000000000) :
    Calls Tryd.prog 33 #[.int .i64 n] w fun e w' => e = .returned (.bool false) ∧ w = w' :=
  (implNum_any n w).mono fun _ _ ⟨he, hw⟩ => ⟨by rw [he, outB_inB n _ _ h], hw⟩

set_option maxHeartbeats 400000 in
theorem implDen_any (n : Int) (w : World) :
    Calls Tryd.prog 34 #[.int .i64 n] w fun e w' => e = .returned (.bool (inB n 1 1000000000)) ∧ w = w' := by
  by_cases h1 : n < 1
  · have H := Lib.hid (inB_lo n _ 1000000000 h1)
    go_enter Tryd.func34, Tryd.ntmps34
    go_wp2
    go_ret
    exact ⟨ret_bool (by rw [H.out]), rfl⟩
  · by_cases h2 : 1000000000 < n
    · have H := Lib.hid (inB_hi n 1 _ h2)
      go_enter Tryd.func34, Tryd.ntmps34
      go_wp2
      go_ret
      exact ⟨ret_bool (by rw [H.out]; exact decide_eq_false (by omega)), rfl⟩
    · have H := Lib.hid (inB_yes n 1 1000000000 (by omega) (by omega))
      go_enter Tryd.func34, Tryd.ntmps34
      go_wp2
      go_ret
      exact ⟨ret_bool (by rw [H.out]), rfl⟩
theorem implDen_yes (n : Int) (w : World) (h : 1 ≤ n) (h' : n ≤ 1000000000) :
    Calls Tryd.prog 34 #[.int .i64 n] w fun e w' => e = .returned (.bool true) ∧ w = w' :=
  (implDen_any n w).mono fun _ _ ⟨he, hw⟩ => ⟨by rw [he, inB_yes n _ _ h h'], hw⟩
theorem implDen_no (n : Int) (w : World) (h : outB n 1 1000000000) :
    Calls Tryd.prog 34 #[.int .i64 n] w fun e w' => e = .returned (.bool false) ∧ w = w' :=
  (implDen_any n w).mono fun _ _ ⟨he, hw⟩ => ⟨by rw [he, outB_inB n _ _ h], hw⟩

set_option maxHeartbeats 400000 in
theorem specIs_any (n d : Int) (w : World) :
    Calls Tryd.prog 42 #[.agg #[.int .i64 n, .int .i64 d]] w (Fresh (.bool (isR n d)) w) := by
  rcases in_or_out n (-1000000000) 1000000000 with ⟨h1, h2⟩ | hn
  · rcases in_or_out d 1 1000000000 with ⟨h3, h4⟩ | hd
    · have H := Lib.hid (isR_in n d h1 h2 h3 h4)
      have K : Hid (∀ W : World, Calls Tryd.prog 41 #[.int .i64 (absI n), .int .i64 d] W fun e w' => e = .returned (.int .i64 (gcdI (absI n) d)) ∧ W = w') := by
        obtain ⟨b1, b2, b3, b4⟩ := absI_bd n
        exact Lib.hid (fun W => specGcd_any d.toNat _ _ W (by omega) (by omega) (by omega) (by omega) (by omega))
      have K2 := Lib.hid (fun W : World => specAbs_any n W (by omega) (by omega))
      go_enter Tryd.func42, Tryd.ntmps42
      go_wp2_with fail
      go_quiet ((first | (go_at_call 36; exact quiet_left (specIn_yes _ _ _ _ (by omega) (by omega))) | (go_at_call 51; exact quiet_left (K2.out _)) | (go_at_call 41; exact quiet_left (K.out _))))
      go_wp2_with fail
      go_ret
      exact ⟨ret_bool (by rw [H.out]), below_drewN ((Below.refl _ _).alloc (Nat.le_refl _) _) _⟩
    · have H := Lib.hid (isR_d n d hd)
      have hd' := Lib.hid hd
      clear hd
      go_enter Tryd.func42, Tryd.ntmps42
      go_wp2_with fail
      go_quiet ((go_at_call 36; first | exact quiet_left (specIn_yes _ _ _ _ h1 h2) | exact quiet_left (specIn_no _ _ _ _ hd'.out)))
      go_wp2_with fail
      go_ret
      exact ⟨ret_bool (by rw [H.out]), below_drewN ((Below.refl _ _).alloc (Nat.le_refl _) _) _⟩
  · have H := Lib.hid (isR_n n d hn)
    have hn' := Lib.hid hn
    clear hn
    go_enter Tryd.func42, Tryd.ntmps42
    go_wp2_with fail
    go_quiet ((go_at_call 36; exact quiet_left (specIn_no _ _ _ _ hn'.out)))
    go_wp2_with fail
    go_ret
    exact ⟨ret_bool (by rw [H.out]), below_drewN ((Below.refl _ _).alloc (Nat.le_refl _) _) _⟩

set_option maxHeartbeats 400000 in
theorem implIs_any (n d : Int) (w : World) :
    Calls Tryd.prog 19 #[.agg #[.int .i64 n, .int .i64 d]] w (Fresh (.bool (isR n d)) w) := by
  rcases in_or_out n (-1000000000) 1000000000 with ⟨h1, h2⟩ | hn
  · rcases in_or_out d 1 1000000000 with ⟨h3, h4⟩ | hd
    · have H := Lib.hid (isR_in n d h1 h2 h3 h4)
      have K : Hid (∀ W : World, Calls Tryd.prog 40 #[.int .i64 (absI n), .int .i64 d] W (Drawn (.int .i64 (gcdI (absI n) d)) W)) := by
        obtain ⟨b1, b2, b3, b4⟩ := absI_bd n
        exact Lib.hid (fun W => implGcd_any _ _ W (by omega) (by omega) (by omega) (by omega))
      have K2 := Lib.hid (fun W : World => implMag_any n W (by omega) (by omega))
      go_enter Tryd.func19, Tryd.ntmps19
      go_wp2_with (first | (go_at_call 33; refine (implNum_yes _ _ h1 h2).mono ?_; rintro e w' ⟨rfl, rfl⟩) | (go_at_call 34; refine (implDen_yes _ _ h3 h4).mono ?_; rintro e w' ⟨rfl, rfl⟩))
      go_quiet ((first | (go_at_call 45; exact quiet_left (K2.out _)) | (go_at_call 40; exact Calls.quiet_of (K.out _))))
      go_wp2_with fail
      go_ret
      exact ⟨ret_bool (by rw [H.out]), below_drewN ((Below.refl _ _).alloc (Nat.le_refl _) _) _⟩
    · have H := Lib.hid (isR_d n d hd)
      have hd' := Lib.hid hd
      clear hd
      go_enter Tryd.func19, Tryd.ntmps19
      go_wp2_with (first | (go_at_call 33; refine (implNum_yes _ _ h1 h2).mono ?_; rintro e w' ⟨rfl, rfl⟩) | (go_at_call 34; refine (implDen_no _ _ hd'.out).mono ?_; rintro e w' ⟨rfl, rfl⟩))
      go_ret
      exact ⟨ret_bool (by rw [H.out]), ((Below.refl _ _).alloc (Nat.le_refl _) _)⟩
  · have H := Lib.hid (isR_n n d hn)
    have hn' := Lib.hid hn
    clear hn
    go_enter Tryd.func19, Tryd.ntmps19
    go_wp2_with (go_at_call 33; refine (implNum_no _ _ hn'.out).mono ?_; rintro e w' ⟨rfl, rfl⟩)
    go_ret
    exact ⟨ret_bool (by rw [H.out]), ((Below.refl _ _).alloc (Nat.le_refl _) _)⟩

end Go.Proofs.YtohhjcnkbifdbaaDoor
