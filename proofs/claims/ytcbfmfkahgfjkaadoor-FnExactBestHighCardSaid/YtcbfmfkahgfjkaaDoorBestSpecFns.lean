/-
  BestHigh, BestFive, CompareHigh: the model's walks.
-/
import Derived.Test.YtcbfmfkahgfjkaaDoorBestSpec
namespace Go.Proofs.YtcbfmfkahgfjkaaDoor
open Go.RowKit
set_option linter.unusedVariables false

theorem bfS_len {xs : List Int} (h : cardsB xs = true) : (bfS xs).length = 5 := bestF_len xs h _ (Nat.le_refl _)
theorem bfR_len (xs : List Int) : (bfR xs).length ≤ 5 := by
  rcases h : sizedB xs 5 8 with _ | _
  · rw [bfR_no h]; simp
  · rw [bfR_yes h, bfS_len (sized8 h).2.2]; omega
set_option maxRecDepth 100000 in
set_option maxHeartbeats 1000000 in
theorem specBestHigh_any (A : Option Addr) (c : Nat) (xs : List Int) (w : World) (hr : Rd w A xs) (hn : xs.length ≤ 4000000) (hcap : xs.length ≤ c) :
    Calls Tryd.prog 24 #[.slice A xs.length c] w (Fresh (pairV (bhR xs) (codeZ xs 5 8)) w) := by
  have K := Lib.hid (fun (c : Nat) => specSized_any A c xs 5 8 w hr hn)
  rcases hd : sizedB xs 5 8 with _ | _
  · rw [bhR_no hd, codeZ_no hd]
    rw [hd] at K
    clear hd hr
    go_enter Tryd.func24, Tryd.ntmps24
    go_wp2_with (go_at_call 47; refine (K.out _).mono ?_; rintro e w1 ⟨rfl, hb1⟩; have B1 := Lib.hid hb1; clear hb1)
    go_ret2
    exact ⟨rfl, B1.out⟩
  · rw [bhR_yes hd, codeZ_yes hd]
    have HL5 := Lib.hid (bfS_len (sized8 hd).2.2)
    have K2 := Lib.hid (fun (W : World) (h : Below w.heap.size w W) => best_any A c xs W (hr.below h) hd hcap)
    rw [hd] at K
    clear hd hr hn
    unfold BestL at K2
    generalize bvS xs = v at *
    generalize bfS xs = f at *
    go_enter Tryd.func24, Tryd.ntmps24
    go_wp2_with (first
      | (go_at_call 47; refine (K.out _).mono ?_; rintro e w1 ⟨rfl, hb1⟩; have B1 := Lib.hid hb1; clear hb1)
      | (go_at_call 56; refine (K2.out _ B1.out).mono ?_; rintro e w2 ⟨A2, c2, rfl, ho2, hb2⟩; have B2 := Lib.hid (bl_trans B1.out hb2); have O2 := Lib.hid (ho2.less B1.out.size); clear hb2 ho2))
    go_ret2
    exact ⟨rfl, B2.out⟩
set_option maxRecDepth 100000 in
set_option maxHeartbeats 1000000 in
theorem specBestFive_any (A : Option Addr) (c : Nat) (xs : List Int) (w : World) (hr : Rd w A xs) (hn : xs.length ≤ 4000000) (hcap : xs.length ≤ c) :
    Calls Tryd.prog 26 #[.slice A xs.length c] w (NewRC (bfR xs) (codeZ xs 5 8) w) := by
  have K := Lib.hid (fun (c : Nat) => specSized_any A c xs 5 8 w hr hn)
  rcases hd : sizedB xs 5 8 with _ | _
  · rw [bfR_no hd, codeZ_no hd]
    rw [hd] at K
    clear hd hr
    go_enter Tryd.func26, Tryd.ntmps26
    go_wp2_with (go_at_call 47; refine (K.out _).mono ?_; rintro e w1 ⟨rfl, hb1⟩; have B1 := Lib.hid hb1; clear hb1)
    go_ret2
    exact ⟨none, 0, rfl, Row.nil _ _, B1.out⟩
  · rw [bfR_yes hd, codeZ_yes hd]
    have HL5 := Lib.hid (bfS_len (sized8 hd).2.2)
    have K2 := Lib.hid (fun (W : World) (h : Below w.heap.size w W) => best_any A c xs W (hr.below h) hd hcap)
    rw [hd] at K
    clear hd hr hn
    unfold BestL at K2
    generalize bvS xs = v at *
    generalize bfS xs = f at *
    go_enter Tryd.func26, Tryd.ntmps26
    go_wp2_with (first
      | (go_at_call 47; refine (K.out _).mono ?_; rintro e w1 ⟨rfl, hb1⟩; have B1 := Lib.hid hb1; clear hb1)
      | (go_at_call 56; refine (K2.out _ B1.out).mono ?_; rintro e w2 ⟨A2, c2, rfl, ho2, hb2⟩; have B2 := Lib.hid (bl_trans B1.out hb2); have O2 := Lib.hid (ho2.less B1.out.size); clear hb2 ho2))
    go_ret2
    rw [show (5 : Nat) = f.length from HL5.out.symm]
    exact ⟨A2, c2, rfl, O2.out, B2.out⟩
set_option maxRecDepth 100000 in
set_option maxHeartbeats 400000 in
theorem order4_any (a b : Int) (w : World) : Calls Tryd.prog 58 #[.int .i64 a, .int .i64 b] w (Same (.int .i64 (cmpI a b)) w) := by
  rcases Int.lt_trichotomy a b with h | h | h
  · have H := Lib.hid (cmpI_lt h)
    go_enter Tryd.func58, Tryd.ntmps58
    go_wp2_with fail
    go_ret
    exact ⟨ret_int H.out.symm, rfl⟩
  · subst h
    have H := Lib.hid (cmpI_eq a)
    go_enter Tryd.func58, Tryd.ntmps58
    go_wp2_with fail
    go_ret
    exact ⟨ret_int H.out.symm, rfl⟩
  · have H := Lib.hid (cmpI_gt h)
    have h' : ¬ a < b := by omega
    go_enter Tryd.func58, Tryd.ntmps58
    go_wp2_with fail
    go_ret
    exact ⟨ret_int H.out.symm, rfl⟩
set_option maxRecDepth 100000 in
set_option maxHeartbeats 4000000 in
theorem specCompareHigh_any (A : Option Addr) (c : Nat) (xs : List Int) (A2 : Option Addr) (c2 : Nat) (ys : List Int) (w : World) (hr : Rd w A xs) (hn : xs.length ≤ 4000000) (hcap : xs.length ≤ c) (hr2 : Rd w A2 ys) (hn2 : ys.length ≤ 4000000) (hcap2 : ys.length ≤ c2) :
    Calls Tryd.prog 28 #[.slice A xs.length c, .slice A2 ys.length c2] w (Fresh (pairV (cmpR xs ys) (cmpC xs ys)) w) := by
  have K := Lib.hid (fun (c : Nat) => specSized_any A c xs 5 8 w hr hn)
  have L := Lib.hid (fun (c : Nat) (W : World) (h : Below w.heap.size w W) => specSized_any A2 c ys 5 8 W (hr2.below h) hn2)
  rcases hd : sizedB xs 5 8 with _ | _
  · rw [cmpR_no hd, cmpC_no hd]
    rw [hd] at K
    clear hd hr hr2
    go_enter Tryd.func28, Tryd.ntmps28
    go_wp2_with (go_at_call 47; refine (K.out _).mono ?_; rintro e w1 ⟨rfl, hb1⟩; have B1 := Lib.hid hb1; clear hb1)
    go_ret2
    exact ⟨rfl, B1.out⟩
  rcases hd2 : sizedB ys 5 8 with _ | _
  · rw [cmpR_no2 hd2, cmpC_no2 hd2]
    rw [hd] at K
    rw [hd2] at L
    clear hd hd2 hr hr2
    go_enter Tryd.func28, Tryd.ntmps28
    go_wp2_with (first
      | (go_at_call 47; refine (K.out _).mono ?_; rintro e w1 ⟨rfl, hb1⟩; have B1 := Lib.hid hb1; clear hb1 K)
      | (go_at_call 47; refine (L.out _ _ B1.out).mono ?_; rintro e w1 ⟨rfl, hb2⟩; have B2 := Lib.hid (bl_trans B1.out hb2); clear hb2))
    go_ret2
    exact ⟨rfl, B2.out⟩
  · rw [cmpR_yes hd hd2, cmpC_yes hd hd2]
    have K2 := Lib.hid (fun (W : World) (h : Below w.heap.size w W) => best_any A c xs W (hr.below h) hd hcap)
    have L2 := Lib.hid (fun (W : World) (h : Below w.heap.size w W) => best_any A2 c2 ys W (hr2.below h) hd2 hcap2)
    rw [hd] at K
    rw [hd2] at L
    have KC := Lib.hid order4_any
    unfold BestL at K2 L2
    generalize bvS xs = v at *
    generalize bvS ys = v2 at *
    generalize bfS xs = f at *
    generalize bfS ys = f2 at *
    clear hd hd2 hr hr2 hn hn2
    go_enter Tryd.func28, Tryd.ntmps28
    go_wp2_with (first
      | (go_at_call 47; refine (K.out _).mono ?_; rintro e w1 ⟨rfl, hb1⟩; have B1 := Lib.hid hb1; clear hb1 K)
      | (go_at_call 47; refine (L.out _ _ B1.out).mono ?_; rintro e w2 ⟨rfl, hb2⟩; have B2 := Lib.hid (bl_trans B1.out hb2); clear hb2 L)
      | (go_at_call 56; refine (K2.out _ B2.out).mono ?_; rintro e w3 ⟨A3, c3, rfl, ho3, hb3⟩; have B3 := Lib.hid (bl_trans B2.out hb3); clear hb3 ho3 K2)
      | (go_at_call 56; refine (L2.out _ B3.out).mono ?_; rintro e w4 ⟨A4, c4, rfl, ho4, hb4⟩; have B4 := Lib.hid (bl_trans B3.out hb4); clear hb4 ho4 L2)
      | (go_at_call 58; refine (KC.out v v2 _).mono ?_; rintro e w5 ⟨rfl, rfl⟩))
    go_ret2
    exact ⟨rfl, B4.out⟩
end Go.Proofs.YtcbfmfkahgfjkaaDoor
