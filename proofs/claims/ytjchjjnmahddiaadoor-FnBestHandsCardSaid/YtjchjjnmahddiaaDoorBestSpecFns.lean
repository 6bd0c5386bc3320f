/-
  BestHigh, BestFive, CompareHigh: the model's walks.
-/
import Derived.Test.YtjchjjnmahddiaaDoorChoiceSpec
import Derived.Test.YtjchjjnmahddiaaDoorBestI
namespace Go.Proofs.YtjchjjnmahddiaaDoor
open Go.RowKit
set_option linter.unusedVariables false

/-- What the model's search leaves. -/
def BestL (xs : List Int) (w : World) (e : Ending) (w' : World) : Prop := ∃ A c, e = .returned (.tuple #[.slice A 5 c, .int .i64 (bvS xs)]) ∧ Row w' w.heap.size A (bfS xs) ∧ Below w.heap.size w w'
set_option maxRecDepth 100000 in
set_option maxHeartbeats 4000000 in
theorem best_any (A : Option Addr) (c : Nat) (xs : List Int) (w : World) (hr : Rd w A xs) (hd : sizedB xs 5 8 = true) (hcap : xs.length ≤ c) :
    Calls Tryd.prog 52 #[.slice A xs.length c] w (BestL xs w) := by
  obtain ⟨h5, h8, hb⟩ := sized8 hd
  have K1 := Lib.hid (choices_all 5 (by omega) A c xs w hr h8 hcap)
  have hN0 : 0 < (ch 5 xs).length := by rw [ch_len]; exact idx_pos xs.length h5 h8
  have hN := ch_le 5 xs (Nat.le_refl _) h8
  have HCD := Lib.hid (ch_cards xs hb)
  have HBV := Lib.hid (bestV_pos xs hb)
  have HY := Lib.hid (fun i => bestI_yes hv (ch 5 xs) i)
  have HNO := Lib.hid (fun i => bestI_no hv (ch 5 xs) i)
  have HLT := Lib.hid (fun i hi => bestI_lt hv (ch 5 xs) i hi)
  have EB : Hid (bfS xs = (ch 5 xs).getD (bestI hv (ch 5 xs) (ch 5 xs).length).1 []) := Lib.hid (by unfold bfS bestF; rw [if_neg (by omega)])
  have EV : Hid (bvS xs = (bestI hv (ch 5 xs) (ch 5 xs).length).2) := Lib.hid rfl
  have EV2 : Hid (∀ i, bestV xs i = (bestI hv (ch 5 xs) i).2) := Lib.hid (fun i => rfl)
  clear hr hd hb
  go_enter Tryd.func52, Tryd.ntmps52
  go_wp2_with (go_at_call 66; refine K1.out.mono ?_; rintro e w1 ⟨A', c', AA, CC, rfl, hF, hb⟩; have HF := Lib.hid hF; have HB := Lib.hid hb; clear hF hb)
  go_loopw [5, 6, 7] (fun p v i wr => ∃ m : Nat, m ≤ (ch 5 xs).length ∧ p = .int .i64 ((bestI hv (ch 5 xs) m).1 : Nat) ∧ v = .int .i64 (bestI hv (ch 5 xs) m).2 ∧ i = .int .i64 m ∧ Hid (Below w1.heap.size w1 wr)) (fun _ _ i _ => (ch 5 xs).length - (intOf i).toNat)
  case atStart => exact ⟨0, Nat.zero_le _, rfl, rfl, rfl, Lib.hid (bl_refl _)⟩
  case round =>
    obtain ⟨m, hm, rfl, rfl, rfl, hs⟩ := hrel
    by_cases hlt : m < (ch 5 xs).length
    · obtain ⟨hcb, hc5⟩ := HCD.out m hlt
      have hvp := hv_bd _ hcb hc5
      have hbv := HBV.out m (by omega)
      rw [EV2.out] at hbv
      have hlt' : (m : Int) < (ch 5 xs).length := by omega
      obtain ⟨g, off, rfl, hc⟩ := HF.out.at_ hs.out m hlt
      have KV := Lib.hid (l04Value_any (AA m) (CC m) ((ch 5 xs).getD m []) wr ((HF.out.below hs.out).row m hlt).rd hc5 hcb)
      have Y := Lib.hid (HY.out m)
      have Z := Lib.hid (HNO.out m)
      have HJ := Lib.hid hlt
      rw [hc5] at hc
      generalize hv ((ch 5 xs).getD m []) = v at *
      generalize hp : (bestI hv (ch 5 xs) m).1 = p at *
      generalize hq : (bestI hv (ch 5 xs) m).2 = q at *
      have EP := Lib.hid hp
      have EQ := Lib.hid hq
      clear hc5 hcb hp hq
      by_cases hgt : q < v
      · have e1 : Hid (((bestI hv (ch 5 xs) (m + 1)).1 = m) ∧ (bestI hv (ch 5 xs) (m + 1)).2 = v) := Lib.hid (by rw [Y.out (by omega)]; exact ⟨rfl, rfl⟩)
        go_wp2_with (go_at_call 65; refine KV.out.mono ?_; rintro e w3 ⟨rfl, hb3⟩; have B3 := Lib.hid (bl_trans hs.out hb3); clear hb3)
        go_roundw
        case rel => exact ⟨m + 1, by have := HJ.out; omega, by rw [e1.out.1], by rw [e1.out.2], by go_num, B3⟩
        case measure => have := HJ.out; simp [intOf]; omega
      · have e1 : Hid (((bestI hv (ch 5 xs) (m + 1)).1 = (bestI hv (ch 5 xs) m).1) ∧ (bestI hv (ch 5 xs) (m + 1)).2 = (bestI hv (ch 5 xs) m).2) := Lib.hid (by rw [Z.out (by omega)]; exact ⟨rfl, rfl⟩)
        go_wp2_with (go_at_call 65; refine KV.out.mono ?_; rintro e w3 ⟨rfl, hb3⟩; have B3 := Lib.hid (bl_trans hs.out hb3); clear hb3)
        go_roundw
        case rel => exact ⟨m + 1, by have := HJ.out; omega, by rw [e1.out.1, EP.out], by rw [e1.out.2, EQ.out], by go_num, B3⟩
        case measure => have := HJ.out; simp [intOf]; omega
    · obtain rfl : m = (ch 5 xs).length := by omega
      have hlp := HLT.out (ch 5 xs).length (Nat.le_refl _)
      generalize hp : (bestI hv (ch 5 xs) (ch 5 xs).length).1 = p at *
      generalize hq : (bestI hv (ch 5 xs) (ch 5 xs).length).2 = q at *
      have hpn : p < (ch 5 xs).length := by omega
      have hpn' : (p : Int) < (ch 5 xs).length := by omega
      obtain ⟨hcb, hc5⟩ := HCD.out p hpn
      obtain ⟨g, off, rfl, hc⟩ := HF.out.at_ hs.out p hpn
      rw [hc5] at hc
      have HR := Lib.hid ((HF.out.below hs.out).row p hpn)
      have HS := Lib.hid hs.out
      clear hc5 hcb hp hq hs hlp
      go_wp2_with fail
      go_ret2
      exact ⟨AA p, CC p, by rw [EV.out]; rfl, by rw [EB.out]; exact HR.out, bl_trans HB.out HS.out⟩

theorem bfS_len {xs : List Int} (h : cardsB xs = true) : (bfS xs).length = 5 := bestF_len xs h _ (Nat.le_refl _)
theorem bfR_len (xs : List Int) : (bfR xs).length ≤ 5 := by
  rcases h : sizedB xs 5 8 with _ | _
  · rw [bfR_no h]; simp
  · rw [bfR_yes h, bfS_len (sized8 h).2.2]; omega
set_option maxRecDepth 100000 in
set_option maxHeartbeats 1000000 in
theorem specBestHigh_any (A : Option Addr) (c : Nat) (xs : List Int) (w : World) (hr : Rd w A xs) (hn : xs.length ≤ 4000000) (hcap : xs.length ≤ c) :
    Calls Tryd.prog 29 #[.slice A xs.length c] w (Fresh (pairV (bhR xs) (codeZ xs 5 8)) w) := by
  have K := Lib.hid (fun (c : Nat) => specSized_any A c xs 5 8 w hr hn)
  rcases hd : sizedB xs 5 8 with _ | _
  · rw [bhR_no hd, codeZ_no hd]
    rw [hd] at K
    clear hd hr
    go_enter Tryd.func29, Tryd.ntmps29
    go_wp2_with (go_at_call 51; refine (K.out _).mono ?_; rintro e w1 ⟨rfl, hb1⟩; have B1 := Lib.hid hb1; clear hb1)
    go_ret2
    exact ⟨rfl, B1.out⟩
  · rw [bhR_yes hd, codeZ_yes hd]
    have HL5 := Lib.hid (bfS_len (sized8 hd).2.2)
    have K2 := Lib.hid (fun (W : World) (h : Below w.heap.size w W) => best_any A c xs W (hr.below h) hd hcap)
    rw [hd] at K
    clear hd hr hn
    unfold BestL at K2
    generalize bvS xs = v at *
    generalize bfS xs = f at *
    go_enter Tryd.func29, Tryd.ntmps29
    go_wp2_with (first
      | (go_at_call 51; refine (K.out _).mono ?_; rintro e w1 ⟨rfl, hb1⟩; have B1 := Lib.hid hb1; clear hb1)
      | (go_at_call 52; refine (K2.out _ B1.out).mono ?_; rintro e w2 ⟨A2, c2, rfl, ho2, hb2⟩; have B2 := Lib.hid (bl_trans B1.out hb2); have O2 := Lib.hid (ho2.less B1.out.size); clear hb2 ho2))
    go_ret2
    exact ⟨rfl, B2.out⟩
set_option maxRecDepth 100000 in
set_option maxHeartbeats 1000000 in
theorem specBestFive_any (A : Option Addr) (c : Nat) (xs : List Int) (w : World) (hr : Rd w A xs) (hn : xs.length ≤ 4000000) (hcap : xs.length ≤ c) :
    Calls Tryd.prog 23 #[.slice A xs.length c] w (NewRC (bfR xs) (codeZ xs 5 8) w) := by
  have K := Lib.hid (fun (c : Nat) => specSized_any A c xs 5 8 w hr hn)
  rcases hd : sizedB xs 5 8 with _ | _
  · rw [bfR_no hd, codeZ_no hd]
    rw [hd] at K
    clear hd hr
    go_enter Tryd.func23, Tryd.ntmps23
    go_wp2_with (go_at_call 51; refine (K.out _).mono ?_; rintro e w1 ⟨rfl, hb1⟩; have B1 := Lib.hid hb1; clear hb1)
    go_ret2
    exact ⟨none, 0, rfl, Row.nil _ _, B1.out⟩
  · rw [bfR_yes hd, codeZ_yes hd]
    have HL5 := Lib.hid (bfS_len (sized8 hd).2.2)
    have K2 := Lib.hid (fun (W : World) (h : Below w.heap.size w W) => best_any A c xs W (hr.below h) hd hcap)
    rw [hd] at K
    clear hd hr hn
    unfold BestL at K2
    generalize bvS xs = v at *
    generalize bfS xs = f at *
    go_enter Tryd.func23, Tryd.ntmps23
    go_wp2_with (first
      | (go_at_call 51; refine (K.out _).mono ?_; rintro e w1 ⟨rfl, hb1⟩; have B1 := Lib.hid hb1; clear hb1)
      | (go_at_call 52; refine (K2.out _ B1.out).mono ?_; rintro e w2 ⟨A2, c2, rfl, ho2, hb2⟩; have B2 := Lib.hid (bl_trans B1.out hb2); have O2 := Lib.hid (ho2.less B1.out.size); clear hb2 ho2))
    go_ret2
    rw [show (5 : Nat) = f.length from HL5.out.symm]
    exact ⟨A2, c2, rfl, O2.out, B2.out⟩
set_option maxRecDepth 100000 in
set_option maxHeartbeats 400000 in
theorem order4_any (a b : Int) (w : World) : Calls Tryd.prog 59 #[.int .i64 a, .int .i64 b] w (Same (.int .i64 (cmpI a b)) w) := by
  rcases Int.lt_trichotomy a b with h | h | h
  · have H := Lib.hid (cmpI_lt h)
    go_enter Tryd.func59, Tryd.ntmps59
    go_wp2_with fail
    go_ret
    exact ⟨ret_int H.out.symm, rfl⟩
  · subst h
    have H := Lib.hid (cmpI_eq a)
    go_enter Tryd.func59, Tryd.ntmps59
    go_wp2_with fail
    go_ret
    exact ⟨ret_int H.out.symm, rfl⟩
  · have H := Lib.hid (cmpI_gt h)
    have h' : ¬ a < b := by omega
    go_enter Tryd.func59, Tryd.ntmps59
    go_wp2_with fail
    go_ret
    exact ⟨ret_int H.out.symm, rfl⟩
set_option maxRecDepth 100000 in
set_option maxHeartbeats 4000000 in
theorem specCompareHigh_any (A : Option Addr) (c : Nat) (xs : List Int) (A2 : Option Addr) (c2 : Nat) (ys : List Int) (w : World) (hr : Rd w A xs) (hn : xs.length ≤ 4000000) (hcap : xs.length ≤ c) (hr2 : Rd w A2 ys) (hn2 : ys.length ≤ 4000000) (hcap2 : ys.length ≤ c2) :
    Calls Tryd.prog 32 #[.slice A xs.length c, .slice A2 ys.length c2] w (Fresh (pairV (cmpR xs ys) (cmpC xs ys)) w) := by
  have K := Lib.hid (fun (c : Nat) => specSized_any A c xs 5 8 w hr hn)
  have L := Lib.hid (fun (c : Nat) (W : World) (h : Below w.heap.size w W) => specSized_any A2 c ys 5 8 W (hr2.below h) hn2)
  rcases hd : sizedB xs 5 8 with _ | _
  · rw [cmpR_no hd, cmpC_no hd]
    rw [hd] at K
    clear hd hr hr2
    go_enter Tryd.func32, Tryd.ntmps32
    go_wp2_with (go_at_call 51; refine (K.out _).mono ?_; rintro e w1 ⟨rfl, hb1⟩; have B1 := Lib.hid hb1; clear hb1)
    go_ret2
    exact ⟨rfl, B1.out⟩
  rcases hd2 : sizedB ys 5 8 with _ | _
  · rw [cmpR_no2 hd2, cmpC_no2 hd2]
    rw [hd] at K
    rw [hd2] at L
    clear hd hd2 hr hr2
    go_enter Tryd.func32, Tryd.ntmps32
    go_wp2_with (first
      | (go_at_call 51; refine (K.out _).mono ?_; rintro e w1 ⟨rfl, hb1⟩; have B1 := Lib.hid hb1; clear hb1 K)
      | (go_at_call 51; refine (L.out _ _ B1.out).mono ?_; rintro e w1 ⟨rfl, hb2⟩; have B2 := Lib.hid (bl_trans B1.out hb2); clear hb2))
    go_ret2
    exact ⟨rfl, B2.out⟩
  · rw [cmpR_yes hd hd2, cmpC_yes hd hd2]
    have K2 := Lib.hid (fun (W : World) (h : Below w.heap.size w W) => best_any A c xs W (hr.below h) hd hcap)
    have L2 := Lib.hid (fun (W : World) (h : Below w.heap.size w W) => best_any A2 c2 ys W (hr2.below h) hd2 hcap2)
    rw [hd] at K
    rw [hd2] at L
    have KC := Lib.hid order4_any
    unfold BestL at K2 L2
    generalize bvS xs = v at *
    generalize bvS ys = v2 at *
    generalize bfS xs = f at *
    generalize bfS ys = f2 at *
    clear hd hd2 hr hr2 hn hn2
    go_enter Tryd.func32, Tryd.ntmps32
    go_wp2_with (first
      | (go_at_call 51; refine (K.out _).mono ?_; rintro e w1 ⟨rfl, hb1⟩; have B1 := Lib.hid hb1; clear hb1 K)
      | (go_at_call 51; refine (L.out _ _ B1.out).mono ?_; rintro e w2 ⟨rfl, hb2⟩; have B2 := Lib.hid (bl_trans B1.out hb2); clear hb2 L)
      | (go_at_call 52; refine (K2.out _ B2.out).mono ?_; rintro e w3 ⟨A3, c3, rfl, ho3, hb3⟩; have B3 := Lib.hid (bl_trans B2.out hb3); clear hb3 ho3 K2)
      | (go_at_call 52; refine (L2.out _ B3.out).mono ?_; rintro e w4 ⟨A4, c4, rfl, ho4, hb4⟩; have B4 := Lib.hid (bl_trans B3.out hb4); clear hb4 ho4 L2)
      | (go_at_call 59; refine (KC.out v v2 _).mono ?_; rintro e w5 ⟨rfl, rfl⟩))
    go_ret2
    exact ⟨rfl, B4.out⟩
end Go.Proofs.YtjchjjnmahddiaaDoor
