/-
  FnCombos: the walk.
-/
import Derived.Test.YtjmfecjgomkofabDoorComBound
import Derived.Test.YtjmfecjgomkofabDoorComboCount
import Derived.Test.YtjmfecjgomkofabDoorSuitedFns
import Derived.Test.YtjmfecjgomkofabDoorDrawCls
import Derived.Test.YtjmfecjgomkofabDoorHasNo
import Derived.Test.YtjmfecjgomkofabDoorLikeLists
import Derived.Test.YtjmfecjgomkofabDoorOtherCards
namespace Go.Proofs.YtjmfecjgomkofabDoor
open Go.RowKit
set_option linter.unusedVariables false

theorem combos_wants (k : Int) : comC k [] = 0 → (comP k []).length = if isuA k = true then 4 else if isuB k = true then 6 else 12 := fun h => by
  unfold comC at h
  split at h
  · rename_i hc
    obtain ⟨h0, h1⟩ := (isCls_iff k).1 hc
    rw [(comC_yes hc cards_nil).2, combos_nil]
    unfold clsP
    rw [cls_count k h0 h1]
    unfold wantN isuA isuB suitedB pairB
    rw [hc, Bool.true_and, Bool.true_and]
    simp only [decide_eq_true_eq]
    by_cases e1 : k / 13 = k % 13
    · rw [if_pos (by omega), if_neg (by omega), if_pos e1]
    · rw [if_neg (by omega)]
      by_cases e2 : k % 13 < k / 13
      · rw [if_pos (by omega), if_pos e2]
      · rw [if_neg (by omega), if_neg e2, if_neg e1]
  · omega
theorem combos_free (k : Int) (xs : List Int) : comC k xs = 0 → (∀ j, j < (comP k xs).length → ((comP k xs).getD j (0, 0)).1 ∉ xs ∧ ((comP k xs).getD j (0, 0)).2 ∉ xs) ∧ comC k [] = 0 ∧ (comP k xs).length ≤ (comP k []).length := fun h => by
  unfold comC at h
  by_cases hc : isCls k = true
  · rw [if_pos hc] at h
    by_cases hd : cardsB xs = true
    · rw [(comC_yes hc hd).2, (comC_yes hc cards_nil).2, (comC_yes hc cards_nil).1, combos_nil, combos_sel]
      refine ⟨fun j hj => ?_, rfl, List.length_filter_le _ _⟩
      have hm : ((clsP k).filter (fun q => !hasB xs q.1 && !hasB xs q.2)).getD j (0, 0) ∈ (clsP k).filter (fun q => !hasB xs q.1 && !hasB xs q.2) := by
        rw [List.getD_eq_getElem?_getD, List.getElem?_eq_getElem hj]
        exact List.getElem_mem hj
      have h2 := (List.mem_filter.1 hm).2
      generalize ((clsP k).filter (fun q => !hasB xs q.1 && !hasB xs q.2)).getD j (0, 0) = q at *
      simp only [Bool.and_eq_true, Bool.not_eq_true', hasB] at h2
      exact ⟨by simpa using h2.1, by simpa using h2.2⟩
    · rw [if_neg hd] at h; omega
  · rw [if_neg hc] at h; omega
/-- The four kinds of a number: none of a class, a pair, suited, offsuit. -/
theorem combos_kind (k : Int) : (comC k [] ≠ 0) ∨ (comC k [] = 0 ∧ isuA k = true ∧ isuB k = false ∧ (comP k []).length = 4) ∨ (comC k [] = 0 ∧ isuA k = false ∧ isuB k = true ∧ (comP k []).length = 6) ∨ (comC k [] = 0 ∧ isuA k = false ∧ isuB k = false ∧ (comP k []).length = 12) := by
  by_cases h : comC k [] = 0
  · right
    have hw := combos_wants k h
    cases ha : isuA k with
    | true =>
      rw [ha, if_pos rfl] at hw
      left
      refine ⟨h, rfl, ?_, hw⟩
      unfold isuA suitedB at ha
      unfold isuB pairB
      simp only [Bool.and_eq_true, decide_eq_true_eq] at ha
      rw [decide_eq_false (by omega), Bool.and_false]
    | false =>
      rw [ha, if_neg (by decide)] at hw
      right
      cases hb : isuB k with
      | true => rw [hb, if_pos rfl] at hw; exact .inl ⟨h, rfl, rfl, hw⟩
      | false => rw [hb, if_neg (by decide)] at hw; exact .inr ⟨h, rfl, rfl, hw⟩
  · exact .inl h

set_option maxRecDepth 100000 in
set_option maxHeartbeats 8000000 in
theorem walkCombos_in (a : Option Addr) (L c : Nat) (zs : Nat → Int) (w : World) (HT : Hid (Tz w.heap.size w)) (hL : L ≤ 4096) (hc : CodeIn w a L zs) :
    Calls Tryd.prog 3 #[.slice a L c] w (Fresh (.bool true) w) := by
  have HC := Lib.hid hc
  clear hc
  go_enter Tryd.func3, Tryd.ntmps3
  go_wp2_with (go_at_call 11; ((with_reducible refine (big_no _ _ _ _ hL).mono ?_); rintro e w0 ⟨rfl, rfl⟩))
  go_wp2_with (go_at_call 12; ((with_reducible refine (drawCombosWithout_any _ _ _ zs _ hL HC.out).mono ?_); rintro e w1 ⟨kc, xs, A1, c1, rfl, k0, k1, hl, ho1, hb1⟩; have O1 := Lib.hid ho1; have B1 := Lib.hid hb1; clear ho1 hb1))
  obtain ⟨H, R, ky, hH, hrw, K1, K2, HFR⟩ : ∃ (H : Nat) (R : Nat → List Int) (ky : Int), H ≤ 4096 ∧ Hid (∀ j, ∃ x y, R j = [x, y]) ∧ Hid (∀ (A : Option Addr) (c : Nat) (W : World), Rd W A xs → Below w.heap.size w W → Calls Tryd.prog 13 #[.int .i64 kc, .slice A xs.length c] W (NewFam H R ky W)) ∧ Hid (∀ (A : Option Addr) (c : Nat) (W : World), Rd W A xs → Calls Tryd.prog 14 #[.int .i64 kc, .slice A xs.length c] W (NewFam H R ky W)) ∧ Hid (ky = 0 → (∀ j, j < H → nth (R j) 0 ∉ xs ∧ nth (R j) 1 ∉ xs) ∧ ∃ H3 R3, H ≤ H3 ∧ Hid (∀ (W : World), Below w.heap.size w W → Calls Tryd.prog 16 #[.int .i64 kc] W (NewFam H3 R3 0 W))) := by
    refine ⟨(comP kc xs).length, comR kc xs, comC kc xs, com_bd kc xs, Lib.hid (fun j => ⟨_, _, rfl⟩), Lib.hid (fun A c W h hb => implCombosWithout_any kc A c xs w.heap.size w W h (by omega) HT (Lib.hid hb) (Lib.hid hb.size)), Lib.hid (fun A c W h => specCombosWithout_any kc A c xs W h (by omega)), Lib.hid (fun h => ?_)⟩
    have hf := combos_free kc xs h
    refine ⟨fun j hj => hf.1 j hj, (comP kc []).length, comR kc [], hf.2.2, Lib.hid (fun W hb => ?_)⟩
    have := implCombosOf_any kc w.heap.size w W HT (Lib.hid hb) (Lib.hid hb.size)
    rw [hf.2.1] at this
    exact this
  have hrw4 : Hid (∀ h, h < H → (R h).length ≤ 4000000) := Lib.hid (fun h _ => by obtain ⟨x, y, e⟩ := hrw.out h; rw [e]; simp)
  have hH4 : H ≤ 4000000 := by omega
  go_wp2_with (go_at_call 13; ((with_reducible refine (K1.out A1 _ _ O1.out.rd B1.out).mono ?_); rintro e w2 ⟨A2, c2, AA2, CC2, rfl, hf2, hb2⟩; have F2 := Lib.hid hf2; have X2 := Lib.hid hb2; have B2 := Lib.hid (bl_trans B1.out hb2); clear hf2 hb2))
  go_wp2_with (go_at_call 14; ((with_reducible refine (K2.out A1 _ _ (O1.out.below X2.out).rd).mono ?_); rintro e w3 ⟨A3, c3, AA3, CC3, rfl, hf3, hb3⟩; have F3 := Lib.hid hf3; have X3 := Lib.hid hb3; have B3 := Lib.hid (bl_trans B2.out hb3); clear hf3 hb3))
  go_wp2_with (go_at_call 15; ((with_reducible refine (drawCombosOf_any _ _ _ zs _ hL (codeIn_below HC.out B3.out)).mono ?_); rintro e w4 ⟨k2, rfl, k20, k21, hb4⟩; have X4 := Lib.hid hb4; have B4 := Lib.hid (bl_trans B3.out hb4); clear hb4))
  obtain ⟨H2, R2, ky2, sa, sb, sc, hH2, hrw2, K3, K4, K5, K6, HKD⟩ : ∃ (H2 : Nat) (R2 : Nat → List Int) (ky2 : Int) (sa sb : Bool) (sc : Int), H2 ≤ 4096 ∧ Hid (∀ h, h < H2 → (R2 h).length ≤ 4000000) ∧ Hid (∀ (W : World), Below w.heap.size w W → Calls Tryd.prog 16 #[.int .i64 k2] W (NewFam H2 R2 ky2 W)) ∧ Hid (∀ (W : World), Calls Tryd.prog 17 #[.int .i64 k2] W (NewFam H2 R2 ky2 W)) ∧ Hid (∀ (W : World), Calls Tryd.prog 18 #[.int .i64 k2] W (Same (isuV sa sb sc) W)) ∧ Hid (∀ (W : World), Calls Tryd.prog 19 #[.int .i64 k2] W (Same (isuV sa sb sc) W)) ∧ Hid (ky2 ≠ 0 ∨ (ky2 = 0 ∧ sa = true ∧ sb = false ∧ H2 = 4) ∨ (ky2 = 0 ∧ sa = false ∧ sb = true ∧ H2 = 6) ∨ (ky2 = 0 ∧ sa = false ∧ sb = false ∧ H2 = 12)) :=
    ⟨(comP k2 []).length, comR k2 [], comC k2 [], isuA k2, isuB k2, clsTC k2, com_bd k2 [], Lib.hid (fun h _ => by rw [com_two]; omega), Lib.hid (fun W hb => implCombosOf_any k2 w.heap.size w W HT (Lib.hid hb) (Lib.hid hb.size)), Lib.hid (fun W => specCombosOf_any k2 W), Lib.hid (fun W => implIsSuited_any k2 W), Lib.hid (fun W => specIsSuited_any k2 W), Lib.hid (combos_kind k2)⟩
  have hH24 : H2 ≤ 4000000 := by omega
  go_wp2_with (go_at_call 16; ((with_reducible refine (K3.out _ B4.out).mono ?_); rintro e w5 ⟨A5, c5, AA5, CC5, rfl, hf5, hb5⟩; have F5 := Lib.hid hf5; have X5 := Lib.hid hb5; have B5 := Lib.hid (bl_trans B4.out hb5); clear hf5 hb5))
  go_wp2_with (go_at_call 17; ((with_reducible refine (K4.out _).mono ?_); rintro e w6 ⟨A6, c6, AA6, CC6, rfl, hf6, hb6⟩; have F6 := Lib.hid hf6; have X6 := Lib.hid hb6; have B6 := Lib.hid (bl_trans B5.out hb6); clear hf6 hb6))
  have X26 : Hid (Below w3.heap.size w3 w6) := Lib.hid (bl_trans (bl_trans X4.out X5.out) X6.out)
  have G2 := Lib.hid ((F2.out.below X3.out).below X26.out)
  have G3 := Lib.hid (F3.out.below X26.out)
  have G5 := Lib.hid (F5.out.below X6.out)
  have q1 : (sa != sa) = false := by simp
  have q2 : (sb != sb) = false := by simp
  go_wp2_with (go_at_call 18; ((with_reducible refine (K5.out _).mono ?_); rintro e w6b ⟨rfl, rfl⟩))
  go_wp2_with (go_at_call 19; ((with_reducible refine (K6.out _).mono ?_); rintro e w6c ⟨rfl, rfl⟩))
  go_wp2_with (go_at_call 20; ((with_reducible refine (likeFam_same A2 A3 _ _ H R AA2 AA3 CC2 CC3 _ _ _ G2.out G3.out hH4 hrw4.out).mono ?_); rintro e w7 ⟨rfl, hb7⟩; have X7 := Lib.hid hb7; have B7 := Lib.hid (bl_trans B6.out hb7); clear hb7))
  have Q2 := Lib.hid (G2.out.below X7.out)
  rcases HKD.out with hz | ⟨rfl, rfl, rfl, rfl⟩ | ⟨rfl, rfl, rfl, rfl⟩ | ⟨rfl, rfl, rfl, rfl⟩
  · have q3 : (ky2 == 0) = false := by simpa using hz
    have HZ := Lib.hid hz
    clear hz
    by_cases hk : ky = 0
    · subst hk
      obtain ⟨hfr, H3, R3, hle, K7⟩ := HFR.out rfl
      have HF := Lib.hid hfr
      have hle' : (H : Int) ≤ H3 := by omega
      have hl4 : xs.length ≤ 4000000 := by omega
      have RX := Lib.hid ((((O1.out.below X2.out).below X3.out).below X26.out).below X7.out)
      clear hfr hle
      go_wp2_with (go_at_call 20; ((with_reducible refine (likeFam_same A5 A6 _ _ _ R2 AA5 AA6 CC5 CC6 _ _ _ (G5.out.below X7.out) (F6.out.below X7.out) hH24 hrw2.out).mono ?_); rintro e w8 ⟨rfl, hb8⟩; have X8 := Lib.hid hb8; have B8 := Lib.hid (bl_trans B7.out hb8); clear hb8))
      have Q8 := Lib.hid (Q2.out.below X8.out)
      have KN := Lib.hid (fun (x : Int) (h : x ∉ xs) (c : Nat) => hasInt_no A1 c xs x w8 (RX.out.below X8.out).rd hl4 h)
      go_loop [21] (fun i => ∃ j : Nat, j ≤ H ∧ i = .int .i64 j) (fun i => H - (intOf i).toNat)
      case atStart => exact ⟨0, Nat.zero_le _, rfl⟩
      case round =>
        obtain ⟨j, hj, rfl⟩ := hrel
        by_cases hlt : j < H
        · have hlt' : (j : Int) < H := by omega
          obtain ⟨g, off, rfl, hco⟩ := Q8.out.at_ (bl_refl _) j hlt
          have hrow := Q8.out.row j hlt
          have hnn := HF.out j hlt
          obtain ⟨x, y, hR⟩ := hrw.out j
          rw [hR] at hco hrow hnn
          obtain ⟨gi, oi, hai, hci⟩ := hrow.rd (by simp)
          have c0 : w8.cell? ⟨gi, oi, none⟩ = some (.int .i64 x) := hci 0 (by simp)
          have c1' : w8.cell? ⟨gi, oi + 1, none⟩ = some (.int .i64 y) := hci 1 (by simp)
          rw [hai] at hco
          simp only [List.length_cons, List.length_nil, Nat.zero_add, Nat.reduceAdd] at hco
          have KX := Lib.hid (fun (c : Nat) => KN.out x hnn.1 c)
          have KY := Lib.hid (fun (c : Nat) => KN.out y hnn.2 c)
          clear hrow hR hci hai hnn
          go_wp2_with (first
            | (go_at_call 21; ((with_reducible refine (KX.out _).mono ?_); rintro e w9 ⟨rfl, rfl⟩))
            | (go_at_call 21; ((with_reducible refine (KY.out _).mono ?_); rintro e w9 ⟨rfl, rfl⟩)))
          go_round
          case rel => exact ⟨j + 1, by omega, by go_num⟩
          case measure => simp [intOf]; omega
        · obtain rfl : j = H := by omega
          go_wp2_with (go_at_call 16; ((with_reducible refine (K7.out _ B8.out).mono ?_); rintro e w9 ⟨A9, c9, AA9, CC9, rfl, hf9, hb9⟩; have B9 := Lib.hid (bl_trans B8.out hb9); clear hf9 hb9))
          go_ret
          exact ⟨by first | rfl | exact ret_bool (decide_eq_true hle'), B9.out⟩
    · have q4 : (ky != 0) = true := by simpa using hk
      clear hk
      go_wp2_with (go_at_call 20; ((with_reducible refine (likeFam_same A5 A6 _ _ _ R2 AA5 AA6 CC5 CC6 _ _ _ (G5.out.below X7.out) (F6.out.below X7.out) hH24 hrw2.out).mono ?_); rintro e w8 ⟨rfl, hb8⟩; have X8 := Lib.hid hb8; have B8 := Lib.hid (bl_trans B7.out hb8); clear hb8))
      go_ret
      exact ⟨rfl, B8.out⟩
  all_goals
    by_cases hk : ky = 0
    · subst hk
      obtain ⟨hfr, H3, R3, hle, K7⟩ := HFR.out rfl
      have HF := Lib.hid hfr
      have hle' : (H : Int) ≤ H3 := by omega
      have hl4 : xs.length ≤ 4000000 := by omega
      have RX := Lib.hid ((((O1.out.below X2.out).below X3.out).below X26.out).below X7.out)
      clear hfr hle
      go_wp2_with (go_at_call 20; ((with_reducible refine (likeFam_same A5 A6 _ _ _ R2 AA5 AA6 CC5 CC6 _ _ _ (G5.out.below X7.out) (F6.out.below X7.out) hH24 hrw2.out).mono ?_); rintro e w8 ⟨rfl, hb8⟩; have X8 := Lib.hid hb8; have B8 := Lib.hid (bl_trans B7.out hb8); clear hb8))
      have Q8 := Lib.hid (Q2.out.below X8.out)
      have KN := Lib.hid (fun (x : Int) (h : x ∉ xs) (c : Nat) => hasInt_no A1 c xs x w8 (RX.out.below X8.out).rd hl4 h)
      go_loop [21] (fun i => ∃ j : Nat, j ≤ H ∧ i = .int .i64 j) (fun i => H - (intOf i).toNat)
      case atStart => exact ⟨0, Nat.zero_le _, rfl⟩
      case round =>
        obtain ⟨j, hj, rfl⟩ := hrel
        by_cases hlt : j < H
        · have hlt' : (j : Int) < H := by omega
          obtain ⟨g, off, rfl, hco⟩ := Q8.out.at_ (bl_refl _) j hlt
          have hrow := Q8.out.row j hlt
          have hnn := HF.out j hlt
          obtain ⟨x, y, hR⟩ := hrw.out j
          rw [hR] at hco hrow hnn
          obtain ⟨gi, oi, hai, hci⟩ := hrow.rd (by simp)
          have c0 : w8.cell? ⟨gi, oi, none⟩ = some (.int .i64 x) := hci 0 (by simp)
          have c1' : w8.cell? ⟨gi, oi + 1, none⟩ = some (.int .i64 y) := hci 1 (by simp)
          rw [hai] at hco
          simp only [List.length_cons, List.length_nil, Nat.zero_add, Nat.reduceAdd] at hco
          have KX := Lib.hid (fun (c : Nat) => KN.out x hnn.1 c)
          have KY := Lib.hid (fun (c : Nat) => KN.out y hnn.2 c)
          clear hrow hR hci hai hnn
          go_wp2_with (first
            | (go_at_call 21; ((with_reducible refine (KX.out _).mono ?_); rintro e w9 ⟨rfl, rfl⟩))
            | (go_at_call 21; ((with_reducible refine (KY.out _).mono ?_); rintro e w9 ⟨rfl, rfl⟩)))
          go_round
          case rel => exact ⟨j + 1, by omega, by go_num⟩
          case measure => simp [intOf]; omega
        · obtain rfl : j = H := by omega
          go_wp2_with (go_at_call 16; ((with_reducible refine (K7.out _ B8.out).mono ?_); rintro e w9 ⟨A9, c9, AA9, CC9, rfl, hf9, hb9⟩; have B9 := Lib.hid (bl_trans B8.out hb9); clear hf9 hb9))
          go_ret
          exact ⟨by first | rfl | exact ret_bool (decide_eq_true hle'), B9.out⟩
    · have q4 : (ky != 0) = true := by simpa using hk
      clear hk
      go_wp2_with (go_at_call 20; ((with_reducible refine (likeFam_same A5 A6 _ _ _ R2 AA5 AA6 CC5 CC6 _ _ _ (G5.out.below X7.out) (F6.out.below X7.out) hH24 hrw2.out).mono ?_); rintro e w8 ⟨rfl, hb8⟩; have X8 := Lib.hid hb8; have B8 := Lib.hid (bl_trans B7.out hb8); clear hb8))
      go_ret
      exact ⟨rfl, B8.out⟩

set_option maxRecDepth 100000 in
set_option maxHeartbeats 400000 in
theorem walkCombos_big (a : Option Addr) (L c : Nat) (w : World) (hm : L ≤ maxLen) (h : 4096 < L) :
    Calls Tryd.prog 3 #[.slice a L c] w (Fresh (.bool true) w) := by
  unfold maxLen at hm
  go_enter Tryd.func3, Tryd.ntmps3
  go_wp2_with (go_at_call 11; refine (big_yes _ _ _ _ h (by omega)).mono ?_; rintro e w0 ⟨rfl, rfl⟩)
  go_ret
  exact ⟨rfl, bl_refl _⟩
theorem walkCombos (a : Option Addr) (L c : Nat) (zs : Nat → Int) (w : World) (HT : Hid (Tz w.heap.size w)) (hm : L ≤ maxLen) (hc : CodeIn w a L zs) :
    Calls Tryd.prog 3 #[.slice a L c] w (Fresh (.bool true) w) := by
  by_cases h : L ≤ 4096
  · exact walkCombos_in a L c zs w HT h hc
  · exact walkCombos_big a L c w hm (by omega)


end Go.Proofs.YtjmfecjgomkofabDoor
