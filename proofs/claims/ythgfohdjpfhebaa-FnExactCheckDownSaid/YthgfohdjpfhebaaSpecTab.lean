/-
  The model's functions of tables: valid ones, blinds, the first seat, the seats in their order, the sum of the stacks.
-/
import Derived.Test.YthgfohdjpfhebaaTab
import Derived.Test.YthgfohdjpfhebaaSpecH
import Derived.Test.YthgfohdjpfhebaaBase
namespace Go.Proofs.Ythgfohdjpfhebaa
open Go.RowKit
set_option linter.unusedVariables false

set_option maxRecDepth 100000 in
set_option maxHeartbeats 400000 in
theorem specLeft_any (s n : Int) (w : World) (h0 : 0 ≤ s) (h1 : s ≤ 4000000) (hn : 0 < n) (hn1 : n ≤ 4000000) :
    Calls Try.prog 178 #[.int .i64 s, .int .i64 n] w (Same (.int .i64 (leftI s n)) w) := by
  have hb := left_bd s n hn
  unfold leftI at *
  have hz : n ≠ 0 := by omega
  go_enter Try.func178, Try.ntmps178
  go_wp2_with fail
  go_ret
  exact ⟨rfl, rfl⟩
set_option maxRecDepth 100000 in
set_option maxHeartbeats 2000000 in
theorem specIsTable_any (A : Option Addr) (c : Nat) (xs : List Int) (b s g a l : Int) (w : World) (hr : Rd w A xs) (hn : xs.length ≤ 4000000) :
    Calls Try.prog 116 #[tV A xs.length c b s g a l] w (Fresh (.bool (tabB xs b s g a l)) w) := by
  have n0 := blk_new w 49 [.slice A xs.length c, .int .i64 b, .int .i64 s, .int .i64 g, .int .i64 a, .int .i64 l]
  have N0 := Lib.hid n0
  have B := Lib.hid (bl_alloc (bl_refl w) (.cells ([.slice A xs.length c, .int .i64 b, .int .i64 s, .int .i64 g, .int .i64 a, .int .i64 l] : List Value).toArray 49))
  clear n0
  unfold tV
  by_cases c0 : 2 ≤ (xs.length : Int) ∧ (xs.length : Int) ≤ 6
  rotate_left
  · have HB : Hid (tabB xs b s g a l = false) := Lib.hid (tab_no (by rintro ⟨t0, t1, t2, t3, t4, t5, t6, t7, t8, t9, t10, t11, t12⟩; omega))
    have S0 := Lib.hid (fun W : World => specIn_no (xs.length : Int) 2 6 W (by unfold outB; omega))
    clear hr
    go_enter Try.func116, Try.ntmps116
    go_wp2_with (go_at_call 90; (first | (with_reducible refine (S0.out _).mono ?_) | (exfalso; omega)); rintro e wn ⟨rfl, rfl⟩)
    go_ret
    exact ⟨ret_bool HB.out.symm, B.out⟩
  by_cases c1 : 0 ≤ b ∧ b ≤ ((xs.length : Int) - 1)
  rotate_left
  · have HB : Hid (tabB xs b s g a l = false) := Lib.hid (tab_no (by rintro ⟨t0, t1, t2, t3, t4, t5, t6, t7, t8, t9, t10, t11, t12⟩; omega))
    have S0 := Lib.hid (fun W : World => specIn_yes (xs.length : Int) 2 6 W c0.1 c0.2)
    have S1 := Lib.hid (fun W : World => specIn_no b 0 ((xs.length : Int) - 1) W (by unfold outB; omega))
    clear hr
    go_enter Try.func116, Try.ntmps116
    go_wp2_with (go_at_call 90; (first | (with_reducible refine (S0.out _).mono ?_) | (with_reducible refine (S1.out _).mono ?_) | (exfalso; omega)); rintro e wn ⟨rfl, rfl⟩)
    go_ret
    exact ⟨ret_bool HB.out.symm, B.out⟩
  by_cases c2 : 1 ≤ g ∧ g ≤ 100000
  rotate_left
  · have HB : Hid (tabB xs b s g a l = false) := Lib.hid (tab_no (by rintro ⟨t0, t1, t2, t3, t4, t5, t6, t7, t8, t9, t10, t11, t12⟩; omega))
    have S0 := Lib.hid (fun W : World => specIn_yes (xs.length : Int) 2 6 W c0.1 c0.2)
    have S1 := Lib.hid (fun W : World => specIn_yes b 0 ((xs.length : Int) - 1) W c1.1 c1.2)
    have S2 := Lib.hid (fun W : World => specIn_no g 1 100000 W (by unfold outB; omega))
    clear hr
    go_enter Try.func116, Try.ntmps116
    go_wp2_with (go_at_call 90; (first | (with_reducible refine (S0.out _).mono ?_) | (with_reducible refine (S1.out _).mono ?_) | (with_reducible refine (S2.out _).mono ?_) | (exfalso; omega)); rintro e wn ⟨rfl, rfl⟩)
    go_ret
    exact ⟨ret_bool HB.out.symm, B.out⟩
  by_cases c3 : 0 ≤ s ∧ s ≤ g
  rotate_left
  · have HB : Hid (tabB xs b s g a l = false) := Lib.hid (tab_no (by rintro ⟨t0, t1, t2, t3, t4, t5, t6, t7, t8, t9, t10, t11, t12⟩; omega))
    have S0 := Lib.hid (fun W : World => specIn_yes (xs.length : Int) 2 6 W c0.1 c0.2)
    have S1 := Lib.hid (fun W : World => specIn_yes b 0 ((xs.length : Int) - 1) W c1.1 c1.2)
    have S2 := Lib.hid (fun W : World => specIn_yes g 1 100000 W c2.1 c2.2)
    have S3 := Lib.hid (fun W : World => specIn_no s 0 g W (by unfold outB; omega))
    clear hr
    go_enter Try.func116, Try.ntmps116
    go_wp2_with (go_at_call 90; (first | (with_reducible refine (S0.out _).mono ?_) | (with_reducible refine (S1.out _).mono ?_) | (with_reducible refine (S2.out _).mono ?_) | (with_reducible refine (S3.out _).mono ?_) | (exfalso; omega)); rintro e wn ⟨rfl, rfl⟩)
    go_ret
    exact ⟨ret_bool HB.out.symm, B.out⟩
  by_cases c4 : 0 ≤ a ∧ a ≤ 100000
  rotate_left
  · have HB : Hid (tabB xs b s g a l = false) := Lib.hid (tab_no (by rintro ⟨t0, t1, t2, t3, t4, t5, t6, t7, t8, t9, t10, t11, t12⟩; omega))
    have S0 := Lib.hid (fun W : World => specIn_yes (xs.length : Int) 2 6 W c0.1 c0.2)
    have S1 := Lib.hid (fun W : World => specIn_yes b 0 ((xs.length : Int) - 1) W c1.1 c1.2)
    have S2 := Lib.hid (fun W : World => specIn_yes g 1 100000 W c2.1 c2.2)
    have S3 := Lib.hid (fun W : World => specIn_yes s 0 g W c3.1 c3.2)
    have S4 := Lib.hid (fun W : World => specIn_no a 0 100000 W (by unfold outB; omega))
    clear hr
    go_enter Try.func116, Try.ntmps116
    go_wp2_with (go_at_call 90; (first | (with_reducible refine (S0.out _).mono ?_) | (with_reducible refine (S1.out _).mono ?_) | (with_reducible refine (S2.out _).mono ?_) | (with_reducible refine (S3.out _).mono ?_) | (with_reducible refine (S4.out _).mono ?_) | (exfalso; omega)); rintro e wn ⟨rfl, rfl⟩)
    go_ret
    exact ⟨ret_bool HB.out.symm, B.out⟩
  by_cases c5 : 0 ≤ l ∧ l ≤ 2
  rotate_left
  · have HB : Hid (tabB xs b s g a l = false) := Lib.hid (tab_no (by rintro ⟨t0, t1, t2, t3, t4, t5, t6, t7, t8, t9, t10, t11, t12⟩; omega))
    have S0 := Lib.hid (fun W : World => specIn_yes (xs.length : Int) 2 6 W c0.1 c0.2)
    have S1 := Lib.hid (fun W : World => specIn_yes b 0 ((xs.length : Int) - 1) W c1.1 c1.2)
    have S2 := Lib.hid (fun W : World => specIn_yes g 1 100000 W c2.1 c2.2)
    have S3 := Lib.hid (fun W : World => specIn_yes s 0 g W c3.1 c3.2)
    have S4 := Lib.hid (fun W : World => specIn_yes a 0 100000 W c4.1 c4.2)
    have S5 := Lib.hid (fun W : World => specIn_no l 0 2 W (by unfold outB; omega))
    clear hr
    go_enter Try.func116, Try.ntmps116
    go_wp2_with (go_at_call 90; (first | (with_reducible refine (S0.out _).mono ?_) | (with_reducible refine (S1.out _).mono ?_) | (with_reducible refine (S2.out _).mono ?_) | (with_reducible refine (S3.out _).mono ?_) | (with_reducible refine (S4.out _).mono ?_) | (with_reducible refine (S5.out _).mono ?_) | (exfalso; omega)); rintro e wn ⟨rfl, rfl⟩)
    go_ret
    exact ⟨ret_bool HB.out.symm, B.out⟩
  have S0 := Lib.hid (fun W : World => specIn_yes (xs.length : Int) 2 6 W c0.1 c0.2)
  have S1 := Lib.hid (fun W : World => specIn_yes b 0 ((xs.length : Int) - 1) W c1.1 c1.2)
  have S2 := Lib.hid (fun W : World => specIn_yes g 1 100000 W c2.1 c2.2)
  have S3 := Lib.hid (fun W : World => specIn_yes s 0 g W c3.1 c3.2)
  have S4 := Lib.hid (fun W : World => specIn_yes a 0 100000 W c4.1 c4.2)
  have S5 := Lib.hid (fun W : World => specIn_yes l 0 2 W c5.1 c5.2)
  have HR := Lib.hid (hr.below B.out)
  have HT : Hid (∀ k, ¬ (k < xs.length ∧ ¬ (1 ≤ nth xs k ∧ nth xs k ≤ 100000)) ∨ tabB xs b s g a l = false) := Lib.hid (fun k => by
    by_cases h : k < xs.length ∧ ¬ (1 ≤ nth xs k ∧ nth xs k ≤ 100000)
    · exact .inr (tab_no (fun t => h.2 (t.2.2.1 k h.1)))
    · exact .inl h)
  have HY : Hid ((∀ i, i < xs.length → 1 ≤ nth xs i ∧ nth xs i ≤ 100000) → tabB xs b s g a l = true) := Lib.hid (fun h => tab_iff.2 ⟨by omega, by omega, h, by omega, by omega, by omega, by omega, by omega, by omega, by omega, by omega, by omega, by omega⟩)
  have hn7 : xs.length ≤ 6 := by omega
  clear hr c0 c1 c2 c3 c4 c5
  go_enter Try.func116, Try.ntmps116
  go_wp2_with (go_at_call 90; (first | (with_reducible refine (S0.out _).mono ?_) | (with_reducible refine (S1.out _).mono ?_) | (with_reducible refine (S2.out _).mono ?_) | (with_reducible refine (S3.out _).mono ?_) | (with_reducible refine (S4.out _).mono ?_) | (with_reducible refine (S5.out _).mono ?_) | (exfalso; omega)); rintro e wn ⟨rfl, rfl⟩)
  clear S0 S1 S2 S3 S4 S5
  go_loop [4] (fun i => ∃ k : Nat, k ≤ xs.length ∧ i = .int .i64 k ∧ Hid (∀ j, j < k → 1 ≤ nth xs j ∧ nth xs j ≤ 100000)) (fun i => xs.length - (intOf i).toNat)
  case atStart => exact ⟨0, Nat.zero_le _, rfl, Lib.hid (fun j hj => by omega)⟩
  case round =>
    obtain ⟨k, hk, rfl, hs⟩ := hrel
    by_cases hlt : k < xs.length
    · obtain ⟨bA, oA, rfl, hc⟩ := HR.out.at_ (bl_refl _) k hlt
      have hlt' : (k : Int) < xs.length := by omega
      rcases in_or_out (nth xs k) 1 100000 with ⟨h1, h2⟩ | ho
      · have KS := Lib.hid (fun W : World => specIn_yes (nth xs k) 1 100000 W h1 h2)
        have HN : Hid (∀ j, j < k + 1 → 1 ≤ nth xs j ∧ nth xs j ≤ 100000) := Lib.hid (fun j hj => by
          by_cases e : j = k
          · subst e; exact ⟨h1, h2⟩
          · exact hs.out j (by omega))
        clear hs
        generalize nth xs k = x at KS h1 h2 hc
        go_wp2_with (go_at_call 90; refine (KS.out _).mono ?_; rintro e wn ⟨rfl, rfl⟩)
        go_round
        case rel => exact ⟨k + 1, by omega, by go_num, HN⟩
        case measure => simp [intOf]; omega
      · have KS := Lib.hid (fun W : World => specIn_no (nth xs k) 1 100000 W ho)
        have HF : Hid (tabB xs b s g a l = false) := Lib.hid (by
          rcases HT.out k with h | h
          · exact absurd ⟨hlt, (by unfold outB at ho; omega)⟩ h
          · exact h)
        clear hs ho
        generalize nth xs k = x at KS hc
        go_wp2_with (go_at_call 90; refine (KS.out _).mono ?_; rintro e wn ⟨rfl, rfl⟩)
        go_ret
        exact ⟨ret_bool HF.out.symm, B.out⟩
    · obtain rfl : k = xs.length := by omega
      have HF := Lib.hid (HY.out hs.out)
      clear hs
      go_wp2_with fail
      go_ret
      exact ⟨ret_bool HF.out.symm, B.out⟩
set_option maxRecDepth 100000 in
set_option maxHeartbeats 1000000 in
theorem specBlinds_any (A : Option Addr) (c : Nat) (xs : List Int) (b s g a l : Int) (w : World) (h2 : 2 ≤ xs.length) (h6 : xs.length ≤ 6) (h0 : 0 ≤ b) (hb : b < xs.length) :
    Calls Try.prog 177 #[tV A xs.length c b s g a l] w (Fresh (pairV (smallI xs.length b) (bigI xs.length b)) w) := by
  have K1 := Lib.hid (fun W : World => specLeft_any b xs.length W h0 (by omega) (by omega) (by omega))
  have hsm := small_bd xs.length b (by omega) h0 hb
  have K2 := Lib.hid (fun W : World => specLeft_any (smallI xs.length b) xs.length W hsm.1 (by omega) (by omega) (by omega))
  have e2 : leftI (smallI xs.length b) xs.length = bigI xs.length b := rfl
  rw [e2] at K2
  clear e2
  generalize bigI xs.length b = y at *
  have n0 := blk_new w 49 [.slice A xs.length c, .int .i64 b, .int .i64 s, .int .i64 g, .int .i64 a, .int .i64 l]
  have N0 := Lib.hid n0
  have B := Lib.hid (bl_alloc (bl_refl w) (.cells ([.slice A xs.length c, .int .i64 b, .int .i64 s, .int .i64 g, .int .i64 a, .int .i64 l] : List Value).toArray 49))
  clear n0
  unfold tV
  by_cases hq : (xs.length : Int) = 2
  · have e1 : smallI xs.length b = b := if_pos hq
    rw [e1] at K2 ⊢
    have hd : ((xs.length : Int) == 2) = true := by rw [hq]; rfl
    clear e1 hsm hq
    go_enter Try.func177, Try.ntmps177
    go_wp2_with (go_at_call 178; (first | (with_reducible refine (K2.out _).mono ?_) | (with_reducible refine (K1.out _).mono ?_)); rintro e wn ⟨rfl, rfl⟩)
    go_ret2
    exact ⟨rfl, B.out⟩
  · have e1 : smallI xs.length b = leftI b xs.length := if_neg hq
    rw [e1] at K2 hsm ⊢
    generalize leftI b xs.length = z at *
    have hd : ((xs.length : Int) == 2) = false := by simpa using hq
    clear e1 hsm hq
    go_enter Try.func177, Try.ntmps177
    go_wp2_with (go_at_call 178; (first | (with_reducible refine (K2.out _).mono ?_) | (with_reducible refine (K1.out _).mono ?_)); rintro e wn ⟨rfl, rfl⟩)
    go_ret2
    exact ⟨rfl, B.out⟩
/-- Three numbers as a result. -/
abbrev tripV (x y z : Int) : Value := .tuple #[.int .i64 x, .int .i64 y, .int .i64 z]
set_option maxRecDepth 100000 in
set_option maxHeartbeats 1000000 in
theorem specFirst_any (A : Option Addr) (c : Nat) (xs : List Int) (b s g a l : Int) (t : Int) (w : World) (h2 : 2 ≤ xs.length) (h6 : xs.length ≤ 6) (h0 : 0 ≤ b) (hb : b < xs.length) :
    Calls Try.prog 165 #[tV A xs.length c b s g a l, .int .i64 t] w (Fresh (.int .i64 (firstI xs.length b t)) w) := by
  have K1 := Lib.hid (fun W : World => specLeft_any b xs.length W h0 (by omega) (by omega) (by omega))
  have KB := Lib.hid (fun (W : World) => specBlinds_any A c xs b s g a l W h2 h6 h0 hb)
  have hbg := big_bd xs.length b (by omega)
  have K2 := Lib.hid (fun W : World => specLeft_any (bigI xs.length b) xs.length W hbg.1 (by omega) (by omega) (by omega))
  have n0 := blk_new w 49 [.slice A xs.length c, .int .i64 b, .int .i64 s, .int .i64 g, .int .i64 a, .int .i64 l]
  have N0 := Lib.hid n0
  have B := Lib.hid (bl_alloc (bl_refl w) (.cells ([.slice A xs.length c, .int .i64 b, .int .i64 s, .int .i64 g, .int .i64 a, .int .i64 l] : List Value).toArray 49))
  clear n0
  unfold tV at *
  by_cases ht : t = 0
  · subst ht
    have e : firstI xs.length b 0 = leftI (bigI xs.length b) xs.length := rfl
    rw [e]
    clear e K1
    generalize leftI (bigI xs.length b) xs.length = r at *
    generalize bigI xs.length b = y at *
    generalize smallI xs.length b = z at *
    go_enter Try.func165, Try.ntmps165
    go_wp2_with (first
    | (go_at_call 177; refine (KB.out _).mono ?_; rintro e wn ⟨rfl, hb⟩; have N0a := Lib.hid (N0.out.below hb); clear N0; have N0 := N0a; clear N0a; have Ba := Lib.hid (bl_trans B.out hb); clear B hb; have B := Ba; clear Ba; obtain ⟨q0_0, _⟩ := N0.out.cell 0 _ rfl; obtain ⟨q0_1, _⟩ := N0.out.cell 1 _ rfl; obtain ⟨q0_2, _⟩ := N0.out.cell 2 _ rfl; obtain ⟨q0_3, _⟩ := N0.out.cell 3 _ rfl; obtain ⟨q0_4, _⟩ := N0.out.cell 4 _ rfl; obtain ⟨q0_5, _⟩ := N0.out.cell 5 _ rfl)
    | (go_at_call 178; refine (K2.out _).mono ?_; rintro e wn ⟨rfl, rfl⟩))
    go_ret
    exact ⟨rfl, B.out⟩
  · have e : firstI xs.length b t = leftI b xs.length := if_neg ht
    rw [e]
    have hd : (t == 0) = false := by simpa using ht
    clear e K2 KB
    generalize leftI b xs.length = r at *
    go_enter Try.func165, Try.ntmps165
    go_wp2_with (first
    | (go_at_call 178; refine (K1.out _).mono ?_; rintro e wn ⟨rfl, rfl⟩))
    go_ret
    exact ⟨rfl, B.out⟩
end Go.Proofs.Ythgfohdjpfhebaa
