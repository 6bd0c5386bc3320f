/-
  The model's functions of tables: valid ones, blinds, the first seat, the seats in their order, the sum of the stacks.
-/
import Derived.Test.YtimdgaclmejjhaaTab
import Derived.Test.YtimdgaclmejjhaaSpecH
import Derived.Test.YtimdgaclmejjhaaBase
namespace Go.Proofs.Ytimdgaclmejjhaa
open Go.RowKit
set_option linter.unusedVariables false

set_option maxRecDepth 100000 in
set_option maxHeartbeats 400000 in
theorem specLeft_any (s n : Int) (w : World) (h0 : 0 ≤ s) (h1 : s ≤ 4000000) (hn : 0 < n) (hn1 : n ≤ 4000000) :
    Calls Try.prog 25 #[.int .i64 s, .int .i64 n] w (Same (.int .i64 (leftI s n)) w) := by
  have hb := left_bd s n hn
  unfold leftI at *
  have hz : n ≠ 0 := by omega
  go_enter Try.func25, Try.ntmps25
  go_wp2_with fail
  go_ret
  exact ⟨rfl, rfl⟩
set_option maxRecDepth 100000 in
set_option maxHeartbeats 2000000 in
theorem specIsTable_any (A : Option Addr) (c : Nat) (xs : List Int) (b s g a l : Int) (w : World) (hr : Rd w A xs) (hn : xs.length ≤ 4000000) :
    Calls Try.prog 23 #[tV A xs.length c b s g a l] w (Fresh (.bool (tabB xs b s g a l)) w) := by
  have n0 := blk_new w 26 [.slice A xs.length c, .int .i64 b, .int .i64 s, .int .i64 g, .int .i64 a, .int .i64 l]
  have N0 := Lib.hid n0
  have B := Lib.hid (bl_alloc (bl_refl w) (.cells ([.slice A xs.length c, .int .i64 b, .int .i64 s, .int .i64 g, .int .i64 a, .int .i64 l] : List Value).toArray 26))
  clear n0
  unfold tV
  by_cases c0 : 2 ≤ (xs.length : Int) ∧ (xs.length : Int) ≤ 6
  rotate_left
  · have HB : Hid (tabB xs b s g a l = false) := Lib.hid (tab_no (by rintro ⟨t0, t1, t2, t3, t4, t5, t6, t7, t8, t9, t10, t11, t12⟩; omega))
    have S0 := Lib.hid (fun W : World => specIn_no (xs.length : Int) 2 6 W (by unfold outB; omega))
    clear hr
    go_enter Try.func23, Try.ntmps23
    go_wp2_with (go_at_call 24; (first | (with_reducible refine (S0.out _).mono ?_) | (exfalso; omega)); rintro e wn ⟨rfl, rfl⟩)
    go_ret
    exact ⟨ret_bool HB.out.symm, B.out⟩
  by_cases c1 : 0 ≤ b ∧ b ≤ ((xs.length : Int) - 1)
  rotate_left
  · have HB : Hid (tabB xs b s g a l = false) := Lib.hid (tab_no (by rintro ⟨t0, t1, t2, t3, t4, t5, t6, t7, t8, t9, t10, t11, t12⟩; omega))
    have S0 := Lib.hid (fun W : World => specIn_yes (xs.length : Int) 2 6 W c0.1 c0.2)
    have S1 := Lib.hid (fun W : World => specIn_no b 0 ((xs.length : Int) - 1) W (by unfold outB; omega))
    clear hr
    go_enter Try.func23, Try.ntmps23
    go_wp2_with (go_at_call 24; (first | (with_reducible refine (S0.out _).mono ?_) | (with_reducible refine (S1.out _).mono ?_) | (exfalso; omega)); rintro e wn ⟨rfl, rfl⟩)
    go_ret
    exact ⟨ret_bool HB.out.symm, B.out⟩
  by_cases c2 : 1 ≤ g ∧ g ≤ 100000
  rotate_left
  · have HB : Hid (tabB xs b s g a l = false) := Lib.hid (tab_no (by rintro ⟨t0, t1, t2, t3, t4, t5, t6, t7, t8, t9, t10, t11, t12⟩; omega))
    have S0 := Lib.hid (fun W : World => specIn_yes (xs.length : Int) 2 6 W c0.1 c0.2)
    have S1 := Lib.hid (fun W : World => specIn_yes b 0 ((xs.length : Int) - 1) W c1.1 c1.2)
    have S2 := Lib.hid (fun W : World => specIn_no g 1 100000 W (by unfold outB; omega))
    clear hr
    go_enter Try.func23, Try.ntmps23
    go_wp2_with (go_at_call 24; (first | (with_reducible refine (S0.out _).mono ?_) | (with_reducible refine (S1.out _).mono ?_) | (with_reducible refine (S2.out _).mono ?_) | (exfalso; omega)); rintro e wn ⟨rfl, rfl⟩)
    go_ret
    exact ⟨ret_bool HB.out.symm, B.out⟩
  by_cases c3 : 0 ≤ s ∧ s ≤ g
  rotate_left
  · have HB : Hid (tabB xs b s g a l = false) := Lib.hid (tab_no (by rintro ⟨t0, t1, t2, t3, t4, t5, t6, t7, t8, t9, t10, t11, t12⟩; omega))
    have S0 := Lib.hid (fun W : World => specIn_yes (xs.length : Int) 2 6 W c0.1 c0.2)
    have S1 := Lib.hid (fun W : World => specIn_yes b 0 ((xs.length : Int) - 1) W c1.1 c1.2)
    have S2 := Lib.hid (fun W : World => specIn_yes g 1 100000 W c2.1 c2.2)
    have S3 := Lib.hid (fun W : World => specIn_no s 0 g W (by unfold outB; omega))
    clear hr
    go_enter Try.func23, Try.ntmps23
    go_wp2_with (go_at_call 24; (first | (with_reducible refine (S0.out _).mono ?_) | (with_reducible refine (S1.out _).mono ?_) | (with_reducible refine (S2.out _).mono ?_) | (with_reducible refine (S3.out _).mono ?_) | (exfalso; omega)); rintro e wn ⟨rfl, rfl⟩)
    go_ret
    exact ⟨ret_bool HB.out.symm, B.out⟩
  by_cases c4 : 0 ≤ a ∧ a ≤ 100000
  rotate_left
  · have HB : Hid (tabB xs b s g a l = false) := Lib.hid (tab_no (by rintro ⟨t0, t1, t2, t3, t4, t5, t6, t7, t8, t9, t10, t11, t12⟩; omega))
    have S0 := Lib.hid (fun W : World => specIn_yes (xs.length : Int) 2 6 W c0.1 c0.2)
    have S1 := Lib.hid (fun W : World => specIn_yes b 0 ((xs.length : Int) - 1) W c1.1 c1.2)
    have S2 := Lib.hid (fun W : World => specIn_yes g 1 100000 W c2.1 c2.2)
    have S3 := Lib.hid (fun W : World => specIn_yes s 0 g W c3.1 c3.2)
    have S4 := Lib.hid (fun W : World => specIn_no a 0 100000 W (by unfold outB; omega))
    clear hr
    go_enter Try.func23, Try.ntmps23
    go_wp2_with (go_at_call 24; (first | (with_reducible refine (S0.out _).mono ?_) | (with_reducible refine (S1.out _).mono ?_) | (with_reducible refine (S2.out _).mono ?_) | (with_reducible refine (S3.out _).mono ?_) | (with_reducible refine (S4.out _).mono ?_) | (exfalso; omega)); rintro e wn ⟨rfl, rfl⟩)
    go_ret
    exact ⟨ret_bool HB.out.symm, B.out⟩
  by_cases c5 : 0 ≤ l ∧ l ≤ 2
  rotate_left
  · have HB : Hid (tabB xs b s g a l = false) := Lib.hid (tab_no (by rintro ⟨t0, t1, t2, t3, t4, t5, t6, t7, t8, t9, t10, t11, t12⟩; omega))
    have S0 := Lib.hid (fun W : World => specIn_yes (xs.length : Int) 2 6 W c0.1 c0.2)
    have S1 := Lib.hid (fun W : World => specIn_yes b 0 ((xs.length : Int) - 1) W c1.1 c1.2)
    have S2 := Lib.hid (fun W : World => specIn_yes g 1 100000 W c2.1 c2.2)
    have S3 := Lib.hid (fun W : World => specIn_yes s 0 g W c3.1 c3.2)
    have S4 := Lib.hid (fun W : World => specIn_yes a 0 100000 W c4.1 c4.2)
    have S5 := Lib.hid (fun W : World => specIn_no l 0 2 W (by unfold outB; omega))
    clear hr
    go_enter Try.func23, Try.ntmps23
    go_wp2_with (go_at_call 24; (first | (with_reducible refine (S0.out _).mono ?_) | (with_reducible refine (S1.out _).mono ?_) | (with_reducible refine (S2.out _).mono ?_) | (with_reducible refine (S3.out _).mono ?_) | (with_reducible refine (S4.out _).mono ?_) | (with_reducible refine (S5.out _).mono ?_) | (exfalso; omega)); rintro e wn ⟨rfl, rfl⟩)
    go_ret
    exact ⟨ret_bool HB.out.symm, B.out⟩
  have S0 := Lib.hid (fun W : World => specIn_yes (xs.length : Int) 2 6 W c0.1 c0.2)
  have S1 := Lib.hid (fun W : World => specIn_yes b 0 ((xs.length : Int) - 1) W c1.1 c1.2)
  have S2 := Lib.hid (fun W : World => specIn_yes g 1 100000 W c2.1 c2.2)
  have S3 := Lib.hid (fun W : World => specIn_yes s 0 g W c3.1 c3.2)
  have S4 := Lib.hid (fun W : World => specIn_yes a 0 100000 W c4.1 c4.2)
  have S5 := Lib.hid (fun W : World => specIn_yes l 0 2 W c5.1 c5.2)
  have HR := Lib.hid (hr.below B.out)
  have HT : Hid (∀ k, ¬ (k < xs.length ∧ ¬ (1 ≤ nth xs k ∧ nth xs k ≤ 100000)) ∨ tabB xs b s g a l = false) := Lib.hid (fun k => by
    by_cases h : k < xs.length ∧ ¬ (1 ≤ nth xs k ∧ nth xs k ≤ 100000)
    · exact .inr (tab_no (fun t => h.2 (t.2.2.1 k h.1)))
    · exact .inl h)
  have HY : Hid ((∀ i, i < xs.length → 1 ≤ nth xs i ∧ nth xs i ≤ 100000) → tabB xs b s g a l = true) := Lib.hid (fun h => tab_iff.2 ⟨by omega, by omega, h, by omega, by omega, by omega, by omega, by omega, by omega, by omega, by omega, by omega, by omega⟩)
  have hn7 : xs.length ≤ 6 := by omega
  clear hr c0 c1 c2 c3 c4 c5
  go_enter Try.func23, Try.ntmps23
  go_wp2_with (go_at_call 24; (first | (with_reducible refine (S0.out _).mono ?_) | (with_reducible refine (S1.out _).mono ?_) | (with_reducible refine (S2.out _).mono ?_) | (with_reducible refine (S3.out _).mono ?_) | (with_reducible refine (S4.out _).mono ?_) | (with_reducible refine (S5.out _).mono ?_) | (exfalso; omega)); rintro e wn ⟨rfl, rfl⟩)
  clear S0 S1 S2 S3 S4 S5
  go_loop [4] (fun i => ∃ k : Nat, k ≤ xs.length ∧ i = .int .i64 k ∧ Hid (∀ j, j < k → 1 ≤ nth xs j ∧ nth xs j ≤ 100000)) (fun i => xs.length - (intOf i).toNat)
  case atStart => exact ⟨0, Nat.zero_le _, rfl, Lib.hid (fun j hj => by omega)⟩
  case round =>
    obtain ⟨k, hk, rfl, hs⟩ := hrel
    by_cases hlt : k < xs.length
    · obtain ⟨bA, oA, rfl, hc⟩ := HR.out.at_ (bl_refl _) k hlt
      have hlt' : (k : Int) < xs.length := by omega
      rcases in_or_out (nth xs k) 1 100000 with ⟨h1, h2⟩ | ho
      · have KS := Lib.hid (fun W : World => specIn_yes (nth xs k) 1 100000 W h1 h2)
        have HN : Hid (∀ j, j < k + 1 → 1 ≤ nth xs j ∧ nth xs j ≤ 100000) := Lib.hid (fun j hj => by
          by_cases e : j = k
          · subst e; exact ⟨h1, h2⟩
          · exact hs.out j (by omega))
        clear hs
        generalize nth xs k = x at KS h1 h2 hc
        go_wp2_with (go_at_call 24; refine (KS.out _).mono ?_; rintro e wn ⟨rfl, rfl⟩)
        go_round
        case rel => exact ⟨k + 1, by omega, by go_num, HN⟩
        case measure => simp [intOf]; omega
      · have KS := Lib.hid (fun W : World => specIn_no (nth xs k) 1 100000 W ho)
        have HF : Hid (tabB xs b s g a l = false) := Lib.hid (by
          rcases HT.out k with h | h
          · exact absurd ⟨hlt, (by unfold outB at ho; omega)⟩ h
          · exact h)
        clear hs ho
        generalize nth xs k = x at KS hc
        go_wp2_with (go_at_call 24; refine (KS.out _).mono ?_; rintro e wn ⟨rfl, rfl⟩)
        go_ret
        exact ⟨ret_bool HF.out.symm, B.out⟩
    · obtain rfl : k = xs.length := by omega
      have HF := Lib.hid (HY.out hs.out)
      clear hs
      go_wp2_with fail
      go_ret
      exact ⟨ret_bool HF.out.symm, B.out⟩
/-- Three numbers as a result. -/
abbrev tripV (x y z : Int) : Value := .tuple #[.int .i64 x, .int .i64 y, .int .i64 z]
end Go.Proofs.Ytimdgaclmejjhaa
