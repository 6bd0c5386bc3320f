/-
  The program's methods of a round: they only read.
-/
import Derived.Test.YthgfohdjpfhebaaBetA
namespace Go.Proofs.Ythgfohdjpfhebaa
open Go.RowKit
set_option linter.unusedVariables false

set_option maxRecDepth 100000 in
set_option maxHeartbeats 400000 in
theorem seatCountB_any (g : Nat) (L : At5) (b : Bt) (w : World) (h : BtAt w g L b) :
    Calls Try.prog 100 #[.pointer (some ⟨g, 0, none⟩)] w (Same (.int .i64 b.st.length) w) := by
  obtain ⟨q0, _⟩ := h.blk.cell 0 _ rfl
  clear h
  go_enter Try.func100, Try.ntmps100
  go_wp2_with fail
  go_ret
  exact ⟨rfl, rfl⟩
set_option maxRecDepth 100000 in
set_option maxHeartbeats 1000000 in
theorem canAct_any (g : Nat) (L : At5) (b : Bt) (i : Nat) (w : World) (h : BtAt w g L b) (hn : b.st.length ≤ 6) (hi : i < b.st.length) (l4 : b.fo.length = b.st.length) :
    Calls Try.prog 135 #[.pointer (some ⟨g, 0, none⟩), .int .i64 i] w (Same (.bool (canB b i)) w) := by
  obtain ⟨q0, _⟩ := h.blk.cell 0 _ rfl
  obtain ⟨q3, _⟩ := h.blk.cell 3 _ rfl
  obtain ⟨b1, o1, e1, hc1⟩ := h.rd.r1.at_0 i hi
  obtain ⟨b4, o4, e4, hc4⟩ := h.rd.r4.at_0 i (by omega)
  rw [e1] at q0
  rw [e4] at q3
  have d1 : (i : Int) < b.st.length := by omega
  have d4 : (i : Int) < b.fo.length := by omega
  have H : Hid (canB b i = (!nthB b.fo i && decide (0 < nth b.st i))) := Lib.hid rfl
  clear h e1 e4 l4
  generalize nth b.st i = x at *
  generalize nthB b.fo i = f at *
  cases f
  all_goals
    go_enter Try.func135, Try.ntmps135
    go_wp2_with fail
    go_ret
    exact ⟨ret_bool (by rw [H.out]; simp), rfl⟩
set_option maxRecDepth 100000 in
set_option maxHeartbeats 2000000 in
theorem another_any (g : Nat) (L : At5) (b : Bt) (i : Nat) (w : World) (h : BtAt w g L b) (hn : b.st.length ≤ 6) (l4 : b.fo.length = b.st.length) :
    Calls Try.prog 137 #[.pointer (some ⟨g, 0, none⟩), .int .i64 i] w (Same (.bool (anoB b i)) w) := by
  have KS := Lib.hid (seatCountB_any g L b w h)
  have KC := Lib.hid (fun (k : Nat) (hk : k < b.st.length) => canAct_any g L b k w h hn hk l4)
  have HY := Lib.hid (fun (j : Nat) => ano_yes (b := b) (i := i) j)
  have HZ := Lib.hid (ano_no (b := b) (i := i))
  clear h l4
  generalize anoB b i = r at *
  go_enter Try.func137, Try.ntmps137
  go_wp2_with (go_at_call 100; refine KS.out.mono ?_; rintro e wn ⟨rfl, rfl⟩)
  go_loop [8] (fun q => ∃ k : Nat, k ≤ b.st.length ∧ q = .int .i64 k ∧ Hid (∀ j, j < k → j ≠ i → canB b j = false)) (fun q => b.st.length - (intOf q).toNat)
  case atStart => exact ⟨0, Nat.zero_le _, rfl, Lib.hid (fun j hj => by omega)⟩
  case round =>
    obtain ⟨k, hk, rfl, hs⟩ := hrel
    by_cases hlt : k < b.st.length
    · have hlt' : (k : Int) < b.st.length := by omega
      by_cases hki : k = i
      · have HN : Hid (∀ j, j < k + 1 → j ≠ i → canB b j = false) := Lib.hid (fun j hj hne => hs.out j (by omega) hne)
        have dk : ((k : Int) != (i : Int)) = false := by simp [hki]
        clear hs hki
        go_wp2_with fail
        go_round
        case rel => exact ⟨k + 1, by omega, by go_num, HN⟩
        case measure => simp [intOf]; omega
      · have dk : ((k : Int) != (i : Int)) = true := by simp; omega
        have KK := Lib.hid (KC.out k hlt)
        rcases hc : canB b k with _ | _
        · have HN : Hid (∀ j, j < k + 1 → j ≠ i → canB b j = false) := Lib.hid (fun j hj hne => by
            by_cases e : j = k
            · subst e; exact hc
            · exact hs.out j (by omega) hne)
          rw [hc] at KK
          clear hs hc
          go_wp2_with (go_at_call 135; refine KK.out.mono ?_; rintro e wn ⟨rfl, rfl⟩)
          go_round
          case rel => exact ⟨k + 1, by omega, by go_num, HN⟩
          case measure => simp [intOf]; omega
        · have HF := Lib.hid (HY.out k hlt hki hc)
          rw [hc] at KK
          clear hs hc
          go_wp2_with (go_at_call 135; refine KK.out.mono ?_; rintro e wn ⟨rfl, rfl⟩)
          go_ret
          exact ⟨ret_bool HF.out.symm, rfl⟩
    · obtain rfl : k = b.st.length := by omega
      have HF := Lib.hid (HZ.out hs.out)
      clear hs
      go_wp2_with fail
      go_ret
      exact ⟨ret_bool HF.out.symm, rfl⟩
set_option maxRecDepth 100000 in
set_option maxHeartbeats 400000 in
theorem betToMatch_any (g : Nat) (L : At5) (b : Bt) (w : World) (h : BtAt w g L b) (l0 : 0 < b.bt.length) (l6 : b.bt.length ≤ 6) (s2 : inC b.bt) :
    Calls Try.prog 136 #[.pointer (some ⟨g, 0, none⟩)] w (Same (.int .i64 (topI b)) w) := by
  have K := Lib.hid (slicesMax_any L.a2 L.c2 b.bt w h.rd.r2 (by omega) l0 (s2 0 l0).1)
  obtain ⟨q1, _⟩ := h.blk.cell 1 _ rfl
  clear h
  go_enter Try.func136, Try.ntmps136
  go_wp2_with (go_at_call 172; refine K.out.mono ?_; rintro e wn ⟨rfl, rfl⟩)
  go_ret
  exact ⟨rfl, rfl⟩
set_option maxRecDepth 100000 in
set_option maxHeartbeats 2000000 in
theorem pot_any (g : Nat) (L : At5) (b : Bt) (w : World) (h : BtAt w g L b) (l2 : b.bt.length ≤ 6) (l3 : b.pd.length ≤ 6) (s2 : inC b.bt) (s3 : inC b.pd) :
    Calls Try.prog 104 #[.pointer (some ⟨g, 0, none⟩)] w (Qt (.int .i64 (potI b)) w) := by
  have K2 := Lib.hid (fun n => sumOf_any L.a2 L.c2 b.bt (w.drewN n) (h.drew n).rd.r2 (by omega) s2)
  have K3 := Lib.hid (fun n => sumOf_any L.a3 L.c3 b.pd (w.drewN n) (h.drew n).rd.r3 (by omega) s3)
  have u2 := sumT_bdC b.bt s2 _ (Nat.le_refl _)
  have u3 := sumT_bdC b.pd s3 _ (Nat.le_refl _)
  have H : Hid (potI b = sumT b.bt b.bt.length + sumT b.pd b.pd.length) := Lib.hid rfl
  obtain ⟨q1, _⟩ := h.blk.cell 1 _ rfl
  obtain ⟨q2, _⟩ := h.blk.cell 2 _ rfl
  clear h s2 s3
  generalize sumT b.bt b.bt.length = x2 at *
  generalize sumT b.pd b.pd.length = x3 at *
  go_enter Try.func104, Try.ntmps104
  go_wp2_with fail
  go_quiet ((go_at_call 159; first | (with_reducible exact quiet_left (K2.out _)) | (with_reducible exact quiet_left (K3.out _))))
  go_wp2_with fail
  go_ret
  exact ⟨by rw [H.out]; rfl, _, rfl⟩
set_option maxRecDepth 100000 in
set_option maxHeartbeats 2000000 in
theorem chips_any (g : Nat) (L : At5) (b : Bt) (w : World) (h : BtAt w g L b) (l1 : b.st.length ≤ 6) (l2 : b.bt.length ≤ 6) (l3 : b.pd.length ≤ 6) (s1 : inC b.st) (s2 : inC b.bt) (s3 : inC b.pd) :
    Calls Try.prog 103 #[.pointer (some ⟨g, 0, none⟩)] w (Qt (.int .i64 (allI b)) w) := by
  have K1 := Lib.hid (sumOf_any L.a1 L.c1 b.st w h.rd.r1 (by omega) s1)
  have K2 := Lib.hid (pot_any g L b w h l2 l3 s2 s3)
  have u1 := sumT_bdC b.st s1 _ (Nat.le_refl _)
  have u2 := sumT_bdC b.bt s2 _ (Nat.le_refl _)
  have u3 := sumT_bdC b.pd s3 _ (Nat.le_refl _)
  have H : Hid (allI b = sumT b.st b.st.length + potI b) := Lib.hid rfl
  have u4 : 0 ≤ potI b ∧ potI b ≤ 10000000 := by unfold potI; omega
  obtain ⟨q0, _⟩ := h.blk.cell 0 _ rfl
  clear h s1 s2 s3 u2 u3
  generalize sumT b.st b.st.length = x1 at *
  generalize potI b = x2 at *
  go_enter Try.func103, Try.ntmps103
  go_wp2_with (first
    | (go_at_call 159; refine K1.out.mono ?_; rintro e wn ⟨rfl, rfl⟩)
    | (go_at_call 104; refine K2.out.mono ?_; rintro e wn ⟨rfl, m, rfl⟩))
  go_ret
  exact ⟨by rw [H.out]; rfl, m, rfl⟩
end Go.Proofs.Ythgfohdjpfhebaa
