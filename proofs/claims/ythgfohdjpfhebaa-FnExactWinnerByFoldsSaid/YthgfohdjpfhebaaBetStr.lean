/-
  The program and the model: settled rounds, the winner by folds.
-/
import Derived.Test.YthgfohdjpfhebaaBetF
import Derived.Test.YthgfohdjpfhebaaSpecBetF
namespace Go.Proofs.Ythgfohdjpfhebaa
open Go.RowKit
set_option linter.unusedVariables false

theorem cnt_live (b : Bt) : ∀ k, cntK b k ≤ (liveL b k).length
  | 0 => by simp [cntK, liveL]
  | k + 1 => by
    have ih := cnt_live b k
    unfold cntK liveL
    by_cases q : nthB b.fo k = true
    · rw [if_pos q]
      have : canB b k = false := by unfold canB; rw [q]; rfl
      rw [if_neg (by rw [this]; simp)]
      omega
    · rw [if_neg q]
      simp only [List.length_append, List.length_singleton]
      split <;> omega
theorem live_pos (b : Bt) (i : Nat) (hf : nthB b.fo i = false) : ∀ k, i < k → 1 ≤ (liveL b k).length
  | 0, h => by omega
  | k + 1, h => by
    unfold liveL
    by_cases q : nthB b.fo k = true
    · rw [if_pos q]
      refine live_pos b i hf k ?_
      by_cases e : i = k
      · subst e; rw [hf] at q; cases q
      · omega
    · rw [if_neg q]; simp
def setlB (b : Bt) : Bool := !openB b && decide (cntI b < 2)
noncomputable def setlR (b : Bt) : Bool := okB b && setlB b
noncomputable def winX (b : Bt) : Int := if okB b = true then (if (liveL b b.st.length).length = 1 then nth (liveL b b.st.length) 0 else 0) else 0
noncomputable def winC (b : Bt) : Int := if okB b = true then (if (liveL b b.st.length).length = 1 then 0 else 5) else 1
set_option maxRecDepth 100000 in
set_option maxHeartbeats 1000000 in
theorem canCount_any (g : Nat) (L : At5) (b : Bt) (w : World) (h : BtAt w g L b) (hn : b.st.length ≤ 6) (l4 : b.fo.length = b.st.length) :
    Calls Try.prog 120 #[.pointer (some ⟨g, 0, none⟩)] w (Same (.int .i64 (cntI b)) w) := by
  have KS := Lib.hid (seatCountB_any g L b w h)
  have KC := Lib.hid (fun (k : Nat) (hk : k < b.st.length) => canAct_any g L b k w h hn hk l4)
  have HU : Hid (cntI b = cntK b b.st.length) := Lib.hid rfl
  have HB := Lib.hid (cntK_bd b)
  rw [HU.out]
  clear h l4
  go_enter Try.func120, Try.ntmps120
  go_wp2_with (go_at_call 100; refine KS.out.mono ?_; rintro e wn ⟨rfl, rfl⟩)
  go_loop [3, 7] (fun s q => ∃ k : Nat, k ≤ b.st.length ∧ q = .int .i64 k ∧ s = .int .i64 (cntK b k)) (fun _ q => b.st.length - (intOf q).toNat)
  case atStart => exact ⟨0, Nat.zero_le _, rfl, rfl⟩
  case round =>
    obtain ⟨k, hk, rfl, rfl⟩ := hrel
    by_cases hlt : k < b.st.length
    · have hlt' : (k : Int) < b.st.length := by omega
      have hb := HB.out k
      have KK := Lib.hid (KC.out k hlt)
      have HT : Hid (cntK b (k + 1) = cntK b k + (if canB b k = true then 1 else 0)) := Lib.hid rfl
      generalize cntK b k = n at *
      rcases hc : canB b k with _ | _
      · rw [hc] at KK HT
        clear hc
        go_wp2_with (go_at_call 135; refine KK.out.mono ?_; rintro e wn ⟨rfl, rfl⟩)
        go_round
        case rel => exact ⟨k + 1, by omega, by go_num, by rw [HT.out]; simp⟩
        case measure => simp [intOf]; omega
      · rw [hc] at KK HT
        clear hc
        go_wp2_with (go_at_call 135; refine KK.out.mono ?_; rintro e wn ⟨rfl, rfl⟩)
        go_round
        case rel => exact ⟨k + 1, by omega, by go_num, by rw [HT.out]; rfl⟩
        case measure => simp [intOf]; omega
    · obtain rfl : k = b.st.length := by omega
      go_wp2_with fail
      go_ret
      exact ⟨rfl, rfl⟩
set_option maxRecDepth 100000 in
set_option maxHeartbeats 400000 in
theorem wonFolds_any (g : Nat) (L : At5) (b : Bt) (w : World) (h : BtAt w g L b) (k : Ok b) :
    Calls Try.prog 112 #[.pointer (some ⟨g, 0, none⟩)] w (Fresh (.bool (decide ((liveL b b.st.length).length = 1))) w) := by
  have KL := Lib.hid (liveSeats_any g L b w h k)
  clear h k
  generalize liveL b b.st.length = r at *
  go_enter Try.func112, Try.ntmps112
  go_wp2_with (go_at_call 105; refine KL.out.mono ?_; rintro e w1 ⟨A, c, rfl, ho, hb⟩; have B := Lib.hid hb)
  go_ret
  exact ⟨ret_bool (by first | rfl | (simp; omega) | (by_cases q : r.length = 1 <;> simp [q] <;> omega)), B.out⟩
set_option maxRecDepth 100000 in
set_option maxHeartbeats 2000000 in
theorem implIsSettled_any (L : At5) (b : Bt) (w : World) (h : Rd5 w L b) :
    Calls Try.prog 45 #[bV L b] w (Fresh (.bool (setlR b)) w) := by
  have BT := btAt_new h
  have B := Lib.hid (bl_box (w := w) (L := L) (b := b))
  have KV := Lib.hid (fun (W : World) (hW : Rd5 W L b) => implIsBetting_any L b W hW)
  have KO := Lib.hid (fun (W : World) (hW : Rd5 W L b) => implIsOpen_any L b W hW)
  have KC := Lib.hid (fun (kk : Ok b) (g : Nat) (W : World) (hW : BtAt W g L b) => canCount_any g L b W hW kk.n6 kk.l4)
  have BH := Lib.hid BT
  obtain ⟨q0, _⟩ := BT.blk.cell 0 _ rfl
  obtain ⟨q1, _⟩ := BT.blk.cell 1 _ rfl
  obtain ⟨q2, _⟩ := BT.blk.cell 2 _ rfl
  obtain ⟨q3, _⟩ := BT.blk.cell 3 _ rfl
  obtain ⟨q4, _⟩ := BT.blk.cell 4 _ rfl
  obtain ⟨q5, _⟩ := BT.blk.cell 5 _ rfl
  obtain ⟨q6, _⟩ := BT.blk.cell 6 _ rfl
  obtain ⟨q7, _⟩ := BT.blk.cell 7 _ rfl
  obtain ⟨q8, _⟩ := BT.blk.cell 8 _ rfl
  clear h BT
  rcases hv : okB b with _ | _
  · have e1 : setlR b = false := by unfold setlR; rw [hv]; rfl
    rw [hv] at KV KO
    rw [e1]
    clear e1 hv KC
    unfold bV at *
    go_enter Try.func45, Try.ntmps45
    go_wp2_with (go_at_call 22; refine (KV.out _ BH.out.rd).mono ?_; rintro e w1 ⟨rfl, hb⟩; have Ba := Lib.hid (bl_trans B.out hb))
    go_ret
    exact ⟨rfl, Ba.out⟩
  have kk := ok_of hv
  rw [hv] at KV KO
  have KCK := Lib.hid (KC.out kk)
  have e1 : setlR b = (!openB b && decide (cntI b < 2)) := by unfold setlR setlB; rw [hv]; rfl
  rw [e1]
  clear e1 hv KC kk
  generalize cntI b = n at *
  rcases ho : openB b with _ | _
  all_goals
    rw [ho] at KO
    clear ho
    unfold bV at *
    go_enter Try.func45, Try.ntmps45
    go_wp2_with (first
        | (go_at_call 22; refine (KV.out _ BH.out.rd).mono ?_; rintro e w1 ⟨rfl, hb⟩; have Ba := Lib.hid (bl_trans B.out hb); have BHa := Lib.hid (BH.out.below hb); clear hb; obtain ⟨u0, -⟩ := BHa.out.blk.cell 0 _ rfl; obtain ⟨u1, -⟩ := BHa.out.blk.cell 1 _ rfl; obtain ⟨u2, -⟩ := BHa.out.blk.cell 2 _ rfl; obtain ⟨u3, -⟩ := BHa.out.blk.cell 3 _ rfl; obtain ⟨u4, -⟩ := BHa.out.blk.cell 4 _ rfl; obtain ⟨u5, -⟩ := BHa.out.blk.cell 5 _ rfl; obtain ⟨u6, -⟩ := BHa.out.blk.cell 6 _ rfl; obtain ⟨u7, -⟩ := BHa.out.blk.cell 7 _ rfl; obtain ⟨u8, -⟩ := BHa.out.blk.cell 8 _ rfl)
        | (go_at_call 21; refine (KO.out _ BHa.out.rd).mono ?_; rintro e w2 ⟨rfl, hb⟩; have Bb := Lib.hid (bl_trans Ba.out hb); have BHb := Lib.hid (BHa.out.below hb); clear hb)
        | (go_at_call 120; refine (KCK.out _ _ BHb.out).mono ?_; rintro e w3 ⟨rfl, rfl⟩))
    go_ret
    exact ⟨ret_bool (by simp), Bb.out⟩
set_option maxRecDepth 100000 in
set_option maxHeartbeats 3000000 in
theorem specIsSettled_any (L : At5) (b : Bt) (w : World) (h : Rd5 w L b) (z : Sz b) :
    Calls Try.prog 46 #[bV L b] w (Fresh (.bool (setlR b)) w) := by
  have BT := btAt_new h
  have B := Lib.hid (bl_box (w := w) (L := L) (b := b))
  have KV := Lib.hid (fun (W : World) (hW : Rd5 W L b) => specIsBetting_any L b W hW z)
  have KO := Lib.hid (fun (kk : Ok b) (W : World) (hW : Rd5 W L b) => l10HasT_any L b W hW kk)
  have KL := Lib.hid (fun (kk : Ok b) (W : World) (hW : Rd5 W L b) => l10Live_any L b W hW (by have := kk.l4; have := kk.n6; omega))
  have KC := Lib.hid (fun (kk : Ok b) (W : World) (hW : Rd5 W L b) => l10Count_any L b W hW kk.n6 kk.l4)
  have BH := Lib.hid BT
  obtain ⟨q0, _⟩ := BT.blk.cell 0 _ rfl
  obtain ⟨q1, _⟩ := BT.blk.cell 1 _ rfl
  obtain ⟨q2, _⟩ := BT.blk.cell 2 _ rfl
  obtain ⟨q3, _⟩ := BT.blk.cell 3 _ rfl
  obtain ⟨q4, _⟩ := BT.blk.cell 4 _ rfl
  obtain ⟨q5, _⟩ := BT.blk.cell 5 _ rfl
  obtain ⟨q6, _⟩ := BT.blk.cell 6 _ rfl
  obtain ⟨q7, _⟩ := BT.blk.cell 7 _ rfl
  obtain ⟨q8, _⟩ := BT.blk.cell 8 _ rfl
  clear h BT
  rcases hv : okB b with _ | _
  · have e1 : setlR b = false := by unfold setlR; rw [hv]; rfl
    rw [hv] at KV
    rw [e1]
    clear e1 hv KC KL KO
    unfold bV at *
    go_enter Try.func46, Try.ntmps46
    go_wp2_with (go_at_call 23; refine (KV.out _ BH.out.rd).mono ?_; rintro e w1 ⟨rfl, hb⟩; have Ba := Lib.hid (bl_trans B.out hb))
    go_ret
    exact ⟨rfl, Ba.out⟩
  have kk := ok_of hv
  rw [hv] at KV
  have KOK := Lib.hid (KO.out kk)
  have KLK := Lib.hid (KL.out kk)
  have KCK := Lib.hid (KC.out kk)
  have hcl := cnt_live b b.st.length
  have l4 := kk.l4
  rw [l4] at KLK
  have e1 : setlR b = (!openB b && decide (cntI b < 2)) := by unfold setlR setlB; rw [hv]; rfl
  have e2 : cntI b = cntK b b.st.length := rfl
  rw [e1]
  rw [← e2] at hcl
  clear e1 e2 hv KO KL KC kk l4
  generalize cntI b = n at *
  generalize liveL b b.st.length = r at *
  rcases ho : openB b with _ | _
  · rw [ho] at KOK
    clear ho
    by_cases h2 : r.length < 2
    · have d1 : decide (n < 2) = true := decide_eq_true (by omega)
      have d2 : decide ((r.length : Int) < 2) = true := decide_eq_true (by omega)
      rw [d1]
      clear d1 hcl
      unfold bV at *
      go_enter Try.func46, Try.ntmps46
      go_wp2_with (first
          | (go_at_call 23; refine (KV.out _ BH.out.rd).mono ?_; rintro e w1 ⟨rfl, hb⟩; have Ba := Lib.hid (bl_trans B.out hb); have BHa := Lib.hid (BH.out.below hb); clear hb; obtain ⟨u0, -⟩ := BHa.out.blk.cell 0 _ rfl; obtain ⟨u1, -⟩ := BHa.out.blk.cell 1 _ rfl; obtain ⟨u2, -⟩ := BHa.out.blk.cell 2 _ rfl; obtain ⟨u3, -⟩ := BHa.out.blk.cell 3 _ rfl; obtain ⟨u4, -⟩ := BHa.out.blk.cell 4 _ rfl; obtain ⟨u5, -⟩ := BHa.out.blk.cell 5 _ rfl; obtain ⟨u6, -⟩ := BHa.out.blk.cell 6 _ rfl; obtain ⟨u7, -⟩ := BHa.out.blk.cell 7 _ rfl; obtain ⟨u8, -⟩ := BHa.out.blk.cell 8 _ rfl)
          | (go_at_call 117; refine (KOK.out _ BHa.out.rd).mono ?_; rintro e w2 ⟨rfl, hb⟩; have Bb := Lib.hid (bl_trans Ba.out hb); have BHb := Lib.hid (BHa.out.below hb); clear hb; obtain ⟨v0, -⟩ := BHb.out.blk.cell 0 _ rfl; obtain ⟨v1, -⟩ := BHb.out.blk.cell 1 _ rfl; obtain ⟨v2, -⟩ := BHb.out.blk.cell 2 _ rfl; obtain ⟨v3, -⟩ := BHb.out.blk.cell 3 _ rfl; obtain ⟨v4, -⟩ := BHb.out.blk.cell 4 _ rfl; obtain ⟨v5, -⟩ := BHb.out.blk.cell 5 _ rfl; obtain ⟨v6, -⟩ := BHb.out.blk.cell 6 _ rfl; obtain ⟨v7, -⟩ := BHb.out.blk.cell 7 _ rfl; obtain ⟨v8, -⟩ := BHb.out.blk.cell 8 _ rfl)
          | (go_at_call 106; refine (KLK.out _ BHb.out.rd).mono ?_; rintro e w3 ⟨A, c, rfl, ho, hb⟩; have Bc := Lib.hid (bl_trans Bb.out hb); have BHc := Lib.hid (BHb.out.below hb); clear ho hb; obtain ⟨s0, -⟩ := BHc.out.blk.cell 0 _ rfl; obtain ⟨s1, -⟩ := BHc.out.blk.cell 1 _ rfl; obtain ⟨s2, -⟩ := BHc.out.blk.cell 2 _ rfl; obtain ⟨s3, -⟩ := BHc.out.blk.cell 3 _ rfl; obtain ⟨s4, -⟩ := BHc.out.blk.cell 4 _ rfl; obtain ⟨s5, -⟩ := BHc.out.blk.cell 5 _ rfl; obtain ⟨s6, -⟩ := BHc.out.blk.cell 6 _ rfl; obtain ⟨s7, -⟩ := BHc.out.blk.cell 7 _ rfl; obtain ⟨s8, -⟩ := BHc.out.blk.cell 8 _ rfl))
      go_ret
      exact ⟨rfl, Bc.out⟩
    · have d2 : decide ((r.length : Int) < 2) = false := decide_eq_false (by omega)
      clear hcl
      unfold bV at *
      go_enter Try.func46, Try.ntmps46
      go_wp2_with (first
          | (go_at_call 23; refine (KV.out _ BH.out.rd).mono ?_; rintro e w1 ⟨rfl, hb⟩; have Ba := Lib.hid (bl_trans B.out hb); have BHa := Lib.hid (BH.out.below hb); clear hb; obtain ⟨u0, -⟩ := BHa.out.blk.cell 0 _ rfl; obtain ⟨u1, -⟩ := BHa.out.blk.cell 1 _ rfl; obtain ⟨u2, -⟩ := BHa.out.blk.cell 2 _ rfl; obtain ⟨u3, -⟩ := BHa.out.blk.cell 3 _ rfl; obtain ⟨u4, -⟩ := BHa.out.blk.cell 4 _ rfl; obtain ⟨u5, -⟩ := BHa.out.blk.cell 5 _ rfl; obtain ⟨u6, -⟩ := BHa.out.blk.cell 6 _ rfl; obtain ⟨u7, -⟩ := BHa.out.blk.cell 7 _ rfl; obtain ⟨u8, -⟩ := BHa.out.blk.cell 8 _ rfl)
          | (go_at_call 117; refine (KOK.out _ BHa.out.rd).mono ?_; rintro e w2 ⟨rfl, hb⟩; have Bb := Lib.hid (bl_trans Ba.out hb); have BHb := Lib.hid (BHa.out.below hb); clear hb; obtain ⟨v0, -⟩ := BHb.out.blk.cell 0 _ rfl; obtain ⟨v1, -⟩ := BHb.out.blk.cell 1 _ rfl; obtain ⟨v2, -⟩ := BHb.out.blk.cell 2 _ rfl; obtain ⟨v3, -⟩ := BHb.out.blk.cell 3 _ rfl; obtain ⟨v4, -⟩ := BHb.out.blk.cell 4 _ rfl; obtain ⟨v5, -⟩ := BHb.out.blk.cell 5 _ rfl; obtain ⟨v6, -⟩ := BHb.out.blk.cell 6 _ rfl; obtain ⟨v7, -⟩ := BHb.out.blk.cell 7 _ rfl; obtain ⟨v8, -⟩ := BHb.out.blk.cell 8 _ rfl)
          | (go_at_call 106; refine (KLK.out _ BHb.out.rd).mono ?_; rintro e w3 ⟨A, c, rfl, ho, hb⟩; have Bc := Lib.hid (bl_trans Bb.out hb); have BHc := Lib.hid (BHb.out.below hb); clear ho hb; obtain ⟨s0, -⟩ := BHc.out.blk.cell 0 _ rfl; obtain ⟨s1, -⟩ := BHc.out.blk.cell 1 _ rfl; obtain ⟨s2, -⟩ := BHc.out.blk.cell 2 _ rfl; obtain ⟨s3, -⟩ := BHc.out.blk.cell 3 _ rfl; obtain ⟨s4, -⟩ := BHc.out.blk.cell 4 _ rfl; obtain ⟨s5, -⟩ := BHc.out.blk.cell 5 _ rfl; obtain ⟨s6, -⟩ := BHc.out.blk.cell 6 _ rfl; obtain ⟨s7, -⟩ := BHc.out.blk.cell 7 _ rfl; obtain ⟨s8, -⟩ := BHc.out.blk.cell 8 _ rfl)
          | (go_at_call 121; refine (KCK.out _ BHc.out.rd).mono ?_; rintro e w4 ⟨rfl, hb⟩; have Bd := Lib.hid (bl_trans Bc.out hb); clear hb))
      go_ret
      exact ⟨ret_bool (by simp), Bd.out⟩
  · rw [ho] at KOK
    clear ho hcl
    unfold bV at *
    go_enter Try.func46, Try.ntmps46
    go_wp2_with (first
        | (go_at_call 23; refine (KV.out _ BH.out.rd).mono ?_; rintro e w1 ⟨rfl, hb⟩; have Ba := Lib.hid (bl_trans B.out hb); have BHa := Lib.hid (BH.out.below hb); clear hb; obtain ⟨u0, -⟩ := BHa.out.blk.cell 0 _ rfl; obtain ⟨u1, -⟩ := BHa.out.blk.cell 1 _ rfl; obtain ⟨u2, -⟩ := BHa.out.blk.cell 2 _ rfl; obtain ⟨u3, -⟩ := BHa.out.blk.cell 3 _ rfl; obtain ⟨u4, -⟩ := BHa.out.blk.cell 4 _ rfl; obtain ⟨u5, -⟩ := BHa.out.blk.cell 5 _ rfl; obtain ⟨u6, -⟩ := BHa.out.blk.cell 6 _ rfl; obtain ⟨u7, -⟩ := BHa.out.blk.cell 7 _ rfl; obtain ⟨u8, -⟩ := BHa.out.blk.cell 8 _ rfl)
        | (go_at_call 117; refine (KOK.out _ BHa.out.rd).mono ?_; rintro e w2 ⟨rfl, hb⟩; have Bb := Lib.hid (bl_trans Ba.out hb); have BHb := Lib.hid (BHa.out.below hb); clear hb; obtain ⟨v0, -⟩ := BHb.out.blk.cell 0 _ rfl; obtain ⟨v1, -⟩ := BHb.out.blk.cell 1 _ rfl; obtain ⟨v2, -⟩ := BHb.out.blk.cell 2 _ rfl; obtain ⟨v3, -⟩ := BHb.out.blk.cell 3 _ rfl; obtain ⟨v4, -⟩ := BHb.out.blk.cell 4 _ rfl; obtain ⟨v5, -⟩ := BHb.out.blk.cell 5 _ rfl; obtain ⟨v6, -⟩ := BHb.out.blk.cell 6 _ rfl; obtain ⟨v7, -⟩ := BHb.out.blk.cell 7 _ rfl; obtain ⟨v8, -⟩ := BHb.out.blk.cell 8 _ rfl))
    go_ret
    exact ⟨rfl, Bb.out⟩
set_option maxRecDepth 100000 in
set_option maxHeartbeats 2000000 in
theorem implWinner_any (L : At5) (b : Bt) (w : World) (h : Rd5 w L b) :
    Calls Try.prog 51 #[bV L b] w (Fresh (pairV (winX b) (winC b)) w) := by
  have BT := btAt_new h
  have B := Lib.hid (bl_box (w := w) (L := L) (b := b))
  have KV := Lib.hid (fun (W : World) (hW : Rd5 W L b) => implIsBetting_any L b W hW)
  have KL := Lib.hid (fun (kk : Ok b) (g : Nat) (W : World) (hW : BtAt W g L b) => liveSeats_any g L b W hW kk)
  have KW := Lib.hid (fun (kk : Ok b) (g : Nat) (W : World) (hW : BtAt W g L b) => wonFolds_any g L b W hW kk)
  have BH := Lib.hid BT
  obtain ⟨q0, _⟩ := BT.blk.cell 0 _ rfl
  obtain ⟨q1, _⟩ := BT.blk.cell 1 _ rfl
  obtain ⟨q2, _⟩ := BT.blk.cell 2 _ rfl
  obtain ⟨q3, _⟩ := BT.blk.cell 3 _ rfl
  obtain ⟨q4, _⟩ := BT.blk.cell 4 _ rfl
  obtain ⟨q5, _⟩ := BT.blk.cell 5 _ rfl
  obtain ⟨q6, _⟩ := BT.blk.cell 6 _ rfl
  obtain ⟨q7, _⟩ := BT.blk.cell 7 _ rfl
  obtain ⟨q8, _⟩ := BT.blk.cell 8 _ rfl
  clear h BT
  rcases hv : okB b with _ | _
  · have e1 : winX b = 0 := by unfold winX; rw [hv]; rfl
    have e2 : winC b = 1 := by unfold winC; rw [hv]; rfl
    rw [hv] at KV
    rw [e1, e2]
    clear e1 e2 hv KL KW
    unfold bV pairV at *
    go_enter Try.func51, Try.ntmps51
    go_wp2_with (go_at_call 22; refine (KV.out _ BH.out.rd).mono ?_; rintro e w1 ⟨rfl, hb⟩; have Ba := Lib.hid (bl_trans B.out hb); have BHa := Lib.hid (BH.out.below hb); clear hb; obtain ⟨u0, -⟩ := BHa.out.blk.cell 0 _ rfl; obtain ⟨u1, -⟩ := BHa.out.blk.cell 1 _ rfl; obtain ⟨u2, -⟩ := BHa.out.blk.cell 2 _ rfl; obtain ⟨u3, -⟩ := BHa.out.blk.cell 3 _ rfl; obtain ⟨u4, -⟩ := BHa.out.blk.cell 4 _ rfl; obtain ⟨u5, -⟩ := BHa.out.blk.cell 5 _ rfl; obtain ⟨u6, -⟩ := BHa.out.blk.cell 6 _ rfl; obtain ⟨u7, -⟩ := BHa.out.blk.cell 7 _ rfl; obtain ⟨u8, -⟩ := BHa.out.blk.cell 8 _ rfl)
    go_ret2
    exact ⟨rfl, Ba.out⟩
  have kk := ok_of hv
  rw [hv] at KV
  have KLK := Lib.hid (KL.out kk)
  have KWK := Lib.hid (KW.out kk)
  clear KW
  have hp : 1 ≤ (liveL b b.st.length).length := by obtain ⟨i, hi, hf⟩ := kk.live; exact live_pos b i hf _ hi
  have e1 : winX b = if (liveL b b.st.length).length = 1 then nth (liveL b b.st.length) 0 else 0 := by unfold winX; rw [hv]; rfl
  have e2 : winC b = if (liveL b b.st.length).length = 1 then 0 else 5 := by unfold winC; rw [hv]; rfl
  rw [e1, e2]
  clear e1 e2 hv KL kk
  generalize liveL b b.st.length = r at *
  by_cases h1 : r.length = 1
  · rw [if_pos h1, if_pos h1]
    have d4 : (0 : Int) < r.length := by omega
    rw [decide_eq_true h1] at KWK
    clear hp h1
    unfold bV pairV at *
    go_enter Try.func51, Try.ntmps51
    go_wp2_with (first
        | (go_at_call 22; refine (KV.out _ BH.out.rd).mono ?_; rintro e w1 ⟨rfl, hb⟩; have Ba := Lib.hid (bl_trans B.out hb); have BHa := Lib.hid (BH.out.below hb); clear hb; obtain ⟨u0, -⟩ := BHa.out.blk.cell 0 _ rfl; obtain ⟨u1, -⟩ := BHa.out.blk.cell 1 _ rfl; obtain ⟨u2, -⟩ := BHa.out.blk.cell 2 _ rfl; obtain ⟨u3, -⟩ := BHa.out.blk.cell 3 _ rfl; obtain ⟨u4, -⟩ := BHa.out.blk.cell 4 _ rfl; obtain ⟨u5, -⟩ := BHa.out.blk.cell 5 _ rfl; obtain ⟨u6, -⟩ := BHa.out.blk.cell 6 _ rfl; obtain ⟨u7, -⟩ := BHa.out.blk.cell 7 _ rfl; obtain ⟨u8, -⟩ := BHa.out.blk.cell 8 _ rfl)
        | (go_at_call 112; refine (KWK.out _ _ BHa.out).mono ?_; rintro e w2 ⟨rfl, hb⟩; have Bb := Lib.hid (bl_trans Ba.out hb); have BHb := Lib.hid (BHa.out.below hb); clear hb)
        | (go_at_call 105; refine (KLK.out _ _ BHb.out).mono ?_; rintro e w3 ⟨A, c, rfl, ho, hb⟩; have Bc := Lib.hid (bl_trans Bb.out hb); obtain ⟨gA, oA, eA, cA⟩ := ho.rd.at_0 0 (by omega); subst eA; simp only [Nat.add_zero] at cA; clear ho hb))
    go_ret2
    exact ⟨rfl, Bc.out⟩
  · rw [if_neg h1, if_neg h1]
    rw [decide_eq_false h1] at KWK
    clear hp h1
    unfold bV pairV at *
    go_enter Try.func51, Try.ntmps51
    go_wp2_with (first
        | (go_at_call 22; refine (KV.out _ BH.out.rd).mono ?_; rintro e w1 ⟨rfl, hb⟩; have Ba := Lib.hid (bl_trans B.out hb); have BHa := Lib.hid (BH.out.below hb); clear hb; obtain ⟨u0, -⟩ := BHa.out.blk.cell 0 _ rfl; obtain ⟨u1, -⟩ := BHa.out.blk.cell 1 _ rfl; obtain ⟨u2, -⟩ := BHa.out.blk.cell 2 _ rfl; obtain ⟨u3, -⟩ := BHa.out.blk.cell 3 _ rfl; obtain ⟨u4, -⟩ := BHa.out.blk.cell 4 _ rfl; obtain ⟨u5, -⟩ := BHa.out.blk.cell 5 _ rfl; obtain ⟨u6, -⟩ := BHa.out.blk.cell 6 _ rfl; obtain ⟨u7, -⟩ := BHa.out.blk.cell 7 _ rfl; obtain ⟨u8, -⟩ := BHa.out.blk.cell 8 _ rfl)
        | (go_at_call 112; refine (KWK.out _ _ BHa.out).mono ?_; rintro e w2 ⟨rfl, hb⟩; have Bb := Lib.hid (bl_trans Ba.out hb); have BHb := Lib.hid (BHa.out.below hb); clear hb))
    go_ret2
    exact ⟨rfl, Bb.out⟩
set_option maxRecDepth 100000 in
set_option maxHeartbeats 2000000 in
theorem specWinner_any (L : At5) (b : Bt) (w : World) (h : Rd5 w L b) (z : Sz b) :
    Calls Try.prog 52 #[bV L b] w (Fresh (pairV (winX b) (winC b)) w) := by
  have BT := btAt_new h
  have B := Lib.hid (bl_box (w := w) (L := L) (b := b))
  have KV := Lib.hid (fun (W : World) (hW : Rd5 W L b) => specIsBetting_any L b W hW z)
  have KL := Lib.hid (fun (kk : Ok b) (W : World) (hW : Rd5 W L b) => l10Live_any L b W hW (by have := kk.l4; have := kk.n6; omega))
  have BH := Lib.hid BT
  obtain ⟨q0, _⟩ := BT.blk.cell 0 _ rfl
  obtain ⟨q1, _⟩ := BT.blk.cell 1 _ rfl
  obtain ⟨q2, _⟩ := BT.blk.cell 2 _ rfl
  obtain ⟨q3, _⟩ := BT.blk.cell 3 _ rfl
  obtain ⟨q4, _⟩ := BT.blk.cell 4 _ rfl
  obtain ⟨q5, _⟩ := BT.blk.cell 5 _ rfl
  obtain ⟨q6, _⟩ := BT.blk.cell 6 _ rfl
  obtain ⟨q7, _⟩ := BT.blk.cell 7 _ rfl
  obtain ⟨q8, _⟩ := BT.blk.cell 8 _ rfl
  clear h BT
  rcases hv : okB b with _ | _
  · have e1 : winX b = 0 := by unfold winX; rw [hv]; rfl
    have e2 : winC b = 1 := by unfold winC; rw [hv]; rfl
    rw [hv] at KV
    rw [e1, e2]
    clear e1 e2 hv KL
    unfold bV pairV at *
    go_enter Try.func52, Try.ntmps52
    go_wp2_with (go_at_call 23; refine (KV.out _ BH.out.rd).mono ?_; rintro e w1 ⟨rfl, hb⟩; have Ba := Lib.hid (bl_trans B.out hb); have BHa := Lib.hid (BH.out.below hb); clear hb; obtain ⟨u0, -⟩ := BHa.out.blk.cell 0 _ rfl; obtain ⟨u1, -⟩ := BHa.out.blk.cell 1 _ rfl; obtain ⟨u2, -⟩ := BHa.out.blk.cell 2 _ rfl; obtain ⟨u3, -⟩ := BHa.out.blk.cell 3 _ rfl; obtain ⟨u4, -⟩ := BHa.out.blk.cell 4 _ rfl; obtain ⟨u5, -⟩ := BHa.out.blk.cell 5 _ rfl; obtain ⟨u6, -⟩ := BHa.out.blk.cell 6 _ rfl; obtain ⟨u7, -⟩ := BHa.out.blk.cell 7 _ rfl; obtain ⟨u8, -⟩ := BHa.out.blk.cell 8 _ rfl)
    go_ret2
    exact ⟨rfl, Ba.out⟩
  have kk := ok_of hv
  rw [hv] at KV
  have KLK := Lib.hid (KL.out kk)
  have l4 := kk.l4
  rw [l4] at KLK
  clear l4
  have hp : 1 ≤ (liveL b b.st.length).length := by obtain ⟨i, hi, hf⟩ := kk.live; exact live_pos b i hf _ hi
  have e1 : winX b = if (liveL b b.st.length).length = 1 then nth (liveL b b.st.length) 0 else 0 := by unfold winX; rw [hv]; rfl
  have e2 : winC b = if (liveL b b.st.length).length = 1 then 0 else 5 := by unfold winC; rw [hv]; rfl
  rw [e1, e2]
  clear e1 e2 hv KL kk
  generalize liveL b b.st.length = r at *
  by_cases h1 : r.length = 1
  · rw [if_pos h1, if_pos h1]
    have d2 : decide ((r.length : Int) > 1) = false := decide_eq_false (by omega)
    have d3 : decide ((1 : Int) < r.length) = false := decide_eq_false (by omega)
    have d4 : (0 : Int) < r.length := by omega
    clear hp h1
    unfold bV pairV at *
    go_enter Try.func52, Try.ntmps52
    go_wp2_with (go_at_call 23; refine (KV.out _ BH.out.rd).mono ?_; rintro e w1 ⟨rfl, hb⟩; have Ba := Lib.hid (bl_trans B.out hb); have BHa := Lib.hid (BH.out.below hb); clear hb; obtain ⟨u0, -⟩ := BHa.out.blk.cell 0 _ rfl; obtain ⟨u1, -⟩ := BHa.out.blk.cell 1 _ rfl; obtain ⟨u2, -⟩ := BHa.out.blk.cell 2 _ rfl; obtain ⟨u3, -⟩ := BHa.out.blk.cell 3 _ rfl; obtain ⟨u4, -⟩ := BHa.out.blk.cell 4 _ rfl; obtain ⟨u5, -⟩ := BHa.out.blk.cell 5 _ rfl; obtain ⟨u6, -⟩ := BHa.out.blk.cell 6 _ rfl; obtain ⟨u7, -⟩ := BHa.out.blk.cell 7 _ rfl; obtain ⟨u8, -⟩ := BHa.out.blk.cell 8 _ rfl)
    go_wp2_with (go_at_call 106; refine (KLK.out _ BHa.out.rd).mono ?_; rintro e w3 ⟨A, c, rfl, ho, hb⟩; have Bc := Lib.hid (bl_trans Ba.out hb); obtain ⟨gA, oA, eA, cA⟩ := ho.rd.at_0 0 (by omega); subst eA; simp only [Nat.add_zero] at cA; clear ho hb)
    go_ret2
    exact ⟨rfl, Bc.out⟩
  · rw [if_neg h1, if_neg h1]
    have d2 : decide ((r.length : Int) > 1) = true := decide_eq_true (by omega)
    have d3 : decide ((1 : Int) < r.length) = true := decide_eq_true (by omega)
    clear hp h1
    unfold bV pairV at *
    go_enter Try.func52, Try.ntmps52
    go_wp2_with (first
        | (go_at_call 23; refine (KV.out _ BH.out.rd).mono ?_; rintro e w1 ⟨rfl, hb⟩; have Ba := Lib.hid (bl_trans B.out hb); have BHa := Lib.hid (BH.out.below hb); clear hb; obtain ⟨u0, -⟩ := BHa.out.blk.cell 0 _ rfl; obtain ⟨u1, -⟩ := BHa.out.blk.cell 1 _ rfl; obtain ⟨u2, -⟩ := BHa.out.blk.cell 2 _ rfl; obtain ⟨u3, -⟩ := BHa.out.blk.cell 3 _ rfl; obtain ⟨u4, -⟩ := BHa.out.blk.cell 4 _ rfl; obtain ⟨u5, -⟩ := BHa.out.blk.cell 5 _ rfl; obtain ⟨u6, -⟩ := BHa.out.blk.cell 6 _ rfl; obtain ⟨u7, -⟩ := BHa.out.blk.cell 7 _ rfl; obtain ⟨u8, -⟩ := BHa.out.blk.cell 8 _ rfl)
        | (go_at_call 106; refine (KLK.out _ BHa.out.rd).mono ?_; rintro e w3 ⟨A, c, rfl, ho, hb⟩; have HO := Lib.hid ho; have Bc := Lib.hid (bl_trans Ba.out hb); clear ho hb))
    go_ret2
    exact ⟨rfl, Bc.out⟩
end Go.Proofs.Ythgfohdjpfhebaa
