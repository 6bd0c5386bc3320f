/-
  The program and the model: rounds that are checked down.
-/
import Derived.Test.YthgfohdjpfhebaaSpecBetP
import Derived.WalkMore
namespace Go.Proofs.Ythgfohdjpfhebaa
open Go.RowKit
set_option linter.unusedVariables false

/-- What a call leaves that returns a new round, a number and a code. -/
def NewBtNC (b : Bt) (n k : Int) (w : World) (e : Ending) (w' : World) : Prop := ∃ L : At5, e = .returned (.tuple #[.agg #[.slice L.a1 b.st.length L.c1, .slice L.a2 b.bt.length L.c2, .slice L.a3 b.pd.length L.c3, .slice L.a4 b.fo.length L.c4, .slice L.a5 b.ac.length L.c5, .int .i64 b.tu, .int .i64 b.un, .int .i64 b.ra, .int .i64 b.li], .int .i64 n, .int .i64 k]) ∧ Row5 w' w.heap.size L b ∧ Below w.heap.size w w'
noncomputable def downR (b : Bt) : Bt := if okB b = true then downB b else zB
noncomputable def downX (b : Bt) : Int := if okB b = true then (downN b : Int) else 0
theorem step_apply {c : Bt} (h : Ok c) (ho : openB c = true) : actC c (downK c) 0 = 0 ∧ applyR c (downK c) 0 = stepD c := by
  have e : actC c (downK c) 0 = 0 := by unfold actC; rw [ok_yes h, ho, down_leg h ho]; rfl
  exact ⟨e, by unfold applyR; rw [e]; rfl⟩
/-- What the loop keeps: the round in its box, the result's box. -/
structure Dn (w0 : World) (lo gR gZ : Nat) (L : At5) (c : Bt) (W : World) : Prop where
  blk : Blk W gR 27 (btL L c)
  rows : Row5 W lo L c
  res : Blk W gZ 27 [.slice none 0 0, .slice none 0 0, .slice none 0 0, .slice none 0 0, .slice none 0 0, .int .i64 0, .int .i64 0, .int .i64 0, .int .i64 0]
  all : Below w0.heap.size w0 W
theorem Dn.below {w0 W W' : World} {lo gR gZ : Nat} {L : At5} {c : Bt} (h : Dn w0 lo gR gZ L c W) (hb : Below W.heap.size W W') : Dn w0 lo gR gZ L c W' := ⟨h.blk.below hb, h.rows.below hb, h.res.below hb, bl_trans h.all hb⟩
/-- A new round is stored into the box. -/
theorem Dn.put {w0 W X W' : World} {lo gR gZ : Nat} {L L' : At5} {c c' : Bt} (h : Dn w0 lo gR gZ L c W) (hX : Below W.heap.size W X) (hr : Row5 X W.heap.size L' c') (hk : Blk W' gR 27 (btL L' c')) (hg : X.grownBy W' (some gR)) (hlo : lo ≤ W.heap.size) (h0 : w0.heap.size ≤ gR) (hz : gZ ≠ gR) : Dn w0 lo gR gZ L' c' W' :=
  ⟨hk, (hr.grownB' hg h.blk.lt).less hlo, (h.res.below hX).grown hg (fun e => hz (Option.some.inj e)), below_grown1 (bl_trans h.all hX) hg h0⟩
set_option maxRecDepth 100000 in
theorem run_fieldCh (c : Bool) (k l m : Int) (W : World) : (Instr.field 30 (.agg #[.bool c, .int .i64 k, .int .i64 l, .int .i64 m]) 0).run Try.prog W = .ok (.bool c) W := by
  simp [Instr.field, run_underlying Try.underlying30, part, isAgg, run_underlying Try.underlying4, asAgg]
set_option maxRecDepth 100000 in
set_option maxHeartbeats 3000000 in
theorem implCheckDown_any (L : At5) (b : Bt) (w : World) (h : Rd5 w L b) :
    Calls Try.prog 72 #[bV L b] w (NewBtNC (downR b) (downX b) (okC b) w) := by
  have KV := Lib.hid (fun (W : World) (hW : Rd5 W L b) => implIsBetting_any L b W hW)
  have KCL := Lib.hid (fun (kk : Sm b) (g : Nat) (W : World) (hW : BtAt W g L b) => cloneN_any g L b W hW kk)
  have iB : (Try.prog.info? 27).map (·.size) = some 9 := by kernel_rfl
  have i1 : (Try.prog.info? 2).map (·.size) = some 1 := by kernel_rfl
  have iA : (Try.prog.info? 34).map (·.size) = some 2 := by kernel_rfl
  have b1 := bl_box (w := w) (L := L) (b := b)
  have b2 := bl_alloc (bl_refl (w.alloc (.cells (btL L b).toArray 27))) (.cells ([.slice none 0 0, .slice none 0 0, .slice none 0 0, .slice none 0 0, .slice none 0 0, .int .i64 0, .int .i64 0, .int .i64 0, .int .i64 0] : List Value).toArray 27)
  have BT := (btAt_new h).below b2
  have n1 := blk_new (w.alloc (.cells (btL L b).toArray 27)) 27 [.slice none 0 0, .slice none 0 0, .slice none 0 0, .slice none 0 0, .slice none 0 0, .int .i64 0, .int .i64 0, .int .i64 0, .int .i64 0]
  rw [World.size_alloc] at n1
  have B := Lib.hid (bl_trans b1 b2)
  have NR := Lib.hid n1
  have BH := Lib.hid BT
  obtain ⟨q0, -⟩ := BT.blk.cell 0 _ rfl
  obtain ⟨q1, -⟩ := BT.blk.cell 1 _ rfl
  obtain ⟨q2, -⟩ := BT.blk.cell 2 _ rfl
  obtain ⟨q3, -⟩ := BT.blk.cell 3 _ rfl
  obtain ⟨q4, -⟩ := BT.blk.cell 4 _ rfl
  obtain ⟨q5, -⟩ := BT.blk.cell 5 _ rfl
  obtain ⟨q6, -⟩ := BT.blk.cell 6 _ rfl
  obtain ⟨q7, -⟩ := BT.blk.cell 7 _ rfl
  obtain ⟨q8, -⟩ := BT.blk.cell 8 _ rfl
  clear h BT n1 b1 b2
  rcases hv : okB b with _ | _
  · have e1 : downR b = zB := by unfold downR; rw [hv]; rfl
    have e2 : downX b = 0 := by unfold downX; rw [hv]; rfl
    have e3 : okC b = 1 := by unfold okC; rw [hv]; rfl
    rw [hv] at KV
    rw [e1, e2, e3]
    clear e1 e2 e3 hv KCL
    unfold bV at *
    go_enter Try.func72, Try.ntmps72
    go_wp2_with fail
    go_step3
    go_wp2_with (first
        | (go_at_call 22; refine (KV.out _ BH.out.rd).mono ?_; rintro e w1 ⟨rfl, hb⟩; have Ba := Lib.hid (bl_trans B.out hb); have NRa := Lib.hid (NR.out.below hb); clear hb)
        | ((with_reducible refine at_st 27 (.tmp 2) (.tmp 13) rfl ?_); (refine wpList_store_blk 27 9 rfl (.tmp 2) (.tmp 13) rfl iB (w.heap.size + 1) rfl [.slice none 0 0, .slice none 0 0, .slice none 0 0, .slice none 0 0, .slice none 0 0, .int .i64 0, .int .i64 0, .int .i64 0, .int .i64 0] rfl rfl (by simp [Value.oneCell']) _ NRa.out rfl ?_); intro w9 k9 g9; have B9 := Lib.hid (below_grown1 Ba.out g9 (by omega))))
    obtain ⟨z0, _⟩ := k9.cell 0 _ rfl
    obtain ⟨z1, _⟩ := k9.cell 1 _ rfl
    obtain ⟨z2, _⟩ := k9.cell 2 _ rfl
    obtain ⟨z3, _⟩ := k9.cell 3 _ rfl
    obtain ⟨z4, _⟩ := k9.cell 4 _ rfl
    obtain ⟨z5, _⟩ := k9.cell 5 _ rfl
    obtain ⟨z6, _⟩ := k9.cell 6 _ rfl
    obtain ⟨z7, _⟩ := k9.cell 7 _ rfl
    obtain ⟨z8, _⟩ := k9.cell 8 _ rfl
    rw [Exit.noGoto_ret]
    exact bodyPost_ret (v := .tuple #[.agg #[.slice none 0 0, .slice none 0 0, .slice none 0 0, .slice none 0 0, .slice none 0 0, .int .i64 0, .int .i64 0, .int .i64 0, .int .i64 0], .int .i64 0, .int .i64 1]) (by simp [results, Try.results72, go_sem, z0, z1, z2, z3, z4, z5, z6, z7, z8]) rfl ⟨zL, rfl, row5_z _ _, B9.out⟩
  have kk := ok_of hv
  obtain ⟨hdn, hopen, hend, hokE, _⟩ := down_end kk
  have e1 : downR b = iterD b (downN b) := by unfold downR; rw [hv]; rfl
  have e2 : downX b = (downN b : Int) := by unfold downX; rw [hv]; rfl
  have e3 : okC b = 0 := by unfold okC; rw [hv]; rfl
  have HOK := Lib.hid (fun (k : Nat) (hk : k ≤ downN b) => (iter_ok kk k (fun j hj => hopen j (by omega))).1)
  have HOP := Lib.hid hopen
  have HEN := Lib.hid hend
  have KSM := Lib.hid kk.sm
  rw [hv] at KV
  rw [e1, e2, e3]
  clear e1 e2 e3 hv hopen hend hokE kk
  unfold downB at HEN
  generalize downN b = n at *
  unfold bV at *
  go_enter Try.func72, Try.ntmps72
  go_wp2_with fail
  go_step3
  go_wp2_with (first
    | (go_at_call 22; refine (KV.out _ BH.out.rd).mono ?_; rintro e w1 ⟨rfl, hb⟩; have Ba := Lib.hid (bl_trans B.out hb); have NRa := Lib.hid (NR.out.below hb); have BHa := Lib.hid (BH.out.below hb); clear hb)
    | (go_at_call 96; refine (KCL.out KSM.out _ _ BHa.out).mono ?_; rintro e w2 ⟨g8, M, rfl, hg8, hn, hb⟩; have HG8 := Lib.hid hg8; have NBb := Lib.hid hn; have NRb := Lib.hid (NRa.out.below hb); have Bb := Lib.hid (bl_trans Ba.out hb); have NBc := hn.blk; obtain ⟨u0, -⟩ := NBc.cell 0 _ rfl; obtain ⟨u1, -⟩ := NBc.cell 1 _ rfl; obtain ⟨u2, -⟩ := NBc.cell 2 _ rfl; obtain ⟨u3, -⟩ := NBc.cell 3 _ rfl; obtain ⟨u4, -⟩ := NBc.cell 4 _ rfl; obtain ⟨u5, -⟩ := NBc.cell 5 _ rfl; obtain ⟨u6, -⟩ := NBc.cell 6 _ rfl; obtain ⟨u7, -⟩ := NBc.cell 7 _ rfl; obtain ⟨u8, -⟩ := NBc.cell 8 _ rfl; clear NBc hn hb))
  go_step3
  go_wp2_with fail
  obtain ⟨gR, eg⟩ : ∃ g, g = w2.heap.size := ⟨_, rfl⟩
  obtain ⟨w3, e3⟩ : ∃ W, W = w2.alloc (.cells (btL M b).toArray 27) := ⟨_, rfl⟩
  have hb3 : Below w2.heap.size w2 w3 := by rw [e3]; exact bl_alloc (bl_refl _) _
  have D3 : Hid (Dn w (w.heap.size + 1 + 1) gR (w.heap.size + 1) M (iterD b 0) w3) := Lib.hid ⟨by rw [e3, eg]; exact blk_new w2 _ _, (NBb.out.rows.below hb3).less (by have := NRa.out.lt; have := HG8.out; omega), NRb.out.below hb3, bl_trans Bb.out hb3⟩
  have G3 : Hid (w.heap.size + 1 < gR) := by rw [eg]; exact Lib.hid NRb.out.lt
  simp only [btL, List.toArray] at e3
  rw [← e3, ← eg]
  clear e3 eg hb3 NBb NRb Bb q0 q1 q2 q3 q4 q5 q6 q7 q8 u0 u1 u2 u3 u4 u5 u6 u7 u8 KV KCL BH B NR Ba NRa BHa HG8
  go_loopw [6] (fun cnt wr => ∃ (k : Nat) (M : At5), k ≤ n ∧ cnt = .int .i64 k ∧ Hid (Dn w (w.heap.size + 1 + 1) gR (w.heap.size + 1) M (iterD b k) wr)) (fun cnt _ => n + 1 - (intOf cnt).toNat)
  case atStart => exact ⟨0, M, Nat.zero_le _, rfl, D3⟩
  case round =>
    obtain ⟨k, M, hk, rfl, HD⟩ := hrel
    have kk := HOK.out k hk
    have X0 := Lib.hid (bl_alloc (bl_refl wr) (.cells ([.int .i64 2, .int .i64 0] : List Value).toArray 34))
    have NA0 := Lib.hid (blk_new wr 34 [.int .i64 2, .int .i64 0])
    have hw1 : Hid (w.heap.size + 1 + 1 ≤ wr.heap.size) := Lib.hid HD.out.res.lt
    have D0b := (HD.out.below X0.out).blk
    by_cases hlt : k < n
    · have ho := HOP.out k hlt
      have hst := step_apply kk ho
      have KCH := Lib.hid (fun (W : World) (hW : Rd5 W M (iterD b k)) => implChoicesIn_any M (iterD b k) W hW)
      have KAP := Lib.hid (fun (W : World) (hW : Rd5 W M (iterD b k)) => implApply_any M (iterD b k) (downK (iterD b k)) 0 W hW)
      have e1 : chR (iterD b k) = chV (checkB (iterD b k)) (callI (iterD b k)) (leastI (iterD b k)) (mostI (iterD b k)) := by unfold chR; rw [ok_yes kk, ho]; rfl
      rw [e1, codeB_open (ok_yes kk) ho] at KCH
      rw [hst.1, hst.2] at KAP
      have HN : Hid (iterD b (k + 1) = stepD (iterD b k)) := Lib.hid rfl
      have HDK : Hid (downK (iterD b k) = if checkB (iterD b k) = true then 1 else 2) := Lib.hid rfl
      unfold NewBtC bV at KAP
      clear kk ho hst e1
      generalize checkB (iterD b k) = ck at *
      generalize callI (iterD b k) = x1 at *
      generalize leastI (iterD b k) = x2 at *
      generalize mostI (iterD b k) = x3 at *
      generalize downK (iterD b k) = dk at *
      generalize stepD (iterD b k) = c' at *
      generalize iterD b k = c at *
      obtain ⟨u0, -⟩ := D0b.cell 0 _ rfl; obtain ⟨u1, -⟩ := D0b.cell 1 _ rfl; obtain ⟨u2, -⟩ := D0b.cell 2 _ rfl; obtain ⟨u3, -⟩ := D0b.cell 3 _ rfl; obtain ⟨u4, -⟩ := D0b.cell 4 _ rfl; obtain ⟨u5, -⟩ := D0b.cell 5 _ rfl; obtain ⟨u6, -⟩ := D0b.cell 6 _ rfl; obtain ⟨u7, -⟩ := D0b.cell 7 _ rfl; obtain ⟨u8, -⟩ := D0b.cell 8 _ rfl
      clear D0b
      rcases ck with _ | _
      · obtain rfl : dk = 2 := HDK.out
        unfold bV chT chV at *
        go_wp2_with (first
          | (go_at_call 18; refine (KCH.out _ (HD.out.below X0.out).rows.rd).mono ?_; rintro e w4 ⟨rfl, hb⟩; have hx := bl_trans hb (bl_alloc (bl_refl w4) (.cells ([.bool false, .int .i64 x1, .int .i64 x2, .int .i64 x3] : List Value).toArray 30)); have Xa := Lib.hid (bl_trans X0.out hx); have NAa := Lib.hid (NA0.out.below hx); have NCx := blk_new w4 30 [.bool false, .int .i64 x1, .int .i64 x2, .int .i64 x3]; obtain ⟨r0, -⟩ := NCx.cell 0 _ rfl; obtain ⟨p0, -⟩ := NAa.out.cell 0 _ rfl; obtain ⟨p1, -⟩ := NAa.out.cell 1 _ rfl; have Dab := (HD.out.below Xa.out).blk; obtain ⟨v0, -⟩ := Dab.cell 0 _ rfl; obtain ⟨v1, -⟩ := Dab.cell 1 _ rfl; obtain ⟨v2, -⟩ := Dab.cell 2 _ rfl; obtain ⟨v3, -⟩ := Dab.cell 3 _ rfl; obtain ⟨v4, -⟩ := Dab.cell 4 _ rfl; obtain ⟨v5, -⟩ := Dab.cell 5 _ rfl; obtain ⟨v6, -⟩ := Dab.cell 6 _ rfl; obtain ⟨v7, -⟩ := Dab.cell 7 _ rfl; obtain ⟨v8, -⟩ := Dab.cell 8 _ rfl; clear hb hx NCx Dab)
          | (go_at_call 27; refine (KAP.out _ (HD.out.below Xa.out).rows.rd).mono ?_; rintro e w6 ⟨M2, rfl, hr, hb⟩; have R6 := Lib.hid (hr.less (show wr.heap.size ≤ _ from Xa.out.size)); have X6 := Lib.hid (bl_trans Xa.out hb); clear hr hb)
          | ((with_reducible refine at_st 27 (.tmp 5) (.tmp 34) rfl ?_); (refine wpList_store_blk 27 9 rfl (.tmp 5) (.tmp 34) rfl iB gR rfl [.slice M2.a1 c'.st.length M2.c1, .slice M2.a2 c'.bt.length M2.c2, .slice M2.a3 c'.pd.length M2.c3, .slice M2.a4 c'.fo.length M2.c4, .slice M2.a5 c'.ac.length M2.c5, .int .i64 c'.tu, .int .i64 c'.un, .int .i64 c'.ra, .int .i64 c'.li] rfl rfl (by simp [Value.oneCell']) _ (HD.out.below X6.out).blk rfl ?_); intro w7 k9 g9; have D7 : Hid (Dn w (w.heap.size + 1 + 1) gR (w.heap.size + 1) M2 (iterD b (k + 1)) w7) := by rw [HN.out]; exact Lib.hid (HD.out.put X6.out R6.out k9 g9 hw1.out (by have := G3.out; omega) (by have := G3.out; omega))))
        go_roundw
        case rel => exact ⟨k + 1, M2, by omega, by go_num, D7⟩
        case measure => simp [intOf]; omega
      · obtain rfl : dk = 1 := HDK.out
        unfold bV chT chV at *
        go_wp2_with (first
          | (go_at_call 18; refine (KCH.out _ (HD.out.below X0.out).rows.rd).mono ?_; rintro e w4 ⟨rfl, hb⟩; have hx := bl_trans hb (bl_alloc (bl_refl w4) (.cells ([.bool true, .int .i64 x1, .int .i64 x2, .int .i64 x3] : List Value).toArray 30)); have Xa := Lib.hid (bl_trans X0.out hx); have NAa := Lib.hid (NA0.out.below hx); have NCx := blk_new w4 30 [.bool true, .int .i64 x1, .int .i64 x2, .int .i64 x3]; obtain ⟨r0, -⟩ := NCx.cell 0 _ rfl; obtain ⟨p0, -⟩ := NAa.out.cell 0 _ rfl; obtain ⟨p1, -⟩ := NAa.out.cell 1 _ rfl; have Dab := (HD.out.below Xa.out).blk; obtain ⟨v0, -⟩ := Dab.cell 0 _ rfl; obtain ⟨v1, -⟩ := Dab.cell 1 _ rfl; obtain ⟨v2, -⟩ := Dab.cell 2 _ rfl; obtain ⟨v3, -⟩ := Dab.cell 3 _ rfl; obtain ⟨v4, -⟩ := Dab.cell 4 _ rfl; obtain ⟨v5, -⟩ := Dab.cell 5 _ rfl; obtain ⟨v6, -⟩ := Dab.cell 6 _ rfl; obtain ⟨v7, -⟩ := Dab.cell 7 _ rfl; obtain ⟨v8, -⟩ := Dab.cell 8 _ rfl; clear hb hx NCx Dab)
          | ((with_reducible refine wpList_store_at 2 rfl (.tmp 29) (.const (.int .i64 1)) rfl i1 wr.heap.size 0 rfl (.int .i64 1) rfl rfl _ _ NAa.out ?_ ?_); (exact (by simp)); intro w5 k5 g5; have Xk := Lib.hid (below_grown1 Xa.out g5 (Nat.le_refl _)); have NAk : Hid (Blk w5 wr.heap.size 34 [.int .i64 1, .int .i64 0]) := Lib.hid k5; clear k5 g5; obtain ⟨t0, -⟩ := NAk.out.cell 0 _ rfl; obtain ⟨t1, -⟩ := NAk.out.cell 1 _ rfl; have Dkb := (HD.out.below Xk.out).blk; obtain ⟨s0, -⟩ := Dkb.cell 0 _ rfl; obtain ⟨s1, -⟩ := Dkb.cell 1 _ rfl; obtain ⟨s2, -⟩ := Dkb.cell 2 _ rfl; obtain ⟨s3, -⟩ := Dkb.cell 3 _ rfl; obtain ⟨s4, -⟩ := Dkb.cell 4 _ rfl; obtain ⟨s5, -⟩ := Dkb.cell 5 _ rfl; obtain ⟨s6, -⟩ := Dkb.cell 6 _ rfl; obtain ⟨s7, -⟩ := Dkb.cell 7 _ rfl; obtain ⟨s8, -⟩ := Dkb.cell 8 _ rfl; clear Dkb)
          | (go_at_call 27; refine (KAP.out _ (HD.out.below Xk.out).rows.rd).mono ?_; rintro e w6 ⟨M2, rfl, hr, hb⟩; have R6 := Lib.hid (hr.less (show wr.heap.size ≤ _ from Xk.out.size)); have X6 := Lib.hid (bl_trans Xk.out hb); clear hr hb)
          | ((with_reducible refine at_st 27 (.tmp 5) (.tmp 34) rfl ?_); (refine wpList_store_blk 27 9 rfl (.tmp 5) (.tmp 34) rfl iB gR rfl [.slice M2.a1 c'.st.length M2.c1, .slice M2.a2 c'.bt.length M2.c2, .slice M2.a3 c'.pd.length M2.c3, .slice M2.a4 c'.fo.length M2.c4, .slice M2.a5 c'.ac.length M2.c5, .int .i64 c'.tu, .int .i64 c'.un, .int .i64 c'.ra, .int .i64 c'.li] rfl rfl (by simp [Value.oneCell']) _ (HD.out.below X6.out).blk rfl ?_); intro w7 k9 g9; have D7 : Hid (Dn w (w.heap.size + 1 + 1) gR (w.heap.size + 1) M2 (iterD b (k + 1)) w7) := by rw [HN.out]; exact Lib.hid (HD.out.put X6.out R6.out k9 g9 hw1.out (by have := G3.out; omega) (by have := G3.out; omega))))
        go_roundw
        case rel => exact ⟨k + 1, M2, by omega, by go_num, D7⟩
        case measure => simp [intOf]; omega
    · obtain rfl : k = n := by omega
      have KCH := Lib.hid (fun (W : World) (hW : Rd5 W M (iterD b k)) => implChoicesIn_any M (iterD b k) W hW)
      have e1 : chR (iterD b k) = chV false 0 0 0 := by unfold chR; rw [ok_yes kk, HEN.out]; rfl
      rw [e1, codeB_shut (ok_yes kk) HEN.out] at KCH
      clear kk e1
      generalize iterD b k = c at *
      obtain ⟨u0, -⟩ := D0b.cell 0 _ rfl; obtain ⟨u1, -⟩ := D0b.cell 1 _ rfl; obtain ⟨u2, -⟩ := D0b.cell 2 _ rfl; obtain ⟨u3, -⟩ := D0b.cell 3 _ rfl; obtain ⟨u4, -⟩ := D0b.cell 4 _ rfl; obtain ⟨u5, -⟩ := D0b.cell 5 _ rfl; obtain ⟨u6, -⟩ := D0b.cell 6 _ rfl; obtain ⟨u7, -⟩ := D0b.cell 7 _ rfl; obtain ⟨u8, -⟩ := D0b.cell 8 _ rfl
      clear D0b
      unfold bV chT chV at *
      go_wp2_with (first
        | (go_at_call 18; refine (KCH.out _ (HD.out.below X0.out).rows.rd).mono ?_; rintro e w4 ⟨rfl, hb⟩; have hx := bl_trans hb (bl_alloc (bl_refl w4) (.cells ([.bool false, .int .i64 0, .int .i64 0, .int .i64 0] : List Value).toArray 30)); have Xa := Lib.hid (bl_trans X0.out hx); have NAa := Lib.hid (NA0.out.below hx); have NCx := blk_new w4 30 [.bool false, .int .i64 0, .int .i64 0, .int .i64 0]; obtain ⟨r0, -⟩ := NCx.cell 0 _ rfl; obtain ⟨p0, -⟩ := NAa.out.cell 0 _ rfl; obtain ⟨p1, -⟩ := NAa.out.cell 1 _ rfl; have Dab := (HD.out.below Xa.out).blk; obtain ⟨v0, -⟩ := Dab.cell 0 _ rfl; obtain ⟨v1, -⟩ := Dab.cell 1 _ rfl; obtain ⟨v2, -⟩ := Dab.cell 2 _ rfl; obtain ⟨v3, -⟩ := Dab.cell 3 _ rfl; obtain ⟨v4, -⟩ := Dab.cell 4 _ rfl; obtain ⟨v5, -⟩ := Dab.cell 5 _ rfl; obtain ⟨v6, -⟩ := Dab.cell 6 _ rfl; obtain ⟨v7, -⟩ := Dab.cell 7 _ rfl; obtain ⟨v8, -⟩ := Dab.cell 8 _ rfl; clear hb hx NCx Dab)
        | ((with_reducible refine at_st 27 (.tmp 2) (.tmp 38) rfl ?_); (refine wpList_store_blk 27 9 rfl (.tmp 2) (.tmp 38) rfl iB (w.heap.size + 1) rfl [.slice M.a1 c.st.length M.c1, .slice M.a2 c.bt.length M.c2, .slice M.a3 c.pd.length M.c3, .slice M.a4 c.fo.length M.c4, .slice M.a5 c.ac.length M.c5, .int .i64 c.tu, .int .i64 c.un, .int .i64 c.ra, .int .i64 c.li] rfl rfl (by simp [Value.oneCell']) _ (HD.out.below Xa.out).res rfl ?_); intro w9 k9 g9; have B9 := Lib.hid (below_grown1 (HD.out.below Xa.out).all g9 (by omega)); have R9 := Lib.hid ((HD.out.below Xa.out).rows.grownB' g9 (by omega))))
      obtain ⟨z0, _⟩ := k9.cell 0 _ rfl
      obtain ⟨z1, _⟩ := k9.cell 1 _ rfl
      obtain ⟨z2, _⟩ := k9.cell 2 _ rfl
      obtain ⟨z3, _⟩ := k9.cell 3 _ rfl
      obtain ⟨z4, _⟩ := k9.cell 4 _ rfl
      obtain ⟨z5, _⟩ := k9.cell 5 _ rfl
      obtain ⟨z6, _⟩ := k9.cell 6 _ rfl
      obtain ⟨z7, _⟩ := k9.cell 7 _ rfl
      obtain ⟨z8, _⟩ := k9.cell 8 _ rfl
      rw [Exit.noGoto_ret]
      exact bodyPost_ret (v := .tuple #[.agg #[.slice M.a1 c.st.length M.c1, .slice M.a2 c.bt.length M.c2, .slice M.a3 c.pd.length M.c3, .slice M.a4 c.fo.length M.c4, .slice M.a5 c.ac.length M.c5, .int .i64 c.tu, .int .i64 c.un, .int .i64 c.ra, .int .i64 c.li], .int .i64 k, .int .i64 0]) (by simp [results, Try.results72, go_sem, z0, z1, z2, z3, z4, z5, z6, z7, z8]) rfl ⟨M, rfl, R9.out.less (by omega), B9.out⟩
set_option maxRecDepth 100000 in
set_option maxHeartbeats 3000000 in
theorem specCheckDown_any (L : At5) (b : Bt) (w : World) (h : Rd5 w L b) (z : Sz b) :
    Calls Try.prog 71 #[bV L b] w (NewBtNC (downR b) (downX b) (okC b) w) := by
  have KV := Lib.hid (fun (W : World) (hW : Rd5 W L b) => specIsBetting_any L b W hW z)
  have KOW := Lib.hid (fun (kk : Sm b) (W : World) (hW : Rd5 W L b) => l10OwnX_any L b W hW kk)
  have iB : (Try.prog.info? 27).map (·.size) = some 9 := by kernel_rfl
  have i1 : (Try.prog.info? 2).map (·.size) = some 1 := by kernel_rfl
  have iA : (Try.prog.info? 34).map (·.size) = some 2 := by kernel_rfl
  have b1 := bl_box (w := w) (L := L) (b := b)
  have b2 := bl_alloc (bl_refl (w.alloc (.cells (btL L b).toArray 27))) (.cells ([.slice none 0 0, .slice none 0 0, .slice none 0 0, .slice none 0 0, .slice none 0 0, .int .i64 0, .int .i64 0, .int .i64 0, .int .i64 0] : List Value).toArray 27)
  have BT := (btAt_new h).below b2
  have n1 := blk_new (w.alloc (.cells (btL L b).toArray 27)) 27 [.slice none 0 0, .slice none 0 0, .slice none 0 0, .slice none 0 0, .slice none 0 0, .int .i64 0, .int .i64 0, .int .i64 0, .int .i64 0]
  rw [World.size_alloc] at n1
  have B := Lib.hid (bl_trans b1 b2)
  have NR := Lib.hid n1
  have BH := Lib.hid BT
  obtain ⟨q0, -⟩ := BT.blk.cell 0 _ rfl
  obtain ⟨q1, -⟩ := BT.blk.cell 1 _ rfl
  obtain ⟨q2, -⟩ := BT.blk.cell 2 _ rfl
  obtain ⟨q3, -⟩ := BT.blk.cell 3 _ rfl
  obtain ⟨q4, -⟩ := BT.blk.cell 4 _ rfl
  obtain ⟨q5, -⟩ := BT.blk.cell 5 _ rfl
  obtain ⟨q6, -⟩ := BT.blk.cell 6 _ rfl
  obtain ⟨q7, -⟩ := BT.blk.cell 7 _ rfl
  obtain ⟨q8, -⟩ := BT.blk.cell 8 _ rfl
  clear h BT n1 b1 b2 z
  rcases hv : okB b with _ | _
  · have e1 : downR b = zB := by unfold downR; rw [hv]; rfl
    have e2 : downX b = 0 := by unfold downX; rw [hv]; rfl
    have e3 : okC b = 1 := by unfold okC; rw [hv]; rfl
    rw [hv] at KV
    rw [e1, e2, e3]
    clear e1 e2 e3 hv KOW
    unfold bV at *
    go_enter Try.func71, Try.ntmps71
    go_wp2_with (first
        | (go_at_call 23; refine (KV.out _ BH.out.rd).mono ?_; rintro e w1 ⟨rfl, hb⟩; have Ba := Lib.hid (bl_trans B.out hb); have NRa := Lib.hid (NR.out.below hb); clear hb)
        | ((with_reducible refine at_st 27 (.tmp 2) (.tmp 10) rfl ?_); (refine wpList_store_blk 27 9 rfl (.tmp 2) (.tmp 10) rfl iB (w.heap.size + 1) rfl [.slice none 0 0, .slice none 0 0, .slice none 0 0, .slice none 0 0, .slice none 0 0, .int .i64 0, .int .i64 0, .int .i64 0, .int .i64 0] rfl rfl (by simp [Value.oneCell']) _ NRa.out rfl ?_); intro w9 k9 g9; have B9 := Lib.hid (below_grown1 Ba.out g9 (by omega))))
    obtain ⟨z0, _⟩ := k9.cell 0 _ rfl
    obtain ⟨z1, _⟩ := k9.cell 1 _ rfl
    obtain ⟨z2, _⟩ := k9.cell 2 _ rfl
    obtain ⟨z3, _⟩ := k9.cell 3 _ rfl
    obtain ⟨z4, _⟩ := k9.cell 4 _ rfl
    obtain ⟨z5, _⟩ := k9.cell 5 _ rfl
    obtain ⟨z6, _⟩ := k9.cell 6 _ rfl
    obtain ⟨z7, _⟩ := k9.cell 7 _ rfl
    obtain ⟨z8, _⟩ := k9.cell 8 _ rfl
    exact bodyPost_ret (v := .tuple #[.agg #[.slice none 0 0, .slice none 0 0, .slice none 0 0, .slice none 0 0, .slice none 0 0, .int .i64 0, .int .i64 0, .int .i64 0, .int .i64 0], .int .i64 0, .int .i64 1]) (by simp [results, Try.results71, go_sem, z0, z1, z2, z3, z4, z5, z6, z7, z8]) rfl ⟨zL, rfl, row5_z _ _, B9.out⟩
  have kk := ok_of hv
  obtain ⟨hdn, hopen, hend, hokE, _⟩ := down_end kk
  have e1 : downR b = iterD b (downN b) := by unfold downR; rw [hv]; rfl
  have e2 : downX b = (downN b : Int) := by unfold downX; rw [hv]; rfl
  have e3 : okC b = 0 := by unfold okC; rw [hv]; rfl
  have HOK := Lib.hid (fun (k : Nat) (hk : k ≤ downN b) => (iter_ok kk k (fun j hj => hopen j (by omega))).1)
  have HOP := Lib.hid hopen
  have HEN := Lib.hid hend
  have KSM := Lib.hid kk.sm
  rw [hv] at KV
  rw [e1, e2, e3]
  clear e1 e2 e3 hv hopen hend hokE kk
  unfold downB at HEN
  generalize downN b = n at *
  unfold bV at *
  go_enter Try.func71, Try.ntmps71
  go_wp2_with (first
    | (go_at_call 23; refine (KV.out _ BH.out.rd).mono ?_; rintro e w1 ⟨rfl, hb⟩; have Ba := Lib.hid (bl_trans B.out hb); have NRa := Lib.hid (NR.out.below hb); have BHa := Lib.hid (BH.out.below hb); have BHb := BHa.out.blk; obtain ⟨u0, -⟩ := BHb.cell 0 _ rfl; obtain ⟨u1, -⟩ := BHb.cell 1 _ rfl; obtain ⟨u2, -⟩ := BHb.cell 2 _ rfl; obtain ⟨u3, -⟩ := BHb.cell 3 _ rfl; obtain ⟨u4, -⟩ := BHb.cell 4 _ rfl; obtain ⟨u5, -⟩ := BHb.cell 5 _ rfl; obtain ⟨u6, -⟩ := BHb.cell 6 _ rfl; obtain ⟨u7, -⟩ := BHb.cell 7 _ rfl; obtain ⟨u8, -⟩ := BHb.cell 8 _ rfl; clear hb BHb)
    | (go_at_call 122; refine (KOW.out KSM.out _ BHa.out.rd).mono ?_; rintro e w2 ⟨M, rfl, hr, hb⟩; have R2 := Lib.hid hr; have NRb := Lib.hid (NRa.out.below hb); have Bb := Lib.hid (bl_trans Ba.out hb); have Xb := Lib.hid hb; clear hr hb)
    | ((with_reducible refine at_st 27 (.tmp 1) (.tmp 12) rfl ?_); (refine wpList_store_blk 27 9 rfl (.tmp 1) (.tmp 12) rfl iB w.heap.size rfl [.slice M.a1 b.st.length M.c1, .slice M.a2 b.bt.length M.c2, .slice M.a3 b.pd.length M.c3, .slice M.a4 b.fo.length M.c4, .slice M.a5 b.ac.length M.c5, .int .i64 b.tu, .int .i64 b.un, .int .i64 b.ra, .int .i64 b.li] rfl rfl (by simp [Value.oneCell']) _ (BHa.out.below Xb.out).blk rfl ?_); intro w3 k9 g9; have D3 : Hid (Dn w (w.heap.size + 1 + 1) w.heap.size (w.heap.size + 1) M (iterD b 0) w3) := Lib.hid ⟨k9, (R2.out.grownB' g9 (by have := BHa.out.blk.lt; omega)).less (by have := NRa.out.lt; omega), NRb.out.grown g9 (fun e => by have := Option.some.inj e; omega), below_grown1 Bb.out g9 (Nat.le_refl _)⟩; clear k9 g9))
  clear q0 q1 q2 q3 q4 q5 q6 q7 q8 u0 u1 u2 u3 u4 u5 u6 u7 u8 KV KOW BH B NR Ba NRa BHa R2 NRb Bb Xb
  go_loopw [5] (fun cnt wr => ∃ (k : Nat) (M : At5), k ≤ n ∧ cnt = .int .i64 k ∧ Hid (Dn w (w.heap.size + 1 + 1) w.heap.size (w.heap.size + 1) M (iterD b k) wr)) (fun cnt _ => n + 1 - (intOf cnt).toNat)
  case atStart => exact ⟨0, M, Nat.zero_le _, rfl, D3⟩
  case round =>
    obtain ⟨k, M, hk, rfl, HD⟩ := hrel
    have kk := HOK.out k hk
    have hw1 : Hid (w.heap.size + 1 + 1 ≤ wr.heap.size) := Lib.hid HD.out.res.lt
    have D0b := HD.out.blk
    have KHH := Lib.hid (fun (W : World) (hW : Rd5 W M (iterD b k)) => l10HasT_any M (iterD b k) W hW kk)
    by_cases hlt : k < n
    · have ho := HOP.out k hlt
      have KCC := Lib.hid (fun (W : World) (hW : Rd5 W M (iterD b k)) => l10Choices_any M (iterD b k) W hW kk ho)
      have KAP := Lib.hid (fun (W : World) (hW : Rd5 W M (iterD b k)) => (show Calls Try.prog 101 #[bV M (iterD b k), .agg #[.int .i64 (downK (iterD b k)), .int .i64 0]] W (NewBx (stepD (iterD b k)) W) from (l10Apply_any M (iterD b k) (downK (iterD b k)) 0 W hW kk (down_leg kk ho)).mono fun e w' h => h))
      rw [ho] at KHH
      have HN : Hid (iterD b (k + 1) = stepD (iterD b k)) := Lib.hid rfl
      have HDK : Hid (downK (iterD b k) = if checkB (iterD b k) = true then 1 else 2) := Lib.hid rfl
      unfold NewBx bV at KAP
      clear kk ho
      generalize checkB (iterD b k) = ck at *
      generalize callI (iterD b k) = x1 at *
      generalize leastI (iterD b k) = x2 at *
      generalize mostI (iterD b k) = x3 at *
      generalize downK (iterD b k) = dk at *
      generalize stepD (iterD b k) = c' at *
      generalize iterD b k = c at *
      obtain ⟨u0, -⟩ := D0b.cell 0 _ rfl; obtain ⟨u1, -⟩ := D0b.cell 1 _ rfl; obtain ⟨u2, -⟩ := D0b.cell 2 _ rfl; obtain ⟨u3, -⟩ := D0b.cell 3 _ rfl; obtain ⟨u4, -⟩ := D0b.cell 4 _ rfl; obtain ⟨u5, -⟩ := D0b.cell 5 _ rfl; obtain ⟨u6, -⟩ := D0b.cell 6 _ rfl; obtain ⟨u7, -⟩ := D0b.cell 7 _ rfl; obtain ⟨u8, -⟩ := D0b.cell 8 _ rfl
      clear D0b
      have hfl := run_fieldCh ck x1 x2 x3
      rcases ck with _ | _
      · obtain rfl : dk = 2 := HDK.out
        unfold bV chV at *
        go_wp2_with (first
          | (go_at_call 117; refine (KHH.out _ HD.out.rows.rd).mono ?_; rintro e w4 ⟨rfl, hb⟩; have Xa := Lib.hid hb; have Dab := (HD.out.below Xa.out).blk; obtain ⟨v0, -⟩ := Dab.cell 0 _ rfl; obtain ⟨v1, -⟩ := Dab.cell 1 _ rfl; obtain ⟨v2, -⟩ := Dab.cell 2 _ rfl; obtain ⟨v3, -⟩ := Dab.cell 3 _ rfl; obtain ⟨v4, -⟩ := Dab.cell 4 _ rfl; obtain ⟨v5, -⟩ := Dab.cell 5 _ rfl; obtain ⟨v6, -⟩ := Dab.cell 6 _ rfl; obtain ⟨v7, -⟩ := Dab.cell 7 _ rfl; obtain ⟨v8, -⟩ := Dab.cell 8 _ rfl; clear hb Dab)
          | (go_at_call 81; refine (KCC.out _ (HD.out.below Xa.out).rows.rd).mono ?_; rintro e w5 ⟨rfl, hb⟩; have Xk := Lib.hid (bl_trans Xa.out hb); have Dkb := (HD.out.below Xk.out).blk; obtain ⟨s0, -⟩ := Dkb.cell 0 _ rfl; obtain ⟨s1, -⟩ := Dkb.cell 1 _ rfl; obtain ⟨s2, -⟩ := Dkb.cell 2 _ rfl; obtain ⟨s3, -⟩ := Dkb.cell 3 _ rfl; obtain ⟨s4, -⟩ := Dkb.cell 4 _ rfl; obtain ⟨s5, -⟩ := Dkb.cell 5 _ rfl; obtain ⟨s6, -⟩ := Dkb.cell 6 _ rfl; obtain ⟨s7, -⟩ := Dkb.cell 7 _ rfl; obtain ⟨s8, -⟩ := Dkb.cell 8 _ rfl; clear hb Dkb)
          | (go_at_call 101; refine (KAP.out _ (HD.out.below Xk.out).rows.rd).mono ?_; rintro e w6 ⟨M2, rfl, hr, hb⟩; have R6 := Lib.hid (hr.less (show wr.heap.size ≤ _ from Xk.out.size)); have X6 := Lib.hid (bl_trans Xk.out hb); clear hr hb)
          | ((with_reducible refine at_st 27 (.tmp 1) (.tmp 23) rfl ?_); (refine wpList_store_blk 27 9 rfl (.tmp 1) (.tmp 23) rfl iB w.heap.size rfl [.slice M2.a1 c'.st.length M2.c1, .slice M2.a2 c'.bt.length M2.c2, .slice M2.a3 c'.pd.length M2.c3, .slice M2.a4 c'.fo.length M2.c4, .slice M2.a5 c'.ac.length M2.c5, .int .i64 c'.tu, .int .i64 c'.un, .int .i64 c'.ra, .int .i64 c'.li] rfl rfl (by simp [Value.oneCell']) _ (HD.out.below X6.out).blk rfl ?_); intro w7 k9 g9; have D7 : Hid (Dn w (w.heap.size + 1 + 1) w.heap.size (w.heap.size + 1) M2 (iterD b (k + 1)) w7) := by rw [HN.out]; exact Lib.hid (HD.out.put X6.out R6.out k9 g9 hw1.out (Nat.le_refl _) (by omega))))
        go_roundw
        case rel => exact ⟨k + 1, M2, by omega, by go_num, D7⟩
        case measure => simp [intOf]; omega
      · obtain rfl : dk = 1 := HDK.out
        unfold bV chV at *
        go_wp2_with (first
          | (go_at_call 117; refine (KHH.out _ HD.out.rows.rd).mono ?_; rintro e w4 ⟨rfl, hb⟩; have Xa := Lib.hid hb; have Dab := (HD.out.below Xa.out).blk; obtain ⟨v0, -⟩ := Dab.cell 0 _ rfl; obtain ⟨v1, -⟩ := Dab.cell 1 _ rfl; obtain ⟨v2, -⟩ := Dab.cell 2 _ rfl; obtain ⟨v3, -⟩ := Dab.cell 3 _ rfl; obtain ⟨v4, -⟩ := Dab.cell 4 _ rfl; obtain ⟨v5, -⟩ := Dab.cell 5 _ rfl; obtain ⟨v6, -⟩ := Dab.cell 6 _ rfl; obtain ⟨v7, -⟩ := Dab.cell 7 _ rfl; obtain ⟨v8, -⟩ := Dab.cell 8 _ rfl; clear hb Dab)
          | (go_at_call 81; refine (KCC.out _ (HD.out.below Xa.out).rows.rd).mono ?_; rintro e w5 ⟨rfl, hb⟩; have Xk := Lib.hid (bl_trans Xa.out hb); have Dkb := (HD.out.below Xk.out).blk; obtain ⟨s0, -⟩ := Dkb.cell 0 _ rfl; obtain ⟨s1, -⟩ := Dkb.cell 1 _ rfl; obtain ⟨s2, -⟩ := Dkb.cell 2 _ rfl; obtain ⟨s3, -⟩ := Dkb.cell 3 _ rfl; obtain ⟨s4, -⟩ := Dkb.cell 4 _ rfl; obtain ⟨s5, -⟩ := Dkb.cell 5 _ rfl; obtain ⟨s6, -⟩ := Dkb.cell 6 _ rfl; obtain ⟨s7, -⟩ := Dkb.cell 7 _ rfl; obtain ⟨s8, -⟩ := Dkb.cell 8 _ rfl; clear hb Dkb)
          | (go_at_call 101; refine (KAP.out _ (HD.out.below Xk.out).rows.rd).mono ?_; rintro e w6 ⟨M2, rfl, hr, hb⟩; have R6 := Lib.hid (hr.less (show wr.heap.size ≤ _ from Xk.out.size)); have X6 := Lib.hid (bl_trans Xk.out hb); clear hr hb)
          | ((with_reducible refine at_st 27 (.tmp 1) (.tmp 23) rfl ?_); (refine wpList_store_blk 27 9 rfl (.tmp 1) (.tmp 23) rfl iB w.heap.size rfl [.slice M2.a1 c'.st.length M2.c1, .slice M2.a2 c'.bt.length M2.c2, .slice M2.a3 c'.pd.length M2.c3, .slice M2.a4 c'.fo.length M2.c4, .slice M2.a5 c'.ac.length M2.c5, .int .i64 c'.tu, .int .i64 c'.un, .int .i64 c'.ra, .int .i64 c'.li] rfl rfl (by simp [Value.oneCell']) _ (HD.out.below X6.out).blk rfl ?_); intro w7 k9 g9; have D7 : Hid (Dn w (w.heap.size + 1 + 1) w.heap.size (w.heap.size + 1) M2 (iterD b (k + 1)) w7) := by rw [HN.out]; exact Lib.hid (HD.out.put X6.out R6.out k9 g9 hw1.out (Nat.le_refl _) (by omega))))
        go_roundw
        case rel => exact ⟨k + 1, M2, by omega, by go_num, D7⟩
        case measure => simp [intOf]; omega
    · obtain rfl : k = n := by omega
      rw [HEN.out] at KHH
      clear kk
      generalize iterD b k = c at *
      obtain ⟨u0, -⟩ := D0b.cell 0 _ rfl; obtain ⟨u1, -⟩ := D0b.cell 1 _ rfl; obtain ⟨u2, -⟩ := D0b.cell 2 _ rfl; obtain ⟨u3, -⟩ := D0b.cell 3 _ rfl; obtain ⟨u4, -⟩ := D0b.cell 4 _ rfl; obtain ⟨u5, -⟩ := D0b.cell 5 _ rfl; obtain ⟨u6, -⟩ := D0b.cell 6 _ rfl; obtain ⟨u7, -⟩ := D0b.cell 7 _ rfl; obtain ⟨u8, -⟩ := D0b.cell 8 _ rfl
      clear D0b
      unfold bV at *
      go_wp2_with (first
        | (go_at_call 117; refine (KHH.out _ HD.out.rows.rd).mono ?_; rintro e w4 ⟨rfl, hb⟩; have Xa := Lib.hid hb; have Dab := (HD.out.below Xa.out).blk; obtain ⟨v0, -⟩ := Dab.cell 0 _ rfl; obtain ⟨v1, -⟩ := Dab.cell 1 _ rfl; obtain ⟨v2, -⟩ := Dab.cell 2 _ rfl; obtain ⟨v3, -⟩ := Dab.cell 3 _ rfl; obtain ⟨v4, -⟩ := Dab.cell 4 _ rfl; obtain ⟨v5, -⟩ := Dab.cell 5 _ rfl; obtain ⟨v6, -⟩ := Dab.cell 6 _ rfl; obtain ⟨v7, -⟩ := Dab.cell 7 _ rfl; obtain ⟨v8, -⟩ := Dab.cell 8 _ rfl; clear hb Dab)
        | ((with_reducible refine at_st 27 (.tmp 2) (.tmp 26) rfl ?_); (refine wpList_store_blk 27 9 rfl (.tmp 2) (.tmp 26) rfl iB (w.heap.size + 1) rfl [.slice M.a1 c.st.length M.c1, .slice M.a2 c.bt.length M.c2, .slice M.a3 c.pd.length M.c3, .slice M.a4 c.fo.length M.c4, .slice M.a5 c.ac.length M.c5, .int .i64 c.tu, .int .i64 c.un, .int .i64 c.ra, .int .i64 c.li] rfl rfl (by simp [Value.oneCell']) _ (HD.out.below Xa.out).res rfl ?_); intro w9 k9 g9; have B9 := Lib.hid (below_grown1 (HD.out.below Xa.out).all g9 (by omega)); have R9 := Lib.hid ((HD.out.below Xa.out).rows.grownB' g9 (by omega))))
      obtain ⟨z0, _⟩ := k9.cell 0 _ rfl
      obtain ⟨z1, _⟩ := k9.cell 1 _ rfl
      obtain ⟨z2, _⟩ := k9.cell 2 _ rfl
      obtain ⟨z3, _⟩ := k9.cell 3 _ rfl
      obtain ⟨z4, _⟩ := k9.cell 4 _ rfl
      obtain ⟨z5, _⟩ := k9.cell 5 _ rfl
      obtain ⟨z6, _⟩ := k9.cell 6 _ rfl
      obtain ⟨z7, _⟩ := k9.cell 7 _ rfl
      obtain ⟨z8, _⟩ := k9.cell 8 _ rfl
      exact bodyPost_ret (v := .tuple #[.agg #[.slice M.a1 c.st.length M.c1, .slice M.a2 c.bt.length M.c2, .slice M.a3 c.pd.length M.c3, .slice M.a4 c.fo.length M.c4, .slice M.a5 c.ac.length M.c5, .int .i64 c.tu, .int .i64 c.un, .int .i64 c.ra, .int .i64 c.li], .int .i64 k, .int .i64 0]) (by simp [results, Try.results71, go_sem, z0, z1, z2, z3, z4, z5, z6, z7, z8]) rfl ⟨M, rfl, R9.out.less (by omega), B9.out⟩
end Go.Proofs.Ythgfohdjpfhebaa
