/-
  The program: ChoicesIn, LiveSeats.
-/
import Derived.Test.YthgfohdjpfhebaaBetE
namespace Go.Proofs.Ythgfohdjpfhebaa
open Go.RowKit
set_option linter.unusedVariables false

noncomputable def chR (b : Bt) : Value := if okB b = true then (if openB b = true then chV (checkB b) (callI b) (leastI b) (mostI b) else chV false 0 0 0) else chV false 0 0 0
theorem chR_form (b : Bt) : ∃ c k l m, chR b = chV c k l m := by
  unfold chR
  split
  · split
    · exact ⟨_, _, _, _, rfl⟩
    · exact ⟨_, _, _, _, rfl⟩
  · exact ⟨_, _, _, _, rfl⟩
def chT (v : Value) (k : Int) : Value := .tuple #[v, .int .i64 k]
set_option maxRecDepth 100000 in
set_option maxHeartbeats 4000000 in
theorem implChoicesIn_any (L : At5) (b : Bt) (w : World) (h : Rd5 w L b) :
    Calls Try.prog 18 #[bV L b] w (Fresh (chT (chR b) (codeB b)) w) := by
  have BT0 := btAt_new h
  have B0 := bl_box (w := w) (L := L) (b := b)
  have BT := BT0.below (bl_alloc (bl_refl _) (.cells ([.bool false, .int .i64 0, .int .i64 0, .int .i64 0] : List Value).toArray 30))
  have B := Lib.hid (bl_alloc B0 (.cells ([.bool false, .int .i64 0, .int .i64 0, .int .i64 0] : List Value).toArray 30))
  have N0 := blk_new (w.alloc (.cells (btL L b).toArray 27)) 30 [.bool false, .int .i64 0, .int .i64 0, .int .i64 0]
  rw [World.size_alloc] at N0
  have NH := Lib.hid N0
  have KV := Lib.hid (fun (W : World) (hb : Below w.heap.size w W) => implIsBetting_any L b W (h.below hb))
  have BH := Lib.hid BT
  have KH := Lib.hid (fun (k : Ok b) (i : Nat) (hi : b.tu = i) (W : World) (hb : BtAt W w.heap.size L b) => fresh_of_qt (hasToAct_any w.heap.size L b i W hb k.sd (by have := k.t1; omega)))
  have KC := Lib.hid (fun (k : Ok b) (W : World) (hb : BtAt W w.heap.size L b) => choices_any w.heap.size L b W hb k)
  have HOP : Hid (openB b = mustB b b.tu.toNat) := Lib.hid rfl
  have iC : (Try.prog.info? 30).map (·.size) = some 4 := by kernel_rfl
  obtain ⟨q0, _⟩ := BT.blk.cell 0 _ rfl
  obtain ⟨q1, _⟩ := BT.blk.cell 1 _ rfl
  obtain ⟨q2, _⟩ := BT.blk.cell 2 _ rfl
  obtain ⟨q3, _⟩ := BT.blk.cell 3 _ rfl
  obtain ⟨q4, _⟩ := BT.blk.cell 4 _ rfl
  obtain ⟨q5, _⟩ := BT.blk.cell 5 _ rfl
  obtain ⟨q6, _⟩ := BT.blk.cell 6 _ rfl
  obtain ⟨q7, _⟩ := BT.blk.cell 7 _ rfl
  obtain ⟨q8, _⟩ := BT.blk.cell 8 _ rfl
  clear h BT BT0 B0 N0
  rcases hv : okB b with _ | _
  · have e1 : chR b = chV false 0 0 0 := by unfold chR; rw [hv]; rfl
    have e2 : codeB b = 1 := codeB_no hv
    rw [hv] at KV
    rw [e1, e2]
    clear KH KC hv e1 e2 HOP
    unfold bV at *
    go_enter Try.func18, Try.ntmps18
    go_wp2_with (first
        | (go_at_call 22; refine (KV.out _ B.out).mono ?_; rintro e w1 ⟨rfl, hb⟩; have BHa := Lib.hid (BH.out.below hb); have NHa := Lib.hid (NH.out.below hb); have Ba := Lib.hid (bl_trans B.out hb); clear BH NH B hb)
        | (refine wpList_store_blk 30 4 rfl (.tmp 2) (.tmp 7) rfl iC (w.heap.size + 1) rfl [.bool false, .int .i64 0, .int .i64 0, .int .i64 0] rfl rfl (by simp [Value.oneCell']) _ NHa.out rfl ?_; intro w9 k9 g9; have B9 := Lib.hid (below_grown1 Ba.out g9 (by omega))))
    obtain ⟨z0, _⟩ := k9.cell 0 _ rfl
    obtain ⟨z1, _⟩ := k9.cell 1 _ rfl
    obtain ⟨z2, _⟩ := k9.cell 2 _ rfl
    obtain ⟨z3, _⟩ := k9.cell 3 _ rfl
    exact bodyPost_ret (v := .tuple #[.agg #[.bool false, .int .i64 0, .int .i64 0, .int .i64 0], .int .i64 1]) (by simp [results, Try.results18, go_sem, z0, z1, z2, z3]) rfl ⟨rfl, B9.out⟩
  have k := ok_of hv
  obtain ⟨i, hi⟩ := Int.eq_ofNat_of_zero_le k.t0
  have KK := Lib.hid (KH.out k i hi)
  have KD := Lib.hid (KC.out k)
  have HM : Hid (openB b = mustB b i) := Lib.hid (by rw [HOP.out, hi]; rfl)
  rw [hv] at KV
  have HI := Lib.hid hi
  have e1 : chR b = if openB b = true then chV (checkB b) (callI b) (leastI b) (mostI b) else chV false 0 0 0 := by unfold chR; rw [hv]; rfl
  have e2 : codeB b = if openB b = true then 0 else 5 := by unfold codeB; rw [hv]; rfl
  rw [e1, e2, HM.out]
  clear KH KC HOP k hv HM e1 e2 hi
  unfold bV at *
  generalize checkB b = x1 at *
  generalize callI b = x2 at *
  generalize leastI b = x3 at *
  generalize mostI b = x4 at *
  rcases hm : mustB b i with _ | _
  · rw [hm] at KK
    clear hm KD
    go_enter Try.func18, Try.ntmps18
    go_wp2_with (first
        | (go_at_call 22; refine (KV.out _ B.out).mono ?_; rintro e w1 ⟨rfl, hb⟩; have BHa := Lib.hid (BH.out.below hb); have NHa := Lib.hid (NH.out.below hb); have Ba := Lib.hid (bl_trans B.out hb); obtain ⟨q5a, _⟩ := BHa.out.blk.cell 5 _ rfl; rw [HI.out] at q5a; clear BH NH B hb)
        | (go_at_call 78; refine (KK.out _ BHa.out).mono ?_; rintro e w2 ⟨rfl, hb⟩; have BHb := Lib.hid (BHa.out.below hb); have NHb := Lib.hid (NHa.out.below hb); have Bb := Lib.hid (bl_trans Ba.out hb); clear BHa NHa Ba hb)
        | (refine wpList_store_blk 30 4 rfl (.tmp 2) (.tmp 12) rfl iC (w.heap.size + 1) rfl [.bool false, .int .i64 0, .int .i64 0, .int .i64 0] rfl rfl (by simp [Value.oneCell']) _ NHb.out rfl ?_; intro w9 k9 g9; have B9 := Lib.hid (below_grown1 Bb.out g9 (by omega))))
    obtain ⟨z0, _⟩ := k9.cell 0 _ rfl
    obtain ⟨z1, _⟩ := k9.cell 1 _ rfl
    obtain ⟨z2, _⟩ := k9.cell 2 _ rfl
    obtain ⟨z3, _⟩ := k9.cell 3 _ rfl
    exact bodyPost_ret (v := .tuple #[.agg #[.bool false, .int .i64 0, .int .i64 0, .int .i64 0], .int .i64 5]) (by simp [results, Try.results18, go_sem, z0, z1, z2, z3]) rfl ⟨rfl, B9.out⟩
  · rw [hm] at KK
    clear hm
    unfold chV at KD
    go_enter Try.func18, Try.ntmps18
    go_wp2_with (first
        | (go_at_call 22; refine (KV.out _ B.out).mono ?_; rintro e w1 ⟨rfl, hb⟩; have BHa := Lib.hid (BH.out.below hb); have NHa := Lib.hid (NH.out.below hb); have Ba := Lib.hid (bl_trans B.out hb); obtain ⟨q5a, _⟩ := BHa.out.blk.cell 5 _ rfl; rw [HI.out] at q5a; clear BH NH B hb)
        | (go_at_call 78; refine (KK.out _ BHa.out).mono ?_; rintro e w2 ⟨rfl, hb⟩; have BHb := Lib.hid (BHa.out.below hb); have NHb := Lib.hid (NHa.out.below hb); have Bb := Lib.hid (bl_trans Ba.out hb); clear BHa NHa Ba hb)
        | (go_at_call 79; refine (KD.out _ BHb.out).mono ?_; rintro e w3 ⟨rfl, hb⟩; have NHc := Lib.hid (NHb.out.below hb); have Bc := Lib.hid (bl_trans Bb.out hb); clear BHb NHb Bb hb)
        | (refine wpList_store_blk 30 4 rfl (.tmp 2) (.tmp 13) rfl iC (w.heap.size + 1) rfl [.bool x1, .int .i64 x2, .int .i64 x3, .int .i64 x4] rfl rfl (by simp [Value.oneCell']) _ NHc.out rfl ?_; intro w9 k9 g9; have B9 := Lib.hid (below_grown1 Bc.out g9 (by omega))))
    obtain ⟨z0, _⟩ := k9.cell 0 _ rfl
    obtain ⟨z1, _⟩ := k9.cell 1 _ rfl
    obtain ⟨z2, _⟩ := k9.cell 2 _ rfl
    obtain ⟨z3, _⟩ := k9.cell 3 _ rfl
    exact bodyPost_ret (v := .tuple #[.agg #[.bool x1, .int .i64 x2, .int .i64 x3, .int .i64 x4], .int .i64 0]) (by simp [results, Try.results18, go_sem, z0, z1, z2, z3]) rfl ⟨rfl, B9.out⟩
set_option maxRecDepth 100000 in
set_option maxHeartbeats 2000000 in
theorem liveSeats_any (g : Nat) (L : At5) (b : Bt) (w : World) (h : BtAt w g L b) (k : Ok b) :
    Calls Try.prog 105 #[.pointer (some ⟨g, 0, none⟩)] w (NewL (liveL b b.st.length) w) := by
  obtain ⟨i0, hi, hz0, hz1, hz2⟩ := info_parts infoInt
  have HB := Lib.hid h
  have KS := Lib.hid (seatCountB_any g L b w h)
  have n6 := k.n6
  have l4 := k.l4
  clear h k
  obtain ⟨w0, rfl⟩ : ∃ w0 : World, w0 = w := ⟨w, rfl⟩
  go_enter Try.func105, Try.ntmps105
  go_wp2_with (go_at_call 100; refine KS.out.mono ?_; rintro e wn ⟨rfl, rfl⟩)
  go_loopw [3, 7] (fun v i wr => ∃ k : Nat, k ≤ b.st.length ∧ i = .int .i64 k ∧ Hid (Grow w0 (liveL b k) v wr)) (fun _ i _ => b.st.length - (intOf i).toNat)
  case atStart => exact ⟨0, Nat.zero_le _, rfl, Lib.hid ⟨Own.nil _ _, bl_refl _⟩⟩
  case round =>
    obtain ⟨k, hk, rfl, HS⟩ := hrel
    by_cases hlt : k < b.st.length
    · have hlt' : (k : Int) < b.st.length := by omega
      have hlt4 : (k : Int) < b.fo.length := by omega
      have BW := HB.out.below HS.out.2
      obtain ⟨q3, _⟩ := BW.blk.cell 3 _ rfl
      obtain ⟨b4, o4, e4, hc4⟩ := BW.rd.r4.at_0 k (by omega)
      rw [e4] at q3
      clear BW e4
      have hl : (liveL b k).length ≤ 6 := Nat.le_trans (liveL_len b k) (by omega)
      have HT : Hid (liveL b (k + 1) = if nthB b.fo k = true then liveL b k else liveL b k ++ [(k : Int)]) := Lib.hid rfl
      generalize nthB b.fo k = x at *
      generalize liveL b k = rr at *
      rcases x with _ | _
      · rw [if_neg (by simp)] at HT
        go_wp2_with (at_builtin; refine wpList_append_own _ rfl _ _ 24 rfl w0.heap.size 2 i0 (.int .i64 0) 1 8 Try.underlying24 hi hz0 hz1 hz2 rfl (by decide) _ _ _ rfl (HS.out.1.alloc _) ⟨wr.heap.size, 0, none⟩ 1 1 [.int .i64 k] rfl rfl ?c1 ?c2 ?c3 ?c4 ?c5 ?_)
        case c1 =>
          intro j u hj
          match j, hj with
          | 0, hj => simp at hj; subst hj; simp [Addr.add]
        case c2 => intro u hu; simp at hu; subst hu; rfl
        case c3 => unfold maxLen; omega
        case c4 => omega
        case c5 => have := HS.out.2.size; simp; omega
        intro v' w1 hown' hgrow _
        have HG := Lib.hid (grow_app HS.out hown' hgrow)
        clear hown' hgrow
        go_wp2_with fail
        go_roundw
        case rel => exact ⟨k + 1, by omega, by go_num, by rw [HT.out]; exact HG⟩
        case measure => simp [intOf]; omega
      · rw [if_pos rfl] at HT
        go_wp2_with fail
        go_roundw
        case rel => exact ⟨k + 1, by omega, by go_num, by rw [HT.out]; exact HS⟩
        case measure => simp [intOf]; omega
    · obtain rfl : k = b.st.length := by omega
      obtain ⟨A', c', rfl, hO⟩ := own_form HS.out.1
      have HO := Lib.hid hO
      clear hO
      go_wp2_with fail
      go_ret
      exact ⟨A', c', rfl, HO.out, HS.out.2⟩
noncomputable def liveR (b : Bt) : List Int := if okB b = true then liveL b b.st.length else []
theorem liveR_len (b : Bt) : (liveR b).length ≤ 6 := by
  unfold liveR
  split
  · next h => exact Nat.le_trans (liveL_len b _) (ok_of h).n6
  · simp
set_option maxRecDepth 100000 in
set_option maxHeartbeats 2000000 in
theorem implLiveSeats_any (L : At5) (b : Bt) (w : World) (h : Rd5 w L b) :
    Calls Try.prog 35 #[bV L b] w (NewRC (liveR b) (okC b) w) := by
  have BT := btAt_new h
  have B := Lib.hid (bl_box (w := w) (L := L) (b := b))
  have KV := Lib.hid (fun (W : World) (hb : Below w.heap.size w W) => implIsBetting_any L b W (h.below hb))
  have KH := Lib.hid (fun (k : Ok b) (W : World) (hb : Below (w.alloc (.cells (btL L b).toArray 27)).heap.size (w.alloc (.cells (btL L b).toArray 27)) W) => liveSeats_any w.heap.size L b W (BT.below hb) k)
  obtain ⟨q0, _⟩ := BT.blk.cell 0 _ rfl
  obtain ⟨q1, _⟩ := BT.blk.cell 1 _ rfl
  obtain ⟨q2, _⟩ := BT.blk.cell 2 _ rfl
  obtain ⟨q3, _⟩ := BT.blk.cell 3 _ rfl
  obtain ⟨q4, _⟩ := BT.blk.cell 4 _ rfl
  obtain ⟨q5, _⟩ := BT.blk.cell 5 _ rfl
  obtain ⟨q6, _⟩ := BT.blk.cell 6 _ rfl
  obtain ⟨q7, _⟩ := BT.blk.cell 7 _ rfl
  obtain ⟨q8, _⟩ := BT.blk.cell 8 _ rfl
  clear h BT
  rcases hv : okB b with _ | _
  · have e1 : liveR b = [] := by unfold liveR; rw [hv]; rfl
    have e2 : okC b = 1 := by unfold okC; rw [hv]; rfl
    rw [hv] at KV
    rw [e1, e2]
    clear KH hv e1 e2
    unfold bV at *
    go_enter Try.func35, Try.ntmps35
    go_wp2_with (first
        | (go_at_call 22; refine (KV.out _ B.out).mono ?_; rintro e wn ⟨rfl, hb⟩; have Ba := Lib.hid (bl_trans B.out hb)))
    go_ret2
    exact ⟨none, 0, rfl, Row.nil _ _, Ba.out⟩
  · have e1 : liveR b = liveL b b.st.length := by unfold liveR; rw [hv]; rfl
    have e2 : okC b = 0 := by unfold okC; rw [hv]; rfl
    have KK := Lib.hid (KH.out (ok_of hv))
    rw [hv] at KV
    rw [e1, e2]
    clear KH hv e1 e2
    unfold bV at *
    generalize liveL b b.st.length = r at *
    go_enter Try.func35, Try.ntmps35
    go_wp2_with (first
        | (go_at_call 22; refine (KV.out _ B.out).mono ?_; rintro e wn ⟨rfl, hb⟩; have HB := Lib.hid hb; have Ba := Lib.hid (bl_trans B.out hb))
        | (go_at_call 105; refine (KK.out _ HB.out).mono ?_; rintro e wm ⟨A, c, rfl, ho, hb2⟩; have HO := Lib.hid (Row.of_own (ho.less Ba.out.size)); have Bb := Lib.hid (bl_trans Ba.out hb2)))
    go_ret2
    exact ⟨A, c, rfl, HO.out, Bb.out⟩
end Go.Proofs.Ythgfohdjpfhebaa
