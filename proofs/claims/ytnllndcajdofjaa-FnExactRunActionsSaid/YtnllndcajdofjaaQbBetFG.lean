/-
  Put together, what this law needs of: BetF, SpecBet.
-/
import Derived.Test.YtnllndcajdofjaaQbBetEG
namespace Go.Proofs.Ytnllndcajdofjaa
open Go.RowKit
set_option linter.unusedVariables false

noncomputable def chR (b : Bt) : Value := if okB b = true then (if openB b = true then chV (checkB b) (callI b) (leastI b) (mostI b) else chV false 0 0 0) else chV false 0 0 0
theorem chR_form (b : Bt) : ∃ c k l m, chR b = chV c k l m := by
  unfold chR
  split
  · split
    · exact ⟨_, _, _, _, rfl⟩
    · exact ⟨_, _, _, _, rfl⟩
  · exact ⟨_, _, _, _, rfl⟩
def chT (v : Value) (k : Int) : Value := .tuple #[v, .int .i64 k]
set_option maxRecDepth 100000 in
set_option maxHeartbeats 4000000 in
theorem implChoicesIn_any (L : At5) (b : Bt) (w : World) (h : Rd5 w L b) :
    Calls Try.prog 13 #[bV L b] w (Fresh (chT (chR b) (codeB b)) w) := by
  have BT0 := btAt_new h
  have B0 := bl_box (w := w) (L := L) (b := b)
  have BT := BT0.below (bl_alloc (bl_refl _) (.cells ([.bool false, .int .i64 0, .int .i64 0, .int .i64 0] : List Value).toArray 30))
  have B := Lib.hid (bl_alloc B0 (.cells ([.bool false, .int .i64 0, .int .i64 0, .int .i64 0] : List Value).toArray 30))
  have N0 := blk_new (w.alloc (.cells (btL L b).toArray 27)) 30 [.bool false, .int .i64 0, .int .i64 0, .int .i64 0]
  rw [World.size_alloc] at N0
  have NH := Lib.hid N0
  have KV := Lib.hid (fun (W : World) (hb : Below w.heap.size w W) => implIsBetting_any L b W (h.below hb))
  have BH := Lib.hid BT
  have KH := Lib.hid (fun (k : Ok b) (i : Nat) (hi : b.tu = i) (W : World) (hb : BtAt W w.heap.size L b) => fresh_of_qt (hasToAct_any w.heap.size L b i W hb k.sd (by have := k.t1; omega)))
  have KC := Lib.hid (fun (k : Ok b) (W : World) (hb : BtAt W w.heap.size L b) => choices_any w.heap.size L b W hb k)
  have HOP : Hid (openB b = mustB b b.tu.toNat) := Lib.hid rfl
  have iC : (Try.prog.info? 30).map (·.size) = some 4 := by kernel_rfl
  obtain ⟨q0, _⟩ := BT.blk.cell 0 _ rfl
  obtain ⟨q1, _⟩ := BT.blk.cell 1 _ rfl
  obtain ⟨q2, _⟩ := BT.blk.cell 2 _ rfl
  obtain ⟨q3, _⟩ := BT.blk.cell 3 _ rfl
  obtain ⟨q4, _⟩ := BT.blk.cell 4 _ rfl
  obtain ⟨q5, _⟩ := BT.blk.cell 5 _ rfl
  obtain ⟨q6, _⟩ := BT.blk.cell 6 _ rfl
  obtain ⟨q7, _⟩ := BT.blk.cell 7 _ rfl
  obtain ⟨q8, _⟩ := BT.blk.cell 8 _ rfl
  clear h BT BT0 B0 N0
  rcases hv : okB b with _ | _
  · have e1 : chR b = chV false 0 0 0 := by unfold chR; rw [hv]; rfl
    have e2 : codeB b = 1 := codeB_no hv
    rw [hv] at KV
    rw [e1, e2]
    clear KH KC hv e1 e2 HOP
    unfold bV at *
    go_enter Try.func13, Try.ntmps13
    go_wp2_with (first
        | (go_at_call 17; refine (KV.out _ B.out).mono ?_; rintro e w1 ⟨rfl, hb⟩; have BHa := Lib.hid (BH.out.below hb); have NHa := Lib.hid (NH.out.below hb); have Ba := Lib.hid (bl_trans B.out hb); clear BH NH B hb)
        | (refine wpList_store_blk 30 4 rfl (.tmp 2) (.tmp 7) rfl iC (w.heap.size + 1) rfl [.bool false, .int .i64 0, .int .i64 0, .int .i64 0] rfl rfl (by simp [Value.oneCell']) _ NHa.out rfl ?_; intro w9 k9 g9; have B9 := Lib.hid (below_grown1 Ba.out g9 (by omega))))
    obtain ⟨z0, _⟩ := k9.cell 0 _ rfl
    obtain ⟨z1, _⟩ := k9.cell 1 _ rfl
    obtain ⟨z2, _⟩ := k9.cell 2 _ rfl
    obtain ⟨z3, _⟩ := k9.cell 3 _ rfl
    exact bodyPost_ret (v := .tuple #[.agg #[.bool false, .int .i64 0, .int .i64 0, .int .i64 0], .int .i64 1]) (by simp [results, Try.results13, go_sem, z0, z1, z2, z3]) rfl ⟨rfl, B9.out⟩
  have k := ok_of hv
  obtain ⟨i, hi⟩ := Int.eq_ofNat_of_zero_le k.t0
  have KK := Lib.hid (KH.out k i hi)
  have KD := Lib.hid (KC.out k)
  have HM : Hid (openB b = mustB b i) := Lib.hid (by rw [HOP.out, hi]; rfl)
  rw [hv] at KV
  have HI := Lib.hid hi
  have e1 : chR b = if openB b = true then chV (checkB b) (callI b) (leastI b) (mostI b) else chV false 0 0 0 := by unfold chR; rw [hv]; rfl
  have e2 : codeB b = if openB b = true then 0 else 5 := by unfold codeB; rw [hv]; rfl
  rw [e1, e2, HM.out]
  clear KH KC HOP k hv HM e1 e2 hi
  unfold bV at *
  generalize checkB b = x1 at *
  generalize callI b = x2 at *
  generalize leastI b = x3 at *
  generalize mostI b = x4 at *
  rcases hm : mustB b i with _ | _
  · rw [hm] at KK
    clear hm KD
    go_enter Try.func13, Try.ntmps13
    go_wp2_with (first
        | (go_at_call 17; refine (KV.out _ B.out).mono ?_; rintro e w1 ⟨rfl, hb⟩; have BHa := Lib.hid (BH.out.below hb); have NHa := Lib.hid (NH.out.below hb); have Ba := Lib.hid (bl_trans B.out hb); obtain ⟨q5a, _⟩ := BHa.out.blk.cell 5 _ rfl; rw [HI.out] at q5a; clear BH NH B hb)
        | (go_at_call 67; refine (KK.out _ BHa.out).mono ?_; rintro e w2 ⟨rfl, hb⟩; have BHb := Lib.hid (BHa.out.below hb); have NHb := Lib.hid (NHa.out.below hb); have Bb := Lib.hid (bl_trans Ba.out hb); clear BHa NHa Ba hb)
        | (refine wpList_store_blk 30 4 rfl (.tmp 2) (.tmp 12) rfl iC (w.heap.size + 1) rfl [.bool false, .int .i64 0, .int .i64 0, .int .i64 0] rfl rfl (by simp [Value.oneCell']) _ NHb.out rfl ?_; intro w9 k9 g9; have B9 := Lib.hid (below_grown1 Bb.out g9 (by omega))))
    obtain ⟨z0, _⟩ := k9.cell 0 _ rfl
    obtain ⟨z1, _⟩ := k9.cell 1 _ rfl
    obtain ⟨z2, _⟩ := k9.cell 2 _ rfl
    obtain ⟨z3, _⟩ := k9.cell 3 _ rfl
    exact bodyPost_ret (v := .tuple #[.agg #[.bool false, .int .i64 0, .int .i64 0, .int .i64 0], .int .i64 5]) (by simp [results, Try.results13, go_sem, z0, z1, z2, z3]) rfl ⟨rfl, B9.out⟩
  · rw [hm] at KK
    clear hm
    unfold chV at KD
    go_enter Try.func13, Try.ntmps13
    go_wp2_with (first
        | (go_at_call 17; refine (KV.out _ B.out).mono ?_; rintro e w1 ⟨rfl, hb⟩; have BHa := Lib.hid (BH.out.below hb); have NHa := Lib.hid (NH.out.below hb); have Ba := Lib.hid (bl_trans B.out hb); obtain ⟨q5a, _⟩ := BHa.out.blk.cell 5 _ rfl; rw [HI.out] at q5a; clear BH NH B hb)
        | (go_at_call 67; refine (KK.out _ BHa.out).mono ?_; rintro e w2 ⟨rfl, hb⟩; have BHb := Lib.hid (BHa.out.below hb); have NHb := Lib.hid (NHa.out.below hb); have Bb := Lib.hid (bl_trans Ba.out hb); clear BHa NHa Ba hb)
        | (go_at_call 68; refine (KD.out _ BHb.out).mono ?_; rintro e w3 ⟨rfl, hb⟩; have NHc := Lib.hid (NHb.out.below hb); have Bc := Lib.hid (bl_trans Bb.out hb); clear BHb NHb Bb hb)
        | (refine wpList_store_blk 30 4 rfl (.tmp 2) (.tmp 13) rfl iC (w.heap.size + 1) rfl [.bool x1, .int .i64 x2, .int .i64 x3, .int .i64 x4] rfl rfl (by simp [Value.oneCell']) _ NHc.out rfl ?_; intro w9 k9 g9; have B9 := Lib.hid (below_grown1 Bc.out g9 (by omega))))
    obtain ⟨z0, _⟩ := k9.cell 0 _ rfl
    obtain ⟨z1, _⟩ := k9.cell 1 _ rfl
    obtain ⟨z2, _⟩ := k9.cell 2 _ rfl
    obtain ⟨z3, _⟩ := k9.cell 3 _ rfl
    exact bodyPost_ret (v := .tuple #[.agg #[.bool x1, .int .i64 x2, .int .i64 x3, .int .i64 x4], .int .i64 0]) (by simp [results, Try.results13, go_sem, z0, z1, z2, z3]) rfl ⟨rfl, B9.out⟩
end Go.Proofs.Ytnllndcajdofjaa

namespace Go.Proofs.Ytnllndcajdofjaa
open Go.RowKit
set_option linter.unusedVariables false

set_option maxRecDepth 100000 in
set_option maxHeartbeats 1000000 in
theorem l01SumC_any (A : Option Addr) (c : Nat) (xs : List Int) (w : World) (hr : Rd w A xs) (hn : xs.length ≤ 4000000) (hb : inC xs) :
    Calls Try.prog 82 #[.slice A xs.length c] w (Same (.int .i64 (sumT xs xs.length)) w) := by
  have HR := Lib.hid hr
  have HB := Lib.hid (sumT_bdC xs hb)
  have HE := Lib.hid hb
  clear hr hb
  go_enter Try.func82, Try.ntmps82
  go_wp2_with fail
  go_loop [3, 4] (fun s i => ∃ k : Nat, k ≤ xs.length ∧ i = .int .i64 k ∧ s = .int .i64 (sumT xs k)) (fun _ i => xs.length - (intOf i).toNat)
  case atStart => exact ⟨0, Nat.zero_le _, rfl, rfl⟩
  case round =>
    obtain ⟨k, hk, rfl, rfl⟩ := hrel
    by_cases hlt : k < xs.length
    · obtain ⟨b, off, rfl, hc⟩ := HR.out.at_ (bl_refl _) k hlt
      have hlt' : (k : Int) < xs.length := by omega
      have h1 := HB.out k hk
      have h2 := HE.out k hlt
      have HS : Hid (sumT xs (k + 1) = sumT xs k + nth xs k) := Lib.hid rfl
      obtain ⟨q, eq⟩ : ∃ q, q = sumT xs k := ⟨_, rfl⟩
      rw [← eq] at h1 HS ⊢
      clear eq
      generalize nth xs k = x at *
      go_wp2_with fail
      go_round
      case rel => exact ⟨k + 1, by omega, by go_num, by rw [HS.out]⟩
      case measure => simp [intOf]; omega
    · obtain rfl : k = xs.length := by omega
      go_wp2_with fail
      go_ret
      exact ⟨rfl, rfl⟩
set_option maxRecDepth 100000 in
set_option maxHeartbeats 1000000 in
theorem l10Chips_any (A : Option Addr) (c : Nat) (xs : List Int) (n : Nat) (w : World) (hr : Rd w A xs) (hn : xs.length ≤ 4000000) :
    Calls Try.prog 80 #[.slice A xs.length c, .int .i64 n] w (Same (.bool (sumsB xs && ((xs.length : Int) == (n : Int)))) w) := by
  have HR := Lib.hid hr
  have KS := Lib.hid (fun (x : Int) (W : World) => specIn_any x 0 600000 W)
  have HT : Hid (∀ k, k < xs.length → inB (nth xs k) 0 600000 = false → sumsB xs = false) := Lib.hid (fun k hk h => sumsB_no k hk (fun q => by rw [inB_yes _ _ _ q.1 q.2] at h; cases h))
  clear hr
  go_enter Try.func80, Try.ntmps80
  go_wp2_with fail
  go_loop [5] (fun i => ∃ k : Nat, k ≤ xs.length ∧ i = .int .i64 k ∧ Hid (∀ j, j < k → 0 ≤ nth xs j ∧ nth xs j ≤ 600000)) (fun i => xs.length - (intOf i).toNat)
  case atStart => exact ⟨0, Nat.zero_le _, rfl, Lib.hid (fun j hj => by omega)⟩
  case round =>
    obtain ⟨k, hk, rfl, hs⟩ := hrel
    by_cases hlt : k < xs.length
    · obtain ⟨bA, oA, rfl, hc⟩ := HR.out.at_ (bl_refl _) k hlt
      have hlt' : (k : Int) < xs.length := by omega
      have KX := Lib.hid (fun W => KS.out (nth xs k) W)
      rcases hb : inB (nth xs k) 0 600000 with _ | _
      · have HF := Lib.hid (HT.out k hlt hb)
        rw [hb] at KX
        clear hs hb
        generalize nth xs k = x at *
        go_wp2_with (go_at_call 79; refine (KX.out _).mono ?_; rintro e wn ⟨rfl, rfl⟩)
        go_ret
        exact ⟨ret_bool (by rw [HF.out]; rfl), rfl⟩
      · have HN : Hid (∀ j, j < k + 1 → 0 ≤ nth xs j ∧ nth xs j ≤ 600000) := Lib.hid (fun j hj => by
          by_cases e : j = k
          · subst e; unfold inB at hb; exact of_decide_eq_true hb
          · exact hs.out j (by omega))
        rw [hb] at KX
        clear hs hb
        generalize nth xs k = x at KX hc
        go_wp2_with (go_at_call 79; refine (KX.out _).mono ?_; rintro e wn ⟨rfl, rfl⟩)
        go_round
        case rel => exact ⟨k + 1, by omega, by go_num, HN⟩
        case measure => simp [intOf]; omega
    · obtain rfl : k = xs.length := by omega
      have HF := Lib.hid (sumsB_iff.2 hs.out)
      clear hs
      go_wp2_with fail
      go_ret
      exact ⟨ret_bool (by rw [HF.out]; rfl), rfl⟩
/-- Somebody of the first k has not folded. -/
def liveK (b : Bt) : Nat → Bool
  | 0 => false
  | k + 1 => liveK b k || !nthB b.fo k
theorem liveK_iff (b : Bt) : ∀ k, liveK b k = true ↔ ∃ i, i < k ∧ nthB b.fo i = false
  | 0 => by simp [liveK]
  | k + 1 => by
    have ih := liveK_iff b k
    show (liveK b k || !nthB b.fo k) = true ↔ _
    rw [Bool.or_eq_true, ih]
    constructor
    · rintro (⟨i, hi, e⟩ | e)
      · exact ⟨i, by omega, e⟩
      · exact ⟨k, by omega, by simpa using e⟩
    · rintro ⟨i, hi, e⟩
      by_cases h : i = k
      · subst h; exact .inr (by rw [e]; rfl)
      · exact .inl ⟨i, by omega, e⟩
set_option maxRecDepth 100000 in
set_option maxHeartbeats 2000000 in
theorem l10Pot_any (L : At5) (b : Bt) (w : World) (h : Rd5 w L b) (l2 : b.bt.length ≤ 6) (l3 : b.pd.length ≤ 6) (s2 : inC b.bt) (s3 : inC b.pd) :
    Calls Try.prog 81 #[bV L b] w (Fresh (.int .i64 (potI b)) w) := by
  have BT := btAt_new h
  have B := Lib.hid (bl_box (w := w) (L := L) (b := b))
  have K2 := Lib.hid (fun n => l01SumC_any L.a2 L.c2 b.bt _ (BT.drew n).rd.r2 (by omega) s2)
  have K3 := Lib.hid (fun n => l01SumC_any L.a3 L.c3 b.pd _ (BT.drew n).rd.r3 (by omega) s3)
  have u2 := sumT_bdC b.bt s2 _ (Nat.le_refl _)
  have u3 := sumT_bdC b.pd s3 _ (Nat.le_refl _)
  have H : Hid (potI b = sumT b.bt b.bt.length + sumT b.pd b.pd.length) := Lib.hid rfl
  obtain ⟨q1, _⟩ := BT.blk.cell 1 _ rfl
  obtain ⟨q2, _⟩ := BT.blk.cell 2 _ rfl
  clear h s2 s3 BT
  unfold bV
  generalize sumT b.bt b.bt.length = x2 at *
  generalize sumT b.pd b.pd.length = x3 at *
  go_enter Try.func81, Try.ntmps81
  go_wp2_with fail
  go_quiet ((go_at_call 82; first | (with_reducible exact quiet_left (K2.out _)) | (with_reducible exact quiet_left (K3.out _))))
  go_wp2_with fail
  go_ret
  exact ⟨by rw [H.out]; rfl, bl_drewN B.out _⟩
set_option maxRecDepth 100000 in
set_option maxHeartbeats 1000000 in
theorem l10Can_any (L : At5) (b : Bt) (i : Nat) (w : World) (h : Rd5 w L b) (hi : i < b.st.length) (l4 : b.fo.length = b.st.length) :
    Calls Try.prog 158 #[bV L b, .int .i64 i] w (Fresh (.bool (canB b i)) w) := by
  have BT := btAt_new h
  have B := Lib.hid (bl_box (w := w) (L := L) (b := b))
  obtain ⟨q0, _⟩ := BT.blk.cell 0 _ rfl
  obtain ⟨q3, _⟩ := BT.blk.cell 3 _ rfl
  obtain ⟨b1, o1, e1, hc1⟩ := BT.rd.r1.at_0 i hi
  obtain ⟨b4, o4, e4, hc4⟩ := BT.rd.r4.at_0 i (by omega)
  rw [e1] at q0
  rw [e4] at q3
  have d1 : (i : Int) < b.st.length := by omega
  have d4 : (i : Int) < b.fo.length := by omega
  have H : Hid (canB b i = (!nthB b.fo i && decide (0 < nth b.st i))) := Lib.hid rfl
  clear h BT e1 e4 l4
  unfold bV
  generalize nth b.st i = x at *
  generalize nthB b.fo i = f at *
  cases f
  all_goals
    go_enter Try.func158, Try.ntmps158
    go_wp2_with fail
    go_ret
    exact ⟨ret_bool (by rw [H.out]; simp), B.out⟩
set_option maxRecDepth 100000 in
set_option maxHeartbeats 2000000 in
theorem l10Count_any (L : At5) (b : Bt) (w : World) (h : Rd5 w L b) (n6 : b.st.length ≤ 6) (l4 : b.fo.length = b.st.length) :
    Calls Try.prog 111 #[bV L b] w (Fresh (.int .i64 (cntI b)) w) := by
  have BT := Lib.hid (btAt_new h)
  have B := Lib.hid (bl_box (w := w) (L := L) (b := b))
  have KC := Lib.hid (fun (k : Nat) (hk : k < b.st.length) (W : World) (hW : Rd5 W L b) => l10Can_any L b k W hW hk l4)
  have HC := Lib.hid (cntK_bd b)
  clear h l4
  obtain ⟨w0, rfl⟩ : ∃ w0 : World, w0 = w := ⟨w, rfl⟩
  obtain ⟨w1, e1⟩ : ∃ w1, w1 = w0.alloc (.cells (btL L b).toArray 27) := ⟨_, rfl⟩
  rw [← e1] at BT B
  have HE := Lib.hid e1
  subst e1
  unfold bV at *
  go_enter Try.func111, Try.ntmps111
  go_wp2_with fail
  go_loopw [3, 4] (fun s i wr => ∃ k : Nat, k ≤ b.st.length ∧ i = .int .i64 k ∧ s = .int .i64 (cntK b k) ∧ Hid (BtAt wr w0.heap.size L b) ∧ Hid (Below w0.heap.size w0 wr)) (fun _ i _ => b.st.length - (intOf i).toNat)
  case atStart => exact ⟨0, Nat.zero_le _, rfl, rfl, BT, B⟩
  case round =>
    obtain ⟨k, hk, rfl, rfl, HT, HB⟩ := hrel
    clear BT B
    obtain ⟨q0, _⟩ := HT.out.blk.cell 0 _ rfl; obtain ⟨q1, _⟩ := HT.out.blk.cell 1 _ rfl; obtain ⟨q2, _⟩ := HT.out.blk.cell 2 _ rfl; obtain ⟨q3, _⟩ := HT.out.blk.cell 3 _ rfl; obtain ⟨q4, _⟩ := HT.out.blk.cell 4 _ rfl; obtain ⟨q5, _⟩ := HT.out.blk.cell 5 _ rfl; obtain ⟨q6, _⟩ := HT.out.blk.cell 6 _ rfl; obtain ⟨q7, _⟩ := HT.out.blk.cell 7 _ rfl; obtain ⟨q8, _⟩ := HT.out.blk.cell 8 _ rfl
    by_cases hlt : k < b.st.length
    · have hlt' : (k : Int) < b.st.length := by omega
      have h1 := HC.out k
      have HS : Hid (cntK b (k + 1) = cntK b k + if canB b k = true then 1 else 0) := Lib.hid rfl
      have KK := Lib.hid (KC.out k hlt wr HT.out.rd)
      obtain ⟨q, eq⟩ : ∃ q, q = cntK b k := ⟨_, rfl⟩
      rw [← eq] at h1 HS ⊢
      clear eq
      generalize canB b k = x at *
      rcases x with _ | _
      all_goals
        go_wp2_with (go_at_call 158; refine (KK.out).mono ?_; rintro e wn ⟨rfl, hb⟩; have HTa := Lib.hid (HT.out.below hb); have HBa := Lib.hid (bl_trans HB.out hb); clear hb)
        go_roundw
        case rel => exact ⟨k + 1, by omega, by go_num, by rw [HS.out]; simp, HTa, HBa⟩
        case measure => simp [intOf]; omega
    · obtain rfl : k = b.st.length := by omega
      have HR : Hid (cntI b = cntK b b.st.length) := Lib.hid rfl
      go_wp2_with fail
      go_ret
      exact ⟨by rw [HR.out]; rfl, HB.out⟩
set_option maxRecDepth 100000 in
set_option maxHeartbeats 2000000 in
theorem l10Match_any (L : At5) (b : Bt) (w : World) (h : Rd5 w L b) (l2 : b.bt.length ≤ 6) :
    Calls Try.prog 137 #[bV L b] w (Fresh (.int .i64 (topI b)) w) := by
  have BT := Lib.hid (btAt_new h)
  have B := Lib.hid (bl_box (w := w) (L := L) (b := b))
  have HN : Hid (topI b = maxK b.bt b.bt.length) := Lib.hid rfl
  have BT1 := BT.out
  obtain ⟨q1, _⟩ := BT1.blk.cell 1 _ rfl
  clear h BT1
  unfold bV at *
  go_enter Try.func137, Try.ntmps137
  go_wp2_with fail
  go_loop [3, 4] (fun s i => ∃ k : Nat, k ≤ b.bt.length ∧ i = .int .i64 k ∧ s = .int .i64 (maxK b.bt k)) (fun _ i => b.bt.length - (intOf i).toNat)
  case atStart => exact ⟨0, Nat.zero_le _, rfl, rfl⟩
  case round =>
    obtain ⟨k, hk, rfl, rfl⟩ := hrel
    by_cases hlt : k < b.bt.length
    · have hlt' : (k : Int) < b.bt.length := by omega
      obtain ⟨b2, o2, e2, hc⟩ := BT.out.rd.r2.at_0 k hlt
      rw [e2] at q1
      clear e2
      have HS : Hid (maxK b.bt (k + 1) = if maxK b.bt k < nth b.bt k then nth b.bt k else maxK b.bt k) := Lib.hid rfl
      generalize maxK b.bt k = m at *
      generalize nth b.bt k = x at *
      by_cases hmx : m < x
      · have d2 : (if x > m then Value.int .i64 x else Value.int .i64 m) = Value.int .i64 x := if_pos hmx
        go_wp2_with fail
        go_round
        case rel => exact ⟨k + 1, by omega, by go_num, by rw [HS.out, if_pos hmx]⟩
        case measure => simp [intOf]; omega
      · have d2 : (if x > m then Value.int .i64 x else Value.int .i64 m) = Value.int .i64 m := if_neg hmx
        go_wp2_with fail
        go_round
        case rel => exact ⟨k + 1, by omega, by go_num, by rw [HS.out, if_neg hmx]⟩
        case measure => simp [intOf]; omega
    · obtain rfl : k = b.bt.length := by omega
      go_wp2_with fail
      go_ret
      exact ⟨by rw [HN.out]; rfl, B.out⟩
end Go.Proofs.Ytnllndcajdofjaa
