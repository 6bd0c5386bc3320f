/-
  The program's CanonicalCards.
-/
import Derived.Test.YtilbkgnjgmlhjaaDoorMinFn
import Derived.Test.YtilbkgnjgmlhjaaDoorOrbit
namespace Go.Proofs.YtilbkgnjgmlhjaaDoor
open Go.RowKit
set_option linter.unusedVariables false

theorem hang_nil (w : World) (n : Nat) (R : Nat → List Int) (AA : Nat → Option Addr) (CC : Nat → Nat) : Hang w 0 n R AA CC (.slice none 0 0) w :=
  ⟨World.ownsRow_nil _ _ _ _, (fun _ h => by omega), (fun _ h => by omega), (fun _ h => by omega), (fun _ h => by omega), bl_refl _⟩
set_option maxRecDepth 100000 in
set_option maxHeartbeats 2000000 in
theorem implCanon_yes (A : Option Addr) (c : Nat) (xs : List Int) (B : Nat) (wt w : World) (hr : Rd w A xs) (hn : xs.length ≤ 4000000) (hd : cardsB xs = true) (ht : Hid (Tz B wt)) (hB : Hid (Below B wt w)) (hBw : Hid (B ≤ w.heap.size)) :
    Calls Tryd.prog 40 #[.slice A xs.length c] w (NewRC (imgS xs (leastK (imgS xs) 23)) 0 w) := by
  have KS := Lib.hid (fun (c : Nat) => setOf_any A c xs w hr hn)
  unfold setV at KS
  rw [setI_yes hd, hd] at KS
  have hm := mask_lt xs hd
  have KX := Lib.hid exchanges_any
  have HIS := Lib.hid (fun k (h : k < 24) => xch_is h)
  have HL52 := deck_len xs hd
  have HFL := Lib.hid (imgS_len xs)
  have HKL := leastK_le (imgS xs) 23
  obtain ⟨M, hM⟩ : ∃ M : Nat → Nat, M = fun k => maskOf (img (xch k) (sortA xs)) := ⟨_, rfl⟩
  have KF : Hid (∀ (k : Nat) (W : World), k < 24 → Hid (Below B wt W) → Hid (B ≤ W.heap.size) → Calls Tryd.prog 74 #[.agg (ints (xch k)).toArray, .int .u64 (maskOf xs)] W (Fresh (.int .u64 (M k : Nat)) W)) := Lib.hid (fun k W hk hb hw => by
    have := setFor_any (xch k) (maskOf xs) B wt W (xch_is hk) hm (by rw [bitsI_mask hd]; exact cards_sort hd) ht hb hw
    rw [hM]
    rwa [bitsI_mask hd] at this)
  have KB : Hid (∀ (k : Nat) (W : World), k < 24 → Hid (Below B wt W) → Hid (B ≤ W.heap.size) → Calls Tryd.prog 75 #[.int .u64 (M k : Nat)] W (NewL (imgS xs k) W)) := Lib.hid (fun k W hk hb hw => by
    have e : bitsI (M k) = imgS xs k := by rw [hM]; exact inOrder_img hd hk
    have := list_any (M k) B wt W (by rw [hM]; have := mask_lt _ (img_cards (xch_is hk) (cards_sort hd)); show maskOf (img (xch k) (sortA xs)) < 2 ^ 53; omega) ht hb hw
    rwa [e] at this)
  have KM : Hid (∀ (A : Option Addr) (c lo : Nat) (AA : Nat → Option Addr) (CC : Nat → Nat) (w : World), Fam w lo A 24 (imgS xs) AA CC → Calls Tryd.prog 76 #[.slice A 24 c, .func (.func 77) #[] #[]] w (Same (.slice (AA (leastK (imgS xs) 23)) xs.length (CC (leastK (imgS xs) 23))) w)) := Lib.hid (fun A c lo AA CC w h => minFunc_any A c lo 24 xs.length (imgS xs) AA CC w h (by omega) (by omega) HFL.out (by omega))
  clear hm hd hr hM
  generalize leastK (imgS xs) 23 = kb at *
  generalize imgS xs = F at *
  generalize maskOf xs = m at *
  obtain ⟨w0, rfl⟩ : ∃ w0 : World, w0 = w := ⟨w, rfl⟩
  go_enter Tryd.func40, Tryd.ntmps40
  go_wp2_with (first
    | (go_at_call 57; refine (KS.out _).mono ?_; rintro e w1 ⟨rfl, rfl⟩)
    | (go_at_call 73; refine (KX.out _).mono ?_; rintro e w1 ⟨v, rfl, hox, hbx⟩
       obtain ⟨g, cap, rfl, hgb, hxs⟩ := xs_of hox
       have HXS := Lib.hid hxs
       have HBX := Lib.hid hbx
       have HO := Lib.hid (hang_nil w1 xs.length F (fun _ => none) (fun _ => 0))
       clear hox hbx hgb hxs))
  clear KS
  have HXW : Hid (∀ W, Below w1.heap.size w1 W → Xs W g) := Lib.hid (fun W hb => HXS.out.below hb)
  go_loopw [6, 18] (fun v i wr => ∃ (k : Nat) (AA : Nat → Option Addr) (CC : Nat → Nat), k ≤ 24 ∧ i = .int .i64 k ∧ Hid (Hang w1 k xs.length F AA CC v wr)) (fun _ i _ => 24 - (intOf i).toNat)
  case atStart => exact ⟨0, _, _, by omega, rfl, HO⟩
  case round =>
    obtain ⟨k, AA, CC, hk, rfl, hh⟩ := hrel
    by_cases hlt : k < 24
    · have hlt' : (k : Int) < 24 := by omega
      have hxs := HXW.out wr hh.out.below
      have cb0 := hxs.cell k hlt 0 (by omega)
      have cb1 := hxs.cell k hlt 1 (by omega)
      have cb2 := hxs.cell k hlt 2 (by omega)
      have cb3 := hxs.cell k hlt 3 (by omega)
      have hix := HIS.out k hlt
      have K1 := Lib.hid (fun (W : World) => KF.out k W hlt)
      have K3 := Lib.hid (fun (W : World) => KB.out k W hlt)
      have HLK := Lib.hid (HFL.out k)
      generalize xch k = e at *
      obtain ⟨a, b, c1, d, rfl, _⟩ := isX_four hix
      clear hix hxs
      simp only [nth, List.getD_cons_zero, List.getD_cons_succ, Nat.add_zero] at cb0 cb1 cb2 cb3
      simp only [ints, List.map_cons, List.map_nil] at K1
      have B0 : Hid (Below w0.heap.size w0 wr) := Lib.hid (bl_trans HBX.out hh.out.below)
      have K2 := Lib.hid (K1.out (wr.alloc (.cells #[.int .i64 a, .int .i64 b, .int .i64 c1, .int .i64 d] 100)) (Lib.hid (hB.out.trans ((bl_alloc B0.out _).mono hBw.out))) (Lib.hid (by have := hBw.out; have := B0.out.size; simp; omega)))
      clear K1
      generalize M k = mk at *
      go_wp2_with (first
        | (go_at_call 74; refine (K2.out).mono ?_; rintro e w5 ⟨rfl, hb5⟩; have HN5 := Lib.hid (bl_trans (bl_alloc (bl_refl wr) _) hb5); clear hb5)
        | (go_at_call 75; refine (K3.out _ (Lib.hid (hB.out.trans ((bl_trans B0.out HN5.out).mono hBw.out))) (Lib.hid (Nat.le_trans hBw.out (Nat.le_trans B0.out.size HN5.out.size)))).mono ?_; rintro e w6 ⟨A3, c3, rfl, ho3, hb3⟩
           have HO3 := Lib.hid (ho3.less HN5.out.size); have HN6 := Lib.hid (bl_trans HN5.out hb3); clear ho3 hb3)
        | (at_builtin; refine wpList_hang (.tmp 22) (.tmp 27) rfl rfl w1.heap.size u6 k (cellsS k AA CC xs.length) rfl ((hh.out.next HN6.out).next (bl_alloc (bl_refl _) _)).out ⟨w6.heap.size, 0, none⟩ 1 (.slice A3 (F k).length c3) rfl ?c1 rfl ?c2 ?c3 ?_))
      case c1 => simp [go_sem]
      case c2 => omega
      case c3 => have := hh.out.below.size; have := HN6.out.size; simp; omega
      intro v' w7 hown hg hv
      have HG := Lib.hid (hang_add (K := k) (A := A3) (c := c3) (n := xs.length) hh.out HN6.out HO3.out HLK.out (by rw [← HLK.out] at hown ⊢; exact hown) hg (by simpa using hv))
      clear hown hg hv
      go_wp2_with fail
      go_roundw
      case rel => exact ⟨k + 1, _, _, by omega, by go_num, HG⟩
      case measure => simp [intOf]; omega
    · obtain rfl : k = 24 := by omega
      obtain ⟨A9, c9, rfl, hf⟩ := hh.out.fam2
      have K9 := Lib.hid (KM.out A9 c9 _ AA CC wr hf)
      have HROW := Lib.hid (hf.row kb (by omega))
      have HLB := Lib.hid (HFL.out kb)
      clear hf
      go_wp2_with (go_at_call 76; refine (K9.out).mono ?_; rintro e w9 ⟨rfl, rfl⟩)
      go_ret2
      exact ⟨AA kb, CC kb, by rw [HLB.out]; rfl, HROW.out.less HBX.out.size, bl_trans HBX.out hh.out.below⟩
set_option maxRecDepth 100000 in
set_option maxHeartbeats 1000000 in
theorem implCanon_any (A : Option Addr) (c : Nat) (xs : List Int) (B : Nat) (wt w : World) (hr : Rd w A xs) (hn : xs.length ≤ 4000000) (ht : Hid (Tz B wt)) (hB : Hid (Below B wt w)) (hBw : Hid (B ≤ w.heap.size)) :
    Calls Tryd.prog 40 #[.slice A xs.length c] w (NewRC (canR xs) (codeC xs) w) := by
  by_cases hd : cardsB xs = true
  · have e1 : canR xs = imgS xs (leastK (imgS xs) 23) := by unfold canR; rw [if_pos hd]
    have e2 : codeC xs = 0 := by unfold codeC; rw [if_pos hd]
    rw [e1, e2]
    exact implCanon_yes A c xs B wt w hr hn hd ht hB hBw
  · have hf : cardsB xs = false := by simpa using hd
    have e1 : canR xs = [] := by unfold canR; rw [if_neg hd]
    have e2 : codeC xs = 1 := by unfold codeC; rw [if_neg hd]
    rw [e1, e2]
    have KS := Lib.hid (fun (c : Nat) => setOf_any A c xs w hr hn)
    unfold setV at KS
    rw [setI_no hf, hf] at KS
    clear hr hd hf e1 e2
    go_enter Tryd.func40, Tryd.ntmps40
    go_wp2_with (go_at_call 57; refine (KS.out _).mono ?_; rintro e w1 ⟨rfl, rfl⟩)
    go_ret2
    exact ⟨none, 0, rfl, Row.nil _ _, bl_refl _⟩
end Go.Proofs.YtilbkgnjgmlhjaaDoor
