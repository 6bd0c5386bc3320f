/-
  The model: the next seat that has to act.
-/
import Derived.Test.YthgfohdjpfhebaaSpecBetF
namespace Go.Proofs.Ythgfohdjpfhebaa
open Go.RowKit
set_option linter.unusedVariables false

/-- The first seat left of s that has to act, or the seat whose turn it is. -/
def hopG (b : Bt) (s : Int) : Nat := (List.range b.st.length).findIdx (fun k => mustB b (seatAt b.st.length (leftI s b.st.length) k).toNat)
def nxtG (b : Bt) (s : Int) : Int := if hopG b s < b.st.length then seatAt b.st.length (leftI s b.st.length) (hopG b s) else b.tu
theorem nxtG_tu (b : Bt) : nxtG b b.tu = nxtI b := rfl
theorem hopG_before (b : Bt) (s : Int) (k : Nat) (h : k < hopG b s) (hk : k < b.st.length) : mustB b (seatAt b.st.length (leftI s b.st.length) k).toNat = false := by
  have := List.not_of_lt_findIdx h
  simpa using this
theorem hopG_at (b : Bt) (s : Int) (h : hopG b s < b.st.length) : mustB b (seatAt b.st.length (leftI s b.st.length) (hopG b s)).toNat = true := by
  have := List.findIdx_getElem (p := fun k => mustB b (seatAt b.st.length (leftI s b.st.length) k).toNat) (xs := List.range b.st.length) (w := by rw [List.length_range]; exact h)
  simpa [hopG] using this
theorem hopG_le (b : Bt) (s : Int) : hopG b s ≤ b.st.length := by
  have : hopG b s ≤ (List.range b.st.length).length := List.findIdx_le_length
  simpa using this
def NoneG (b : Bt) (s : Int) (k : Nat) : Prop := ∀ j, j < k → mustB b (seatAt b.st.length (leftI s b.st.length) j).toNat = false
theorem nxtG_found (b : Bt) (s : Int) (k : Nat) (hk : k < b.st.length) (h : NoneG b s k) (hh : mustB b (seatAt b.st.length (leftI s b.st.length) k).toNat = true) : nxtG b s = seatAt b.st.length (leftI s b.st.length) k := by
  have hl := hopG_le b s
  have e : hopG b s = k := by
    rcases Nat.lt_trichotomy (hopG b s) k with q | q | q
    · have := h _ q
      rw [hopG_at b s (by omega)] at this
      cases this
    · exact q
    · have := hopG_before b s k q hk
      rw [hh] at this
      cases this
  unfold nxtG
  rw [e, if_pos hk]
theorem nxtG_none (b : Bt) (s : Int) (h : NoneG b s b.st.length) : nxtG b s = b.tu := by
  unfold nxtG
  split
  · next q =>
    have := h _ q
    rw [hopG_at b s q] at this
    cases this
  · rfl
theorem nxtG_bd (b : Bt) (s : Int) (h0 : 0 ≤ b.tu) (h1 : b.tu < b.st.length) : 0 ≤ nxtG b s ∧ nxtG b s < b.st.length := by
  unfold nxtG
  split
  · exact seatAt_bd _ _ _ (by omega)
  · exact ⟨h0, h1⟩
/-- The q-th seat left of s. -/
theorem left_q (n : Nat) (s : Int) (q : Nat) (hq : 1 ≤ q) (hn : 0 < n) (hs : 0 ≤ s) : ∃ j : Nat, j < n ∧ (s + (q : Int)) % (n : Int) = (j : Int) ∧ (s + (q : Int)).tmod (n : Int) = (j : Int) ∧ seatAt n (leftI s n) (q - 1) = (j : Int) := by
  have h1 := Int.emod_nonneg (s + (q : Int)) (show (n : Int) ≠ 0 by omega)
  have h2 := Int.emod_lt_of_pos (s + (q : Int)) (show (0 : Int) < n by omega)
  obtain ⟨j, hj⟩ := Int.eq_ofNat_of_zero_le h1
  refine ⟨j, by omega, hj, by rw [Int.tmod_eq_emod_of_nonneg (by omega)]; exact hj, ?_⟩
  unfold seatAt leftI
  rw [Int.emod_add_emod, show s + 1 + ((q - 1 : Nat) : Int) = s + (q : Int) by omega]
  exact hj
set_option maxRecDepth 100000 in
set_option maxHeartbeats 2000000 in
theorem l10Next_any (L : At5) (b : Bt) (s : Int) (w : World) (h : Rd5 w L b) (k : Sd b) (hs0 : 0 ≤ s) (hs1 : s ≤ 100) :
    Calls Try.prog 158 #[bV L b, .int .i64 s] w (Fresh (.int .i64 (nxtG b s)) w) := by
  have hmx : Try.prog.follows .mixedOrders = true := by kernel_rfl
  have n2 := k.n2
  have n6 := k.n6
  have BT := Lib.hid (btAt_new h)
  have B := Lib.hid (bl_box (w := w) (L := L) (b := b))
  have KH := Lib.hid (fun (j : Nat) (hj : j < b.st.length) (W : World) (hW : Rd5 W L b) => l10Has_any L b j W hW k hj)
  have HQ := Lib.hid (fun (q : Nat) (hq : 1 ≤ q) => left_q b.st.length s q hq (by omega) hs0)
  have HF := Lib.hid (nxtG_found b s)
  have HN := Lib.hid (nxtG_none b s)
  have BT1 := BT.out
  obtain ⟨q0, -⟩ := BT1.blk.cell 0 _ rfl
  obtain ⟨q1, -⟩ := BT1.blk.cell 1 _ rfl
  obtain ⟨q2, -⟩ := BT1.blk.cell 2 _ rfl
  obtain ⟨q3, -⟩ := BT1.blk.cell 3 _ rfl
  obtain ⟨q4, -⟩ := BT1.blk.cell 4 _ rfl
  obtain ⟨q5, -⟩ := BT1.blk.cell 5 _ rfl
  obtain ⟨q6, -⟩ := BT1.blk.cell 6 _ rfl
  obtain ⟨q7, -⟩ := BT1.blk.cell 7 _ rfl
  obtain ⟨q8, -⟩ := BT1.blk.cell 8 _ rfl
  clear h k BT1
  generalize nxtG b s = res at *
  obtain ⟨w0, rfl⟩ : ∃ w0 : World, w0 = w := ⟨w, rfl⟩
  unfold bV at *
  go_enter Try.func158, Try.ntmps158
  go_wp2_with fail
  go_loopw [6] (fun i wr => ∃ q : Nat, 1 ≤ q ∧ q ≤ b.st.length + 1 ∧ i = .int .i64 q ∧ Hid (NoneG b s (q - 1)) ∧ Hid (BtAt wr w0.heap.size L b) ∧ Hid (Below w0.heap.size w0 wr)) (fun i _ => b.st.length + 1 - (intOf i).toNat)
  case atStart => exact ⟨1, Nat.le_refl _, by omega, rfl, Lib.hid (fun j hj => by omega), BT, B⟩
  case round =>
    obtain ⟨q, hq1, hq2, rfl, HZ, HB, HL⟩ := hrel
    clear BT B
    have HB1 := HB.out
    obtain ⟨y0, -⟩ := HB1.blk.cell 0 _ rfl
    obtain ⟨y1, -⟩ := HB1.blk.cell 1 _ rfl
    obtain ⟨y2, -⟩ := HB1.blk.cell 2 _ rfl
    obtain ⟨y3, -⟩ := HB1.blk.cell 3 _ rfl
    obtain ⟨y4, -⟩ := HB1.blk.cell 4 _ rfl
    obtain ⟨y5, -⟩ := HB1.blk.cell 5 _ rfl
    obtain ⟨y6, -⟩ := HB1.blk.cell 6 _ rfl
    obtain ⟨y7, -⟩ := HB1.blk.cell 7 _ rfl
    obtain ⟨y8, -⟩ := HB1.blk.cell 8 _ rfl
    clear HB1
    by_cases hlt : q ≤ b.st.length
    · have hlt' : (q : Int) ≤ b.st.length := by omega
      have dlt : decide ((q : Int) ≤ b.st.length) = true := decide_eq_true hlt'
      obtain ⟨j, hj, e1, e2, e3⟩ := HQ.out q hq1
      have E3 := Lib.hid e3
      have hz : (b.st.length : Int) ≠ 0 := by omega
      have KK := Lib.hid (KH.out j hj)
      clear e3
      go_wp2_with fail
      refine wp_region_W (last := 6) (k := 6) hmx rfl (fun HC0 => ?_)
      refine wpAnyR_takeL (i := 0) (kw := 1) (v := .agg #[.slice L.a1 b.st.length L.c1, .slice L.a2 b.bt.length L.c2, .slice L.a3 b.pd.length L.c3, .slice L.a4 b.fo.length L.c4, .slice L.a5 b.ac.length L.c5, .int .i64 b.tu, .int .i64 b.un, .int .i64 b.ra, .int .i64 b.li]) (fun _ => bl_refl _) (fun p q => bl_trans p q) rfl rfl (by kernel_rfl) (by kernel_rfl) (by kernel_rfl) (by kernel_rfl) (fun _ _ _ h => h) HC0 (Or.inl ⟨by kernel_rfl, fun W' hI => ?_⟩) (fun HC1 => ?_)
      · have hv := (HB.out.blk).below hI
        obtain ⟨z0, _⟩ := hv.cell 0 _ rfl
        obtain ⟨z1, _⟩ := hv.cell 1 _ rfl
        obtain ⟨z2, _⟩ := hv.cell 2 _ rfl
        obtain ⟨z3, _⟩ := hv.cell 3 _ rfl
        obtain ⟨z4, _⟩ := hv.cell 4 _ rfl
        obtain ⟨z5, _⟩ := hv.cell 5 _ rfl
        obtain ⟨z6, _⟩ := hv.cell 6 _ rfl
        obtain ⟨z7, _⟩ := hv.cell 7 _ rfl
        obtain ⟨z8, _⟩ := hv.cell 8 _ rfl
        exact .inl (by go_simp)
      refine wpAnyR_takeL (i := 1) (kw := 3) (v := .int .i64 s) (fun _ => bl_refl _) (fun p q => bl_trans p q) rfl rfl (by kernel_rfl) (by kernel_rfl) (by kernel_rfl) (by kernel_rfl) (fun _ _ _ h => h) HC1 (Or.inl ⟨by kernel_rfl, fun W' hI => ?_⟩) (fun HC2 => ?_)
      · exact .inl (by go_simp)
      refine wpAnyR_takeL (i := 2) (kw := 3) (v := .int .i64 q) (fun _ => bl_refl _) (fun p q => bl_trans p q) rfl rfl (by kernel_rfl) (by kernel_rfl) (by kernel_rfl) (by kernel_rfl) (fun _ _ _ h => h) HC2 (Or.inl ⟨by kernel_rfl, fun W' hI => ?_⟩) (fun HC3 => ?_)
      · exact .inl (by go_simp)
      refine wpAnyR_takeL (i := 3) (kw := 2) (v := .int .i64 (s + q)) (fun _ => bl_refl _) (fun p q => bl_trans p q) rfl rfl (by kernel_rfl) (by kernel_rfl) (by kernel_rfl) (by kernel_rfl) (fun _ _ _ h => h) HC3 (Or.inl ⟨by kernel_rfl, fun W' hI => ?_⟩) (fun HC4 => ?_)
      · exact .inl (by go_simp; first | done | exact IntWalk.i64_in _ (by omega))
      refine wpAnyR_takeL (i := 4) (kw := 2) (v := .int .i64 b.st.length) (fun _ => bl_refl _) (fun p q => bl_trans p q) rfl rfl (by kernel_rfl) (by kernel_rfl) (by kernel_rfl) (by kernel_rfl) (fun _ _ _ h => h) HC4 (Or.inl ⟨by kernel_rfl, fun W' hI => ?_⟩) (fun HC5 => ?_)
      · exact .inl (by go_simp)
      refine wpAnyR_takeL (i := 5) (kw := 1) (v := .int .i64 j) (fun _ => bl_refl _) (fun p q => bl_trans p q) rfl rfl (by kernel_rfl) (by kernel_rfl) (by kernel_rfl) (by kernel_rfl) (fun _ _ _ h => h) HC5 (Or.inl ⟨by kernel_rfl, fun W' hI => ?_⟩) (fun HC6 => ?_)
      · exact .inl (by go_simp; first | done | (intro e; rw [e] at n2; simp at n2))
      refine wpAnyR_lastL (by kernel_rfl) (by kernel_rfl) rfl (by kernel_rfl) (fun wR hrR => ⟨bl_drewT hrR, ?_⟩)
      intro K hK
      have BR := Lib.hid (bl_drewT hrR)
      clear hrR
      rcases hm : mustB b j with _ | _
      · rw [hm] at KK
        have HN2 : Hid (NoneG b s (q + 1 - 1)) := Lib.hid (fun j' hj' => by
          by_cases e : j' = q - 1
          · subst e; rw [E3.out]; exact hm
          · exact HZ.out j' (by omega))
        clear hm
        go_simp
        go_wp2_with (go_at_call 117; refine (KK.out _ (HB.out.below BR.out).rd).mono ?_; rintro e w5 ⟨rfl, hb5⟩; have HB5 := Lib.hid ((HB.out.below BR.out).below hb5); have HL5 := Lib.hid (bl_trans (bl_trans HL.out BR.out) hb5); clear hb5)
        exact ⟨⟨q + 1, by omega, by omega, by go_num, HN2, HB5, HL5⟩, by simp [intOf]; omega⟩
      · rw [hm] at KK
        have HR : Hid (res = (j : Int)) := Lib.hid (by
          rw [HF.out (q - 1) (by omega) HZ.out (by rw [E3.out]; exact hm)]; exact E3.out)
        clear hm
        go_simp
        go_wp2_with (go_at_call 117; refine (KK.out _ (HB.out.below BR.out).rd).mono ?_; rintro e w5 ⟨rfl, hb5⟩; have HL5 := Lib.hid (bl_trans (bl_trans HL.out BR.out) hb5); clear hb5)
        go_ret
        exact ⟨by rw [HR.out]; rfl, HL5.out⟩
    · obtain rfl : q = b.st.length + 1 := by omega
      have dlt : decide (((b.st.length + 1 : Nat) : Int) ≤ b.st.length) = false := decide_eq_false (by omega)
      have HR := Lib.hid (HN.out HZ.out)
      have d2 : decide ((b.st.length : Int) + 1 ≤ (b.st.length : Int)) = false := decide_eq_false (by omega)
      go_wp2_with fail
      go_ret
      exact ⟨by rw [HR.out]; rfl, HL.out⟩
end Go.Proofs.Ythgfohdjpfhebaa
