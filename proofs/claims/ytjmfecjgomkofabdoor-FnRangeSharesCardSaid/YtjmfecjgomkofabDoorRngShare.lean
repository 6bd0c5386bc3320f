/-
  ShareOf: the program's and the model's.
-/
import Derived.Test.YtjmfecjgomkofabDoorRngLive
import Derived.Test.YtjmfecjgomkofabDoorRngSpec
import Derived.Test.YtjmfecjgomkofabDoorMake
namespace Go.Proofs.YtjmfecjgomkofabDoor
open Go.RowKit
set_option linter.unusedVariables false

/-- What ShareOf answers. -/
def shareR (r : List Int) : Int × Int × Int := if rngB r = true then rat (sizeS r : Int) 1326 else (0, 0, 1)
theorem share_yes {r : List Int} (h : rngB r = true) : shareR r = rat (sizeS r : Int) 1326 := by unfold shareR; rw [if_pos h]
theorem share_no {r : List Int} (h : rngB r = false) : shareR r = (0, 0, 1) := by unfold shareR; rw [h]; rfl
theorem size_bd {r : List Int} (h : rngB r = true) : sizeS r ≤ 2028 := by
  have h1 := rcP_size r (rng_mem h)
  have h2 := rcP_bd [] r (rng_mem h)
  have h3 := rng_len h
  omega
theorem live_size {r : List Int} (h : rngB r = true) : (liveP r []).length = sizeS r ∧ liveC r [] = 0 := by
  have e := live_yes h (dead := []) cards_nil
  exact ⟨by rw [e.1, rcP_size r (rng_mem h)], e.2⟩
set_option maxHeartbeats 400000 in
theorem eqRatio_eq (n d : Int) (w : World) :
    Calls Tryd.prog 37 #[.agg #[.int .i64 n, .int .i64 d], .agg #[.int .i64 n, .int .i64 d]] w (Fresh (.bool true) w) := by
  go_enter Tryd.func37, Tryd.ntmps37
  go_wp2
  go_ret
  exact ⟨rfl, bl_alloc (bl_alloc (bl_refl _) _) _⟩

set_option maxRecDepth 100000 in
set_option maxHeartbeats 1000000 in
theorem implShareOf_any (A : Option Addr) (c : Nat) (r : List Int) (B : Nat) (wt w : World) (hr : Rd w A r) (hn : r.length ≤ 4000000) (ht : Hid (Tz B wt)) (hB : Hid (Below B wt w)) (hBw : Hid (B ≤ w.heap.size)) :
    Calls Tryd.prog 36 #[.slice A r.length c] w (Fresh (tripV (shareR r)) w) := by
  have K := Lib.hid (fun (c : Nat) (W : World) (hb : Below w.heap.size w W) => implCountCombos_any A c r none 0 [] B wt W (hr.below hb) (fun h => by simp at h) hn (by simp) ht (Lib.hid (hB.out.trans (hb.mono hBw.out))) (Lib.hid (Nat.le_trans hBw.out hb.size)))
  simp only [List.length_nil] at K
  by_cases h : rngB r = true
  · have e := live_size h
    have hbd := size_bd h
    rw [e.1, e.2] at K
    rw [share_yes h]
    clear hr ht hB hBw h e
    generalize sizeS r = n at *
    have KR := Lib.hid (fun W => implRat_any (n : Int) 1326 W (by omega) (by omega) (by omega) (by omega))
    go_enter Tryd.func36, Tryd.ntmps36
    go_wp2_with (first
      | (go_at_call 32; refine (K.out _ _ (bl_alloc (bl_refl _) _)).mono ?_; rintro e w1 ⟨rfl, hb1⟩; obtain ⟨hc1, hf1⟩ := bcell hb1; have hz1 : w.heap.size < w1.heap.size := sz_new hb1)
      | (go_at_call 69; refine (KR.out _).mono ?_; rintro e w2 ⟨rfl, hb2⟩; obtain ⟨hc2, hf2⟩ := bcell hb2; have q0 : w2.cell? ⟨w.heap.size, 0, none⟩ = some (.int .i64 0) := (hc2 _ _ hz1).trans ((hc1 _ _ (by simp)).trans (by simp [go_sem])); have q1 : w2.cell? ⟨w.heap.size, 1, none⟩ = some (.int .i64 0) := (hc2 _ _ hz1).trans ((hc1 _ _ (by simp)).trans (by simp [go_sem]))))
    exact bodyPost_ret (v := tripV (rat (n : Int) 1326)) (by simp [results, Tryd.results36, go_sem, q0, q1]) rfl ⟨rfl, by
      repeat (first | exact bl_refl _ | (refine bl_trans ?_ (by assumption)) | apply bl_alloc | apply bl_drewN | apply bl_drew | (refine bl_set ?_ (by first | exact Nat.le_refl _ | (simp; done) | (simp; omega)) _))⟩
  · have hf : rngB r = false := by simpa using h
    have e := live_bad (dead := []) hf
    rw [e.1, e.2] at K
    rw [share_no hf]
    clear hr ht hB hBw h hf e
    simp only [List.length_nil] at K
    go_enter Tryd.func36, Tryd.ntmps36
    go_wp2_with (go_at_call 32; refine (K.out _ _ (bl_alloc (bl_refl _) _)).mono ?_; rintro e w1 ⟨rfl, hb1⟩; obtain ⟨hc1, hf1⟩ := bcell hb1; have hz1 : w.heap.size < w1.heap.size := sz_new hb1; have q0 : w1.cell? ⟨w.heap.size, 0, none⟩ = some (.int .i64 0) := (hc1 _ _ (by simp)).trans (by simp [go_sem]); have q1 : w1.cell? ⟨w.heap.size, 1, none⟩ = some (.int .i64 0) := (hc1 _ _ (by simp)).trans (by simp [go_sem]))
    exact bodyPost_ret (v := resV 0 0 1) (by simp [results, Tryd.results36, go_sem, q0, q1]) rfl ⟨rfl, by
      repeat (first | exact bl_refl _ | (refine bl_trans ?_ (by assumption)) | apply bl_alloc | apply bl_drewN | apply bl_drew | (refine bl_set ?_ (by first | exact Nat.le_refl _ | (simp; done) | (simp; omega)) _))⟩

set_option maxRecDepth 100000 in
set_option maxHeartbeats 1000000 in
theorem l08Size_any (k : Int) (w : World) (h0 : 0 ≤ k) (h1 : k < 169) : Calls Tryd.prog 67 #[.int .i64 k] w (Same (.int .i64 (wantN k.toNat : Nat)) w) := by
  have e : wantN k.toNat = if k / 13 = k % 13 then 6 else if k % 13 < k / 13 then 4 else 12 := by
    unfold wantN
    have a1 : ((k.toNat / 13 : Nat) : Int) = k / 13 := by omega
    have a2 : ((k.toNat % 13 : Nat) : Int) = k % 13 := by omega
    by_cases c1 : k / 13 = k % 13
    · rw [if_pos c1, if_pos (by omega)]
    · rw [if_neg c1, if_neg (by omega)]
      by_cases c2 : k % 13 < k / 13
      · rw [if_pos c2, if_pos (by omega)]
      · rw [if_neg c2, if_neg (by omega)]
  obtain ⟨n, en⟩ : ∃ n, n = wantN k.toNat := ⟨_, rfl⟩
  rw [← en] at e ⊢
  have HE := Lib.hid e
  clear e en
  go_enter Tryd.func67, Tryd.ntmps67
  go_wp2_with fail
  all_goals
    go_ret
    refine ⟨ret_int ?_, rfl⟩
    rw [HE.out]
    try simp only [beq_iff_eq, beq_eq_false_iff_ne, ne_eq] at *
    repeat' split
    all_goals first | rfl | omega

set_option maxRecDepth 100000 in
set_option maxHeartbeats 2000000 in
theorem specShareOf_any (A : Option Addr) (c : Nat) (r : List Int) (w : World) (hr : Rd w A r) (hn : r.length ≤ 4000000) :
    Calls Tryd.prog 35 #[.slice A r.length c] w (Fresh (tripV (shareR r)) w) := by
  have K := Lib.hid (fun (c : Nat) (W : World) (hb : Below w.heap.size w W) => specIsRange_any A c r W (hr.below hb) hn)
  by_cases h : rngB r = true
  · have hbd := size_bd h
    have hlen := rng_len h
    rw [h] at K
    rw [share_yes h]
    have HR := Lib.hid hr
    have HX := Lib.hid h
    clear hr h
    have KR := Lib.hid (fun (n : Nat) (h : n ≤ 2028) W => specRat_any (n : Int) 1326 W (by omega) (by omega) (by omega) (by omega))
    obtain ⟨w0, rfl⟩ : ∃ w0 : World, w0 = w := ⟨w, rfl⟩
    go_enter Tryd.func35, Tryd.ntmps35
    go_wp2_with (go_at_call 66; refine (K.out _ _ (bl_alloc (bl_refl _) _)).mono ?_; rintro e w1 ⟨rfl, hb1⟩; obtain ⟨hc1, hf1⟩ := bcell hb1; have hz1 : w0.heap.size < w1.heap.size := sz_new hb1; have HB1 := Lib.hid hb1; have q0 : w1.cell? ⟨w0.heap.size, 0, none⟩ = some (.int .i64 0) := (hc1 _ _ (by simp)).trans (by simp [go_sem]); have q1 : w1.cell? ⟨w0.heap.size, 1, none⟩ = some (.int .i64 0) := (hc1 _ _ (by simp)).trans (by simp [go_sem]); have f0 : w1.frozen? ⟨w0.heap.size, 0, none⟩ = false := (hf1 _ _ (by simp)).trans (by simp [go_sem]); have f1 : w1.frozen? ⟨w0.heap.size, 1, none⟩ = false := (hf1 _ _ (by simp)).trans (by simp [go_sem]); clear hc1 hf1 hb1)
    have HB : Hid (Below w0.heap.size w0 w1) := Lib.hid (bl_trans (bl_alloc (bl_refl _) _) HB1.out)
    have HQ := Lib.hid (And.intro q0 (And.intro q1 (And.intro f0 f1)))
    clear q0 q1 f0 f1
    go_loop [4, 5] (fun s i => ∃ k : Nat, k ≤ r.length ∧ i = .int .i64 k ∧ s = .int .i64 (sizeS (r.take k) : Nat)) (fun _ i => r.length - (intOf i).toNat)
    case atStart => exact ⟨0, Nat.zero_le _, rfl, rfl⟩
    case round =>
      obtain ⟨k, hk, rfl, rfl⟩ := hrel
      by_cases hlt : k < r.length
      · have hlt' : (k : Int) < r.length := by omega
        obtain ⟨b, off, rfl, hc⟩ := HR.out.at_ HB.out k hlt
        have hb := rng_in HX.out k hlt
        have HT : Hid (sizeS (r.take (k + 1)) = sizeS (r.take k) + wantN (nth r k).toNat) := Lib.hid (by rw [take_nth r k hlt, sizeS_snoc])
        have hw : wantN (nth r k).toNat ≤ 12 := by
          unfold wantN
          split
          · omega
          · split <;> omega
        have hs2 : sizeS (r.take k) ≤ 12 * 169 := by
          have h1 := rcP_size (r.take k) (fun x hx => rng_mem HX.out x (List.mem_of_mem_take hx))
          have h2 := rcP_bd [] (r.take k) (fun x hx => rng_mem HX.out x (List.mem_of_mem_take hx))
          have h3 : (r.take k).length ≤ r.length := by rw [List.length_take]; omega
          have : 12 * (r.take k).length ≤ 12 * 169 := Nat.mul_le_mul_left _ (by omega)
          omega
        have KS := Lib.hid (fun W => l08Size_any (nth r k) W hb.1 hb.2)
        generalize wantN (nth r k).toNat = n at *
        generalize nth r k = x at *
        generalize sizeS (r.take k) = m at *
        go_wp2_with (go_at_call 67; refine (KS.out _).mono ?_; rintro e w2 ⟨rfl, rfl⟩)
        go_round
        case rel => exact ⟨k + 1, by omega, by go_num, by rw [HT.out]; go_num⟩
        case measure => simp [intOf]; omega
      · obtain rfl : k = r.length := by omega
        rw [take_len]
        obtain ⟨q0, q1, f0, f1⟩ := HQ.out
        generalize sizeS r = n at *
        go_wp2_with (go_at_call 68; refine (KR.out _ hbd _).mono ?_; rintro e w2 ⟨rfl, hb2⟩; have HB2 := Lib.hid hb2; obtain ⟨hc2, hf2⟩ := bcell hb2; have p0 : w2.cell? ⟨w0.heap.size, 0, none⟩ = some (.int .i64 0) := (hc2 _ _ hz1).trans q0; have p1 : w2.cell? ⟨w0.heap.size, 1, none⟩ = some (.int .i64 0) := (hc2 _ _ hz1).trans q1; have g0 : w2.frozen? ⟨w0.heap.size, 0, none⟩ = false := (hf2 _ _ hz1).trans f0; have g1 : w2.frozen? ⟨w0.heap.size, 1, none⟩ = false := (hf2 _ _ hz1).trans f1; clear hc2 hf2 hb2)
        exact bodyPost_ret (v := tripV (rat (n : Int) 1326)) (by simp [results, Tryd.results35, go_sem, p0, p1]) rfl ⟨rfl, by
          repeat (first | exact bl_refl _ | exact bl_trans HB.out HB2.out | apply bl_alloc | apply bl_drewN | apply bl_drew | (refine bl_set ?_ (by first | exact Nat.le_refl _ | (simp; done) | (simp; omega)) _))⟩
  · have hf : rngB r = false := by simpa using h
    rw [hf] at K
    rw [share_no hf]
    clear hr h hf
    go_enter Tryd.func35, Tryd.ntmps35
    go_wp2_with (go_at_call 66; refine (K.out _ _ (bl_alloc (bl_refl _) _)).mono ?_; rintro e w1 ⟨rfl, hb1⟩; obtain ⟨hc1, hf1⟩ := bcell hb1; have hz1 : w.heap.size < w1.heap.size := sz_new hb1; have q0 : w1.cell? ⟨w.heap.size, 0, none⟩ = some (.int .i64 0) := (hc1 _ _ (by simp)).trans (by simp [go_sem]); have q1 : w1.cell? ⟨w.heap.size, 1, none⟩ = some (.int .i64 0) := (hc1 _ _ (by simp)).trans (by simp [go_sem]))
    exact bodyPost_ret (v := resV 0 0 1) (by simp [results, Tryd.results35, go_sem, q0, q1]) rfl ⟨rfl, by
      repeat (first | exact bl_refl _ | (refine bl_trans ?_ (by assumption)) | apply bl_alloc | apply bl_drewN | apply bl_drew | (refine bl_set ?_ (by first | exact Nat.le_refl _ | (simp; done) | (simp; omega)) _))⟩
end Go.Proofs.YtjmfecjgomkofabDoor
