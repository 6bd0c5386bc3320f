/-
  HighValue, CategoryOf, KickersOf: both texts' walks; the tests of a list of cards of some size.
-/
import Derived.Test.YtcbfmfkahgfjkaaDoorHighImpl
import Derived.Test.YtcbfmfkahgfjkaaDoorRowBlk
namespace Go.Proofs.YtcbfmfkahgfjkaaDoor
open Go.RowKit
set_option linter.unusedVariables false

/-- The list are cards, as many as asked. -/
def sizedB (xs : List Int) (lo hi : Int) : Bool := decide (lo ≤ (xs.length : Int) ∧ (xs.length : Int) ≤ hi) && cardsB xs
theorem sized_lo {xs : List Int} {lo hi : Int} (h : ¬ lo ≤ (xs.length : Int)) : sizedB xs lo hi = false := by unfold sizedB; rw [decide_eq_false (by omega)]; rfl
theorem sized_hi {xs : List Int} {lo hi : Int} (h : ¬ (xs.length : Int) ≤ hi) : sizedB xs lo hi = false := by unfold sizedB; rw [decide_eq_false (by omega)]; rfl
theorem sized_in {xs : List Int} {lo hi : Int} (h : lo ≤ (xs.length : Int)) (h2 : (xs.length : Int) ≤ hi) : sizedB xs lo hi = cardsB xs := by unfold sizedB; rw [decide_eq_true ⟨h, h2⟩]; rfl
theorem sized_iff {xs : List Int} {lo hi : Int} : sizedB xs lo hi = true ↔ lo ≤ (xs.length : Int) ∧ (xs.length : Int) ≤ hi ∧ cardsB xs = true := by
  unfold sizedB; rw [Bool.and_eq_true, decide_eq_true_eq, and_assoc]
set_option maxRecDepth 100000 in
set_option maxHeartbeats 1000000 in
theorem implSized_any (A : Option Addr) (c : Nat) (xs : List Int) (lo hi : Int) (w : World) (hr : Rd w A xs) (hn : xs.length ≤ 4000000) :
    Calls Tryd.prog 49 #[.slice A xs.length c, .int .i64 lo, .int .i64 hi] w (Same (.bool (sizedB xs lo hi)) w) := by
  have K := Lib.hid (fun (c : Nat) => implAre_any A c xs w hr hn)
  clear hr
  by_cases h : lo ≤ (xs.length : Int)
  · by_cases h2 : (xs.length : Int) ≤ hi
    · have H := Lib.hid (sized_in h h2)
      go_enter Tryd.func49, Tryd.ntmps49
      go_wp2_with (go_at_call 73; refine (K.out _).mono ?_; rintro e w1 ⟨rfl, rfl⟩)
      go_ret
      exact ⟨ret_bool H.out.symm, rfl⟩
    · have H := Lib.hid (sized_hi (lo := lo) h2)
      have h2' : hi < (xs.length : Int) := by omega
      go_enter Tryd.func49, Tryd.ntmps49
      go_wp2_with fail
      go_ret
      exact ⟨ret_bool H.out.symm, rfl⟩
  · have H := Lib.hid (sized_lo (hi := hi) h)
    have h' : (xs.length : Int) < lo := by omega
    go_enter Tryd.func49, Tryd.ntmps49
    go_wp2_with fail
    go_ret
    exact ⟨ret_bool H.out.symm, rfl⟩
set_option maxRecDepth 100000 in
set_option maxHeartbeats 1000000 in
theorem specSized_any (A : Option Addr) (c : Nat) (xs : List Int) (lo hi : Int) (w : World) (hr : Rd w A xs) (hn : xs.length ≤ 4000000) :
    Calls Tryd.prog 47 #[.slice A xs.length c, .int .i64 lo, .int .i64 hi] w (Fresh (.bool (sizedB xs lo hi)) w) := by
  have K := Lib.hid (fun (c : Nat) => specAre_any A c xs w hr hn)
  clear hr
  by_cases h : lo ≤ (xs.length : Int)
  · by_cases h2 : (xs.length : Int) ≤ hi
    · have H := Lib.hid (sized_in h h2)
      go_enter Tryd.func47, Tryd.ntmps47
      go_wp2_with (go_at_call 71; refine (K.out _).mono ?_; rintro e w1 ⟨rfl, hb⟩; have HB := Lib.hid hb; clear hb)
      go_ret
      exact ⟨ret_bool H.out.symm, HB.out⟩
    · have H := Lib.hid (sized_hi (lo := lo) h2)
      have h2' : hi < (xs.length : Int) := by omega
      go_enter Tryd.func47, Tryd.ntmps47
      go_wp2_with fail
      go_ret
      exact ⟨ret_bool H.out.symm, bl_refl _⟩
  · have H := Lib.hid (sized_lo (hi := hi) h)
    have h' : (xs.length : Int) < lo := by omega
    go_enter Tryd.func47, Tryd.ntmps47
    go_wp2_with fail
    go_ret
    exact ⟨ret_bool H.out.symm, bl_refl _⟩

/-! What the functions answer. -/
def hvR (xs : List Int) : Int := if sizedB xs 5 5 = true then hv xs else 0
def catR (xs : List Int) : Int := if sizedB xs 5 5 = true then catS (rk xs) (flushB xs) else 0
def kickR (xs : List Int) : List Int := if sizedB xs 5 5 = true then kickS (rk xs) else []
def codeZ (xs : List Int) (lo hi : Int) : Int := if sizedB xs lo hi = true then 0 else 1
theorem hvR_yes {xs : List Int} (h : sizedB xs 5 5 = true) : hvR xs = hv xs := by unfold hvR; rw [if_pos h]
theorem hvR_no {xs : List Int} (h : sizedB xs 5 5 = false) : hvR xs = 0 := by unfold hvR; rw [h]; rfl
theorem catR_yes {xs : List Int} (h : sizedB xs 5 5 = true) : catR xs = catS (rk xs) (flushB xs) := by unfold catR; rw [if_pos h]
theorem catR_no {xs : List Int} (h : sizedB xs 5 5 = false) : catR xs = 0 := by unfold catR; rw [h]; rfl
theorem kickR_yes {xs : List Int} (h : sizedB xs 5 5 = true) : kickR xs = kickS (rk xs) := by unfold kickR; rw [if_pos h]
theorem kickR_no {xs : List Int} (h : sizedB xs 5 5 = false) : kickR xs = [] := by unfold kickR; rw [h]; rfl
theorem codeZ_yes {xs : List Int} {lo hi : Int} (h : sizedB xs lo hi = true) : codeZ xs lo hi = 0 := by unfold codeZ; rw [if_pos h]
theorem codeZ_no {xs : List Int} {lo hi : Int} (h : sizedB xs lo hi = false) : codeZ xs lo hi = 1 := by unfold codeZ; rw [h]; rfl
theorem sized5 {xs : List Int} (h : sizedB xs 5 5 = true) : xs.length = 5 ∧ cardsB xs = true := by
  obtain ⟨a, b, c⟩ := sized_iff.1 h
  exact ⟨by omega, c⟩
theorem catS_bd (rs : List Int) (o : Bool) : 0 ≤ catS rs o ∧ catS rs o ≤ 8 := by
  unfold catS
  repeat' split
  all_goals omega
theorem kick_facts (xs : List Int) (hb : cardsB xs = true) (h5 : xs.length = 5) : (kickS (rk xs)).length = 5 ∧ ranksOk (kickS (rk xs)) := by
  obtain ⟨k0, k1, k2, k3, k4, m, n, e1, e2, e3, hr, e4, e5⟩ := shape_facts xs hb h5
  rw [e4]
  exact ⟨rfl, hr⟩
theorem kickR_len (xs : List Int) : (kickR xs).length ≤ 5 := by
  rcases h : sizedB xs 5 5 with _ | _
  · rw [kickR_no h]; simp
  · rw [kickR_yes h, (kick_facts xs (sized5 h).2 (sized5 h).1).1]; omega
theorem hv_bd (xs : List Int) (hb : cardsB xs = true) (h5 : xs.length = 5) : 0 ≤ hv xs ∧ hv xs < 3341637 := by
  have h1 := catS_bd (rk xs) (flushB xs)
  obtain ⟨hl, hr⟩ := kick_facts xs hb h5
  have h2 := digs_le _ hr hl 5 (Nat.le_refl _)
  rw [List.take_of_length_le (by omega)] at h2
  unfold hv
  omega
theorem rd_rng {w : World} {b off : Nat} {xs : List Int} (h : ∀ i, i < xs.length → w.cell? ⟨b, off + i, none⟩ = some (.int .i64 (nth xs i))) : w.rangeAt b off (ints xs) := fun j v hv => by
  have hj : j < xs.length := by have := (List.getElem?_eq_some_iff.1 hv).1; rwa [ints_length] at this
  rw [ints_get xs j hj] at hv
  injection hv with hv
  rw [h j hj, hv]
/-- A slice of five cards as the address of an array. -/
theorem run_arr5 (b off c : Nat) (w : World) : (Instr.arrayAt 51 (.slice (some ⟨b, off, none⟩) 5 c)).run Tryd.prog w = .ok (.pointer (some ⟨b, off, none⟩)) w := by
  simp [Instr.arrayAt, run_underlying u51]

/-! The program's walks. -/
set_option maxRecDepth 100000 in
set_option maxHeartbeats 2000000 in
theorem implHighValue_any (A : Option Addr) (c : Nat) (xs : List Int) (B : Nat) (wt w : World) (ht : Hid (Low B wt)) (hB : Hid (Below B wt w)) (hBw : Hid (B ≤ w.heap.size)) (hr : Rd w A xs) (hn : xs.length ≤ 4000000) :
    Calls Tryd.prog 16 #[.slice A xs.length c] w (Fresh (pairV (hvR xs) (codeZ xs 5 5)) w) := by
  have K := Lib.hid (fun (c : Nat) => implSized_any A c xs 5 5 w hr hn)
  rcases hd : sizedB xs 5 5 with _ | _
  · rw [hvR_no hd, codeZ_no hd]
    rw [hd] at K
    clear hd hr
    go_enter Tryd.func16, Tryd.ntmps16
    go_wp2_with (go_at_call 49; refine (K.out _).mono ?_; rintro e w1 ⟨rfl, rfl⟩)
    go_ret2
    exact ⟨rfl, bl_refl _⟩
  · rw [hvR_yes hd, codeZ_yes hd]
    rw [hd] at K
    obtain ⟨h5, hb⟩ := sized5 hd
    obtain ⟨b, off, rfl, hc⟩ := hr (by omega)
    have HC := Lib.hid (rd_rng hc)
    have L5 : Hid ((ints xs).length = 5) := Lib.hid (by rw [ints_length]; exact h5)
    have hsa := run_arr5 b off c
    have K2 := Lib.hid (fiveValue_any xs hb h5 B wt w ht hB hBw)
    simp only [h5] at K ⊢
    clear hd hr hc hb hn h5 ht hB hBw
    unfold aggI at *
    go_enter Tryd.func16, Tryd.ntmps16
    go_wp2_with (first
      | (go_at_call 49; refine (K.out _).mono ?_; rintro e w1 ⟨rfl, rfl⟩)
      | (with_reducible refine wpList_load_blk 51 _ 5 rfl (.tmp 8) rfl u51 rfl i51 b off rfl (ints xs) L5.out HC.out ?_)
      | (go_at_call 50; refine K2.out.mono ?_; rintro e w1 ⟨rfl, hb⟩; have HB := Lib.hid hb; clear hb))
    go_ret2
    exact ⟨rfl, HB.out⟩
set_option maxRecDepth 100000 in
set_option maxHeartbeats 2000000 in
theorem implCategoryOf_any (A : Option Addr) (c : Nat) (xs : List Int) (B : Nat) (wt w : World) (ht : Hid (Low B wt)) (hB : Hid (Below B wt w)) (hBw : Hid (B ≤ w.heap.size)) (hr : Rd w A xs) (hn : xs.length ≤ 4000000) :
    Calls Tryd.prog 19 #[.slice A xs.length c] w (Fresh (pairV (catR xs) (codeZ xs 5 5)) w) := by
  have K := Lib.hid (fun (c : Nat) => implSized_any A c xs 5 5 w hr hn)
  rcases hd : sizedB xs 5 5 with _ | _
  · rw [catR_no hd, codeZ_no hd]
    rw [hd] at K
    clear hd hr
    go_enter Tryd.func19, Tryd.ntmps19
    go_wp2_with (go_at_call 49; refine (K.out _).mono ?_; rintro e w1 ⟨rfl, rfl⟩)
    go_ret2
    exact ⟨rfl, bl_refl _⟩
  · rw [catR_yes hd, codeZ_yes hd]
    rw [hd] at K
    obtain ⟨h5, hb⟩ := sized5 hd
    obtain ⟨b, off, rfl, hc⟩ := hr (by omega)
    have HC := Lib.hid (rd_rng hc)
    have L5 : Hid ((ints xs).length = 5) := Lib.hid (by rw [ints_length]; exact h5)
    have hsa := run_arr5 b off c
    obtain ⟨k0, k1, k2, k3, k4, m, n, e1, e2, e3, hrr, e4, e5⟩ := shape_facts xs hb h5
    have K2 := Lib.hid (highShape_of xs hb h5 k0 k1 k2 k3 k4 m n e1 e2 e3 B wt w ht hB hBw)
    have b0 := hrr k0 (by simp)
    have b4 := hrr k4 (by simp)
    have K3 := Lib.hid (fun (W : World) (hb' : Below w.heap.size w W) => category_any k0 k1 k2 k3 k4 m n (flushB xs) B wt W ht (Lib.hid (hB.out.trans (hb'.mono hBw.out))) (Lib.hid (Nat.le_trans hBw.out hb'.size)) b0.1 b0.2 b4.1 b4.2)
    rw [e5] at K3
    generalize catS (rk xs) (flushB xs) = cc at *
    clear e1 e2 e3 hrr e4 e5 b0 b4
    simp only [h5] at K ⊢
    clear hd hr hc hb hn h5 ht hB hBw
    unfold aggI at *
    go_enter Tryd.func19, Tryd.ntmps19
    go_wp2_with (first
      | (go_at_call 49; refine (K.out _).mono ?_; rintro e w1 ⟨rfl, rfl⟩)
      | (with_reducible refine wpList_load_blk 51 _ 5 rfl (.tmp 8) rfl u51 rfl i51 b off rfl (ints xs) L5.out HC.out ?_)
      | (go_at_call 52; refine K2.out.mono ?_; rintro e w1 ⟨rfl, hb1⟩; have HB := Lib.hid hb1; clear hb1)
      | (go_at_call 53; refine (K3.out _ HB.out).mono ?_; rintro e w2 ⟨rfl, hb2⟩; have HB2 := Lib.hid (bl_trans HB.out hb2); clear hb2))
    go_ret2
    exact ⟨rfl, HB2.out⟩
/-- The ranks as a slice of new memory. -/
def ListNew (k0 k1 k2 k3 k4 : Int) (w : World) (e : Ending) (w' : World) : Prop := e = .returned (.slice (some ⟨w.heap.size, 0, none⟩) 5 5) ∧ w' = w.alloc (.cells #[.int .i64 k0, .int .i64 k1, .int .i64 k2, .int .i64 k3, .int .i64 k4] 53)
set_option maxRecDepth 100000 in
theorem run_field55 (k0 k1 k2 k3 k4 m n : Int) (o : Bool) (W : World) : (Instr.field 55 (shp k0 k1 k2 k3 k4 m n o) 0).run Tryd.prog W = .ok (.agg #[.int .i64 k0, .int .i64 k1, .int .i64 k2, .int .i64 k3, .int .i64 k4]) W := by
  simp [Instr.field, run_underlying Tryd.underlying55, part, isAgg, run_underlying u53, asAgg]
set_option maxRecDepth 100000 in
set_option maxHeartbeats 400000 in
theorem ranksList_any (k0 k1 k2 k3 k4 : Int) (w : World) :
    Calls Tryd.prog 55 #[.agg #[.int .i64 k0, .int .i64 k1, .int .i64 k2, .int .i64 k3, .int .i64 k4]] w (ListNew k0 k1 k2 k3 k4 w) := by
  go_enter Tryd.func55, Tryd.ntmps55
  go_wp2_with fail
  go_ret
  exact ⟨rfl, rfl⟩
set_option maxRecDepth 100000 in
set_option maxHeartbeats 2000000 in
theorem implKickersOf_any (A : Option Addr) (c : Nat) (xs : List Int) (B : Nat) (wt w : World) (ht : Hid (Low B wt)) (hB : Hid (Below B wt w)) (hBw : Hid (B ≤ w.heap.size)) (hr : Rd w A xs) (hn : xs.length ≤ 4000000) :
    Calls Tryd.prog 21 #[.slice A xs.length c] w (NewRC (kickR xs) (codeZ xs 5 5) w) := by
  have K := Lib.hid (fun (c : Nat) => implSized_any A c xs 5 5 w hr hn)
  rcases hd : sizedB xs 5 5 with _ | _
  · rw [kickR_no hd, codeZ_no hd]
    rw [hd] at K
    clear hd hr
    go_enter Tryd.func21, Tryd.ntmps21
    go_wp2_with (go_at_call 49; refine (K.out _).mono ?_; rintro e w1 ⟨rfl, rfl⟩)
    go_ret2
    exact ⟨none, 0, rfl, Row.nil _ _, bl_refl _⟩
  · rw [kickR_yes hd, codeZ_yes hd]
    rw [hd] at K
    obtain ⟨h5, hb⟩ := sized5 hd
    obtain ⟨b, off, rfl, hc⟩ := hr (by omega)
    have HC := Lib.hid (rd_rng hc)
    have L5 : Hid ((ints xs).length = 5) := Lib.hid (by rw [ints_length]; exact h5)
    have hsa := run_arr5 b off c
    obtain ⟨k0, k1, k2, k3, k4, m, n, e1, e2, e3, hrr, e4, e5⟩ := shape_facts xs hb h5
    have K2 := Lib.hid (highShape_of xs hb h5 k0 k1 k2 k3 k4 m n e1 e2 e3 B wt w ht hB hBw)
    have EK := Lib.hid e4
    have hfl := fun W => run_field55 k0 k1 k2 k3 k4 m n (flushB xs) W
    generalize kickS (rk xs) = kl at *
    clear e1 e2 e3 hrr e4 e5
    simp only [h5] at K ⊢
    clear hd hr hc hb hn h5 ht hB hBw
    unfold aggI at *
    go_enter Tryd.func21, Tryd.ntmps21
    go_wp2_with (first
      | (go_at_call 49; refine (K.out _).mono ?_; rintro e w1 ⟨rfl, rfl⟩)
      | (with_reducible refine wpList_load_blk 51 _ 5 rfl (.tmp 8) rfl u51 rfl i51 b off rfl (ints xs) L5.out HC.out ?_)
      | (go_at_call 52; refine K2.out.mono ?_; rintro e w1 ⟨rfl, hb1⟩; have HB := Lib.hid hb1; clear hb1)
      | (go_at_call 55; refine (ranksList_any k0 k1 k2 k3 k4 _).mono ?_; rintro e w2 ⟨rfl, rfl⟩))
    go_ret2
    rw [EK.out]
    exact ⟨some ⟨w1.heap.size, 0, none⟩, 5, rfl, row_blk (blk_new w1 53 (ints [k0, k1, k2, k3, k4])) HB.out.size, bl_alloc HB.out _⟩

/-! The model's walks. -/
set_option maxRecDepth 100000 in
set_option maxHeartbeats 1000000 in
theorem l04Value_any (A : Option Addr) (c : Nat) (xs : List Int) (w : World) (hr : Rd w A xs) (h5 : xs.length = 5) (hb : cardsB xs = true) :
    Calls Tryd.prog 48 #[.slice A 5 c] w (Fresh (.int .i64 (hv xs)) w) := by
  obtain ⟨hrk, h4⟩ := rk_facts xs hb
  obtain ⟨hl, hkr⟩ := kick_facts xs hb h5
  have K1 := Lib.hid (fun (c : Nat) => l04Category_any A c xs w hr h5 hb h4)
  have K2 := Lib.hid (fun (c : Nat) (W : World) (h : Below w.heap.size w W) => l04Kickers_any A c xs W (hr.below h) (by omega) hb)
  simp only [h5] at K2
  have K3 := Lib.hid (fun (A1 : Option Addr) (c1 : Nat) (W : World) (h : Rd W A1 (kickS (rk xs))) => l04Digits_any A1 c1 (kickS (rk xs)) W h hl hkr)
  have hc := catS_bd (rk xs) (flushB xs)
  have hd := digs_le _ hkr hl 5 (Nat.le_refl _)
  rw [List.take_of_length_le (by omega)] at hd
  have EV : Hid (hv xs = 371293 * catS (rk xs) (flushB xs) + digs (kickS (rk xs))) := Lib.hid rfl
  have HL := Lib.hid hl
  generalize catS (rk xs) (flushB xs) = cc at *
  generalize digs (kickS (rk xs)) = dd at *
  generalize kickS (rk xs) = kl at *
  clear hr h5 hb hrk h4 hl hkr
  go_enter Tryd.func48, Tryd.ntmps48
  go_wp2_with (first
    | (go_at_call 51; refine (K1.out _).mono ?_; rintro e w1 ⟨rfl, hb1⟩; have B1 := Lib.hid hb1; clear hb1)
    | (go_at_call 54; refine (K2.out _ _ B1.out).mono ?_; rintro e w2 ⟨A2, c2, rfl, ho2, hb2⟩; rw [HL.out]; have R2 := Lib.hid ho2.rd; have B2 := Lib.hid (bl_trans B1.out hb2); clear ho2 hb2)
    | (go_at_call 72; refine (K3.out _ _ _ R2.out).mono ?_; rintro e w3 ⟨rfl, rfl⟩))
  go_ret
  exact ⟨ret_int EV.out.symm, B2.out⟩
set_option maxRecDepth 100000 in
set_option maxHeartbeats 1000000 in
theorem specHighValue_any (A : Option Addr) (c : Nat) (xs : List Int) (w : World) (hr : Rd w A xs) (hn : xs.length ≤ 4000000) :
    Calls Tryd.prog 14 #[.slice A xs.length c] w (Fresh (pairV (hvR xs) (codeZ xs 5 5)) w) := by
  have K := Lib.hid (fun (c : Nat) => specSized_any A c xs 5 5 w hr hn)
  rcases hd : sizedB xs 5 5 with _ | _
  · rw [hvR_no hd, codeZ_no hd]
    rw [hd] at K
    clear hd hr
    go_enter Tryd.func14, Tryd.ntmps14
    go_wp2_with (go_at_call 47; refine (K.out _).mono ?_; rintro e w1 ⟨rfl, hb1⟩; have B1 := Lib.hid hb1; clear hb1)
    go_ret2
    exact ⟨rfl, B1.out⟩
  · rw [hvR_yes hd, codeZ_yes hd]
    rw [hd] at K
    obtain ⟨h5, hb⟩ := sized5 hd
    obtain ⟨hrk, h4⟩ := rk_facts xs hb
    have K2 := Lib.hid (fun (c : Nat) (W : World) (h : Below w.heap.size w W) => l04Value_any A c xs W (hr.below h) h5 hb)
    simp only [h5] at K ⊢
    clear hd hr hb hn h5 hrk h4
    go_enter Tryd.func14, Tryd.ntmps14
    go_wp2_with (first
      | (go_at_call 47; refine (K.out _).mono ?_; rintro e w1 ⟨rfl, hb1⟩; have B1 := Lib.hid hb1; clear hb1)
      | (go_at_call 48; refine (K2.out _ _ B1.out).mono ?_; rintro e w2 ⟨rfl, hb2⟩; have B2 := Lib.hid (bl_trans B1.out hb2); clear hb2))
    go_ret2
    exact ⟨rfl, B2.out⟩
set_option maxRecDepth 100000 in
set_option maxHeartbeats 1000000 in
theorem specCategoryOf_any (A : Option Addr) (c : Nat) (xs : List Int) (w : World) (hr : Rd w A xs) (hn : xs.length ≤ 4000000) :
    Calls Tryd.prog 18 #[.slice A xs.length c] w (Fresh (pairV (catR xs) (codeZ xs 5 5)) w) := by
  have K := Lib.hid (fun (c : Nat) => specSized_any A c xs 5 5 w hr hn)
  rcases hd : sizedB xs 5 5 with _ | _
  · rw [catR_no hd, codeZ_no hd]
    rw [hd] at K
    clear hd hr
    go_enter Tryd.func18, Tryd.ntmps18
    go_wp2_with (go_at_call 47; refine (K.out _).mono ?_; rintro e w1 ⟨rfl, hb1⟩; have B1 := Lib.hid hb1; clear hb1)
    go_ret2
    exact ⟨rfl, B1.out⟩
  · rw [catR_yes hd, codeZ_yes hd]
    rw [hd] at K
    obtain ⟨h5, hb⟩ := sized5 hd
    obtain ⟨hrk, h4⟩ := rk_facts xs hb
    have K2 := Lib.hid (fun (c : Nat) (W : World) (h : Below w.heap.size w W) => l04Category_any A c xs W (hr.below h) h5 hb h4)
    simp only [h5] at K ⊢
    clear hd hr hb hn h5 hrk h4
    go_enter Tryd.func18, Tryd.ntmps18
    go_wp2_with (first
      | (go_at_call 47; refine (K.out _).mono ?_; rintro e w1 ⟨rfl, hb1⟩; have B1 := Lib.hid hb1; clear hb1)
      | (go_at_call 51; refine (K2.out _ _ B1.out).mono ?_; rintro e w2 ⟨rfl, hb2⟩; have B2 := Lib.hid (bl_trans B1.out hb2); clear hb2))
    go_ret2
    exact ⟨rfl, B2.out⟩
set_option maxRecDepth 100000 in
set_option maxHeartbeats 1000000 in
theorem specKickersOf_any (A : Option Addr) (c : Nat) (xs : List Int) (w : World) (hr : Rd w A xs) (hn : xs.length ≤ 4000000) :
    Calls Tryd.prog 20 #[.slice A xs.length c] w (NewLC (kickR xs) (codeZ xs 5 5) w) := by
  have K := Lib.hid (fun (c : Nat) => specSized_any A c xs 5 5 w hr hn)
  rcases hd : sizedB xs 5 5 with _ | _
  · rw [kickR_no hd, codeZ_no hd]
    rw [hd] at K
    clear hd hr
    go_enter Tryd.func20, Tryd.ntmps20
    go_wp2_with (go_at_call 47; refine (K.out _).mono ?_; rintro e w1 ⟨rfl, hb1⟩; have B1 := Lib.hid hb1; clear hb1)
    go_ret2
    exact ⟨none, 0, rfl, Own.nil _ _, B1.out⟩
  · rw [kickR_yes hd, codeZ_yes hd]
    rw [hd] at K
    obtain ⟨h5, hb⟩ := sized5 hd
    obtain ⟨hrk, h4⟩ := rk_facts xs hb
    have K2 := Lib.hid (fun (c : Nat) (W : World) (h : Below w.heap.size w W) => l04Kickers_any A c xs W (hr.below h) (by omega) hb)
    simp only [h5] at K2
    simp only [h5] at K ⊢
    clear hd hr hb hn h5 hrk h4
    go_enter Tryd.func20, Tryd.ntmps20
    go_wp2_with (first
      | (go_at_call 47; refine (K.out _).mono ?_; rintro e w1 ⟨rfl, hb1⟩; have B1 := Lib.hid hb1; clear hb1)
      | (go_at_call 54; refine (K2.out _ _ B1.out).mono ?_; rintro e w2 ⟨A2, c2, rfl, ho2, hb2⟩))
    go_ret2
    exact ⟨_, _, rfl, ho2.less B1.out.size, bl_trans B1.out hb2⟩
end Go.Proofs.YtcbfmfkahgfjkaaDoor
