/-
  BestHigh, BestFive, CompareHigh: what they answer, and the program's walks.
-/
import Derived.Test.YtcbfmfkahgfjkaaDoorBestImpl
namespace Go.Proofs.YtcbfmfkahgfjkaaDoor
open Go.RowKit
set_option linter.unusedVariables false

/-- The best five, and their value. -/
def bfS (xs : List Int) : List Int := bestF xs (ch 5 xs).length
def bvS (xs : List Int) : Int := bestV xs (ch 5 xs).length
def bhR (xs : List Int) : Int := if sizedB xs 5 8 = true then bvS xs else 0
def bfR (xs : List Int) : List Int := if sizedB xs 5 8 = true then bfS xs else []
def bothB (xs ys : List Int) : Bool := sizedB xs 5 8 && sizedB ys 5 8
def cmpR (xs ys : List Int) : Int := if bothB xs ys = true then cmpI (bvS xs) (bvS ys) else 0
def cmpC (xs ys : List Int) : Int := if bothB xs ys = true then 0 else 1
theorem bhR_yes {xs : List Int} (h : sizedB xs 5 8 = true) : bhR xs = bvS xs := by unfold bhR; rw [if_pos h]
theorem bhR_no {xs : List Int} (h : sizedB xs 5 8 = false) : bhR xs = 0 := by unfold bhR; rw [h]; rfl
theorem bfR_yes {xs : List Int} (h : sizedB xs 5 8 = true) : bfR xs = bfS xs := by unfold bfR; rw [if_pos h]
theorem bfR_no {xs : List Int} (h : sizedB xs 5 8 = false) : bfR xs = [] := by unfold bfR; rw [h]; rfl
theorem cmpR_yes {xs ys : List Int} (h : sizedB xs 5 8 = true) (h2 : sizedB ys 5 8 = true) : cmpR xs ys = cmpI (bvS xs) (bvS ys) := by unfold cmpR bothB; rw [h, h2]; rfl
theorem cmpR_no {xs ys : List Int} (h : sizedB xs 5 8 = false) : cmpR xs ys = 0 := by unfold cmpR bothB; rw [h]; rfl
theorem cmpR_no2 {xs ys : List Int} (h : sizedB ys 5 8 = false) : cmpR xs ys = 0 := by unfold cmpR bothB; rw [h, Bool.and_false]; rfl
theorem cmpC_yes {xs ys : List Int} (h : sizedB xs 5 8 = true) (h2 : sizedB ys 5 8 = true) : cmpC xs ys = 0 := by unfold cmpC bothB; rw [h, h2]; rfl
theorem cmpC_no {xs ys : List Int} (h : sizedB xs 5 8 = false) : cmpC xs ys = 1 := by unfold cmpC bothB; rw [h]; rfl
theorem cmpC_no2 {xs ys : List Int} (h : sizedB ys 5 8 = false) : cmpC xs ys = 1 := by unfold cmpC bothB; rw [h, Bool.and_false]; rfl
theorem sized8 {xs : List Int} (h : sizedB xs 5 8 = true) : 5 ≤ xs.length ∧ xs.length ≤ 8 ∧ cardsB xs = true := by
  obtain ⟨a, b, c⟩ := sized_iff.1 h
  exact ⟨by omega, by omega, c⟩
theorem bvS_bd {xs : List Int} (h : cardsB xs = true) : -1 ≤ bvS xs ∧ bvS xs < 3341637 := bestV_pos xs h _ (Nat.le_refl _)
theorem bfS_five {xs : List Int} (h : cardsB xs = true) : ∃ b0 b1 b2 b3 b4, bfS xs = [b0, b1, b2, b3, b4] := list_five _ (bestF_len xs h _ (Nat.le_refl _))
theorem bestHigh_lit (A : Option Addr) (c : Nat) (xs : List Int) (B : Nat) (wt w : World) (ht : Hid (Low B wt)) (hB : Hid (Below B wt w)) (hBw : Hid (B ≤ w.heap.size)) (hr : Rd w A xs) (h : sizedB xs 5 8 = true) (b0 b1 b2 b3 b4 : Int) (hb : bfS xs = [b0, b1, b2, b3, b4]) :
    Calls Tryd.prog 57 #[.slice A xs.length c] w (Fresh (.tuple #[.agg #[.int .i64 b0, .int .i64 b1, .int .i64 b2, .int .i64 b3, .int .i64 b4], .int .i64 (bvS xs)]) w) :=
  (bestHigh_any A c xs B wt w ht hB hBw hr (sized8 h).1 (sized8 h).2.1 (sized8 h).2.2).mono fun e w' ⟨he, hb'⟩ => ⟨by
    have e1 : bestF xs (ch 5 xs).length = [b0, b1, b2, b3, b4] := hb
    rw [he, e1]; rfl, hb'⟩
set_option maxRecDepth 100000 in
set_option maxHeartbeats 2000000 in
theorem implBestHigh_any (A : Option Addr) (c : Nat) (xs : List Int) (B : Nat) (wt w : World) (ht : Hid (Low B wt)) (hB : Hid (Below B wt w)) (hBw : Hid (B ≤ w.heap.size)) (hr : Rd w A xs) (hn : xs.length ≤ 4000000) :
    Calls Tryd.prog 25 #[.slice A xs.length c] w (Fresh (pairV (bhR xs) (codeZ xs 5 8)) w) := by
  have K := Lib.hid (fun (c : Nat) => implSized_any A c xs 5 8 w hr hn)
  rcases hd : sizedB xs 5 8 with _ | _
  · rw [bhR_no hd, codeZ_no hd]
    rw [hd] at K
    clear hd hr
    go_enter Tryd.func25, Tryd.ntmps25
    go_wp2_with (go_at_call 49; refine (K.out _).mono ?_; rintro e w1 ⟨rfl, rfl⟩)
    go_ret2
    exact ⟨rfl, bl_refl _⟩
  · rw [bhR_yes hd, codeZ_yes hd]
    rw [hd] at K
    obtain ⟨h5, h8, hb⟩ := sized8 hd
    obtain ⟨b0, b1, b2, b3, b4, eb⟩ := bfS_five hb
    have K2 := Lib.hid (bestHigh_lit A c xs B wt w ht hB hBw hr hd b0 b1 b2 b3 b4 eb)
    have EB := Lib.hid eb
    generalize bvS xs = v at *
    clear hd hr hb hn h5 h8 ht hB hBw eb
    go_enter Tryd.func25, Tryd.ntmps25
    go_wp2_with (first
      | (go_at_call 49; refine (K.out _).mono ?_; rintro e w1 ⟨rfl, rfl⟩)
      | (go_at_call 57; refine K2.out.mono ?_; rintro e w1 ⟨rfl, hb⟩; have HB := Lib.hid hb; clear hb))
    go_ret2
    exact ⟨rfl, bl_alloc HB.out _⟩
set_option maxRecDepth 100000 in
set_option maxHeartbeats 2000000 in
theorem implBestFive_any (A : Option Addr) (c : Nat) (xs : List Int) (B : Nat) (wt w : World) (ht : Hid (Low B wt)) (hB : Hid (Below B wt w)) (hBw : Hid (B ≤ w.heap.size)) (hr : Rd w A xs) (hn : xs.length ≤ 4000000) :
    Calls Tryd.prog 27 #[.slice A xs.length c] w (NewRC (bfR xs) (codeZ xs 5 8) w) := by
  have K := Lib.hid (fun (c : Nat) => implSized_any A c xs 5 8 w hr hn)
  rcases hd : sizedB xs 5 8 with _ | _
  · rw [bfR_no hd, codeZ_no hd]
    rw [hd] at K
    clear hd hr
    go_enter Tryd.func27, Tryd.ntmps27
    go_wp2_with (go_at_call 49; refine (K.out _).mono ?_; rintro e w1 ⟨rfl, rfl⟩)
    go_ret2
    exact ⟨none, 0, rfl, Row.nil _ _, bl_refl _⟩
  · rw [bfR_yes hd, codeZ_yes hd]
    rw [hd] at K
    obtain ⟨h5, h8, hb⟩ := sized8 hd
    obtain ⟨b0, b1, b2, b3, b4, eb⟩ := bfS_five hb
    have K2 := Lib.hid (bestHigh_lit A c xs B wt w ht hB hBw hr hd b0 b1 b2 b3 b4 eb)
    have EB := Lib.hid eb
    generalize bvS xs = v at *
    clear hd hr hb hn h5 h8 ht hB hBw eb
    go_enter Tryd.func27, Tryd.ntmps27
    go_wp2_with (first
      | (go_at_call 49; refine (K.out _).mono ?_; rintro e w1 ⟨rfl, rfl⟩)
      | (go_at_call 57; refine K2.out.mono ?_; rintro e w1 ⟨rfl, hb⟩; have HB := Lib.hid hb; clear hb))
    go_ret2
    rw [EB.out]
    exact ⟨some ⟨w1.heap.size, 0, none⟩, 5, rfl, row_blk (blk_new w1 51 (ints [b0, b1, b2, b3, b4])) HB.out.size, bl_alloc HB.out _⟩
set_option maxRecDepth 100000 in
set_option maxHeartbeats 4000000 in
theorem implCompareHigh_any (A : Option Addr) (c : Nat) (xs : List Int) (A2 : Option Addr) (c2 : Nat) (ys : List Int) (B : Nat) (wt w : World) (ht : Hid (Low B wt)) (hB : Hid (Below B wt w)) (hBw : Hid (B ≤ w.heap.size)) (hr : Rd w A xs) (hn : xs.length ≤ 4000000) (hr2 : Rd w A2 ys) (hn2 : ys.length ≤ 4000000) :
    Calls Tryd.prog 29 #[.slice A xs.length c, .slice A2 ys.length c2] w (Fresh (pairV (cmpR xs ys) (cmpC xs ys)) w) := by
  have K := Lib.hid (fun (c : Nat) => implSized_any A c xs 5 8 w hr hn)
  have L := Lib.hid (fun (c : Nat) => implSized_any A2 c ys 5 8 w hr2 hn2)
  rcases hd : sizedB xs 5 8 with _ | _
  · rw [cmpR_no hd, cmpC_no hd]
    rw [hd] at K
    clear hd hr hr2
    go_enter Tryd.func29, Tryd.ntmps29
    go_wp2_with (go_at_call 49; refine (K.out _).mono ?_; rintro e w1 ⟨rfl, rfl⟩)
    go_ret2
    exact ⟨rfl, bl_refl _⟩
  rcases hd2 : sizedB ys 5 8 with _ | _
  · rw [cmpR_no2 hd2, cmpC_no2 hd2]
    rw [hd] at K
    rw [hd2] at L
    clear hd hd2 hr hr2
    have hf : True := trivial
    go_enter Tryd.func29, Tryd.ntmps29
    go_wp2_with (first
      | (go_at_call 49; refine (K.out _).mono ?_; rintro e w1 ⟨rfl, rfl⟩; clear K)
      | (go_at_call 49; refine (L.out _).mono ?_; rintro e w1 ⟨rfl, rfl⟩))
    go_ret2
    exact ⟨rfl, bl_refl _⟩
  · rw [cmpR_yes hd hd2, cmpC_yes hd hd2]
    rw [hd] at K
    rw [hd2] at L
    obtain ⟨b0, b1, b2, b3, b4, eb⟩ := bfS_five (sized8 hd).2.2
    obtain ⟨d0, d1, d2, d3, d4, ed⟩ := bfS_five (sized8 hd2).2.2
    have K2 := Lib.hid (bestHigh_lit A c xs B wt w ht hB hBw hr hd b0 b1 b2 b3 b4 eb)
    have L2 := Lib.hid (fun (W : World) (hw : Below w.heap.size w W) => bestHigh_lit A2 c2 ys B wt W ht (Lib.hid (hB.out.trans (hw.mono hBw.out))) (Lib.hid (Nat.le_trans hBw.out hw.size)) (hr2.below hw) hd2 d0 d1 d2 d3 d4 ed)
    have KC := Lib.hid compare_any
    generalize bvS xs = v at *
    generalize bvS ys = v2 at *
    clear hd hd2 hr hr2 hn hn2 ht hB hBw eb ed
    go_enter Tryd.func29, Tryd.ntmps29
    go_wp2_with (first
      | (go_at_call 49; refine (K.out _).mono ?_; rintro e w1 ⟨rfl, rfl⟩; clear K)
      | (go_at_call 49; refine (L.out _).mono ?_; rintro e w1 ⟨rfl, rfl⟩)
      | (go_at_call 57; refine K2.out.mono ?_; rintro e w1 ⟨rfl, hb⟩; have HB := Lib.hid hb; clear hb K2)
      | (go_at_call 57; refine (L2.out _ (bl_alloc HB.out _)).mono ?_; rintro e w2 ⟨rfl, hb⟩; have HB2 := Lib.hid (bl_trans (bl_alloc HB.out _) hb); clear hb)
      | (go_at_call 59; refine (KC.out v v2 _).mono ?_; rintro e w3 ⟨rfl, rfl⟩))
    go_ret2
    exact ⟨rfl, bl_alloc HB2.out _⟩
end Go.Proofs.YtcbfmfkahgfjkaaDoor
