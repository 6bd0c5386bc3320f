/-
  The tests of the categories but for the straights, and the table of all categories.
-/
import Derived.Test.YtcbfmfkahgfjkaaDoorLowImpl
namespace Go.Proofs.YtcbfmfkahgfjkaaDoor
open Go.RowKit
set_option linter.unusedVariables false

set_option maxRecDepth 100000 in
set_option maxHeartbeats 1000000 in
theorem isAny_any (k0 k1 k2 k3 k4 : Int) (m n : Nat) (o : Bool) (w : World) :
    Calls Tryd.prog 84 #[shp k0 k1 k2 k3 k4 m n o] w (Fresh (.bool true) w) := by
  go_enter Tryd.func84, Tryd.ntmps84
  go_wp2_with fail
  go_ret
  exact ⟨ret_bool (by simp), bl_alloc (bl_refl w) _⟩
set_option maxRecDepth 100000 in
set_option maxHeartbeats 1000000 in
theorem hasPair_any (k0 k1 k2 k3 k4 : Int) (m n : Nat) (o : Bool) (w : World) :
    Calls Tryd.prog 85 #[shp k0 k1 k2 k3 k4 m n o] w (Fresh (.bool (decide (2 ≤ m))) w) := by
  go_enter Tryd.func85, Tryd.ntmps85
  go_wp2_with fail
  go_ret
  exact ⟨ret_bool (by rw [Bool.eq_iff_iff]; simp <;> omega), bl_alloc (bl_refl w) _⟩
set_option maxRecDepth 100000 in
set_option maxHeartbeats 1000000 in
theorem hasTriple_any (k0 k1 k2 k3 k4 : Int) (m n : Nat) (o : Bool) (w : World) :
    Calls Tryd.prog 87 #[shp k0 k1 k2 k3 k4 m n o] w (Fresh (.bool (decide (3 ≤ m))) w) := by
  go_enter Tryd.func87, Tryd.ntmps87
  go_wp2_with fail
  go_ret
  exact ⟨ret_bool (by rw [Bool.eq_iff_iff]; simp <;> omega), bl_alloc (bl_refl w) _⟩
set_option maxRecDepth 100000 in
set_option maxHeartbeats 1000000 in
theorem isFlush_any (k0 k1 k2 k3 k4 : Int) (m n : Nat) (o : Bool) (w : World) :
    Calls Tryd.prog 89 #[shp k0 k1 k2 k3 k4 m n o] w (Fresh (.bool o) w) := by
  go_enter Tryd.func89, Tryd.ntmps89
  go_wp2_with fail
  go_ret
  exact ⟨ret_bool (by simp), bl_alloc (bl_refl w) _⟩
set_option maxRecDepth 100000 in
set_option maxHeartbeats 1000000 in
theorem hasQuadruple_any (k0 k1 k2 k3 k4 : Int) (m n : Nat) (o : Bool) (w : World) :
    Calls Tryd.prog 91 #[shp k0 k1 k2 k3 k4 m n o] w (Fresh (.bool (decide (m = 4))) w) := by
  go_enter Tryd.func91, Tryd.ntmps91
  go_wp2_with fail
  go_ret
  exact ⟨ret_bool (by rw [Bool.eq_iff_iff]; simp <;> omega), bl_alloc (bl_refl w) _⟩
set_option maxRecDepth 100000 in
set_option maxHeartbeats 1000000 in
theorem hasTwoPairs_any (k0 k1 k2 k3 k4 : Int) (m n : Nat) (o : Bool) (w : World) :
    Calls Tryd.prog 86 #[shp k0 k1 k2 k3 k4 m n o] w (Fresh (.bool (decide (2 ≤ m ∧ 2 ≤ n))) w) := by
  by_cases h : 2 ≤ m
  · have h' : (2 : Int) ≤ (m : Int) := by omega
    go_enter Tryd.func86, Tryd.ntmps86
    go_wp2_with fail
    go_ret
    exact ⟨ret_bool (by first | (rw [Bool.eq_iff_iff]; done) | (rw [Bool.eq_iff_iff]; simp [h] <;> omega)), bl_alloc (bl_refl w) _⟩
  · have h' : ¬ (2 : Int) ≤ (m : Int) := by omega
    go_enter Tryd.func86, Tryd.ntmps86
    go_wp2_with fail
    go_ret
    exact ⟨ret_bool (by first | (rw [Bool.eq_iff_iff]; done) | (rw [Bool.eq_iff_iff]; simp [h] <;> omega)), bl_alloc (bl_refl w) _⟩
set_option maxRecDepth 100000 in
set_option maxHeartbeats 1000000 in
theorem isFullHouse_any (k0 k1 k2 k3 k4 : Int) (m n : Nat) (o : Bool) (w : World) :
    Calls Tryd.prog 90 #[shp k0 k1 k2 k3 k4 m n o] w (Fresh (.bool (decide (m = 3 ∧ n = 2))) w) := by
  by_cases h : m = 3
  · have h' : ((m : Int) == 3) = true := by subst h; rfl
    go_enter Tryd.func90, Tryd.ntmps90
    go_wp2_with fail
    go_ret
    exact ⟨ret_bool (by first | (rw [Bool.eq_iff_iff]; done) | (rw [Bool.eq_iff_iff]; simp [h] <;> omega)), bl_alloc (bl_refl w) _⟩
  · have h' : ((m : Int) == 3) = false := by simp <;> omega
    go_enter Tryd.func90, Tryd.ntmps90
    go_wp2_with fail
    go_ret
    exact ⟨ret_bool (by first | (rw [Bool.eq_iff_iff]; done) | (rw [Bool.eq_iff_iff]; simp [h] <;> omega)), bl_alloc (bl_refl w) _⟩
set_option maxRecDepth 100000 in
set_option maxHeartbeats 4000000 in
theorem isStraightFlush_any (k0 k1 k2 k3 k4 : Int) (m n : Nat) (o : Bool) (B : Nat) (wt w : World) (ht : Hid (Low B wt)) (hB : Hid (Below B wt w)) (hBw : Hid (B ≤ w.heap.size)) (h0 : 0 ≤ k0) (h1 : k0 < 13) (h2 : 0 ≤ k4) (h3 : k4 < 13) :
    Calls Tryd.prog 92 #[shp k0 k1 k2 k3 k4 m n o] w (Fresh (.bool (strI [k0, k1, k2, k3, k4] m && o)) w) := by
  have K1 := Lib.hid (fun (W : World) (hb : Below w.heap.size w W) => isStraight_any k0 k1 k2 k3 k4 m n o B wt W ht (Lib.hid (hB.out.trans (hb.mono hBw.out))) (Lib.hid (Nat.le_trans hBw.out hb.size)) h0 h1 h2 h3)
  have K2 := Lib.hid (fun (W : World) => isFlush_any k0 k1 k2 k3 k4 m n o W)
  have b0 := Lib.hid (bl_alloc (bl_refl w) (.cells #[.int .i64 k0, .int .i64 k1, .int .i64 k2, .int .i64 k3, .int .i64 k4, .int .i64 m, .int .i64 n, .bool o] 55))
  rcases hs : strI [k0, k1, k2, k3, k4] m with _ | _
  · rw [hs] at K1
    clear hs
    go_enter Tryd.func92, Tryd.ntmps92
    go_wp2_with (go_at_call 88; refine (K1.out _ b0.out).mono ?_; rintro e w1 ⟨rfl, hb1⟩; have HB1 := Lib.hid (bl_trans b0.out hb1); clear hb1)
    go_ret
    exact ⟨ret_bool (by simp), HB1.out⟩
  · rw [hs] at K1
    clear hs
    have hc0 := blk_new w 55 (shapeL [k0, k1, k2, k3, k4] m n o)
    have HC := Lib.hid hc0
    clear hc0
    go_enter Tryd.func92, Tryd.ntmps92
    go_wp2_with (first
      | (go_at_call 88; refine (K1.out _ b0.out).mono ?_; rintro e w1 ⟨rfl, hb1⟩; have HB1 := Lib.hid (bl_trans b0.out hb1); have HC1 := Lib.hid (Blk.below HC.out hb1); obtain ⟨g0, _⟩ := HC1.out.cell 0 _ rfl; obtain ⟨g1, _⟩ := HC1.out.cell 1 _ rfl; obtain ⟨g2, _⟩ := HC1.out.cell 2 _ rfl; obtain ⟨g3, _⟩ := HC1.out.cell 3 _ rfl; obtain ⟨g4, _⟩ := HC1.out.cell 4 _ rfl; obtain ⟨g5, _⟩ := HC1.out.cell 5 _ rfl; obtain ⟨g6, _⟩ := HC1.out.cell 6 _ rfl; obtain ⟨g7, _⟩ := HC1.out.cell 7 _ rfl; clear hb1)
      | (go_at_call 89; refine (K2.out _).mono ?_; rintro e w2 ⟨rfl, hb2⟩; have HB2 := Lib.hid (bl_trans HB1.out hb2); clear hb2))
    go_ret
    exact ⟨ret_bool (by simp), HB2.out⟩

/-- The table: names, sizes, tests. -/
abbrev catsL : List Value := [.string ⟨#[104, 105, 103, 104, 32, 99, 97, 114, 100]⟩, .int .i64 1302540, .func (.func 84) #[] #[], .string ⟨#[112, 97, 105, 114]⟩, .int .i64 1098240, .func (.func 85) #[] #[], .string ⟨#[116, 119, 111, 32, 112, 97, 105, 114, 115]⟩, .int .i64 123552, .func (.func 86) #[] #[], .string ⟨#[116, 104, 114, 101, 101, 32, 111, 102, 32, 97, 32, 107, 105, 110, 100]⟩, .int .i64 54912, .func (.func 87) #[] #[], .string ⟨#[115, 116, 114, 97, 105, 103, 104, 116]⟩, .int .i64 10200, .func (.func 88) #[] #[], .string ⟨#[102, 108, 117, 115, 104]⟩, .int .i64 5108, .func (.func 89) #[] #[], .string ⟨#[102, 117, 108, 108, 32, 104, 111, 117, 115, 101]⟩, .int .i64 3744, .func (.func 90) #[] #[], .string ⟨#[102, 111, 117, 114, 32, 111, 102, 32, 97, 32, 107, 105, 110, 100]⟩, .int .i64 624, .func (.func 91) #[] #[], .string ⟨#[115, 116, 114, 97, 105, 103, 104, 116, 32, 102, 108, 117, 115, 104]⟩, .int .i64 40, .func (.func 92) #[] #[]]
theorem i66 : (Tryd.prog.info? 66).map (·.size) = some 27 := by kernel_rfl
set_option maxRecDepth 100000 in
set_option maxHeartbeats 4000000 in
theorem cats_any (w : World) : Calls Tryd.prog 62 #[] w (Fresh (.agg catsL.toArray) w) := by
  go_enter Tryd.func62, Tryd.ntmps62
  go_wp2_with (refine wpList_store_blk 66 27 rfl (.tmp 0) (.tmp 10) rfl i66 w.heap.size rfl catsL rfl rfl (by intro v hv; simp at hv; rcases hv with rfl | rfl | rfl | rfl | rfl | rfl | rfl | rfl | rfl | rfl | rfl | rfl | rfl | rfl | rfl | rfl | rfl | rfl | rfl | rfl | rfl | rfl | rfl | rfl | rfl | rfl | rfl <;> rfl) _ (heap_alloc_new w _) rfl ?_)
  intro w8 hb8 hg8
  have B8 := Lib.hid hb8
  have D8 := Lib.hid (bl_blk (bl_alloc (bl_refl w) _) hg8 (Nat.le_refl _))
  clear hb8 hg8
  go_wp2_with fail
  exact bodyPost_ret (results_cell_row Tryd.results62 _ _ w.heap.size _ _ _ _ rfl B8.out Tryd.underlying66 rfl i66) rfl ⟨rfl, D8.out⟩
end Go.Proofs.YtcbfmfkahgfjkaaDoor
