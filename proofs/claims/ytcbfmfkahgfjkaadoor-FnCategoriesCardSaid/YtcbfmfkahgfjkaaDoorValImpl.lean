/-
  The program's value of five cards.
-/
import Derived.Test.YtcbfmfkahgfjkaaDoorCatImpl
import Derived.Deep.RegionWith
namespace Go.Proofs.YtcbfmfkahgfjkaaDoor
open Go.RowKit
set_option linter.unusedVariables false

set_option maxRecDepth 100000 in
set_option maxHeartbeats 1000000 in
theorem numberOf_any (A : Option Addr) (c : Nat) (L : List Int) (w : World) (hr : Rd w A L) (h5 : L.length = 5) (hb : ranksOk L) :
    Calls Tryd.prog 96 #[.slice A 5 c] w (Same (.int .i64 (digs L)) w) := by
  have HR := Lib.hid hr
  have HB := Lib.hid (digs_le L hb h5)
  have HN := Lib.hid (ranks_nth L hb)
  have H5 := Lib.hid h5
  clear hr hb h5
  go_enter Tryd.func96, Tryd.ntmps96
  go_wp2_with fail
  go_loop [3, 8] (fun n i => ∃ k : Nat, k ≤ 5 ∧ i = .int .i64 k ∧ n = .int .i64 (digs (L.take k))) (fun _ i => 5 - (intOf i).toNat)
  case atStart => exact ⟨0, by omega, rfl, rfl⟩
  case round =>
    obtain ⟨k, hk, rfl, rfl⟩ := hrel
    by_cases hlt : k < 5
    · obtain ⟨b, off, rfl, hc⟩ := HR.out.at_ (bl_refl _) k (by rw [H5.out]; exact hlt)
      have hlt' : (k : Int) < 5 := by omega
      have h1 := HB.out k hk
      have hx := HN.out k (by rw [H5.out]; exact hlt)
      have HC := Lib.hid (take_nth L k (by rw [H5.out]; exact hlt))
      have HS : Hid (digs (L.take (k + 1)) = digs (L.take k) * 13 + nth L k) := Lib.hid (by rw [HC.out, digs_snoc]; omega)
      generalize digs (L.take k) = q at *
      generalize nth L k = x at *
      go_wp2_with fail
      go_round
      case rel => exact ⟨k + 1, by omega, by go_num, by rw [HS.out]⟩
      case measure => simp [intOf]; omega
    · obtain rfl : k = 5 := by omega
      have HT : Hid (L.take 5 = L) := Lib.hid (by rw [← H5.out]; exact take_len L)
      go_wp2_with fail
      go_ret
      exact ⟨ret_int (by rw [HT.out]), rfl⟩
theorem catI_bd (L : List Int) (m n : Nat) (o : Bool) : 0 ≤ catI L m n o ∧ catI L m n o ≤ 8 := by
  unfold catI
  repeat' split
  all_goals omega
theorem rd_shp (w : World) (k0 k1 k2 k3 k4 m n : Int) (o : Bool) : Rd (w.alloc (.cells #[.int .i64 k0, .int .i64 k1, .int .i64 k2, .int .i64 k3, .int .i64 k4, .int .i64 m, .int .i64 n, .bool o] 55)) (some ⟨w.heap.size, 0, none⟩) [k0, k1, k2, k3, k4] := fun _ => by
  have h := blk_new w 55 (shapeL [k0, k1, k2, k3, k4] m n o)
  refine ⟨w.heap.size, 0, rfl, fun i hi => ?_⟩
  rw [Nat.zero_add]
  match i, hi with
  | 0, _ => exact (h.cell 0 _ rfl).1
  | 1, _ => exact (h.cell 1 _ rfl).1
  | 2, _ => exact (h.cell 2 _ rfl).1
  | 3, _ => exact (h.cell 3 _ rfl).1
  | 4, _ => exact (h.cell 4 _ rfl).1
set_option maxRecDepth 100000 in
set_option maxHeartbeats 4000000 in
theorem value_any (k0 k1 k2 k3 k4 : Int) (m n : Nat) (o : Bool) (B : Nat) (wt w : World) (ht : Hid (Low B wt)) (hB : Hid (Below B wt w)) (hBw : Hid (B ≤ w.heap.size)) (hrk : ranksOk [k0, k1, k2, k3, k4]) :
    Calls Tryd.prog 74 #[shp k0 k1 k2 k3 k4 m n o] w (Fresh (.int .i64 (371293 * catI [k0, k1, k2, k3, k4] m n o + digs [k0, k1, k2, k3, k4])) w) := by
  have b0 := hrk k0 (by simp)
  have b4 := hrk k4 (by simp)
  have BX := Lib.hid (bl_alloc (bl_refl w) (.cells #[.int .i64 k0, .int .i64 k1, .int .i64 k2, .int .i64 k3, .int .i64 k4, .int .i64 m, .int .i64 n, .bool o] 55))
  have K1 := Lib.hid (fun (W : World) (hb : Below w.heap.size w W) => category_any k0 k1 k2 k3 k4 m n o B wt W ht (Lib.hid (hB.out.trans (hb.mono hBw.out))) (Lib.hid (Nat.le_trans hBw.out hb.size)) b0.1 b0.2 b4.1 b4.2)
  obtain ⟨W1, eW⟩ : ∃ W1, W1 = w.alloc (.cells #[.int .i64 k0, .int .i64 k1, .int .i64 k2, .int .i64 k3, .int .i64 k4, .int .i64 m, .int .i64 n, .bool o] 55) := ⟨_, rfl⟩
  have hrd := rd_shp w k0 k1 k2 k3 k4 m n o
  rw [← eW] at hrd BX
  have K2 := Lib.hid (fun (W : World) (hb : Below W1.heap.size W1 W) => numberOf_any (some ⟨w.heap.size, 0, none⟩) 5 [k0, k1, k2, k3, k4] W (hrd.below hb) rfl hrk)
  have hd := digs_le [k0, k1, k2, k3, k4] hrk rfl 5 (Nat.le_refl _)
  have hc := catI_bd [k0, k1, k2, k3, k4] m n o
  change 0 ≤ digs [k0, k1, k2, k3, k4] ∧ digs [k0, k1, k2, k3, k4] ≤ 371292 at hd
  generalize catI [k0, k1, k2, k3, k4] m n o = cc at *
  generalize digs [k0, k1, k2, k3, k4] = dd at *
  have e1 : IntKind.i64.wrap (cc * 371293) = cc * 371293 := IntWalk.i64_in _ (by omega)
  have e2 : IntKind.i64.wrap (cc * 371293 + dd) = cc * 371293 + dd := IntWalk.i64_in _ (by omega)
  have EF : Hid (cc * 371293 + dd = 371293 * cc + dd) := Lib.hid (by omega)
  have EW := Lib.hid eW
  clear hrd eW hrk b0 b4 hd hc ht hB hBw
  go_enter Tryd.func74, Tryd.ntmps74
  go_wp2_with fail
  rw [← EW.out]
  have NX : Hid (Blk W1 w.heap.size 55 (shapeL [k0, k1, k2, k3, k4] m n o)) := Lib.hid (by rw [EW.out]; exact blk_new w _ _)
  clear EW
  obtain ⟨g0, _⟩ := NX.out.cell 0 _ rfl
  obtain ⟨g1, _⟩ := NX.out.cell 1 _ rfl
  obtain ⟨g2, _⟩ := NX.out.cell 2 _ rfl
  obtain ⟨g3, _⟩ := NX.out.cell 3 _ rfl
  obtain ⟨g4, _⟩ := NX.out.cell 4 _ rfl
  obtain ⟨g5, _⟩ := NX.out.cell 5 _ rfl
  obtain ⟨g6, _⟩ := NX.out.cell 6 _ rfl
  obtain ⟨g7, _⟩ := NX.out.cell 7 _ rfl
  have hzz := NX.out.lt
  go_region_with ((first
    | (go_at_call 53; (first | (with_reducible refine (K1.out _ BX.out).mono ?_) | (with_reducible refine (K1.out _ (bl_drew BX.out)).mono ?_) | (with_reducible refine (K1.out _ (bl_drewN BX.out _)).mono ?_)); rintro e w3 ⟨rfl, hb3⟩; obtain ⟨hcw, hfw⟩ := bcell hb3)
    | (go_at_call 96; (first | (with_reducible refine (K2.out _ (bl_drew (bl_refl _))).mono ?_) | (with_reducible refine (K2.out _ (bl_trans (bl_drew (bl_refl _)) hb3)).mono ?_) | (with_reducible refine (K2.out _ (bl_refl _)).mono ?_)); rintro e w4 ⟨rfl, rfl⟩)))
  all_goals
    go_wp2_with fail
    go_ret
    exact ⟨ret_int EF.out, bl_trans BX.out (bl_trans (bl_drew (bl_refl _)) hb3)⟩

/-! The value of five cards. -/
/-- The value, in the model's words. -/
def hv (xs : List Int) : Int := 371293 * catS (rk xs) (flushB xs) + digs (kickS (rk xs))
/-- Ranks of five cards: below 13, each at most four times. -/
theorem rk_facts (xs : List Int) (hb : cardsB xs = true) : ranksOk (rk xs) ∧ ∀ r, occ (rk xs) r ≤ 4 := by
  have hc := (cards_iff xs).1 hb
  constructor
  · intro r hr
    unfold rk at hr
    obtain ⟨x, hx, rfl⟩ := List.mem_map.1 hr
    have := hc.1 x hx
    omega
  · intro r
    rw [occ_rk]
    by_cases h : 0 ≤ r ∧ r < 13
    · obtain ⟨j, rfl⟩ := Int.eq_ofNat_of_zero_le h.1
      unfold cnt
      have hs : (xs.filter (fun x => x / 4 == (j : Int))).Nodup := hc.2.sublist List.filter_sublist
      have hsub : ∀ x ∈ xs.filter (fun x => x / 4 == (j : Int)), x ∈ [4 * (j : Int), 4 * (j : Int) + 1, 4 * (j : Int) + 2, 4 * (j : Int) + 3] := by
        intro x hx
        have := (List.mem_filter.1 hx).2
        simp at this
        simp
        omega
      have := List.Nodup.length_le_of_subset hs hsub
      simpa using this
    · have : cnt (fun x => x / 4 == r) xs = 0 := by
        unfold cnt
        rw [List.length_eq_zero_iff, List.filter_eq_nil_iff]
        intro x hx hq
        have h1 := hc.1 x hx
        simp at hq
        omega
      omega
theorem lowK_len (L : List Int) (h : L.length = 5) : (lowK L).length = 5 := by unfold lowK; split <;> simp [h]
end Go.Proofs.YtcbfmfkahgfjkaaDoor
