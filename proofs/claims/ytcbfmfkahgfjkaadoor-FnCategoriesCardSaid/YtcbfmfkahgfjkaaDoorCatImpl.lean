/-
  The greatest category that applies.
-/
import Derived.Test.YtcbfmfkahgfjkaaDoorMethImpl
import Derived.StillTailTactics
namespace Go.Proofs.YtcbfmfkahgfjkaaDoor
open Go.RowKit
set_option linter.unusedVariables false

/-- Which categories apply, by their numbers; the greatest of the first ones. -/
def ap (k0 k1 k2 k3 k4 : Int) (m n : Nat) (o : Bool) : Nat → Bool
  | 0 => true
  | 1 => decide (2 ≤ m)
  | 2 => decide (2 ≤ m ∧ 2 ≤ n)
  | 3 => decide (3 ≤ m)
  | 4 => strI [k0, k1, k2, k3, k4] m
  | 5 => o
  | 6 => decide (m = 3 ∧ n = 2)
  | 7 => decide (m = 4)
  | 8 => (strI [k0, k1, k2, k3, k4] m && o)
  | _ => false
def catFrom (f : Nat → Bool) : Nat → Nat
  | 0 => 0
  | k + 1 => if f (k + 1) = true then k + 1 else catFrom f k
theorem catFrom_yes (f : Nat → Bool) (k : Nat) (h : f (k + 1) = true) : catFrom f (k + 1) = k + 1 := by rw [catFrom, if_pos h]
theorem catFrom_no (f : Nat → Bool) (k : Nat) (h : f (k + 1) = false) : catFrom f (k + 1) = catFrom f k := by rw [catFrom, if_neg (by rw [h]; decide)]
theorem catFrom_catI (k0 k1 k2 k3 k4 : Int) (m n : Nat) (o : Bool) : ((catFrom (ap k0 k1 k2 k3 k4 m n o) 8 : Nat) : Int) = catI [k0, k1, k2, k3, k4] m n o := by
  unfold catI
  simp only [catFrom, ap, decide_eq_true_eq]
  repeat' split
  all_goals rfl
/-- The loop's state. -/
def CatSt (w : World) (tb : Nat) (vs : List Value) (wr : World) : Prop :=
  Blk wr w.heap.size 55 vs ∧ Blk wr tb 66 catsL ∧ Below w.heap.size w wr
theorem CatSt.next {w wr w' : World} {tb : Nat} {vs : List Value} (h : CatSt w tb vs wr) (hb : Below wr.heap.size wr w') : CatSt w tb vs w' := ⟨h.1.below hb, h.2.1.below hb, bl_trans h.2.2 hb⟩

set_option maxRecDepth 100000 in
set_option maxHeartbeats 16000000 in
theorem category_any (k0 k1 k2 k3 k4 : Int) (m n : Nat) (o : Bool) (B : Nat) (wt w : World) (ht : Hid (Low B wt)) (hB : Hid (Below B wt w)) (hBw : Hid (B ≤ w.heap.size)) (h0 : 0 ≤ k0) (h1 : k0 < 13) (h2 : 0 ≤ k4) (h3 : k4 < 13) :
    Calls Tryd.prog 53 #[shp k0 k1 k2 k3 k4 m n o] w (Fresh (.int .i64 (catI [k0, k1, k2, k3, k4] m n o)) w) := by
  have EC := Lib.hid (catFrom_catI k0 k1 k2 k3 k4 m n o)
  have K0 : Hid (∀ (W : World), Below w.heap.size w W → Calls Tryd.prog 84 #[shp k0 k1 k2 k3 k4 m n o] W (Fresh (.bool (ap k0 k1 k2 k3 k4 m n o 0)) W)) := Lib.hid (fun W hb => isAny_any k0 k1 k2 k3 k4 m n o W)
  have K1 : Hid (∀ (W : World), Below w.heap.size w W → Calls Tryd.prog 85 #[shp k0 k1 k2 k3 k4 m n o] W (Fresh (.bool (ap k0 k1 k2 k3 k4 m n o 1)) W)) := Lib.hid (fun W hb => hasPair_any k0 k1 k2 k3 k4 m n o W)
  have K2 : Hid (∀ (W : World), Below w.heap.size w W → Calls Tryd.prog 86 #[shp k0 k1 k2 k3 k4 m n o] W (Fresh (.bool (ap k0 k1 k2 k3 k4 m n o 2)) W)) := Lib.hid (fun W hb => hasTwoPairs_any k0 k1 k2 k3 k4 m n o W)
  have K3 : Hid (∀ (W : World), Below w.heap.size w W → Calls Tryd.prog 87 #[shp k0 k1 k2 k3 k4 m n o] W (Fresh (.bool (ap k0 k1 k2 k3 k4 m n o 3)) W)) := Lib.hid (fun W hb => hasTriple_any k0 k1 k2 k3 k4 m n o W)
  have K4 : Hid (∀ (W : World), Below w.heap.size w W → Calls Tryd.prog 88 #[shp k0 k1 k2 k3 k4 m n o] W (Fresh (.bool (ap k0 k1 k2 k3 k4 m n o 4)) W)) := Lib.hid (fun W hb => isStraight_any k0 k1 k2 k3 k4 m n o B wt W ht (Lib.hid (hB.out.trans (hb.mono hBw.out))) (Lib.hid (Nat.le_trans hBw.out hb.size)) h0 h1 h2 h3)
  have K5 : Hid (∀ (W : World), Below w.heap.size w W → Calls Tryd.prog 89 #[shp k0 k1 k2 k3 k4 m n o] W (Fresh (.bool (ap k0 k1 k2 k3 k4 m n o 5)) W)) := Lib.hid (fun W hb => isFlush_any k0 k1 k2 k3 k4 m n o W)
  have K6 : Hid (∀ (W : World), Below w.heap.size w W → Calls Tryd.prog 90 #[shp k0 k1 k2 k3 k4 m n o] W (Fresh (.bool (ap k0 k1 k2 k3 k4 m n o 6)) W)) := Lib.hid (fun W hb => isFullHouse_any k0 k1 k2 k3 k4 m n o W)
  have K7 : Hid (∀ (W : World), Below w.heap.size w W → Calls Tryd.prog 91 #[shp k0 k1 k2 k3 k4 m n o] W (Fresh (.bool (ap k0 k1 k2 k3 k4 m n o 7)) W)) := Lib.hid (fun W hb => hasQuadruple_any k0 k1 k2 k3 k4 m n o W)
  have K8 : Hid (∀ (W : World), Below w.heap.size w W → Calls Tryd.prog 92 #[shp k0 k1 k2 k3 k4 m n o] W (Fresh (.bool (ap k0 k1 k2 k3 k4 m n o 8)) W)) := Lib.hid (fun W hb => isStraightFlush_any k0 k1 k2 k3 k4 m n o B wt W ht (Lib.hid (hB.out.trans (hb.mono hBw.out))) (Lib.hid (Nat.le_trans hBw.out hb.size)) h0 h1 h2 h3)
  have hap0 : ap k0 k1 k2 k3 k4 m n o 0 = true := rfl
  rw [hap0] at K0
  rw [← EC.out]
  generalize ap k0 k1 k2 k3 k4 m n o = f at *
  clear EC hap0 h0 h1 h2 h3 hB hBw ht
  have BX := Lib.hid (bl_alloc (bl_refl w) (.cells #[.int .i64 k0, .int .i64 k1, .int .i64 k2, .int .i64 k3, .int .i64 k4, .int .i64 m, .int .i64 n, .bool o] 55))
  have NX := Lib.hid (blk_new w 55 (shapeL [k0, k1, k2, k3, k4] m n o))
  obtain ⟨w0, rfl⟩ : ∃ w0 : World, w0 = w := ⟨w, rfl⟩
  go_enter Tryd.func53, Tryd.ntmps53
  go_wp2_with (first
    | (go_at_call 62; refine (cats_any _).mono ?_; rintro e w5 ⟨rfl, hb5⟩; have B5 := Lib.hid hb5; clear hb5)
    | (refine wpList_store_blk 66 27 rfl (.tmp 3) (.tmp 5) rfl i66 w5.heap.size rfl catsL rfl rfl (by intro v hv; simp at hv; rcases hv with rfl | rfl | rfl | rfl | rfl | rfl | rfl | rfl | rfl | rfl | rfl | rfl | rfl | rfl | rfl | rfl | rfl | rfl | rfl | rfl | rfl | rfl | rfl | rfl | rfl | rfl | rfl <;> rfl) _ (heap_alloc_new w5 _) rfl ?_))
  intro w6 hb6 hg6
  have X5 := Lib.hid (bl_trans BX.out B5.out)
  have HS : Hid (CatSt w0 w5.heap.size (shapeL [k0, k1, k2, k3, k4] m n o) w6) := Lib.hid ⟨(((NX.out.below B5.out).below (bl_alloc (bl_refl _) _)).grown hg6 (by have := (NX.out.below B5.out).lt; simp; omega)), hb6, bl_blk (bl_alloc X5.out _) hg6 X5.out.size⟩
  clear hb6 hg6 BX NX B5 X5
  go_wp2_with fail
  go_loopw [4] (fun c wr => ∃ k : Nat, k ≤ 8 ∧ c = .int .i64 k ∧ Hid (catFrom f 8 = catFrom f k) ∧ Hid (CatSt w0 w5.heap.size (shapeL [k0, k1, k2, k3, k4] m n o) wr)) (fun c _ => (intOf c).toNat)
  case atStart => exact ⟨8, Nat.le_refl _, rfl, Lib.hid rfl, HS⟩
  case round =>
    obtain ⟨k, hk, rfl, he, hs⟩ := hrel
    clear HS
    have gs := hs.out.1
    obtain ⟨g0, _⟩ := gs.cell 0 _ rfl
    obtain ⟨g1, _⟩ := gs.cell 1 _ rfl
    obtain ⟨g2, _⟩ := gs.cell 2 _ rfl
    obtain ⟨g3, _⟩ := gs.cell 3 _ rfl
    obtain ⟨g4, _⟩ := gs.cell 4 _ rfl
    obtain ⟨g5, _⟩ := gs.cell 5 _ rfl
    obtain ⟨g6, _⟩ := gs.cell 6 _ rfl
    obtain ⟨g7, _⟩ := gs.cell 7 _ rfl
    have ts := hs.out.2.1
    clear gs
    have hk9 : k = 0 ∨ k = 1 ∨ k = 2 ∨ k = 3 ∨ k = 4 ∨ k = 5 ∨ k = 6 ∨ k = 7 ∨ k = 8 := by omega
    rcases hk9 with rfl | rfl | rfl | rfl | rfl | rfl | rfl | rfl | rfl
    · obtain ⟨t0, _⟩ := ts.cell 2 _ rfl
      clear ts
      go_wp2_with fail
      go_still_tail 5, (by kernel_rfl)
      change wpList _ _ _ _ _ wr.drew
      go_wp2_with (go_at_call 84; refine (K0.out _ (bl_drew hs.out.2.2)).mono ?_; rintro e w7 ⟨rfl, hb7⟩; have B7 := Lib.hid (bl_trans (bl_drew (bl_refl wr)) hb7); clear hb7)
      go_ret
      exact ⟨ret_int (by rw [he.out]; rfl), (hs.out.next B7.out).2.2⟩
    · obtain ⟨t0, _⟩ := ts.cell 5 _ rfl
      clear ts
      rcases hf : f 1 with _ | _
      · rw [hf] at K1
        have ha := Lib.hid hf
        clear hf
        go_wp2_with fail
        go_still_tail 5, (by kernel_rfl)
        change wpList _ _ _ _ _ wr.drew
        go_wp2_with (go_at_call 85; refine (K1.out _ (bl_drew hs.out.2.2)).mono ?_; rintro e w7 ⟨rfl, hb7⟩; have B7 := Lib.hid (bl_trans (bl_drew (bl_refl wr)) hb7); clear hb7)
        go_roundw
        case rel => exact ⟨0, by omega, by go_num, Lib.hid (by rw [he.out, catFrom_no f 0 ha.out]), Lib.hid (hs.out.next B7.out)⟩
        case measure => simp [intOf]
      · rw [hf] at K1
        have ha := Lib.hid hf
        clear hf
        go_wp2_with fail
        go_still_tail 5, (by kernel_rfl)
        change wpList _ _ _ _ _ wr.drew
        go_wp2_with (go_at_call 85; refine (K1.out _ (bl_drew hs.out.2.2)).mono ?_; rintro e w7 ⟨rfl, hb7⟩; have B7 := Lib.hid (bl_trans (bl_drew (bl_refl wr)) hb7); clear hb7)
        go_ret
        exact ⟨ret_int (by rw [he.out, catFrom_yes f 0 ha.out]; rfl), (hs.out.next B7.out).2.2⟩
    · obtain ⟨t0, _⟩ := ts.cell 8 _ rfl
      clear ts
      rcases hf : f 2 with _ | _
      · rw [hf] at K2
        have ha := Lib.hid hf
        clear hf
        go_wp2_with fail
        go_still_tail 5, (by kernel_rfl)
        change wpList _ _ _ _ _ wr.drew
        go_wp2_with (go_at_call 86; refine (K2.out _ (bl_drew hs.out.2.2)).mono ?_; rintro e w7 ⟨rfl, hb7⟩; have B7 := Lib.hid (bl_trans (bl_drew (bl_refl wr)) hb7); clear hb7)
        go_roundw
        case rel => exact ⟨1, by omega, by go_num, Lib.hid (by rw [he.out, catFrom_no f 1 ha.out]), Lib.hid (hs.out.next B7.out)⟩
        case measure => simp [intOf]
      · rw [hf] at K2
        have ha := Lib.hid hf
        clear hf
        go_wp2_with fail
        go_still_tail 5, (by kernel_rfl)
        change wpList _ _ _ _ _ wr.drew
        go_wp2_with (go_at_call 86; refine (K2.out _ (bl_drew hs.out.2.2)).mono ?_; rintro e w7 ⟨rfl, hb7⟩; have B7 := Lib.hid (bl_trans (bl_drew (bl_refl wr)) hb7); clear hb7)
        go_ret
        exact ⟨ret_int (by rw [he.out, catFrom_yes f 1 ha.out]; rfl), (hs.out.next B7.out).2.2⟩
    · obtain ⟨t0, _⟩ := ts.cell 11 _ rfl
      clear ts
      rcases hf : f 3 with _ | _
      · rw [hf] at K3
        have ha := Lib.hid hf
        clear hf
        go_wp2_with fail
        go_still_tail 5, (by kernel_rfl)
        change wpList _ _ _ _ _ wr.drew
        go_wp2_with (go_at_call 87; refine (K3.out _ (bl_drew hs.out.2.2)).mono ?_; rintro e w7 ⟨rfl, hb7⟩; have B7 := Lib.hid (bl_trans (bl_drew (bl_refl wr)) hb7); clear hb7)
        go_roundw
        case rel => exact ⟨2, by omega, by go_num, Lib.hid (by rw [he.out, catFrom_no f 2 ha.out]), Lib.hid (hs.out.next B7.out)⟩
        case measure => simp [intOf]
      · rw [hf] at K3
        have ha := Lib.hid hf
        clear hf
        go_wp2_with fail
        go_still_tail 5, (by kernel_rfl)
        change wpList _ _ _ _ _ wr.drew
        go_wp2_with (go_at_call 87; refine (K3.out _ (bl_drew hs.out.2.2)).mono ?_; rintro e w7 ⟨rfl, hb7⟩; have B7 := Lib.hid (bl_trans (bl_drew (bl_refl wr)) hb7); clear hb7)
        go_ret
        exact ⟨ret_int (by rw [he.out, catFrom_yes f 2 ha.out]; rfl), (hs.out.next B7.out).2.2⟩
    · obtain ⟨t0, _⟩ := ts.cell 14 _ rfl
      clear ts
      rcases hf : f 4 with _ | _
      · rw [hf] at K4
        have ha := Lib.hid hf
        clear hf
        go_wp2_with fail
        go_still_tail 5, (by kernel_rfl)
        change wpList _ _ _ _ _ wr.drew
        go_wp2_with (go_at_call 88; refine (K4.out _ (bl_drew hs.out.2.2)).mono ?_; rintro e w7 ⟨rfl, hb7⟩; have B7 := Lib.hid (bl_trans (bl_drew (bl_refl wr)) hb7); clear hb7)
        go_roundw
        case rel => exact ⟨3, by omega, by go_num, Lib.hid (by rw [he.out, catFrom_no f 3 ha.out]), Lib.hid (hs.out.next B7.out)⟩
        case measure => simp [intOf]
      · rw [hf] at K4
        have ha := Lib.hid hf
        clear hf
        go_wp2_with fail
        go_still_tail 5, (by kernel_rfl)
        change wpList _ _ _ _ _ wr.drew
        go_wp2_with (go_at_call 88; refine (K4.out _ (bl_drew hs.out.2.2)).mono ?_; rintro e w7 ⟨rfl, hb7⟩; have B7 := Lib.hid (bl_trans (bl_drew (bl_refl wr)) hb7); clear hb7)
        go_ret
        exact ⟨ret_int (by rw [he.out, catFrom_yes f 3 ha.out]; rfl), (hs.out.next B7.out).2.2⟩
    · obtain ⟨t0, _⟩ := ts.cell 17 _ rfl
      clear ts
      rcases hf : f 5 with _ | _
      · rw [hf] at K5
        have ha := Lib.hid hf
        clear hf
        go_wp2_with fail
        go_still_tail 5, (by kernel_rfl)
        change wpList _ _ _ _ _ wr.drew
        go_wp2_with (go_at_call 89; refine (K5.out _ (bl_drew hs.out.2.2)).mono ?_; rintro e w7 ⟨rfl, hb7⟩; have B7 := Lib.hid (bl_trans (bl_drew (bl_refl wr)) hb7); clear hb7)
        go_roundw
        case rel => exact ⟨4, by omega, by go_num, Lib.hid (by rw [he.out, catFrom_no f 4 ha.out]), Lib.hid (hs.out.next B7.out)⟩
        case measure => simp [intOf]
      · rw [hf] at K5
        have ha := Lib.hid hf
        clear hf
        go_wp2_with fail
        go_still_tail 5, (by kernel_rfl)
        change wpList _ _ _ _ _ wr.drew
        go_wp2_with (go_at_call 89; refine (K5.out _ (bl_drew hs.out.2.2)).mono ?_; rintro e w7 ⟨rfl, hb7⟩; have B7 := Lib.hid (bl_trans (bl_drew (bl_refl wr)) hb7); clear hb7)
        go_ret
        exact ⟨ret_int (by rw [he.out, catFrom_yes f 4 ha.out]; rfl), (hs.out.next B7.out).2.2⟩
    · obtain ⟨t0, _⟩ := ts.cell 20 _ rfl
      clear ts
      rcases hf : f 6 with _ | _
      · rw [hf] at K6
        have ha := Lib.hid hf
        clear hf
        go_wp2_with fail
        go_still_tail 5, (by kernel_rfl)
        change wpList _ _ _ _ _ wr.drew
        go_wp2_with (go_at_call 90; refine (K6.out _ (bl_drew hs.out.2.2)).mono ?_; rintro e w7 ⟨rfl, hb7⟩; have B7 := Lib.hid (bl_trans (bl_drew (bl_refl wr)) hb7); clear hb7)
        go_roundw
        case rel => exact ⟨5, by omega, by go_num, Lib.hid (by rw [he.out, catFrom_no f 5 ha.out]), Lib.hid (hs.out.next B7.out)⟩
        case measure => simp [intOf]
      · rw [hf] at K6
        have ha := Lib.hid hf
        clear hf
        go_wp2_with fail
        go_still_tail 5, (by kernel_rfl)
        change wpList _ _ _ _ _ wr.drew
        go_wp2_with (go_at_call 90; refine (K6.out _ (bl_drew hs.out.2.2)).mono ?_; rintro e w7 ⟨rfl, hb7⟩; have B7 := Lib.hid (bl_trans (bl_drew (bl_refl wr)) hb7); clear hb7)
        go_ret
        exact ⟨ret_int (by rw [he.out, catFrom_yes f 5 ha.out]; rfl), (hs.out.next B7.out).2.2⟩
    · obtain ⟨t0, _⟩ := ts.cell 23 _ rfl
      clear ts
      rcases hf : f 7 with _ | _
      · rw [hf] at K7
        have ha := Lib.hid hf
        clear hf
        go_wp2_with fail
        go_still_tail 5, (by kernel_rfl)
        change wpList _ _ _ _ _ wr.drew
        go_wp2_with (go_at_call 91; refine (K7.out _ (bl_drew hs.out.2.2)).mono ?_; rintro e w7 ⟨rfl, hb7⟩; have B7 := Lib.hid (bl_trans (bl_drew (bl_refl wr)) hb7); clear hb7)
        go_roundw
        case rel => exact ⟨6, by omega, by go_num, Lib.hid (by rw [he.out, catFrom_no f 6 ha.out]), Lib.hid (hs.out.next B7.out)⟩
        case measure => simp [intOf]
      · rw [hf] at K7
        have ha := Lib.hid hf
        clear hf
        go_wp2_with fail
        go_still_tail 5, (by kernel_rfl)
        change wpList _ _ _ _ _ wr.drew
        go_wp2_with (go_at_call 91; refine (K7.out _ (bl_drew hs.out.2.2)).mono ?_; rintro e w7 ⟨rfl, hb7⟩; have B7 := Lib.hid (bl_trans (bl_drew (bl_refl wr)) hb7); clear hb7)
        go_ret
        exact ⟨ret_int (by rw [he.out, catFrom_yes f 6 ha.out]; rfl), (hs.out.next B7.out).2.2⟩
    · obtain ⟨t0, _⟩ := ts.cell 26 _ rfl
      clear ts
      rcases hf : f 8 with _ | _
      · rw [hf] at K8
        have ha := Lib.hid hf
        clear hf
        go_wp2_with fail
        go_still_tail 5, (by kernel_rfl)
        change wpList _ _ _ _ _ wr.drew
        go_wp2_with (go_at_call 92; refine (K8.out _ (bl_drew hs.out.2.2)).mono ?_; rintro e w7 ⟨rfl, hb7⟩; have B7 := Lib.hid (bl_trans (bl_drew (bl_refl wr)) hb7); clear hb7)
        go_roundw
        case rel => exact ⟨7, by omega, by go_num, Lib.hid (by rw [catFrom_no f 7 ha.out]), Lib.hid (hs.out.next B7.out)⟩
        case measure => simp [intOf]
      · rw [hf] at K8
        have ha := Lib.hid hf
        clear hf
        go_wp2_with fail
        go_still_tail 5, (by kernel_rfl)
        change wpList _ _ _ _ _ wr.drew
        go_wp2_with (go_at_call 92; refine (K8.out _ (bl_drew hs.out.2.2)).mono ?_; rintro e w7 ⟨rfl, hb7⟩; have B7 := Lib.hid (bl_trans (bl_drew (bl_refl wr)) hb7); clear hb7)
        go_ret
        exact ⟨ret_int (by rw [catFrom_yes f 7 ha.out]; rfl), (hs.out.next B7.out).2.2⟩
end Go.Proofs.YtcbfmfkahgfjkaaDoor
