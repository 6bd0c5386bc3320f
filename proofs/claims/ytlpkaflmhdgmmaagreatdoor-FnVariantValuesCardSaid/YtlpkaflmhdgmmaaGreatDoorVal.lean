/-
  Put together: CatImpl, ValImpl, HighImpl, HandFns
-/
import Derived.Test.YtlpkaflmhdgmmaaGreatDoorHand
import Derived.StillTailTactics
import Derived.Test.YtlpkaflmhdgmmaaGreatDoorSpecH
import Derived.Deep.RegionWith
import Derived.Test.YtlpkaflmhdgmmaaGreatDoorBase

/-! The greatest category that applies. -/
namespace Go.Proofs.YtlpkaflmhdgmmaaGreatDoor
open Go.RowKit
set_option linter.unusedVariables false

/-- Which categories apply, by their numbers; the greatest of the first ones. -/
def ap (k0 k1 k2 k3 k4 : Int) (m n : Nat) (o : Bool) : Nat → Bool
  | 0 => true
  | 1 => decide (2 ≤ m)
  | 2 => decide (2 ≤ m ∧ 2 ≤ n)
  | 3 => decide (3 ≤ m)
  | 4 => strI [k0, k1, k2, k3, k4] m
  | 5 => o
  | 6 => decide (m = 3 ∧ n = 2)
  | 7 => decide (m = 4)
  | 8 => (strI [k0, k1, k2, k3, k4] m && o)
  | _ => false
def catFrom (f : Nat → Bool) : Nat → Nat
  | 0 => 0
  | k + 1 => if f (k + 1) = true then k + 1 else catFrom f k
theorem catFrom_yes (f : Nat → Bool) (k : Nat) (h : f (k + 1) = true) : catFrom f (k + 1) = k + 1 := by rw [catFrom, if_pos h]
theorem catFrom_no (f : Nat → Bool) (k : Nat) (h : f (k + 1) = false) : catFrom f (k + 1) = catFrom f k := by rw [catFrom, if_neg (by rw [h]; decide)]
theorem catFrom_catI (k0 k1 k2 k3 k4 : Int) (m n : Nat) (o : Bool) : ((catFrom (ap k0 k1 k2 k3 k4 m n o) 8 : Nat) : Int) = catI [k0, k1, k2, k3, k4] m n o := by
  unfold catI
  simp only [catFrom, ap, decide_eq_true_eq]
  repeat' split
  all_goals rfl
/-- The loop's state. -/
def CatSt (w : World) (tb : Nat) (vs : List Value) (wr : World) : Prop :=
  Blk wr w.heap.size 95 vs ∧ Blk wr tb 117 catsL ∧ Below w.heap.size w wr
theorem CatSt.next {w wr w' : World} {tb : Nat} {vs : List Value} (h : CatSt w tb vs wr) (hb : Below wr.heap.size wr w') : CatSt w tb vs w' := ⟨h.1.below hb, h.2.1.below hb, bl_trans h.2.2 hb⟩

set_option maxRecDepth 100000 in
set_option maxHeartbeats 16000000 in
theorem category_any (k0 k1 k2 k3 k4 : Int) (m n : Nat) (o : Bool) (B : Nat) (wt w : World) (ht : Hid (Low B wt)) (hB : Hid (Below B wt w)) (hBw : Hid (B ≤ w.heap.size)) (h0 : 0 ≤ k0) (h1 : k0 < 13) (h2 : 0 ≤ k4) (h3 : k4 < 13) :
    Calls Tryz.prog 90 #[shp k0 k1 k2 k3 k4 m n o] w (Fresh (.int .i64 (catI [k0, k1, k2, k3, k4] m n o)) w) := by
  have EC := Lib.hid (catFrom_catI k0 k1 k2 k3 k4 m n o)
  have K0 : Hid (∀ (W : World), Below w.heap.size w W → Calls Tryz.prog 103 #[shp k0 k1 k2 k3 k4 m n o] W (Fresh (.bool (ap k0 k1 k2 k3 k4 m n o 0)) W)) := Lib.hid (fun W hb => isAny_any k0 k1 k2 k3 k4 m n o W)
  have K1 : Hid (∀ (W : World), Below w.heap.size w W → Calls Tryz.prog 104 #[shp k0 k1 k2 k3 k4 m n o] W (Fresh (.bool (ap k0 k1 k2 k3 k4 m n o 1)) W)) := Lib.hid (fun W hb => hasPair_any k0 k1 k2 k3 k4 m n o W)
  have K2 : Hid (∀ (W : World), Below w.heap.size w W → Calls Tryz.prog 105 #[shp k0 k1 k2 k3 k4 m n o] W (Fresh (.bool (ap k0 k1 k2 k3 k4 m n o 2)) W)) := Lib.hid (fun W hb => hasTwoPairs_any k0 k1 k2 k3 k4 m n o W)
  have K3 : Hid (∀ (W : World), Below w.heap.size w W → Calls Tryz.prog 106 #[shp k0 k1 k2 k3 k4 m n o] W (Fresh (.bool (ap k0 k1 k2 k3 k4 m n o 3)) W)) := Lib.hid (fun W hb => hasTriple_any k0 k1 k2 k3 k4 m n o W)
  have K4 : Hid (∀ (W : World), Below w.heap.size w W → Calls Tryz.prog 107 #[shp k0 k1 k2 k3 k4 m n o] W (Fresh (.bool (ap k0 k1 k2 k3 k4 m n o 4)) W)) := Lib.hid (fun W hb => isStraight_any k0 k1 k2 k3 k4 m n o B wt W ht (Lib.hid (hB.out.trans (hb.mono hBw.out))) (Lib.hid (Nat.le_trans hBw.out hb.size)) h0 h1 h2 h3)
  have K5 : Hid (∀ (W : World), Below w.heap.size w W → Calls Tryz.prog 108 #[shp k0 k1 k2 k3 k4 m n o] W (Fresh (.bool (ap k0 k1 k2 k3 k4 m n o 5)) W)) := Lib.hid (fun W hb => isFlush_any k0 k1 k2 k3 k4 m n o W)
  have K6 : Hid (∀ (W : World), Below w.heap.size w W → Calls Tryz.prog 109 #[shp k0 k1 k2 k3 k4 m n o] W (Fresh (.bool (ap k0 k1 k2 k3 k4 m n o 6)) W)) := Lib.hid (fun W hb => isFullHouse_any k0 k1 k2 k3 k4 m n o W)
  have K7 : Hid (∀ (W : World), Below w.heap.size w W → Calls Tryz.prog 110 #[shp k0 k1 k2 k3 k4 m n o] W (Fresh (.bool (ap k0 k1 k2 k3 k4 m n o 7)) W)) := Lib.hid (fun W hb => hasQuadruple_any k0 k1 k2 k3 k4 m n o W)
  have K8 : Hid (∀ (W : World), Below w.heap.size w W → Calls Tryz.prog 111 #[shp k0 k1 k2 k3 k4 m n o] W (Fresh (.bool (ap k0 k1 k2 k3 k4 m n o 8)) W)) := Lib.hid (fun W hb => isStraightFlush_any k0 k1 k2 k3 k4 m n o B wt W ht (Lib.hid (hB.out.trans (hb.mono hBw.out))) (Lib.hid (Nat.le_trans hBw.out hb.size)) h0 h1 h2 h3)
  have hap0 : ap k0 k1 k2 k3 k4 m n o 0 = true := rfl
  rw [hap0] at K0
  rw [← EC.out]
  generalize ap k0 k1 k2 k3 k4 m n o = f at *
  clear EC hap0 h0 h1 h2 h3 hB hBw ht
  have BX := Lib.hid (bl_alloc (bl_refl w) (.cells #[.int .i64 k0, .int .i64 k1, .int .i64 k2, .int .i64 k3, .int .i64 k4, .int .i64 m, .int .i64 n, .bool o] 95))
  have NX := Lib.hid (blk_new w 95 (shapeL [k0, k1, k2, k3, k4] m n o))
  obtain ⟨w0, rfl⟩ : ∃ w0 : World, w0 = w := ⟨w, rfl⟩
  go_enter Tryz.func90, Tryz.ntmps90
  go_wp2_with (first
    | (go_at_call 98; refine (cats_any _).mono ?_; rintro e w5 ⟨rfl, hb5⟩; have B5 := Lib.hid hb5; clear hb5)
    | (refine wpList_store_blk 117 27 rfl (.tmp 3) (.tmp 5) rfl i66 w5.heap.size rfl catsL rfl rfl (by intro v hv; simp at hv; rcases hv with rfl | rfl | rfl | rfl | rfl | rfl | rfl | rfl | rfl | rfl | rfl | rfl | rfl | rfl | rfl | rfl | rfl | rfl | rfl | rfl | rfl | rfl | rfl | rfl | rfl | rfl | rfl <;> rfl) _ (heap_alloc_new w5 _) rfl ?_))
  intro w6 hb6 hg6
  have X5 := Lib.hid (bl_trans BX.out B5.out)
  have HS : Hid (CatSt w0 w5.heap.size (shapeL [k0, k1, k2, k3, k4] m n o) w6) := Lib.hid ⟨(((NX.out.below B5.out).below (bl_alloc (bl_refl _) _)).grown hg6 (by have := (NX.out.below B5.out).lt; simp; omega)), hb6, bl_blk (bl_alloc X5.out _) hg6 X5.out.size⟩
  clear hb6 hg6 BX NX B5 X5
  go_wp2_with fail
  go_loopw [4] (fun c wr => ∃ k : Nat, k ≤ 8 ∧ c = .int .i64 k ∧ Hid (catFrom f 8 = catFrom f k) ∧ Hid (CatSt w0 w5.heap.size (shapeL [k0, k1, k2, k3, k4] m n o) wr)) (fun c _ => (intOf c).toNat)
  case atStart => exact ⟨8, Nat.le_refl _, rfl, Lib.hid rfl, HS⟩
  case round =>
    obtain ⟨k, hk, rfl, he, hs⟩ := hrel
    clear HS
    have gs := hs.out.1
    obtain ⟨g0, _⟩ := gs.cell 0 _ rfl
    obtain ⟨g1, _⟩ := gs.cell 1 _ rfl
    obtain ⟨g2, _⟩ := gs.cell 2 _ rfl
    obtain ⟨g3, _⟩ := gs.cell 3 _ rfl
    obtain ⟨g4, _⟩ := gs.cell 4 _ rfl
    obtain ⟨g5, _⟩ := gs.cell 5 _ rfl
    obtain ⟨g6, _⟩ := gs.cell 6 _ rfl
    obtain ⟨g7, _⟩ := gs.cell 7 _ rfl
    have ts := hs.out.2.1
    clear gs
    have hk9 : k = 0 ∨ k = 1 ∨ k = 2 ∨ k = 3 ∨ k = 4 ∨ k = 5 ∨ k = 6 ∨ k = 7 ∨ k = 8 := by omega
    rcases hk9 with rfl | rfl | rfl | rfl | rfl | rfl | rfl | rfl | rfl
    · obtain ⟨t0, _⟩ := ts.cell 2 _ rfl
      clear ts
      go_wp2_with fail
      go_still_tail 5, (by kernel_rfl)
      change wpList _ _ _ _ _ wr.drew
      go_wp2_with (go_at_call 103; refine (K0.out _ (bl_drew hs.out.2.2)).mono ?_; rintro e w7 ⟨rfl, hb7⟩; have B7 := Lib.hid (bl_trans (bl_drew (bl_refl wr)) hb7); clear hb7)
      go_ret
      exact ⟨ret_int (by rw [he.out]; rfl), (hs.out.next B7.out).2.2⟩
    · obtain ⟨t0, _⟩ := ts.cell 5 _ rfl
      clear ts
      rcases hf : f 1 with _ | _
      · rw [hf] at K1
        have ha := Lib.hid hf
        clear hf
        go_wp2_with fail
        go_still_tail 5, (by kernel_rfl)
        change wpList _ _ _ _ _ wr.drew
        go_wp2_with (go_at_call 104; refine (K1.out _ (bl_drew hs.out.2.2)).mono ?_; rintro e w7 ⟨rfl, hb7⟩; have B7 := Lib.hid (bl_trans (bl_drew (bl_refl wr)) hb7); clear hb7)
        go_roundw
        case rel => exact ⟨0, by omega, by go_num, Lib.hid (by rw [he.out, catFrom_no f 0 ha.out]), Lib.hid (hs.out.next B7.out)⟩
        case measure => simp [intOf]
      · rw [hf] at K1
        have ha := Lib.hid hf
        clear hf
        go_wp2_with fail
        go_still_tail 5, (by kernel_rfl)
        change wpList _ _ _ _ _ wr.drew
        go_wp2_with (go_at_call 104; refine (K1.out _ (bl_drew hs.out.2.2)).mono ?_; rintro e w7 ⟨rfl, hb7⟩; have B7 := Lib.hid (bl_trans (bl_drew (bl_refl wr)) hb7); clear hb7)
        go_ret
        exact ⟨ret_int (by rw [he.out, catFrom_yes f 0 ha.out]; rfl), (hs.out.next B7.out).2.2⟩
    · obtain ⟨t0, _⟩ := ts.cell 8 _ rfl
      clear ts
      rcases hf : f 2 with _ | _
      · rw [hf] at K2
        have ha := Lib.hid hf
        clear hf
        go_wp2_with fail
        go_still_tail 5, (by kernel_rfl)
        change wpList _ _ _ _ _ wr.drew
        go_wp2_with (go_at_call 105; refine (K2.out _ (bl_drew hs.out.2.2)).mono ?_; rintro e w7 ⟨rfl, hb7⟩; have B7 := Lib.hid (bl_trans (bl_drew (bl_refl wr)) hb7); clear hb7)
        go_roundw
        case rel => exact ⟨1, by omega, by go_num, Lib.hid (by rw [he.out, catFrom_no f 1 ha.out]), Lib.hid (hs.out.next B7.out)⟩
        case measure => simp [intOf]
      · rw [hf] at K2
        have ha := Lib.hid hf
        clear hf
        go_wp2_with fail
        go_still_tail 5, (by kernel_rfl)
        change wpList _ _ _ _ _ wr.drew
        go_wp2_with (go_at_call 105; refine (K2.out _ (bl_drew hs.out.2.2)).mono ?_; rintro e w7 ⟨rfl, hb7⟩; have B7 := Lib.hid (bl_trans (bl_drew (bl_refl wr)) hb7); clear hb7)
        go_ret
        exact ⟨ret_int (by rw [he.out, catFrom_yes f 1 ha.out]; rfl), (hs.out.next B7.out).2.2⟩
    · obtain ⟨t0, _⟩ := ts.cell 11 _ rfl
      clear ts
      rcases hf : f 3 with _ | _
      · rw [hf] at K3
        have ha := Lib.hid hf
        clear hf
        go_wp2_with fail
        go_still_tail 5, (by kernel_rfl)
        change wpList _ _ _ _ _ wr.drew
        go_wp2_with (go_at_call 106; refine (K3.out _ (bl_drew hs.out.2.2)).mono ?_; rintro e w7 ⟨rfl, hb7⟩; have B7 := Lib.hid (bl_trans (bl_drew (bl_refl wr)) hb7); clear hb7)
        go_roundw
        case rel => exact ⟨2, by omega, by go_num, Lib.hid (by rw [he.out, catFrom_no f 2 ha.out]), Lib.hid (hs.out.next B7.out)⟩
        case measure => simp [intOf]
      · rw [hf] at K3
        have ha := Lib.hid hf
        clear hf
        go_wp2_with fail
        go_still_tail 5, (by kernel_rfl)
        change wpList _ _ _ _ _ wr.drew
        go_wp2_with (go_at_call 106; refine (K3.out _ (bl_drew hs.out.2.2)).mono ?_; rintro e w7 ⟨rfl, hb7⟩; have B7 := Lib.hid (bl_trans (bl_drew (bl_refl wr)) hb7); clear hb7)
        go_ret
        exact ⟨ret_int (by rw [he.out, catFrom_yes f 2 ha.out]; rfl), (hs.out.next B7.out).2.2⟩
    · obtain ⟨t0, _⟩ := ts.cell 14 _ rfl
      clear ts
      rcases hf : f 4 with _ | _
      · rw [hf] at K4
        have ha := Lib.hid hf
        clear hf
        go_wp2_with fail
        go_still_tail 5, (by kernel_rfl)
        change wpList _ _ _ _ _ wr.drew
        go_wp2_with (go_at_call 107; refine (K4.out _ (bl_drew hs.out.2.2)).mono ?_; rintro e w7 ⟨rfl, hb7⟩; have B7 := Lib.hid (bl_trans (bl_drew (bl_refl wr)) hb7); clear hb7)
        go_roundw
        case rel => exact ⟨3, by omega, by go_num, Lib.hid (by rw [he.out, catFrom_no f 3 ha.out]), Lib.hid (hs.out.next B7.out)⟩
        case measure => simp [intOf]
      · rw [hf] at K4
        have ha := Lib.hid hf
        clear hf
        go_wp2_with fail
        go_still_tail 5, (by kernel_rfl)
        change wpList _ _ _ _ _ wr.drew
        go_wp2_with (go_at_call 107; refine (K4.out _ (bl_drew hs.out.2.2)).mono ?_; rintro e w7 ⟨rfl, hb7⟩; have B7 := Lib.hid (bl_trans (bl_drew (bl_refl wr)) hb7); clear hb7)
        go_ret
        exact ⟨ret_int (by rw [he.out, catFrom_yes f 3 ha.out]; rfl), (hs.out.next B7.out).2.2⟩
    · obtain ⟨t0, _⟩ := ts.cell 17 _ rfl
      clear ts
      rcases hf : f 5 with _ | _
      · rw [hf] at K5
        have ha := Lib.hid hf
        clear hf
        go_wp2_with fail
        go_still_tail 5, (by kernel_rfl)
        change wpList _ _ _ _ _ wr.drew
        go_wp2_with (go_at_call 108; refine (K5.out _ (bl_drew hs.out.2.2)).mono ?_; rintro e w7 ⟨rfl, hb7⟩; have B7 := Lib.hid (bl_trans (bl_drew (bl_refl wr)) hb7); clear hb7)
        go_roundw
        case rel => exact ⟨4, by omega, by go_num, Lib.hid (by rw [he.out, catFrom_no f 4 ha.out]), Lib.hid (hs.out.next B7.out)⟩
        case measure => simp [intOf]
      · rw [hf] at K5
        have ha := Lib.hid hf
        clear hf
        go_wp2_with fail
        go_still_tail 5, (by kernel_rfl)
        change wpList _ _ _ _ _ wr.drew
        go_wp2_with (go_at_call 108; refine (K5.out _ (bl_drew hs.out.2.2)).mono ?_; rintro e w7 ⟨rfl, hb7⟩; have B7 := Lib.hid (bl_trans (bl_drew (bl_refl wr)) hb7); clear hb7)
        go_ret
        exact ⟨ret_int (by rw [he.out, catFrom_yes f 4 ha.out]; rfl), (hs.out.next B7.out).2.2⟩
    · obtain ⟨t0, _⟩ := ts.cell 20 _ rfl
      clear ts
      rcases hf : f 6 with _ | _
      · rw [hf] at K6
        have ha := Lib.hid hf
        clear hf
        go_wp2_with fail
        go_still_tail 5, (by kernel_rfl)
        change wpList _ _ _ _ _ wr.drew
        go_wp2_with (go_at_call 109; refine (K6.out _ (bl_drew hs.out.2.2)).mono ?_; rintro e w7 ⟨rfl, hb7⟩; have B7 := Lib.hid (bl_trans (bl_drew (bl_refl wr)) hb7); clear hb7)
        go_roundw
        case rel => exact ⟨5, by omega, by go_num, Lib.hid (by rw [he.out, catFrom_no f 5 ha.out]), Lib.hid (hs.out.next B7.out)⟩
        case measure => simp [intOf]
      · rw [hf] at K6
        have ha := Lib.hid hf
        clear hf
        go_wp2_with fail
        go_still_tail 5, (by kernel_rfl)
        change wpList _ _ _ _ _ wr.drew
        go_wp2_with (go_at_call 109; refine (K6.out _ (bl_drew hs.out.2.2)).mono ?_; rintro e w7 ⟨rfl, hb7⟩; have B7 := Lib.hid (bl_trans (bl_drew (bl_refl wr)) hb7); clear hb7)
        go_ret
        exact ⟨ret_int (by rw [he.out, catFrom_yes f 5 ha.out]; rfl), (hs.out.next B7.out).2.2⟩
    · obtain ⟨t0, _⟩ := ts.cell 23 _ rfl
      clear ts
      rcases hf : f 7 with _ | _
      · rw [hf] at K7
        have ha := Lib.hid hf
        clear hf
        go_wp2_with fail
        go_still_tail 5, (by kernel_rfl)
        change wpList _ _ _ _ _ wr.drew
        go_wp2_with (go_at_call 110; refine (K7.out _ (bl_drew hs.out.2.2)).mono ?_; rintro e w7 ⟨rfl, hb7⟩; have B7 := Lib.hid (bl_trans (bl_drew (bl_refl wr)) hb7); clear hb7)
        go_roundw
        case rel => exact ⟨6, by omega, by go_num, Lib.hid (by rw [he.out, catFrom_no f 6 ha.out]), Lib.hid (hs.out.next B7.out)⟩
        case measure => simp [intOf]
      · rw [hf] at K7
        have ha := Lib.hid hf
        clear hf
        go_wp2_with fail
        go_still_tail 5, (by kernel_rfl)
        change wpList _ _ _ _ _ wr.drew
        go_wp2_with (go_at_call 110; refine (K7.out _ (bl_drew hs.out.2.2)).mono ?_; rintro e w7 ⟨rfl, hb7⟩; have B7 := Lib.hid (bl_trans (bl_drew (bl_refl wr)) hb7); clear hb7)
        go_ret
        exact ⟨ret_int (by rw [he.out, catFrom_yes f 6 ha.out]; rfl), (hs.out.next B7.out).2.2⟩
    · obtain ⟨t0, _⟩ := ts.cell 26 _ rfl
      clear ts
      rcases hf : f 8 with _ | _
      · rw [hf] at K8
        have ha := Lib.hid hf
        clear hf
        go_wp2_with fail
        go_still_tail 5, (by kernel_rfl)
        change wpList _ _ _ _ _ wr.drew
        go_wp2_with (go_at_call 111; refine (K8.out _ (bl_drew hs.out.2.2)).mono ?_; rintro e w7 ⟨rfl, hb7⟩; have B7 := Lib.hid (bl_trans (bl_drew (bl_refl wr)) hb7); clear hb7)
        go_roundw
        case rel => exact ⟨7, by omega, by go_num, Lib.hid (by rw [catFrom_no f 7 ha.out]), Lib.hid (hs.out.next B7.out)⟩
        case measure => simp [intOf]
      · rw [hf] at K8
        have ha := Lib.hid hf
        clear hf
        go_wp2_with fail
        go_still_tail 5, (by kernel_rfl)
        change wpList _ _ _ _ _ wr.drew
        go_wp2_with (go_at_call 111; refine (K8.out _ (bl_drew hs.out.2.2)).mono ?_; rintro e w7 ⟨rfl, hb7⟩; have B7 := Lib.hid (bl_trans (bl_drew (bl_refl wr)) hb7); clear hb7)
        go_ret
        exact ⟨ret_int (by rw [catFrom_yes f 7 ha.out]; rfl), (hs.out.next B7.out).2.2⟩
end Go.Proofs.YtlpkaflmhdgmmaaGreatDoor

/-! The program's value of five cards. -/
namespace Go.Proofs.YtlpkaflmhdgmmaaGreatDoor
open Go.RowKit
set_option linter.unusedVariables false

set_option maxRecDepth 100000 in
set_option maxHeartbeats 1000000 in
theorem numberOf_any (A : Option Addr) (c : Nat) (L : List Int) (w : World) (hr : Rd w A L) (h5 : L.length = 5) (hb : ranksOk L) :
    Calls Tryz.prog 91 #[.slice A 5 c] w (Same (.int .i64 (digs L)) w) := by
  have HR := Lib.hid hr
  have HB := Lib.hid (digs_le L hb h5)
  have HN := Lib.hid (ranks_nth L hb)
  have H5 := Lib.hid h5
  clear hr hb h5
  go_enter Tryz.func91, Tryz.ntmps91
  go_wp2_with fail
  go_loop [3, 8] (fun n i => ∃ k : Nat, k ≤ 5 ∧ i = .int .i64 k ∧ n = .int .i64 (digs (L.take k))) (fun _ i => 5 - (intOf i).toNat)
  case atStart => exact ⟨0, by omega, rfl, rfl⟩
  case round =>
    obtain ⟨k, hk, rfl, rfl⟩ := hrel
    by_cases hlt : k < 5
    · obtain ⟨b, off, rfl, hc⟩ := HR.out.at_ (bl_refl _) k (by rw [H5.out]; exact hlt)
      have hlt' : (k : Int) < 5 := by omega
      have h1 := HB.out k hk
      have hx := HN.out k (by rw [H5.out]; exact hlt)
      have HC := Lib.hid (take_nth L k (by rw [H5.out]; exact hlt))
      have HS : Hid (digs (L.take (k + 1)) = digs (L.take k) * 13 + nth L k) := Lib.hid (by rw [HC.out, digs_snoc]; omega)
      generalize digs (L.take k) = q at *
      generalize nth L k = x at *
      go_wp2_with fail
      go_round
      case rel => exact ⟨k + 1, by omega, by go_num, by rw [HS.out]⟩
      case measure => simp [intOf]; omega
    · obtain rfl : k = 5 := by omega
      have HT : Hid (L.take 5 = L) := Lib.hid (by rw [← H5.out]; exact take_len L)
      go_wp2_with fail
      go_ret
      exact ⟨ret_int (by rw [HT.out]), rfl⟩
theorem catI_bd (L : List Int) (m n : Nat) (o : Bool) : 0 ≤ catI L m n o ∧ catI L m n o ≤ 8 := by
  unfold catI
  repeat' split
  all_goals omega
theorem rd_shp (w : World) (k0 k1 k2 k3 k4 m n : Int) (o : Bool) : Rd (w.alloc (.cells #[.int .i64 k0, .int .i64 k1, .int .i64 k2, .int .i64 k3, .int .i64 k4, .int .i64 m, .int .i64 n, .bool o] 95)) (some ⟨w.heap.size, 0, none⟩) [k0, k1, k2, k3, k4] := fun _ => by
  have h := blk_new w 95 (shapeL [k0, k1, k2, k3, k4] m n o)
  refine ⟨w.heap.size, 0, rfl, fun i hi => ?_⟩
  rw [Nat.zero_add]
  match i, hi with
  | 0, _ => exact (h.cell 0 _ rfl).1
  | 1, _ => exact (h.cell 1 _ rfl).1
  | 2, _ => exact (h.cell 2 _ rfl).1
  | 3, _ => exact (h.cell 3 _ rfl).1
  | 4, _ => exact (h.cell 4 _ rfl).1
set_option maxRecDepth 100000 in
set_option maxHeartbeats 4000000 in
theorem value_any (k0 k1 k2 k3 k4 : Int) (m n : Nat) (o : Bool) (B : Nat) (wt w : World) (ht : Hid (Low B wt)) (hB : Hid (Below B wt w)) (hBw : Hid (B ≤ w.heap.size)) (hrk : ranksOk [k0, k1, k2, k3, k4]) :
    Calls Tryz.prog 65 #[shp k0 k1 k2 k3 k4 m n o] w (Fresh (.int .i64 (371293 * catI [k0, k1, k2, k3, k4] m n o + digs [k0, k1, k2, k3, k4])) w) := by
  have b0 := hrk k0 (by simp)
  have b4 := hrk k4 (by simp)
  have BX := Lib.hid (bl_alloc (bl_refl w) (.cells #[.int .i64 k0, .int .i64 k1, .int .i64 k2, .int .i64 k3, .int .i64 k4, .int .i64 m, .int .i64 n, .bool o] 95))
  have K1 := Lib.hid (fun (W : World) (hb : Below w.heap.size w W) => category_any k0 k1 k2 k3 k4 m n o B wt W ht (Lib.hid (hB.out.trans (hb.mono hBw.out))) (Lib.hid (Nat.le_trans hBw.out hb.size)) b0.1 b0.2 b4.1 b4.2)
  obtain ⟨W1, eW⟩ : ∃ W1, W1 = w.alloc (.cells #[.int .i64 k0, .int .i64 k1, .int .i64 k2, .int .i64 k3, .int .i64 k4, .int .i64 m, .int .i64 n, .bool o] 95) := ⟨_, rfl⟩
  have hrd := rd_shp w k0 k1 k2 k3 k4 m n o
  rw [← eW] at hrd BX
  have K2 := Lib.hid (fun (W : World) (hb : Below W1.heap.size W1 W) => numberOf_any (some ⟨w.heap.size, 0, none⟩) 5 [k0, k1, k2, k3, k4] W (hrd.below hb) rfl hrk)
  have hd := digs_le [k0, k1, k2, k3, k4] hrk rfl 5 (Nat.le_refl _)
  have hc := catI_bd [k0, k1, k2, k3, k4] m n o
  change 0 ≤ digs [k0, k1, k2, k3, k4] ∧ digs [k0, k1, k2, k3, k4] ≤ 371292 at hd
  generalize catI [k0, k1, k2, k3, k4] m n o = cc at *
  generalize digs [k0, k1, k2, k3, k4] = dd at *
  have e1 : IntKind.i64.wrap (cc * 371293) = cc * 371293 := IntWalk.i64_in _ (by omega)
  have e2 : IntKind.i64.wrap (cc * 371293 + dd) = cc * 371293 + dd := IntWalk.i64_in _ (by omega)
  have EF : Hid (cc * 371293 + dd = 371293 * cc + dd) := Lib.hid (by omega)
  have EW := Lib.hid eW
  clear hrd eW hrk b0 b4 hd hc ht hB hBw
  go_enter Tryz.func65, Tryz.ntmps65
  go_wp2_with fail
  rw [← EW.out]
  have NX : Hid (Blk W1 w.heap.size 95 (shapeL [k0, k1, k2, k3, k4] m n o)) := Lib.hid (by rw [EW.out]; exact blk_new w _ _)
  clear EW
  obtain ⟨g0, _⟩ := NX.out.cell 0 _ rfl
  obtain ⟨g1, _⟩ := NX.out.cell 1 _ rfl
  obtain ⟨g2, _⟩ := NX.out.cell 2 _ rfl
  obtain ⟨g3, _⟩ := NX.out.cell 3 _ rfl
  obtain ⟨g4, _⟩ := NX.out.cell 4 _ rfl
  obtain ⟨g5, _⟩ := NX.out.cell 5 _ rfl
  obtain ⟨g6, _⟩ := NX.out.cell 6 _ rfl
  obtain ⟨g7, _⟩ := NX.out.cell 7 _ rfl
  have hzz := NX.out.lt
  go_region_with ((first
    | (go_at_call 90; (first | (with_reducible refine (K1.out _ BX.out).mono ?_) | (with_reducible refine (K1.out _ (bl_drew BX.out)).mono ?_) | (with_reducible refine (K1.out _ (bl_drewN BX.out _)).mono ?_)); rintro e w3 ⟨rfl, hb3⟩; obtain ⟨hcw, hfw⟩ := bcell hb3)
    | (go_at_call 91; (first | (with_reducible refine (K2.out _ (bl_drew (bl_refl _))).mono ?_) | (with_reducible refine (K2.out _ (bl_trans (bl_drew (bl_refl _)) hb3)).mono ?_) | (with_reducible refine (K2.out _ (bl_refl _)).mono ?_)); rintro e w4 ⟨rfl, rfl⟩)))
  all_goals
    go_wp2_with fail
    go_ret
    exact ⟨ret_int EF.out, bl_trans BX.out (bl_trans (bl_drew (bl_refl _)) hb3)⟩

/-! The value of five cards. -/
/-- The value, in the model's words. -/
def hv (xs : List Int) : Int := 371293 * catS (rk xs) (flushB xs) + digs (kickS (rk xs))
theorem lowK_len (L : List Int) (h : L.length = 5) : (lowK L).length = 5 := by unfold lowK; split <;> simp [h]
end Go.Proofs.YtlpkaflmhdgmmaaGreatDoor

/-! The program's shape and value of five cards, and its test of a list of cards. -/
namespace Go.Proofs.YtlpkaflmhdgmmaaGreatDoor
open Go.RowKit
set_option linter.unusedVariables false

/-- A shape by value, literally, as a result. -/
def ShapeLit (k0 k1 k2 k3 k4 m n : Int) (o : Bool) (w : World) (e : Ending) (w' : World) : Prop := e = .returned (shp k0 k1 k2 k3 k4 m n o) ∧ Below w.heap.size w w'
theorem shapeLit_of {K : List Int} {k0 k1 k2 k3 k4 m n : Int} {o : Bool} {w : World} {e : Ending} {w' : World} (h : ShapeOf K m n o w e w') (hK : K = [k0, k1, k2, k3, k4]) : ShapeLit k0 k1 k2 k3 k4 m n o w e w' := by subst hK; exact h
/-- What the program's shape is: kickers, most, next, one suit. -/
theorem shape_facts (xs : List Int) (hb : cardsB xs = true) (h5 : xs.length = 5) :
    ∃ (k0 k1 k2 k3 k4 : Int) (m n : Nat), lowK (kk (rk xs)) = [k0, k1, k2, k3, k4] ∧ mostK (kk (rk xs)) = m ∧ nextK (kk (rk xs)) = n ∧ ranksOk [k0, k1, k2, k3, k4] ∧ kickS (rk xs) = [k0, k1, k2, k3, k4] ∧
      catI [k0, k1, k2, k3, k4] m n (flushB xs) = catS (rk xs) (flushB xs) := by
  obtain ⟨hrk, h4⟩ := rk_facts xs hb
  have h5' : (rk xs).length = 5 := by unfold rk; rw [List.length_map]; exact h5
  have hp := kk_perm (rk xs) hrk h4
  obtain ⟨k0, k1, k2, k3, k4, e⟩ := list_five (lowK (kk (rk xs))) (lowK_len _ (by rw [hp.length_eq]; exact h5'))
  refine ⟨k0, k1, k2, k3, k4, mostK (kk (rk xs)), nextK (kk (rk xs)), e, rfl, rfl, ?_, ?_, ?_⟩
  · rw [← e]
    intro r hr
    unfold lowK at hr
    split at hr
    · simp at hr; omega
    · exact hrk r (hp.subset hr)
  · rw [← (five_facts (rk xs) hrk h4 h5').2.1]; exact e
  · rw [← e]; exact cat_same (rk xs) (flushB xs) hrk h4 h5'

set_option maxRecDepth 100000 in
set_option maxHeartbeats 4000000 in
theorem highShape_any (xs : List Int) (k0 k1 k2 k3 k4 m n : Int) (o : Bool) (B : Nat) (wt w : World) (ht : Hid (Low B wt)) (hB : Hid (Below B wt w)) (hBw : Hid (B ≤ w.heap.size)) (h5 : xs.length = 5)
    (K1 : Hid (∀ W, ∃ j0 j1 j2 j3 j4 : Int, lowK [j0, j1, j2, j3, j4] = [k0, k1, k2, k3, k4] ∧ Calls Tryz.prog 88 #[aggI xs] W (ShapeLit j0 j1 j2 j3 j4 m n o W))) :
    Calls Tryz.prog 64 #[aggI xs] w (ShapeLit k0 k1 k2 k3 k4 m n o w) := by
  have b1 := (bl_alloc (bl_alloc (bl_refl w) (.cells (ints xs).toArray 58)) (.cells #[.int .i64 0, .int .i64 0, .int .i64 0, .int .i64 0, .int .i64 0, .int .i64 0, .int .i64 0, .bool false] 95))
  have hx := ((blk_new w 58 (ints xs)).below (bl_alloc (bl_refl _) (.cells #[.int .i64 0, .int .i64 0, .int .i64 0, .int .i64 0, .int .i64 0, .int .i64 0, .int .i64 0, .bool false] 95)))
  have hy := blk_new (w.alloc (.cells (ints xs).toArray 58)) 95 [.int .i64 0, .int .i64 0, .int .i64 0, .int .i64 0, .int .i64 0, .int .i64 0, .int .i64 0, .bool false]
  rw [World.size_alloc] at hy
  obtain ⟨W1, eW⟩ : ∃ W1, W1 = (w.alloc (.cells (ints xs).toArray 58)).alloc (.cells #[.int .i64 0, .int .i64 0, .int .i64 0, .int .i64 0, .int .i64 0, .int .i64 0, .int .i64 0, .bool false] 95) := ⟨_, rfl⟩
  change Blk ((w.alloc (.cells (ints xs).toArray 58)).alloc (.cells #[.int .i64 0, .int .i64 0, .int .i64 0, .int .i64 0, .int .i64 0, .int .i64 0, .int .i64 0, .bool false] 95)) _ _ _ at hy
  rw [← eW] at b1 hx hy
  have B1 := Lib.hid b1
  have HX := Lib.hid hx
  have HY := Lib.hid hy
  have EW := Lib.hid eW
  have L5 : Hid ((ints xs).length = 5) := Lib.hid (by rw [ints_length]; exact h5)
  obtain ⟨j0, j1, j2, j3, j4, ej, hk1⟩ := K1.out W1
  have EJ := Lib.hid ej
  have K2 := Lib.hid hk1
  have K3 := Lib.hid (fun (W : World) (hb : Below w.heap.size w W) => below_any j0 j1 j2 j3 j4 m n o B wt W ht (Lib.hid (hB.out.trans (hb.mono hBw.out))) (Lib.hid (Nat.le_trans hBw.out hb.size)))
  clear b1 hx hy eW h5 K1 ej hk1 ht hB hBw
  unfold aggI
  go_enter Tryz.func64, Tryz.ntmps64
  go_upto_region 1 with fail
  rw [← EW.out]
  clear EW
  unfold aggI at K2
  go_wp2_with (first
    | (with_reducible refine wpList_load_blk 58 _ 5 rfl (.tmp 1) rfl u51 rfl i51 w.heap.size 0 rfl (ints xs) L5.out HX.out.range ?_)
    | (go_at_call 88; refine K2.out.mono ?_; rintro e w5 ⟨rfl, hb5⟩; have B5 := Lib.hid (bl_trans B1.out hb5); have Y5 := Lib.hid (HY.out.below hb5); clear hb5)
    | (go_at_call 89; refine (K3.out _ B5.out).mono ?_; rintro e w6 hr6; obtain ⟨rfl, hb6⟩ := shapeLit_of hr6 EJ.out; have B6 := Lib.hid (bl_trans B5.out hb6); have Y6 := Lib.hid (Y5.out.below hb6); clear hb6 hr6)
    | (refine wpList_store_blk 95 8 rfl (.tmp 2) (.tmp 5) rfl i55 (w.heap.size + 1) rfl (shapeL [k0, k1, k2, k3, k4] m n o) rfl rfl (shapeL_one _ _ _ _) _ Y6.out rfl ?_))
  intro w8 hb8 hg8
  have B8 := Lib.hid hb8
  have D8 := Lib.hid (bl_blk B6.out hg8 (by omega))
  clear hb8 hg8
  go_wp2_with fail
  exact bodyPost_ret (results_cell_row Tryz.results64 _ _ (w.heap.size + 1) _ _ _ _ rfl B8.out Tryz.underlying95 rfl i55) rfl ⟨rfl, D8.out⟩

/-- The shape of five cards, whole. -/
theorem highShape_of (xs : List Int) (hb : cardsB xs = true) (h5 : xs.length = 5) (k0 k1 k2 k3 k4 : Int) (m n : Nat) (e1 : lowK (kk (rk xs)) = [k0, k1, k2, k3, k4]) (e2 : mostK (kk (rk xs)) = m) (e3 : nextK (kk (rk xs)) = n)
    (B : Nat) (wt w : World) (ht : Hid (Low B wt)) (hB : Hid (Below B wt w)) (hBw : Hid (B ≤ w.heap.size)) :
    Calls Tryz.prog 64 #[aggI xs] w (ShapeLit k0 k1 k2 k3 k4 m n (flushB xs) w) := by
  obtain ⟨hrk, h4⟩ := rk_facts xs hb
  have h5' : (rk xs).length = 5 := by unfold rk; rw [List.length_map]; exact h5
  have hp := kk_perm (rk xs) hrk h4
  obtain ⟨j0, j1, j2, j3, j4, e⟩ := list_five (kk (rk xs)) (by rw [hp.length_eq]; exact h5')
  refine highShape_any xs k0 k1 k2 k3 k4 m n (flushB xs) B wt w ht hB hBw h5 (Lib.hid fun W => ⟨j0, j1, j2, j3, j4, by rw [← e]; exact e1, ?_⟩)
  have := cardsShape_any xs W hb h5 h4 hrk
  rw [e2, e3] at this
  exact this.mono fun _ _ h => shapeLit_of h e

set_option maxRecDepth 100000 in
set_option maxHeartbeats 4000000 in
theorem fiveValue_any (xs : List Int) (hb : cardsB xs = true) (h5 : xs.length = 5) (B : Nat) (wt w : World) (ht : Hid (Low B wt)) (hB : Hid (Below B wt w)) (hBw : Hid (B ≤ w.heap.size)) :
    Calls Tryz.prog 39 #[aggI xs] w (Fresh (.int .i64 (hv xs)) w) := by
  obtain ⟨k0, k1, k2, k3, k4, m, n, e1, e2, e3, hr, e4, e5⟩ := shape_facts xs hb h5
  have EV : Hid (hv xs = 371293 * catI [k0, k1, k2, k3, k4] m n (flushB xs) + digs [k0, k1, k2, k3, k4]) := Lib.hid (by unfold hv; rw [e4, e5])
  have K1 := Lib.hid (fun (W : World) (hb' : Below w.heap.size w W) => highShape_of xs hb h5 k0 k1 k2 k3 k4 m n e1 e2 e3 B wt W ht (Lib.hid (hB.out.trans (hb'.mono hBw.out))) (Lib.hid (Nat.le_trans hBw.out hb'.size)))
  have K2 := Lib.hid (fun (W : World) (hb' : Below w.heap.size w W) => value_any k0 k1 k2 k3 k4 m n (flushB xs) B wt W ht (Lib.hid (hB.out.trans (hb'.mono hBw.out))) (Lib.hid (Nat.le_trans hBw.out hb'.size)) hr)
  have B1 := Lib.hid (bl_alloc (bl_refl w) (.cells (ints xs).toArray 58))
  have HX := Lib.hid (blk_new w 58 (ints xs))
  have L5 : Hid ((ints xs).length = 5) := Lib.hid (by rw [ints_length]; exact h5)
  generalize flushB xs = fl at *
  clear hb h5 e1 e2 e3 hr e4 e5 ht hB hBw
  unfold aggI at *
  go_enter Tryz.func39, Tryz.ntmps39
  go_wp2_with (first
    | (with_reducible refine wpList_load_blk 58 _ 5 rfl (.tmp 1) rfl u51 rfl i51 w.heap.size 0 rfl (ints xs) L5.out HX.out.range ?_)
    | (go_at_call 64; refine (K1.out _ B1.out).mono ?_; rintro e w5 ⟨rfl, hb5⟩; have B5 := Lib.hid (bl_trans B1.out hb5); clear hb5)
    | (go_at_call 65; refine (K2.out _ B5.out).mono ?_; rintro e w6 ⟨rfl, hb6⟩; have B6 := Lib.hid (bl_trans B5.out hb6); clear hb6))
  go_ret
  exact ⟨ret_int EV.out.symm, B6.out⟩
end Go.Proofs.YtlpkaflmhdgmmaaGreatDoor

/-! HighValue, CategoryOf, KickersOf: both texts' walks; the tests of a list of cards of some size. -/
namespace Go.Proofs.YtlpkaflmhdgmmaaGreatDoor
open Go.RowKit
set_option linter.unusedVariables false

/-! What the functions answer. -/
def hvR (xs : List Int) : Int := if sizedB xs 5 5 = true then hv xs else 0
def catR (xs : List Int) : Int := if sizedB xs 5 5 = true then catS (rk xs) (flushB xs) else 0
def kickR (xs : List Int) : List Int := if sizedB xs 5 5 = true then kickS (rk xs) else []
theorem hvR_yes {xs : List Int} (h : sizedB xs 5 5 = true) : hvR xs = hv xs := by unfold hvR; rw [if_pos h]
theorem hvR_no {xs : List Int} (h : sizedB xs 5 5 = false) : hvR xs = 0 := by unfold hvR; rw [h]; rfl
theorem catR_yes {xs : List Int} (h : sizedB xs 5 5 = true) : catR xs = catS (rk xs) (flushB xs) := by unfold catR; rw [if_pos h]
theorem catR_no {xs : List Int} (h : sizedB xs 5 5 = false) : catR xs = 0 := by unfold catR; rw [h]; rfl
theorem kickR_yes {xs : List Int} (h : sizedB xs 5 5 = true) : kickR xs = kickS (rk xs) := by unfold kickR; rw [if_pos h]
theorem kickR_no {xs : List Int} (h : sizedB xs 5 5 = false) : kickR xs = [] := by unfold kickR; rw [h]; rfl
theorem sized5 {xs : List Int} (h : sizedB xs 5 5 = true) : xs.length = 5 ∧ cardsB xs = true := by
  obtain ⟨a, b, c⟩ := sized_iff.1 h
  exact ⟨by omega, c⟩
theorem catS_bd (rs : List Int) (o : Bool) : 0 ≤ catS rs o ∧ catS rs o ≤ 8 := by
  unfold catS
  repeat' split
  all_goals omega
theorem kick_facts (xs : List Int) (hb : cardsB xs = true) (h5 : xs.length = 5) : (kickS (rk xs)).length = 5 ∧ ranksOk (kickS (rk xs)) := by
  obtain ⟨k0, k1, k2, k3, k4, m, n, e1, e2, e3, hr, e4, e5⟩ := shape_facts xs hb h5
  rw [e4]
  exact ⟨rfl, hr⟩
theorem kickR_len (xs : List Int) : (kickR xs).length ≤ 5 := by
  rcases h : sizedB xs 5 5 with _ | _
  · rw [kickR_no h]; simp
  · rw [kickR_yes h, (kick_facts xs (sized5 h).2 (sized5 h).1).1]; omega
theorem hv_bd (xs : List Int) (hb : cardsB xs = true) (h5 : xs.length = 5) : 0 ≤ hv xs ∧ hv xs < 3341637 := by
  have h1 := catS_bd (rk xs) (flushB xs)
  obtain ⟨hl, hr⟩ := kick_facts xs hb h5
  have h2 := digs_le _ hr hl 5 (Nat.le_refl _)
  rw [List.take_of_length_le (by omega)] at h2
  unfold hv
  omega
theorem rd_rng {w : World} {b off : Nat} {xs : List Int} (h : ∀ i, i < xs.length → w.cell? ⟨b, off + i, none⟩ = some (.int .i64 (nth xs i))) : w.rangeAt b off (ints xs) := fun j v hv => by
  have hj : j < xs.length := by have := (List.getElem?_eq_some_iff.1 hv).1; rwa [ints_length] at this
  rw [ints_get xs j hj] at hv
  injection hv with hv
  rw [h j hj, hv]
/-- A slice of five cards as the address of an array. -/
theorem run_arr5 (b off c : Nat) (w : World) : (Instr.arrayAt 58 (.slice (some ⟨b, off, none⟩) 5 c)).run Tryz.prog w = .ok (.pointer (some ⟨b, off, none⟩)) w := by
  simp [Instr.arrayAt, run_underlying u51]

/-! The program's walks. -/
set_option maxRecDepth 100000 in
set_option maxHeartbeats 2000000 in
theorem implHighValue_any (A : Option Addr) (c : Nat) (xs : List Int) (B : Nat) (wt w : World) (ht : Hid (Low B wt)) (hB : Hid (Below B wt w)) (hBw : Hid (B ≤ w.heap.size)) (hr : Rd w A xs) (hn : xs.length ≤ 4000000) :
    Calls Tryz.prog 14 #[.slice A xs.length c] w (Fresh (pairV (hvR xs) (codeZ xs 5 5)) w) := by
  have K := Lib.hid (fun (c : Nat) => implSized_any A c xs 5 5 w hr hn)
  rcases hd : sizedB xs 5 5 with _ | _
  · rw [hvR_no hd, codeZ_no hd]
    rw [hd] at K
    clear hd hr
    go_enter Tryz.func14, Tryz.ntmps14
    go_wp2_with (go_at_call 38; refine (K.out _).mono ?_; rintro e w1 ⟨rfl, rfl⟩)
    go_ret2
    exact ⟨rfl, bl_refl _⟩
  · rw [hvR_yes hd, codeZ_yes hd]
    rw [hd] at K
    obtain ⟨h5, hb⟩ := sized5 hd
    obtain ⟨b, off, rfl, hc⟩ := hr (by omega)
    have HC := Lib.hid (rd_rng hc)
    have L5 : Hid ((ints xs).length = 5) := Lib.hid (by rw [ints_length]; exact h5)
    have hsa := run_arr5 b off c
    have K2 := Lib.hid (fiveValue_any xs hb h5 B wt w ht hB hBw)
    simp only [h5] at K ⊢
    clear hd hr hc hb hn h5 ht hB hBw
    unfold aggI at *
    go_enter Tryz.func14, Tryz.ntmps14
    go_wp2_with (first
      | (go_at_call 38; refine (K.out _).mono ?_; rintro e w1 ⟨rfl, rfl⟩)
      | (with_reducible refine wpList_load_blk 58 _ 5 rfl (.tmp 8) rfl u51 rfl i51 b off rfl (ints xs) L5.out HC.out ?_)
      | (go_at_call 39; refine K2.out.mono ?_; rintro e w1 ⟨rfl, hb⟩; have HB := Lib.hid hb; clear hb))
    go_ret2
    exact ⟨rfl, HB.out⟩
/-- The ranks as a slice of new memory. -/
def ListNew (k0 k1 k2 k3 k4 : Int) (w : World) (e : Ending) (w' : World) : Prop := e = .returned (.slice (some ⟨w.heap.size, 0, none⟩) 5 5) ∧ w' = w.alloc (.cells #[.int .i64 k0, .int .i64 k1, .int .i64 k2, .int .i64 k3, .int .i64 k4] 93)
set_option maxRecDepth 100000 in
theorem run_field55 (k0 k1 k2 k3 k4 m n : Int) (o : Bool) (W : World) : (Instr.field 95 (shp k0 k1 k2 k3 k4 m n o) 0).run Tryz.prog W = .ok (.agg #[.int .i64 k0, .int .i64 k1, .int .i64 k2, .int .i64 k3, .int .i64 k4]) W := by
  simp [Instr.field, run_underlying Tryz.underlying95, part, isAgg, run_underlying u53, asAgg]
/-! The model's walks. -/
set_option maxRecDepth 100000 in
set_option maxHeartbeats 1000000 in
theorem l04Value_any (A : Option Addr) (c : Nat) (xs : List Int) (w : World) (hr : Rd w A xs) (h5 : xs.length = 5) (hb : cardsB xs = true) :
    Calls Tryz.prog 58 #[.slice A 5 c] w (Fresh (.int .i64 (hv xs)) w) := by
  obtain ⟨hrk, h4⟩ := rk_facts xs hb
  obtain ⟨hl, hkr⟩ := kick_facts xs hb h5
  have K1 := Lib.hid (fun (c : Nat) => l04Category_any A c xs w hr h5 hb h4)
  have K2 := Lib.hid (fun (c : Nat) (W : World) (h : Below w.heap.size w W) => l04Kickers_any A c xs W (hr.below h) (by omega) hb)
  simp only [h5] at K2
  have K3 := Lib.hid (fun (A1 : Option Addr) (c1 : Nat) (W : World) (h : Rd W A1 (kickS (rk xs))) => l04Digits_any A1 c1 (kickS (rk xs)) W h hl hkr)
  have hc := catS_bd (rk xs) (flushB xs)
  have hd := digs_le _ hkr hl 5 (Nat.le_refl _)
  rw [List.take_of_length_le (by omega)] at hd
  have EV : Hid (hv xs = 371293 * catS (rk xs) (flushB xs) + digs (kickS (rk xs))) := Lib.hid rfl
  have HL := Lib.hid hl
  generalize catS (rk xs) (flushB xs) = cc at *
  generalize digs (kickS (rk xs)) = dd at *
  generalize kickS (rk xs) = kl at *
  clear hr h5 hb hrk h4 hl hkr
  go_enter Tryz.func58, Tryz.ntmps58
  go_wp2_with (first
    | (go_at_call 79; refine (K1.out _).mono ?_; rintro e w1 ⟨rfl, hb1⟩; have B1 := Lib.hid hb1; clear hb1)
    | (go_at_call 81; refine (K2.out _ _ B1.out).mono ?_; rintro e w2 ⟨A2, c2, rfl, ho2, hb2⟩; rw [HL.out]; have R2 := Lib.hid ho2.rd; have B2 := Lib.hid (bl_trans B1.out hb2); clear ho2 hb2)
    | (go_at_call 80; refine (K3.out _ _ _ R2.out).mono ?_; rintro e w3 ⟨rfl, rfl⟩))
  go_ret
  exact ⟨ret_int EV.out.symm, B2.out⟩
end Go.Proofs.YtlpkaflmhdgmmaaGreatDoor
