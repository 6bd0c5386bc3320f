/-
  The shape of five cards: their ranks, and whether they have one suit.
-/
import Derived.Test.YtcbfmfkahgfjkaaDoorShapeImpl
import Derived.Test.YtcbfmfkahgfjkaaDoorRank
import Derived.Test.YtcbfmfkahgfjkaaDoorCatSpec
namespace Go.Proofs.YtcbfmfkahgfjkaaDoor
open Go.RowKit
set_option linter.unusedVariables false

/-- The first k cards have the suit of the first one. -/
def oneB (xs : List Int) (k : Nat) : Bool := (xs.take k).all (fun x => x % 4 == nth xs 0 % 4)
theorem oneB_zero (xs : List Int) : oneB xs 0 = true := by unfold oneB; rw [List.take_zero]; rfl
theorem oneB_step (xs : List Int) (k : Nat) (hk : k < xs.length) : oneB xs (k + 1) = (oneB xs k && (nth xs k % 4 == nth xs 0 % 4)) := by
  unfold oneB
  rw [take_nth xs k hk, List.all_append, List.all_cons, List.all_nil, Bool.and_true]
theorem oneB_flush (xs : List Int) (h5 : xs.length = 5) : oneB xs 5 = flushB xs := by
  unfold oneB flushB cnt
  rw [List.take_of_length_le (by omega), Bool.eq_iff_iff, decide_eq_true_eq, ← h5, List.length_filter_eq_length_iff, List.all_eq_true]
/-- The ranks of the first k cards, and zeros. -/
def rk0 (xs : List Int) (k : Nat) : List Int := rk (xs.take k) ++ List.replicate (5 - k) 0
theorem rk0_step (xs : List Int) (k : Nat) (h5 : xs.length = 5) (hk : k < 5) : (rk0 xs k).set k (nth xs k / 4) = rk0 xs (k + 1) := by
  unfold rk0
  have hl : (rk (xs.take k)).length = k := by unfold rk; rw [List.length_map, List.length_take]; omega
  rw [List.set_append_right _ _ (by omega), hl, Nat.sub_self, take_nth xs k (by omega)]
  have e : List.replicate (5 - k) (0 : Int) = 0 :: List.replicate (5 - (k + 1)) 0 := by
    rw [← List.replicate_succ]; congr 1; omega
  rw [e, List.set_cons_zero]
  unfold rk
  rw [List.map_append, List.append_assoc]
  rfl
theorem rk0_all (xs : List Int) (h5 : xs.length = 5) : rk0 xs 5 = rk xs := by
  unfold rk0; rw [List.take_of_length_le (by omega)]; simp
theorem rk0_length (xs : List Int) (k : Nat) (h5 : xs.length = 5) (hk : k ≤ 5) : (rk0 xs k).length = 5 := by
  unfold rk0 rk; rw [List.length_append, List.length_map, List.length_take, List.length_replicate]; omega
/-- The loop's state. -/
def HandSt (w : World) (xs : List Int) (k : Nat) (wr : World) : Prop :=
  Blk wr w.heap.size 51 (ints xs) ∧ Blk wr (w.heap.size + 1) 55 (shapeL [0, 0, 0, 0, 0] 0 0 false) ∧ Blk wr (w.heap.size + 1 + 1) 53 (ints (rk0 xs k)) ∧ Below w.heap.size w wr
theorem handSt_start (w : World) (xs : List Int) : HandSt w xs 0 (((w.alloc (.cells (ints xs).toArray 51)).alloc (.cells (shapeL [0, 0, 0, 0, 0] 0 0 false).toArray 55)).alloc (.cells (ints [0, 0, 0, 0, 0]).toArray 53)) := by
  refine ⟨((blk_new w _ _).below (bl_alloc (bl_refl _) _)).below (bl_alloc (bl_refl _) _), ?_, ?_, bl_alloc (bl_alloc (bl_alloc (bl_refl _) _) _) _⟩
  · have := (blk_new (w.alloc (.cells (ints xs).toArray 51)) 55 (shapeL [0, 0, 0, 0, 0] 0 0 false)).below (bl_alloc (bl_refl _) (.cells (ints [0, 0, 0, 0, 0]).toArray 53))
    rwa [World.size_alloc] at this
  · have := blk_new ((w.alloc (.cells (ints xs).toArray 51)).alloc (.cells (shapeL [0, 0, 0, 0, 0] 0 0 false).toArray 55)) 53 (ints [0, 0, 0, 0, 0])
    rwa [World.size_alloc, World.size_alloc] at this
theorem handSt_step {w wr : World} {xs : List Int} {k : Nat} (h : HandSt w xs k wr) (h5 : xs.length = 5) (hk : k < 5) (n : Nat) :
    HandSt w xs (k + 1) ((wr.setCell ⟨w.heap.size + 1 + 1, k, none⟩ (.int .i64 (nth xs k / 4))).drewN n) := by
  obtain ⟨h1, h2, h3, h4⟩ := h
  have hs := blk_setI h3 k (nth xs k / 4)
  rw [rk0_step xs k h5 hk] at hs
  have hh : HandSt w xs (k + 1) (wr.setCell ⟨w.heap.size + 1 + 1, k, none⟩ (.int .i64 (nth xs k / 4))) := ⟨h1.grown hs.2 (by simp; omega), h2.grown hs.2 (by simp), hs.1, bl_blk h4 hs.2 (by omega)⟩
  exact ⟨hh.1, hh.2.1, hh.2.2.1, bl_drewN hh.2.2.2 n⟩

set_option maxRecDepth 100000 in
set_option maxHeartbeats 4000000 in
theorem cardsShape_any (xs : List Int) (w : World) (hb : cardsB xs = true) (h5 : xs.length = 5) (h4 : ∀ r, occ (rk xs) r ≤ 4) (hrk : ranksOk (rk xs)) :
    Calls Tryd.prog 78 #[aggI xs] w (ShapeOf (kk (rk xs)) (mostK (kk (rk xs))) (nextK (kk (rk xs))) (flushB xs) w) := by
  have HC := Lib.hid ((cards_iff xs).1 hb).1
  have H5 := Lib.hid h5
  have KS := Lib.hid (fun W => ranksShape_any (rk xs) W hrk h4 (by unfold rk; rw [List.length_map]; exact h5))
  have KL := (kk_perm (rk xs) hrk h4).length_eq
  have EF := Lib.hid (oneB_flush xs h5)
  have EK := Lib.hid (rk0_all xs h5)
  obtain ⟨k0, k1, k2, k3, k4, eK⟩ := list_five (kk (rk xs)) (by rw [KL]; unfold rk; rw [List.length_map]; exact h5)
  rw [eK] at KS ⊢
  generalize (mostK [k0, k1, k2, k3, k4] : Int) = m at *
  generalize (nextK [k0, k1, k2, k3, k4] : Int) = n at *
  generalize flushB xs = fl at *
  clear hb h5 h4 hrk KL eK
  obtain ⟨w0, rfl⟩ : ∃ w0 : World, w0 = w := ⟨w, rfl⟩
  unfold aggI
  go_enter Tryd.func78, Tryd.ntmps78
  go_wp2_with (with_reducible refine wpList_load_blk 51 _ 5 rfl (.tmp 1) rfl u51 rfl i51 w0.heap.size 0 rfl (ints xs) (by rw [ints_length, H5.out]) ?hc ?_)
  case hc => exact (handSt_start w0 xs).1.range
  have HS := Lib.hid (handSt_start w0 xs)
  go_wp2_with fail
  go_loopw [4, 9] (fun o i wr => ∃ k : Nat, k ≤ 5 ∧ i = .int .i64 k ∧ o = .bool (oneB xs k) ∧ Hid (HandSt w0 xs k wr)) (fun _ i _ => 5 - (intOf i).toNat)
  case atStart => exact ⟨0, by omega, rfl, by rw [oneB_zero], HS⟩
  case round =>
    obtain ⟨k, hk, rfl, rfl, hs⟩ := hrel
    by_cases hlt : k < 5
    · have hlt' : (k : Int) < 5 := by omega
      have hx := HC.out _ (nth_mem xs k (by rw [H5.out]; exact hlt))
      have h0 := HC.out _ (nth_mem xs 0 (by rw [H5.out]; omega))
      have hidx := fun W => run_indexI 51 5 k xs W u51 H5.out hlt
      have c0 := (hs.out.1.int 0 (by rw [H5.out]; omega)).1
      obtain ⟨cr, fr⟩ := hs.out.2.2.1.int k (by rw [rk0_length xs k H5.out hk]; exact hlt)
      have HO := Lib.hid (oneB_step xs k (by rw [H5.out]; exact hlt))
      have HP := Lib.hid (handSt_step hs.out H5.out hlt)
      have K1 := Lib.hid (fun W => rank_any (nth xs k) W hx.1 hx.2)
      have K2 := Lib.hid (fun W => suit_any (nth xs k) W hx.1 hx.2)
      have K3 := Lib.hid (fun W => suit_any (nth xs 0) W h0.1 h0.2)
      generalize nth xs k = x at *
      generalize nth xs 0 = y at *
      generalize nth (rk0 xs k) k = z at *
      rcases ho : oneB xs k with _ | _
      · rw [ho] at HO
        have HO2 : Hid (oneB xs (k + 1) = false) := Lib.hid (by rw [HO.out]; rfl)
        clear ho HO hx h0
        go_wp2_with (go_at_call 97; refine (K1.out _).mono ?_; rintro e w1 ⟨rfl, rfl⟩)
        go_quiet (fail)
        go_wp2_with fail
        go_roundw
        case rel => exact ⟨k + 1, by omega, by go_num, by rw [HO2.out], Lib.hid (HP.out _)⟩
        case measure => simp [intOf]; omega
      · rw [ho] at HO
        have HO2 : Hid (oneB xs (k + 1) = (x % 4 == y % 4)) := Lib.hid (by rw [HO.out]; rfl)
        have c0' : (wr.setCell ⟨w0.heap.size + 1 + 1, k, none⟩ (.int .i64 (x / 4))).cell? ⟨w0.heap.size, 0, none⟩ = some (.int .i64 y) := by
          rw [World.cell?_setCell_other wr _ _ _ (by intro q; injection q with q _; omega)]; exact c0
        clear ho HO hx h0
        go_wp2_with (go_at_call 97; refine (K1.out _).mono ?_; rintro e w1 ⟨rfl, rfl⟩)
        go_quiet ((go_at_call 98; first | exact quiet_left (K2.out _) | exact quiet_left (K3.out _)))
        go_wp2_with fail
        go_roundw
        case rel => exact ⟨k + 1, by omega, by go_num, by rw [HO2.out], Lib.hid (HP.out _)⟩
        case measure => simp [intOf]; omega
    · obtain rfl : k = 5 := by omega
      have hs := hs.out
      unfold HandSt at hs
      rw [EK.out] at hs
      obtain ⟨s1, s2, s3, s4⟩ := hs
      have S2 := Lib.hid s2
      have S3 := Lib.hid s3
      have S4 := Lib.hid s4
      have LK : Hid ((ints (rk xs)).length = 5) := Lib.hid (by rw [ints_length]; unfold rk; rw [List.length_map]; exact H5.out)
      clear s1 s2 s3 s4
      have e5 : ((5 : Nat) : Int) = 5 := rfl
      rw [e5, EF.out]
      clear e5
      go_wp2_with (first
        | (with_reducible refine wpList_load_blk 53 _ 5 rfl (.tmp 3) rfl u53 rfl i53 (w0.heap.size + 1 + 1) 0 rfl (ints (rk xs)) LK.out S3.out.range ?_)
        | (go_at_call 99; refine (KS.out _).mono ?_; rintro e w5 ⟨rfl, hb5⟩; have B5 := Lib.hid hb5; clear hb5)
        | (refine wpList_store_blk 55 8 rfl (.tmp 7) (.tmp 28) rfl i55 w5.heap.size rfl (shapeL [k0, k1, k2, k3, k4] m n false) rfl rfl (shapeL_one _ _ _ _) _ (heap_alloc_new w5 _) rfl ?_))
      intro w6 hb6 hg6
      have B6 := Lib.hid hb6
      have X5 := Lib.hid (bl_trans S4.out B5.out)
      have D6 := Lib.hid (bl_blk (bl_alloc X5.out _) hg6 X5.out.size)
      have hs5 := B5.out.size
      have T6 := Lib.hid (((S2.out.below B5.out).below (bl_alloc (bl_refl _) _)).grown hg6 (by have := S2.out.lt; simp; omega))
      clear hb6 hg6
      have c7 := (B6.out.cell 7 _ rfl)
      have hb7 := (blk_set B6.out 7 (.bool fl))
      have B7 : Hid (Blk (w6.setCell ⟨w5.heap.size, 7, none⟩ (.bool fl)) w5.heap.size 55 (shapeL [k0, k1, k2, k3, k4] m n fl)) := Lib.hid hb7.1
      have T7 := Lib.hid (T6.out.grown hb7.2 (by have := S2.out.lt; simp; omega))
      have D7 := Lib.hid (bl_blk D6.out hb7.2 X5.out.size)
      obtain ⟨c7, f7⟩ := c7
      clear hb7 hs5
      go_wp2_with (first
        | (with_reducible refine wpList_load_blk 55 _ 8 rfl (.tmp 7) rfl Tryd.underlying55 rfl i55 w5.heap.size 0 rfl (shapeL [k0, k1, k2, k3, k4] m n fl) rfl B7.out.range ?_)
        | (refine wpList_store_blk 55 8 rfl (.tmp 2) (.tmp 31) rfl i55 (w0.heap.size + 1) rfl (shapeL [k0, k1, k2, k3, k4] m n fl) rfl rfl (shapeL_one _ _ _ _) _ T7.out rfl ?_))
      intro w8 hb8 hg8
      have B8 := Lib.hid hb8
      have D8 := Lib.hid (bl_blk D7.out hg8 (by omega))
      clear hb8 hg8
      go_wp2_with fail
      exact bodyPost_ret (results_cell_row Tryd.results78 _ _ (w0.heap.size + 1) _ _ _ _ rfl B8.out Tryd.underlying55 rfl i55) rfl ⟨rfl, D8.out⟩
end Go.Proofs.YtcbfmfkahgfjkaaDoor
