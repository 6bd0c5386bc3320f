/-
  cardDeck.rearranged at the three functions of places.
-/
import Derived.Test.YtafifipnfhekiaaArr
namespace Go.Proofs.Ytafifipnfhekiaa
open Go.RowKit
set_option linter.unusedVariables false

/-- What a function leaves that returns an array. -/
def ArrOf (ys : List Int) (w : World) (e : Ending) (w' : World) : Prop := e = .returned (arrV ys) ∧ Below w.heap.size w w'
theorem heap3_new (w : World) (A B C : Obj) : (((w.alloc A).alloc B).alloc C).heap[w.heap.size + 1 + 1]? = some C := by
  have h := heap_alloc_new ((w.alloc A).alloc B) C
  simpa using h
/-- What the rearranging loop keeps: the deck that is written, the old one, the block of the result. -/
structure Rearr (w : World) (f : Nat → Nat) (xs : List Int) (k : Nat) (wr : World) : Prop where
  new : Arr wr w.heap.size (permN f k xs ++ xs.drop k)
  old : Arr wr (w.heap.size + 1 + 1) xs
  out : ∃ old, wr.heap[w.heap.size + 1]? = some (.cells old 52 (0, 0)) ∧ old.size = 52
  below : Below w.heap.size w wr
theorem rearr_start {w w1 : World} {f : Nat → Nat} {xs : List Int} {z : Array Value} (hz : z.size = 52)
    (ha : Arr w1 (w.heap.size + 1 + 1) xs) (hg : (((w.alloc (.cells (ints xs).toArray 52)).alloc (.cells z 52)).alloc (.cells z 52)).grownBy w1 (some (w.heap.size + 1 + 1))) : Rearr w f xs 0 w1 := by
  have h0 := (arr_new w xs).below (bl_alloc (bl_refl _) (.cells z 52))
  have h1 := h0.below (bl_alloc (bl_refl _) (.cells z 52))
  refine ⟨?_, ha, ⟨z, ?_, hz⟩, ?_⟩
  · have := h1.grown hg (by intro e; injection e; omega)
    simpa [permN] using this
  · have e1 : (((w.alloc (.cells (ints xs).toArray 52)).alloc (.cells z 52)).alloc (.cells z 52)).heap[w.heap.size + 1]? = some (.cells z 52 (0, 0)) := by
      rw [Below.heap_alloc _ _ _ (by simp)]
      have := heap_alloc_new (w.alloc (.cells (ints xs).toArray 52)) (.cells z 52)
      simpa using this
    exact (hg.block _ (by simp) (by intro e; injection e; omega)).trans e1
  · exact (bl_alloc (bl_alloc (bl_alloc (bl_refl w) _) _) _).grown hg (by simp; omega) (fun j hj => by injection hj; omega)
theorem permN_set (f : Nat → Nat) (xs : List Int) (k : Nat) (hk : k < xs.length) : (permN f k xs ++ xs.drop k).set k (ix xs (f k)) = permN f (k + 1) xs ++ xs.drop (k + 1) := by
  rw [List.set_append_right _ _ (by rw [permN_length]; exact Nat.le_refl _), permN_length, Nat.sub_self, permN_snoc, List.append_assoc, List.drop_eq_getElem_cons hk]
  rfl
theorem rearr_step {w wr : World} {f : Nat → Nat} {xs : List Int} {k : Nat} (h : Rearr w f xs k wr) (hk : k < 52) {y : Int} (e : y = nth xs (f k)) (hl : xs.length = 52) :
    Rearr w f xs (k + 1) (wr.setCell ⟨w.heap.size, k, none⟩ (.int .i64 y)) := by
  obtain ⟨h1, h2⟩ := arr_set h.new k y (by rw [List.length_append, permN_length, List.length_drop]; omega)
  subst e
  rw [show nth xs (f k) = ix xs (f k) from rfl, permN_set f xs k (by omega)] at h1
  obtain ⟨old, ho, hs⟩ := h.out
  exact ⟨h1, h.old.grown h2 (by intro e; injection e; omega), ⟨old, (h2.block _ (Array.getElem?_eq_some_iff.1 ho).1 (by intro e; injection e; omega)).trans ho, hs⟩, h.below.setCell (Nat.le_refl _) _⟩
theorem rearr_cell {w wr : World} {f : Nat → Nat} {xs : List Int} {k : Nat} (h : Rearr w f xs k wr) (hl : xs.length = 52) (hk : k < 52) :
    wr.cell? ⟨w.heap.size, k, none⟩ = some (.int .i64 (nth (permN f k xs ++ xs.drop k) k)) ∧ wr.frozen? ⟨w.heap.size, k, none⟩ = false :=
  h.new.cell k (by rw [List.length_append, permN_length, List.length_drop]; omega)
theorem rearr_end {w wr : World} {f : Nat → Nat} {xs : List Int} (h : Rearr w f xs 52 wr) (hl : xs.length = 52) :
    Arr wr w.heap.size (perm f xs) ∧ ∃ old, wr.heap[w.heap.size + 1]? = some (.cells old 52 (0, 0)) ∧ old.size = 52 := by
  refine ⟨?_, h.out⟩
  have := h.new
  rwa [List.drop_eq_nil_of_le (by omega), List.append_nil] at this
theorem rearr_below {w wr w2 : World} {f : Nat → Nat} {xs : List Int} {k : Nat} (h : Rearr w f xs k wr) (hg : wr.grownBy w2 (some (w.heap.size + 1))) : Below w.heap.size w w2 :=
  h.below.grown hg h.below.size (fun j hj => by injection hj; omega)

set_option maxRecDepth 100000 in
set_option maxHeartbeats 2000000 in
theorem riffled_walk (f : Nat → Nat) (xs : List Int) (w : World) (hl : xs.length = 52) (hf : ∀ p, p < 52 → f p < 52)
    (KF : Hid (∀ (p : Nat) (W : World), p < 52 → Below w.heap.size w W → Calls Try.prog 46 #[.int .i64 p] W (Same (.int .i64 (f p : Nat)) W))) :
    Calls Try.prog 47 #[arrV xs, .func (.func 46) #[] #[]] w (ArrOf (perm f xs) w) := by
  have HF := Lib.hid hf
  have HL := Lib.hid hl
  clear hf hl
  have HU : Hid (arrV xs = .agg (ints xs).toArray) := Lib.hid rfl
  unfold arrV
  obtain ⟨w0, rfl⟩ : ∃ w0 : World, w0 = w := ⟨w, rfl⟩
  go_enter Try.func47, Try.ntmps47
  go_wp2_with (first
    | (with_reducible refine wpList_load_arr rfl (.tmp 2) rfl w0.heap.size 0 rfl xs HL.out (Arr.range ((arr_new w0 xs).below (bl_alloc (bl_refl _) _))) ?_)
    | (refine wpList_store_arr rfl (.tmp 5) (.tmp 7) rfl (w0.heap.size + 1 + 1) rfl xs rfl HL.out _ (heap3_new w0 _ _ _) rfl ?_))
  intro w1 ha hg
  have HS : Hid (Rearr w0 f xs 0 w1) := Lib.hid (rearr_start rfl ha hg)
  clear ha hg
  go_wp2_with fail
  go_loopw [8] (fun i wr => ∃ k : Nat, k ≤ 52 ∧ i = .int .i64 k ∧ Hid (Rearr w0 f xs k wr)) (fun i _ => 52 - (intOf i).toNat)
  case atStart => exact ⟨0, Nat.zero_le _, rfl, HS⟩
  case round =>
    obtain ⟨k, hk, rfl, hs⟩ := hrel
    by_cases hlt : k < 52
    · have hlt' : (k : Int) < 52 := by omega
      have K := Lib.hid (KF.out k wr hlt hs.out.below)
      have hp := HF.out k hlt
      have HN := Lib.hid (fun (y : Int) (e : y = nth xs (f k)) => rearr_step hs.out hlt e HL.out)
      have HC := Lib.hid (hs.out.old.cell (f k) (by rw [HL.out]; exact hp)).1
      have hfr := rearr_cell hs.out HL.out hlt
      obtain ⟨hd, hfz⟩ := hfr
      generalize f k = p at *
      have hp' : (p : Int) < 52 := by omega
      have hc := HC.out
      obtain ⟨y, ey⟩ : ∃ y, y = nth xs p := ⟨_, rfl⟩
      have HE := Lib.hid ey
      rw [← ey] at hc
      clear ey HC
      go_wp2_with (go_at_call 46; refine K.out.mono ?_; rintro e w2 ⟨rfl, rfl⟩)
      go_roundw
      case rel => exact ⟨k + 1, by omega, by go_num, Lib.hid (HN.out y HE.out)⟩
      case measure => simp [intOf]; omega
    · obtain rfl : k = 52 := by omega
      have ha := rearr_end hs.out HL.out
      obtain ⟨ha1, old, hold, hsz⟩ := ha
      have HA := Lib.hid ha1
      have HO := Lib.hid hold
      have HZ := Lib.hid hsz
      have HP := Lib.hid (perm_length f xs)
      clear ha1 hold hsz
      generalize perm f xs = ys at *
      go_wp2_with (first
        | (with_reducible refine wpList_load_arr rfl (.tmp 2) rfl w0.heap.size 0 rfl ys HP.out (Arr.range HA.out) ?_)
        | (refine wpList_store_arr rfl (.tmp 4) (.tmp 19) rfl (w0.heap.size + 1) rfl ys rfl HP.out _ HO.out HZ.out ?_))
      intro w2 ha hg
      have HB := Lib.hid (rearr_below hs.out hg)
      have HA2 := Lib.hid ha
      clear ha hg
      go_wp2_with fail
      refine bodyPost_ret (v := arrV ys) ?_ rfl ⟨rfl, HB.out⟩
      exact results_cell_row rfl _ _ _ _ _ _ _ rfl HA2.out uArr rfl (by rw [List.size_toArray, ints_length, HP.out]; exact iArr)

set_option maxRecDepth 100000 in
set_option maxHeartbeats 2000000 in
theorem unriffled_walk (f : Nat → Nat) (xs : List Int) (w : World) (hl : xs.length = 52) (hf : ∀ p, p < 52 → f p < 52)
    (KF : Hid (∀ (p : Nat) (W : World), p < 52 → Below w.heap.size w W → Calls Try.prog 49 #[.int .i64 p] W (Same (.int .i64 (f p : Nat)) W))) :
    Calls Try.prog 47 #[arrV xs, .func (.func 49) #[] #[]] w (ArrOf (perm f xs) w) := by
  have HF := Lib.hid hf
  have HL := Lib.hid hl
  clear hf hl
  have HU : Hid (arrV xs = .agg (ints xs).toArray) := Lib.hid rfl
  unfold arrV
  obtain ⟨w0, rfl⟩ : ∃ w0 : World, w0 = w := ⟨w, rfl⟩
  go_enter Try.func47, Try.ntmps47
  go_wp2_with (first
    | (with_reducible refine wpList_load_arr rfl (.tmp 2) rfl w0.heap.size 0 rfl xs HL.out (Arr.range ((arr_new w0 xs).below (bl_alloc (bl_refl _) _))) ?_)
    | (refine wpList_store_arr rfl (.tmp 5) (.tmp 7) rfl (w0.heap.size + 1 + 1) rfl xs rfl HL.out _ (heap3_new w0 _ _ _) rfl ?_))
  intro w1 ha hg
  have HS : Hid (Rearr w0 f xs 0 w1) := Lib.hid (rearr_start rfl ha hg)
  clear ha hg
  go_wp2_with fail
  go_loopw [8] (fun i wr => ∃ k : Nat, k ≤ 52 ∧ i = .int .i64 k ∧ Hid (Rearr w0 f xs k wr)) (fun i _ => 52 - (intOf i).toNat)
  case atStart => exact ⟨0, Nat.zero_le _, rfl, HS⟩
  case round =>
    obtain ⟨k, hk, rfl, hs⟩ := hrel
    by_cases hlt : k < 52
    · have hlt' : (k : Int) < 52 := by omega
      have K := Lib.hid (KF.out k wr hlt hs.out.below)
      have hp := HF.out k hlt
      have HN := Lib.hid (fun (y : Int) (e : y = nth xs (f k)) => rearr_step hs.out hlt e HL.out)
      have HC := Lib.hid (hs.out.old.cell (f k) (by rw [HL.out]; exact hp)).1
      have hfr := rearr_cell hs.out HL.out hlt
      obtain ⟨hd, hfz⟩ := hfr
      generalize f k = p at *
      have hp' : (p : Int) < 52 := by omega
      have hc := HC.out
      obtain ⟨y, ey⟩ : ∃ y, y = nth xs p := ⟨_, rfl⟩
      have HE := Lib.hid ey
      rw [← ey] at hc
      clear ey HC
      go_wp2_with (go_at_call 49; refine K.out.mono ?_; rintro e w2 ⟨rfl, rfl⟩)
      go_roundw
      case rel => exact ⟨k + 1, by omega, by go_num, Lib.hid (HN.out y HE.out)⟩
      case measure => simp [intOf]; omega
    · obtain rfl : k = 52 := by omega
      have ha := rearr_end hs.out HL.out
      obtain ⟨ha1, old, hold, hsz⟩ := ha
      have HA := Lib.hid ha1
      have HO := Lib.hid hold
      have HZ := Lib.hid hsz
      have HP := Lib.hid (perm_length f xs)
      clear ha1 hold hsz
      generalize perm f xs = ys at *
      go_wp2_with (first
        | (with_reducible refine wpList_load_arr rfl (.tmp 2) rfl w0.heap.size 0 rfl ys HP.out (Arr.range HA.out) ?_)
        | (refine wpList_store_arr rfl (.tmp 4) (.tmp 19) rfl (w0.heap.size + 1) rfl ys rfl HP.out _ HO.out HZ.out ?_))
      intro w2 ha hg
      have HB := Lib.hid (rearr_below hs.out hg)
      have HA2 := Lib.hid ha
      clear ha hg
      go_wp2_with fail
      refine bodyPost_ret (v := arrV ys) ?_ rfl ⟨rfl, HB.out⟩
      exact results_cell_row rfl _ _ _ _ _ _ _ rfl HA2.out uArr rfl (by rw [List.size_toArray, ints_length, HP.out]; exact iArr)

set_option maxRecDepth 100000 in
set_option maxHeartbeats 2000000 in
theorem cut_walk (f : Nat → Nat) (q : Nat) (xs : List Int) (w : World) (hl : xs.length = 52) (hf : ∀ p, p < 52 → f p < 52)
    (KF : Hid (∀ (p : Nat) (W : World), p < 52 → Below w.heap.size w W → Calls Try.prog 67 #[.int .i64 p, .pointer (some ⟨q, 0, none⟩)] W (Same (.int .i64 (f p : Nat)) W))) :
    Calls Try.prog 47 #[arrV xs, .func (.func 67) #[] #[.pointer (some ⟨q, 0, none⟩)]] w (ArrOf (perm f xs) w) := by
  have HF := Lib.hid hf
  have HL := Lib.hid hl
  clear hf hl
  have HU : Hid (arrV xs = .agg (ints xs).toArray) := Lib.hid rfl
  unfold arrV
  obtain ⟨w0, rfl⟩ : ∃ w0 : World, w0 = w := ⟨w, rfl⟩
  go_enter Try.func47, Try.ntmps47
  go_wp2_with (first
    | (with_reducible refine wpList_load_arr rfl (.tmp 2) rfl w0.heap.size 0 rfl xs HL.out (Arr.range ((arr_new w0 xs).below (bl_alloc (bl_refl _) _))) ?_)
    | (refine wpList_store_arr rfl (.tmp 5) (.tmp 7) rfl (w0.heap.size + 1 + 1) rfl xs rfl HL.out _ (heap3_new w0 _ _ _) rfl ?_))
  intro w1 ha hg
  have HS : Hid (Rearr w0 f xs 0 w1) := Lib.hid (rearr_start rfl ha hg)
  clear ha hg
  go_wp2_with fail
  go_loopw [8] (fun i wr => ∃ k : Nat, k ≤ 52 ∧ i = .int .i64 k ∧ Hid (Rearr w0 f xs k wr)) (fun i _ => 52 - (intOf i).toNat)
  case atStart => exact ⟨0, Nat.zero_le _, rfl, HS⟩
  case round =>
    obtain ⟨k, hk, rfl, hs⟩ := hrel
    by_cases hlt : k < 52
    · have hlt' : (k : Int) < 52 := by omega
      have K := Lib.hid (KF.out k wr hlt hs.out.below)
      have hp := HF.out k hlt
      have HN := Lib.hid (fun (y : Int) (e : y = nth xs (f k)) => rearr_step hs.out hlt e HL.out)
      have HC := Lib.hid (hs.out.old.cell (f k) (by rw [HL.out]; exact hp)).1
      have hfr := rearr_cell hs.out HL.out hlt
      obtain ⟨hd, hfz⟩ := hfr
      generalize f k = p at *
      have hp' : (p : Int) < 52 := by omega
      have hc := HC.out
      obtain ⟨y, ey⟩ : ∃ y, y = nth xs p := ⟨_, rfl⟩
      have HE := Lib.hid ey
      rw [← ey] at hc
      clear ey HC
      go_wp2_with (go_at_call 67; refine K.out.mono ?_; rintro e w2 ⟨rfl, rfl⟩)
      go_roundw
      case rel => exact ⟨k + 1, by omega, by go_num, Lib.hid (HN.out y HE.out)⟩
      case measure => simp [intOf]; omega
    · obtain rfl : k = 52 := by omega
      have ha := rearr_end hs.out HL.out
      obtain ⟨ha1, old, hold, hsz⟩ := ha
      have HA := Lib.hid ha1
      have HO := Lib.hid hold
      have HZ := Lib.hid hsz
      have HP := Lib.hid (perm_length f xs)
      clear ha1 hold hsz
      generalize perm f xs = ys at *
      go_wp2_with (first
        | (with_reducible refine wpList_load_arr rfl (.tmp 2) rfl w0.heap.size 0 rfl ys HP.out (Arr.range HA.out) ?_)
        | (refine wpList_store_arr rfl (.tmp 4) (.tmp 19) rfl (w0.heap.size + 1) rfl ys rfl HP.out _ HO.out HZ.out ?_))
      intro w2 ha hg
      have HB := Lib.hid (rearr_below hs.out hg)
      have HA2 := Lib.hid ha
      clear ha hg
      go_wp2_with fail
      refine bodyPost_ret (v := arrV ys) ?_ rfl ⟨rfl, HB.out⟩
      exact results_cell_row rfl _ _ _ _ _ _ _ rfl HA2.out uArr rfl (by rw [List.size_toArray, ints_length, HP.out]; exact iArr)
end Go.Proofs.Ytafifipnfhekiaa
