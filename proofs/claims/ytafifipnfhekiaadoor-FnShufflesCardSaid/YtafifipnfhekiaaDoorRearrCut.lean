/-
  cardDeck.rearranged at the places of cuts.
-/
import Derived.Test.YtafifipnfhekiaaDoorRearr
namespace Go.Proofs.YtafifipnfhekiaaDoor
open Go.RowKit
set_option linter.unusedVariables false

set_option maxRecDepth 100000 in
set_option maxHeartbeats 2000000 in
theorem cut_walk (f : Nat → Nat) (q : Nat) (xs : List Int) (w : World) (hl : xs.length = 52) (hf : ∀ p, p < 52 → f p < 52)
    (KF : Hid (∀ (p : Nat) (W : World), p < 52 → Below w.heap.size w W → Calls Tryd.prog 31 #[.int .i64 p, .pointer (some ⟨q, 0, none⟩)] W (Same (.int .i64 (f p : Nat)) W))) :
    Calls Tryd.prog 32 #[arrV xs, .func (.func 31) #[] #[.pointer (some ⟨q, 0, none⟩)]] w (ArrOf (perm f xs) w) := by
  have HF := Lib.hid hf
  have HL := Lib.hid hl
  clear hf hl
  have HU : Hid (arrV xs = .agg (ints xs).toArray) := Lib.hid rfl
  unfold arrV
  obtain ⟨w0, rfl⟩ : ∃ w0 : World, w0 = w := ⟨w, rfl⟩
  go_enter Tryd.func32, Tryd.ntmps32
  go_wp2_with (first
    | (with_reducible refine wpList_load_arr rfl (.tmp 2) rfl w0.heap.size 0 rfl xs HL.out (Arr.range ((arr_new w0 xs).below (bl_alloc (bl_refl _) _))) ?_)
    | (refine wpList_store_arr rfl (.tmp 5) (.tmp 7) rfl (w0.heap.size + 1 + 1) rfl xs rfl HL.out _ (heap3_new w0 _ _ _) rfl ?_))
  intro w1 ha hg
  have HS : Hid (Rearr w0 f xs 0 w1) := Lib.hid (rearr_start rfl ha hg)
  clear ha hg
  go_wp2_with fail
  go_loopw [8] (fun i wr => ∃ k : Nat, k ≤ 52 ∧ i = .int .i64 k ∧ Hid (Rearr w0 f xs k wr)) (fun i _ => 52 - (intOf i).toNat)
  case atStart => exact ⟨0, Nat.zero_le _, rfl, HS⟩
  case round =>
    obtain ⟨k, hk, rfl, hs⟩ := hrel
    by_cases hlt : k < 52
    · have hlt' : (k : Int) < 52 := by omega
      have K := Lib.hid (KF.out k wr hlt hs.out.below)
      have hp := HF.out k hlt
      have HN := Lib.hid (fun (y : Int) (e : y = nth xs (f k)) => rearr_step hs.out hlt e HL.out)
      have HC := Lib.hid (hs.out.old.cell (f k) (by rw [HL.out]; exact hp)).1
      have hfr := rearr_cell hs.out HL.out hlt
      obtain ⟨hd, hfz⟩ := hfr
      generalize f k = p at *
      have hp' : (p : Int) < 52 := by omega
      have hc := HC.out
      obtain ⟨y, ey⟩ : ∃ y, y = nth xs p := ⟨_, rfl⟩
      have HE := Lib.hid ey
      rw [← ey] at hc
      clear ey HC
      go_wp2_with (go_at_call 31; refine K.out.mono ?_; rintro e w2 ⟨rfl, rfl⟩)
      go_roundw
      case rel => exact ⟨k + 1, by omega, by go_num, Lib.hid (HN.out y HE.out)⟩
      case measure => simp [intOf]; omega
    · obtain rfl : k = 52 := by omega
      have ha := rearr_end hs.out HL.out
      obtain ⟨ha1, old, hold, hsz⟩ := ha
      have HA := Lib.hid ha1
      have HO := Lib.hid hold
      have HZ := Lib.hid hsz
      have HP := Lib.hid (perm_length f xs)
      clear ha1 hold hsz
      generalize perm f xs = ys at *
      go_wp2_with (first
        | (with_reducible refine wpList_load_arr rfl (.tmp 2) rfl w0.heap.size 0 rfl ys HP.out (Arr.range HA.out) ?_)
        | (refine wpList_store_arr rfl (.tmp 4) (.tmp 19) rfl (w0.heap.size + 1) rfl ys rfl HP.out _ HO.out HZ.out ?_))
      intro w2 ha hg
      have HB := Lib.hid (rearr_below hs.out hg)
      have HA2 := Lib.hid ha
      clear ha hg
      go_wp2_with fail
      refine bodyPost_ret (v := arrV ys) ?_ rfl ⟨rfl, HB.out⟩
      exact results_cell_row rfl _ _ _ _ _ _ _ rfl HA2.out uArr rfl (by rw [List.size_toArray, ints_length, HP.out]; exact iArr)
end Go.Proofs.YtafifipnfhekiaaDoor
