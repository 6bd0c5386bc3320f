/-
  The laws' own helpers on lists of numbers: toInt64S (the others: MarkLaw).
-/
import Derived.Test.YtcbfmfkahgfjkaaDoorMarkLaw
namespace Go.Proofs.YtcbfmfkahgfjkaaDoor
open Go.RowKit
set_option linter.unusedVariables false

/-- What a copying loop has written after k rounds. -/
def mix (xs : List Int) (k : Nat) : List Int := xs.take k ++ List.replicate (xs.length - k) 0
theorem mix_length (xs : List Int) (k : Nat) (h : k ≤ xs.length) : (mix xs k).length = xs.length := by simp [mix]; omega
theorem mix_zero (xs : List Int) : mix xs 0 = List.replicate xs.length 0 := by simp [mix]
theorem mix_all (xs : List Int) : mix xs xs.length = xs := by simp [mix]
theorem mix_set (xs : List Int) (k : Nat) (h : k < xs.length) : (mix xs k).set k (nth xs k) = mix xs (k + 1) := by
  have hl : (xs.take k).length = k := by rw [List.length_take]; omega
  unfold mix
  rw [List.set_append_right _ _ (by omega), hl, Nat.sub_self, take_nth xs k h, List.append_assoc]
  congr 1
  have : xs.length - k = (xs.length - (k + 1)) + 1 := by omega
  rw [this, List.replicate_succ]
  rfl
/-- The copying loop's state. -/
def Copied (w : World) (xs : List Int) (k : Nat) (wr : World) : Prop :=
  wr.ownsRow w.heap.size 2 1 (.slice (some ⟨w.heap.size, 0, none⟩) xs.length xs.length) xs.length (ints (mix xs k)) ∧ Below w.heap.size w wr
theorem copied_step {w wr : World} {xs : List Int} {k : Nat} (h : Copied w xs k wr) (hk : k < xs.length) (n : Nat) :
    Copied w xs (k + 1) ((wr.drewN n).setCell ⟨w.heap.size, k, none⟩ (.int .i64 (nth xs k))) := by
  have h1 : (wr.drewN n).ownsRow w.heap.size 2 1 (.slice (some ⟨w.heap.size, 0, none⟩) xs.length xs.length) xs.length (ints (mix xs k)) := h.1
  refine ⟨?_, (bl_drewN h.2 n).setCell (Nat.le_refl _) _⟩
  have := (h1.stored k (.int .i64 (nth xs k))).1
  rwa [ints_set, mix_set xs k hk] at this
theorem copied_cell {w wr : World} {xs : List Int} {k : Nat} (h : Copied w xs k wr) (hk : k < xs.length) :
    wr.cell? ⟨w.heap.size, k, none⟩ = some (.int .i64 (nth (mix xs k) k)) ∧ wr.frozen? ⟨w.heap.size, k, none⟩ = false := by
  refine ⟨?_, h.1.frozenAt k⟩
  rw [h.1.cellAt k (by omega), ints_get _ _ (by rw [mix_length xs k (by omega)]; exact hk)]

set_option maxRecDepth 100000 in
set_option maxHeartbeats 1000000 in
theorem toInts_any (A : Option Addr) (c : Nat) (xs : List Int) (w : World) (hr : Rd w A xs) (hn : xs.length ≤ 1048576) :
    Calls Tryd.prog 15 #[.slice A xs.length c] w (NewL xs w) := by
  obtain ⟨i0, hi, hz0, hz1, hz2⟩ := info_parts infoInt
  have HR := Lib.hid hr
  clear hr
  obtain ⟨w0, rfl⟩ : ∃ w0 : World, w0 = w := ⟨w, rfl⟩
  go_enter Tryd.func15, Tryd.ntmps15
  go_wp2_with (at_make; refine wpList_make_full _ rfl _ _ 22 rfl w0.heap.size 2 i0 (.int .i64 0) 1 Tryd.underlying22 hi hz0 hz1 .i64 .i64 _ _ xs.length rfl rfl rfl rfl ?c1 ?c2 (Nat.le_refl _) ?_)
  case c1 => rw [hz2]; omega
  case c2 => unfold maxLen; omega
  intro w1 hown hgrow
  have HS : Hid (Copied w0 xs 0 w1) := Lib.hid ⟨by
    have e : (madeCells #[Value.int .i64 0] xs.length).toList = ints (mix xs 0) := by
      rw [mix_zero, ← ints_zeros]; exact toList_madeCells_one _ _
    rwa [e] at hown, (bl_refl _).grown hgrow (Nat.le_refl _) (fun j hj => by cases hj)⟩
  clear hown hgrow
  go_wp2_with fail
  go_loopw [4] (fun i wr => ∃ k : Nat, k ≤ xs.length ∧ i = .int .i64 k ∧ Hid (Copied w0 xs k wr)) (fun i _ => xs.length - (intOf i).toNat)
  case atStart => exact ⟨0, Nat.zero_le _, rfl, HS⟩
  case round =>
    obtain ⟨k, hk, rfl, hs⟩ := hrel
    by_cases hlt : k < xs.length
    · obtain ⟨b, off, rfl, hc⟩ := HR.out.at_ hs.out.2 k hlt
      obtain ⟨hg, hf⟩ := copied_cell hs.out hlt
      have hlt' : (k : Int) < xs.length := by omega
      go_wp2_with fail
      go_roundw
      case rel => exact ⟨k + 1, by omega, by go_num, Lib.hid (copied_step hs.out hlt 0)⟩
      case measure => simp [intOf]; omega
    · obtain rfl : k = xs.length := by omega
      go_wp2_with fail
      go_ret
      have h := hs.out
      unfold Copied at h
      rw [mix_all] at h
      exact ⟨_, _, rfl, h.1, h.2⟩
end Go.Proofs.YtcbfmfkahgfjkaaDoor
