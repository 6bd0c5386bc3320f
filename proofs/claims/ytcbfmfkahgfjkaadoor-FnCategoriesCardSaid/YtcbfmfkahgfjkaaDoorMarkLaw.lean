/-
  The laws' own helpers on lists of numbers: eqInt64S, markInt64S, heldInt64S.
-/
import Derived.Test.YtcbfmfkahgfjkaaDoorList
namespace Go.Proofs.YtcbfmfkahgfjkaaDoor
open Go.RowKit
set_option linter.unusedVariables false

set_option maxRecDepth 100000 in
set_option maxHeartbeats 1000000 in
/-- Two lists that read alike are found alike. -/
theorem eqInts_same (A B : Option Addr) (c d : Nat) (xs : List Int) (w : World) (hr : Rd w A xs) (hq : Rd w B xs) (hn : xs.length ≤ 4000000) :
    Calls Tryd.prog 17 #[.slice A xs.length c, .slice B xs.length d] w (Fresh (.bool true) w) := by
  have HR := Lib.hid hr
  have HQ := Lib.hid hq
  clear hr hq
  obtain ⟨w0, rfl⟩ : ∃ w0 : World, w0 = w := ⟨w, rfl⟩
  go_enter Tryd.func17, Tryd.ntmps17
  go_wp2_with fail
  go_loopw [5] (fun i wr => ∃ k : Nat, k ≤ xs.length ∧ i = .int .i64 k ∧ Hid (Below w0.heap.size w0 wr)) (fun i _ => xs.length - (intOf i).toNat)
  case atStart => exact ⟨0, Nat.zero_le _, rfl, Lib.hid (bl_refl _)⟩
  case round =>
    obtain ⟨k, hk, rfl, hs⟩ := hrel
    by_cases hlt : k < xs.length
    · obtain ⟨b, off, rfl, hc⟩ := HR.out.at_ hs.out k hlt
      obtain ⟨b', off', rfl, hc'⟩ := HQ.out.at_ hs.out k hlt
      have hlt' : (k : Int) < xs.length := by omega
      go_wp2_with fail
      go_quiet (fail)
      go_wp2_with fail
      go_roundw
      case rel => exact ⟨k + 1, by omega, by go_num, Lib.hid (bl_drewN hs.out _)⟩
      case measure => simp [intOf]; omega
    · obtain rfl : k = xs.length := by omega
      go_wp2_with fail
      go_ret
      exact ⟨rfl, hs.out⟩

/-- The marks k0, k0 + 1, .. -/
def marks (k0 : Int) (n : Nat) : List Int := (List.range n).map (fun i : Nat => k0 + i)
theorem marks_length (k0 : Int) (n : Nat) : (marks k0 n).length = n := by simp [marks]
theorem marks_nth (k0 : Int) (n i : Nat) (h : i < n) : nth (marks k0 n) i = k0 + i := by rw [nth_eq _ _ (by rw [marks_length]; exact h)]; simp [marks]
/-- What a marking loop has written after k rounds. -/
def marked (k0 : Int) (xs : List Int) (k : Nat) : List Int := marks k0 k ++ xs.drop k
theorem marked_length (k0 : Int) (xs : List Int) (k : Nat) (h : k ≤ xs.length) : (marked k0 xs k).length = xs.length := by simp [marked, marks_length]; omega
theorem marked_zero (k0 : Int) (xs : List Int) : marked k0 xs 0 = xs := by simp [marked, marks]
theorem marked_all (k0 : Int) (xs : List Int) : marked k0 xs xs.length = marks k0 xs.length := by simp [marked]
theorem marked_set (k0 : Int) (xs : List Int) (k : Nat) (h : k < xs.length) : (marked k0 xs k).set k (k0 + k) = marked k0 xs (k + 1) := by
  unfold marked
  have e : marks k0 (k + 1) = marks k0 k ++ [k0 + k] := by simp [marks, List.range_succ]
  rw [List.set_append_right _ _ (by rw [marks_length]; exact Nat.le_refl _), marks_length, Nat.sub_self, e, List.append_assoc, List.drop_eq_getElem_cons h]
  rfl
/-- The marking loop's state. -/
def Marked (w : World) (lo : Nat) (k0 : Int) (A : Option Addr) (c : Nat) (xs : List Int) (k : Nat) (wr : World) : Prop :=
  wr.ownsRow lo 2 1 (.slice A xs.length c) xs.length (ints (marked k0 xs k)) ∧ w.grownBy wr (Value.slice A xs.length c).ownBlock
theorem marked_step {w wr : World} {lo g : Nat} {k0 : Int} {c : Nat} {xs : List Int} {k : Nat} (h : Marked w lo k0 (some ⟨g, 0, none⟩) c xs k wr) (hk : k < xs.length) :
    Marked w lo k0 (some ⟨g, 0, none⟩) c xs (k + 1) (wr.setCell ⟨g, k, none⟩ (.int .i64 (k0 + k))) := by
  have h1 := h.1.stored k (.int .i64 (k0 + k))
  refine ⟨?_, World.grownBy.trans h.2 h1.2⟩
  have := h1.1
  rwa [ints_set, marked_set k0 xs k hk] at this
theorem marked_at {w wr : World} {lo : Nat} {k0 : Int} {A : Option Addr} {c : Nat} {xs : List Int} {k : Nat} (h : Marked w lo k0 A c xs k wr) (hk : k < xs.length) :
    ∃ g, A = some ⟨g, 0, none⟩ ∧ wr.cell? ⟨g, k, none⟩ = some (.int .i64 (nth (marked k0 xs k) k)) ∧ wr.frozen? ⟨g, k, none⟩ = false := by
  rcases h.1.2 with ⟨e, hn⟩ | ⟨g, cap, cur, hv, _⟩
  · omega
  · injection hv with hA _ hc
    subst hA hc
    refine ⟨g, rfl, ?_, World.ownsRow.frozenAt h.1 k⟩
    rw [World.ownsRow.cellAt h.1 k (by omega), ints_get _ _ (by rw [marked_length k0 xs k (by omega)]; exact hk)]
/-- What marking leaves. -/
def MarkPost (w : World) (lo : Nat) (k0 : Int) (A : Option Addr) (c : Nat) (n : Nat) (e : Ending) (w' : World) : Prop :=
  e = .returned (.int .i64 (k0 + n)) ∧ Own w' lo (.slice A (marks k0 n).length c) (marks k0 n) ∧ w.grownBy w' (Value.slice A n c).ownBlock

set_option maxRecDepth 100000 in
set_option maxHeartbeats 1000000 in
theorem mark_any (A : Option Addr) (c lo : Nat) (xs : List Int) (k0 : Int) (w : World) (h : Own w lo (.slice A xs.length c) xs) (hn : xs.length ≤ 4000000) (h0 : 0 ≤ k0) (h1 : k0 ≤ 100000000) :
    Calls Tryd.prog 22 #[.slice A xs.length c, .int .i64 k0] w (MarkPost w lo k0 A c xs.length) := by
  have HS : Hid (Marked w lo k0 A c xs 0 w) := Lib.hid ⟨by rw [marked_zero]; exact h, World.grownBy.refl w _⟩
  clear h
  obtain ⟨w0, rfl⟩ : ∃ w0 : World, w0 = w := ⟨w, rfl⟩
  go_enter Tryd.func22, Tryd.ntmps22
  go_wp2_with fail
  go_loopw [1, 5] (fun q i wr => ∃ k : Nat, k ≤ xs.length ∧ i = .int .i64 k ∧ q = .int .i64 (k0 + k) ∧ Hid (Marked w0 lo k0 A c xs k wr)) (fun _ i _ => xs.length - (intOf i).toNat)
  case atStart => exact ⟨0, Nat.zero_le _, rfl, by go_num, HS⟩
  case round =>
    obtain ⟨k, hk, rfl, rfl, hs⟩ := hrel
    by_cases hlt : k < xs.length
    · obtain ⟨g, rfl, hc, hf⟩ := marked_at hs.out hlt
      have hlt' : (k : Int) < xs.length := by omega
      go_wp2_with fail
      go_roundw
      case rel => exact ⟨k + 1, by omega, by go_num, by go_num, Lib.hid (marked_step hs.out hlt)⟩
      case measure => simp [intOf]; omega
    · obtain rfl : k = xs.length := by omega
      go_wp2_with fail
      go_ret
      have h := hs.out
      unfold Marked at h
      rw [marked_all] at h
      exact ⟨rfl, by rw [marks_length]; unfold Own; rw [marks_length]; exact h.1, h.2⟩

set_option maxRecDepth 100000 in
set_option maxHeartbeats 1000000 in
theorem held_any (A : Option Addr) (c : Nat) (k0 : Int) (n : Nat) (w : World) (h : Rd w A (marks k0 n)) (hn : n ≤ 4000000) (h0 : 0 ≤ k0) (h1 : k0 ≤ 100000000) :
    Calls Tryd.prog 23 #[.slice A n c, .int .i64 k0] w (Same (.int .i64 (k0 + n)) w) := by
  have HR := Lib.hid h
  clear h
  go_enter Tryd.func23, Tryd.ntmps23
  go_wp2_with fail
  go_loop [1, 5] (fun q i => ∃ k : Nat, k ≤ n ∧ i = .int .i64 k ∧ q = .int .i64 (k0 + k)) (fun _ i => n - (intOf i).toNat)
  case atStart => exact ⟨0, Nat.zero_le _, rfl, by go_num⟩
  case round =>
    obtain ⟨k, hk, rfl, rfl⟩ := hrel
    by_cases hlt : k < n
    · obtain ⟨b, off, rfl, hc⟩ := HR.out.at_ (bl_refl _) k (by rw [marks_length]; exact hlt)
      rw [marks_nth k0 n k hlt] at hc
      have hlt' : (k : Int) < n := by omega
      go_wp2_with fail
      go_round
      case rel => exact ⟨k + 1, by omega, by go_num, by go_num⟩
      case measure => simp [intOf]; omega
    · obtain rfl : k = n := by omega
      go_wp2_with fail
      go_ret
      exact ⟨rfl, rfl⟩

end Go.Proofs.YtcbfmfkahgfjkaaDoor
