/-
  Put together: MarkLaw, RowMark, ListLaw, ListNe
-/
import Derived.Test.YtlcimofhpphefaaBase

/-! The laws' own helpers on lists of numbers: eqInt64S, markInt64S, heldInt64S. -/
namespace Go.Proofs.Ytlcimofhpphefaa
open Go.RowKit
set_option linter.unusedVariables false

set_option maxRecDepth 100000 in
set_option maxHeartbeats 1000000 in
/-- Two lists that read alike are found alike. -/
theorem eqInts_same (A B : Option Addr) (c d : Nat) (xs : List Int) (w : World) (hr : Rd w A xs) (hq : Rd w B xs) (hn : xs.length ≤ 4000000) :
    Calls Try.prog 16 #[.slice A xs.length c, .slice B xs.length d] w (Fresh (.bool true) w) := by
  have HR := Lib.hid hr
  have HQ := Lib.hid hq
  clear hr hq
  obtain ⟨w0, rfl⟩ : ∃ w0 : World, w0 = w := ⟨w, rfl⟩
  go_enter Try.func16, Try.ntmps16
  go_wp2_with fail
  go_loopw [5] (fun i wr => ∃ k : Nat, k ≤ xs.length ∧ i = .int .i64 k ∧ Hid (Below w0.heap.size w0 wr)) (fun i _ => xs.length - (intOf i).toNat)
  case atStart => exact ⟨0, Nat.zero_le _, rfl, Lib.hid (bl_refl _)⟩
  case round =>
    obtain ⟨k, hk, rfl, hs⟩ := hrel
    by_cases hlt : k < xs.length
    · obtain ⟨b, off, rfl, hc⟩ := HR.out.at_ hs.out k hlt
      obtain ⟨b', off', rfl, hc'⟩ := HQ.out.at_ hs.out k hlt
      have hlt' : (k : Int) < xs.length := by omega
      go_wp2_with fail
      go_quiet (fail)
      go_wp2_with fail
      go_roundw
      case rel => exact ⟨k + 1, by omega, by go_num, Lib.hid (bl_drewN hs.out _)⟩
      case measure => simp [intOf]; omega
    · obtain rfl : k = xs.length := by omega
      go_wp2_with fail
      go_ret
      exact ⟨rfl, hs.out⟩

/-- The marks k0, k0 + 1, .. -/
def marks (k0 : Int) (n : Nat) : List Int := (List.range n).map (fun i : Nat => k0 + i)
theorem marks_length (k0 : Int) (n : Nat) : (marks k0 n).length = n := by simp [marks]
theorem marks_nth (k0 : Int) (n i : Nat) (h : i < n) : nth (marks k0 n) i = k0 + i := by rw [nth_eq _ _ (by rw [marks_length]; exact h)]; simp [marks]
/-- What a marking loop has written after k rounds. -/
def marked (k0 : Int) (xs : List Int) (k : Nat) : List Int := marks k0 k ++ xs.drop k
theorem marked_length (k0 : Int) (xs : List Int) (k : Nat) (h : k ≤ xs.length) : (marked k0 xs k).length = xs.length := by simp [marked, marks_length]; omega
theorem marked_zero (k0 : Int) (xs : List Int) : marked k0 xs 0 = xs := by simp [marked, marks]
theorem marked_all (k0 : Int) (xs : List Int) : marked k0 xs xs.length = marks k0 xs.length := by simp [marked]
theorem marked_set (k0 : Int) (xs : List Int) (k : Nat) (h : k < xs.length) : (marked k0 xs k).set k (k0 + k) = marked k0 xs (k + 1) := by
  unfold marked
  have e : marks k0 (k + 1) = marks k0 k ++ [k0 + k] := by simp [marks, List.range_succ]
  rw [List.set_append_right _ _ (by rw [marks_length]; exact Nat.le_refl _), marks_length, Nat.sub_self, e, List.append_assoc, List.drop_eq_getElem_cons h]
  rfl
/-- The marking loop's state. -/
def Marked (w : World) (lo : Nat) (k0 : Int) (A : Option Addr) (c : Nat) (xs : List Int) (k : Nat) (wr : World) : Prop :=
  wr.ownsRow lo 2 1 (.slice A xs.length c) xs.length (ints (marked k0 xs k)) ∧ w.grownBy wr (Value.slice A xs.length c).ownBlock
theorem marked_step {w wr : World} {lo g : Nat} {k0 : Int} {c : Nat} {xs : List Int} {k : Nat} (h : Marked w lo k0 (some ⟨g, 0, none⟩) c xs k wr) (hk : k < xs.length) :
    Marked w lo k0 (some ⟨g, 0, none⟩) c xs (k + 1) (wr.setCell ⟨g, k, none⟩ (.int .i64 (k0 + k))) := by
  have h1 := h.1.stored k (.int .i64 (k0 + k))
  refine ⟨?_, World.grownBy.trans h.2 h1.2⟩
  have := h1.1
  rwa [ints_set, marked_set k0 xs k hk] at this
theorem marked_at {w wr : World} {lo : Nat} {k0 : Int} {A : Option Addr} {c : Nat} {xs : List Int} {k : Nat} (h : Marked w lo k0 A c xs k wr) (hk : k < xs.length) :
    ∃ g, A = some ⟨g, 0, none⟩ ∧ wr.cell? ⟨g, k, none⟩ = some (.int .i64 (nth (marked k0 xs k) k)) ∧ wr.frozen? ⟨g, k, none⟩ = false := by
  rcases h.1.2 with ⟨e, hn⟩ | ⟨g, cap, cur, hv, _⟩
  · omega
  · injection hv with hA _ hc
    subst hA hc
    refine ⟨g, rfl, ?_, World.ownsRow.frozenAt h.1 k⟩
    rw [World.ownsRow.cellAt h.1 k (by omega), ints_get _ _ (by rw [marked_length k0 xs k (by omega)]; exact hk)]
/-- What marking leaves. -/
def MarkPost (w : World) (lo : Nat) (k0 : Int) (A : Option Addr) (c : Nat) (n : Nat) (e : Ending) (w' : World) : Prop :=
  e = .returned (.int .i64 (k0 + n)) ∧ Own w' lo (.slice A (marks k0 n).length c) (marks k0 n) ∧ w.grownBy w' (Value.slice A n c).ownBlock

set_option maxRecDepth 100000 in
set_option maxHeartbeats 1000000 in
theorem mark_any (A : Option Addr) (c lo : Nat) (xs : List Int) (k0 : Int) (w : World) (h : Own w lo (.slice A xs.length c) xs) (hn : xs.length ≤ 4000000) (h0 : 0 ≤ k0) (h1 : k0 ≤ 100000000) :
    Calls Try.prog 23 #[.slice A xs.length c, .int .i64 k0] w (MarkPost w lo k0 A c xs.length) := by
  have HS : Hid (Marked w lo k0 A c xs 0 w) := Lib.hid ⟨by rw [marked_zero]; exact h, World.grownBy.refl w _⟩
  clear h
  obtain ⟨w0, rfl⟩ : ∃ w0 : World, w0 = w := ⟨w, rfl⟩
  go_enter Try.func23, Try.ntmps23
  go_wp2_with fail
  go_loopw [1, 5] (fun q i wr => ∃ k : Nat, k ≤ xs.length ∧ i = .int .i64 k ∧ q = .int .i64 (k0 + k) ∧ Hid (Marked w0 lo k0 A c xs k wr)) (fun _ i _ => xs.length - (intOf i).toNat)
  case atStart => exact ⟨0, Nat.zero_le _, rfl, by go_num, HS⟩
  case round =>
    obtain ⟨k, hk, rfl, rfl, hs⟩ := hrel
    by_cases hlt : k < xs.length
    · obtain ⟨g, rfl, hc, hf⟩ := marked_at hs.out hlt
      have hlt' : (k : Int) < xs.length := by omega
      go_wp2_with fail
      go_roundw
      case rel => exact ⟨k + 1, by omega, by go_num, by go_num, Lib.hid (marked_step hs.out hlt)⟩
      case measure => simp [intOf]; omega
    · obtain rfl : k = xs.length := by omega
      go_wp2_with fail
      go_ret
      have h := hs.out
      unfold Marked at h
      rw [marked_all] at h
      exact ⟨rfl, by rw [marks_length]; unfold Own; rw [marks_length]; exact h.1, h.2⟩

set_option maxRecDepth 100000 in
set_option maxHeartbeats 1000000 in
theorem held_any (A : Option Addr) (c : Nat) (k0 : Int) (n : Nat) (w : World) (h : Rd w A (marks k0 n)) (hn : n ≤ 4000000) (h0 : 0 ≤ k0) (h1 : k0 ≤ 100000000) :
    Calls Try.prog 33 #[.slice A n c, .int .i64 k0] w (Same (.int .i64 (k0 + n)) w) := by
  have HR := Lib.hid h
  clear h
  go_enter Try.func33, Try.ntmps33
  go_wp2_with fail
  go_loop [1, 5] (fun q i => ∃ k : Nat, k ≤ n ∧ i = .int .i64 k ∧ q = .int .i64 (k0 + k)) (fun _ i => n - (intOf i).toNat)
  case atStart => exact ⟨0, Nat.zero_le _, rfl, by go_num⟩
  case round =>
    obtain ⟨k, hk, rfl, rfl⟩ := hrel
    by_cases hlt : k < n
    · obtain ⟨b, off, rfl, hc⟩ := HR.out.at_ (bl_refl _) k (by rw [marks_length]; exact hlt)
      rw [marks_nth k0 n k hlt] at hc
      have hlt' : (k : Int) < n := by omega
      go_wp2_with fail
      go_round
      case rel => exact ⟨k + 1, by omega, by go_num, by go_num⟩
      case measure => simp [intOf]; omega
    · obtain rfl : k = n := by omega
      go_wp2_with fail
      go_ret
      exact ⟨rfl, rfl⟩

end Go.Proofs.Ytlcimofhpphefaa

/-! Rows of the call's own wherever they begin: how a law marks them. -/
namespace Go.Proofs.Ytlcimofhpphefaa
open Go.RowKit
set_option linter.unusedVariables false

/-- The marking loop's state. -/
def MarkedR (w : World) (lo : Nat) (k0 : Int) (A : Option Addr) (c : Nat) (xs : List Int) (k : Nat) (wr : World) : Prop :=
  Row wr lo A (marked k0 xs k) ∧ w.grownBy wr (Value.slice A xs.length c).ownBlock
theorem nth_set_same (xs : List Int) (k : Nat) (x : Int) (h : k < xs.length) : nth (xs.set k x) k = x := ix_set_same xs k x h
theorem nth_set_other (xs : List Int) (k i : Nat) (x : Int) (h : k ≠ i) : nth (xs.set k x) i = nth xs i := ix_set_other xs k i x h
theorem markedR_step {w wr : World} {lo g off : Nat} {k0 : Int} {c : Nat} {xs : List Int} {k : Nat} (h : MarkedR w lo k0 (some ⟨g, off, none⟩) c xs k wr) (hk : k < xs.length) :
    MarkedR w lo k0 (some ⟨g, off, none⟩) c xs (k + 1) (wr.setCell ⟨g, off + k, none⟩ (.int .i64 (k0 + k))) := by
  have hl := marked_length k0 xs k (by omega)
  obtain ⟨hr, hg⟩ := h
  have hlt := (hr.1 _ rfl)
  refine ⟨⟨fun a e => ?_, fun h0 => ⟨g, off, rfl, fun i hi => ?_⟩⟩, World.grownBy.trans hg ⟨rfl, rfl, rfl, by simp [World.setCell], fun j hj hne => Below.heap_setCell wr ⟨g, off + k, none⟩ _ j (fun e => hne (by rw [e]; rfl))⟩⟩
  · obtain ⟨h1, h2⟩ := hr.1 a e
    exact ⟨h1, by simpa [World.setCell] using h2⟩
  · rw [← marked_set k0 xs k hk] at hi ⊢
    rw [List.length_set, hl] at hi
    obtain ⟨g', off', e, hc⟩ := hr.2 (by omega)
    injection e with e
    injection e with e1 e2
    subst e1 e2
    have hci := hc i (by omega)
    have hck := hc k (by omega)
    refine ⟨?_, by simp [go_sem, hci.2]⟩
    by_cases e : k = i
    · subst e
      rw [nth_set_same _ _ _ (by omega)]
      exact World.cell?_setCell_same wr _ _ hck.1
    · rw [nth_set_other _ _ _ _ e, World.cell?_setCell_other wr _ _ _ (by intro q; injection q with _ q; omega)]
      exact hci.1
theorem markedR_at {w wr : World} {lo : Nat} {k0 : Int} {A : Option Addr} {c : Nat} {xs : List Int} {k : Nat} (h : MarkedR w lo k0 A c xs k wr) (hk : k < xs.length) :
    ∃ g off, A = some ⟨g, off, none⟩ ∧ wr.cell? ⟨g, off + k, none⟩ = some (.int .i64 (nth (marked k0 xs k) k)) ∧ wr.frozen? ⟨g, off + k, none⟩ = false := by
  have hl := marked_length k0 xs k (by omega)
  obtain ⟨g, off, e, hc⟩ := h.1.2 (by omega)
  exact ⟨g, off, e, hc k (by omega)⟩
/-- What marking leaves. -/
def MarkPostR (w : World) (lo : Nat) (k0 : Int) (A : Option Addr) (c : Nat) (n : Nat) (e : Ending) (w' : World) : Prop :=
  e = .returned (.int .i64 (k0 + n)) ∧ Row w' lo A (marks k0 n) ∧ w.grownBy w' (Value.slice A n c).ownBlock

set_option maxRecDepth 100000 in
set_option maxHeartbeats 1000000 in
theorem markRow_any (A : Option Addr) (c lo : Nat) (xs : List Int) (k0 : Int) (w : World) (h : Row w lo A xs) (hn : xs.length ≤ 4000000) (h0 : 0 ≤ k0) (h1 : k0 ≤ 100000000) :
    Calls Try.prog 23 #[.slice A xs.length c, .int .i64 k0] w (MarkPostR w lo k0 A c xs.length) := by
  have HS : Hid (MarkedR w lo k0 A c xs 0 w) := Lib.hid ⟨by rw [marked_zero]; exact h, World.grownBy.refl w _⟩
  clear h
  obtain ⟨w0, rfl⟩ : ∃ w0 : World, w0 = w := ⟨w, rfl⟩
  go_enter Try.func23, Try.ntmps23
  go_wp2_with fail
  go_loopw [1, 5] (fun q i wr => ∃ k : Nat, k ≤ xs.length ∧ i = .int .i64 k ∧ q = .int .i64 (k0 + k) ∧ Hid (MarkedR w0 lo k0 A c xs k wr)) (fun _ i _ => xs.length - (intOf i).toNat)
  case atStart => exact ⟨0, Nat.zero_le _, rfl, by go_num, HS⟩
  case round =>
    obtain ⟨k, hk, rfl, rfl, hs⟩ := hrel
    by_cases hlt : k < xs.length
    · obtain ⟨g, off, rfl, hc, hf⟩ := markedR_at hs.out hlt
      have hlt' : (k : Int) < xs.length := by omega
      go_wp2_with fail
      go_roundw
      case rel => exact ⟨k + 1, by omega, by go_num, by go_num, Lib.hid (markedR_step hs.out hlt)⟩
      case measure => simp [intOf]; omega
    · obtain rfl : k = xs.length := by omega
      go_wp2_with fail
      go_ret
      have h := hs.out
      unfold MarkedR at h
      rw [marked_all] at h
      exact ⟨rfl, h.1, h.2⟩

/-- Rows that lie apart. -/
theorem row_ne {W1 W2 : World} {lo1 lo2 m d : Nat} {A B : Option Addr} {xs ys : List Int} (h1 : Row W1 lo1 A xs) (h2 : Row W2 lo2 B ys) (h : W1.heap.size ≤ lo2) : ∀ a, A = some a → some a.block ≠ (Value.slice B m d).ownBlock := by
  intro a ha e
  rcases B with _ | b
  · cases e
  · have k1 := (h1.1 a ha).2
    have k2 := (h2.1 b rfl).1
    have : a.block = b.block := by injection e
    omega
theorem row_ne' {W1 W2 : World} {lo1 lo2 m d : Nat} {A B : Option Addr} {xs ys : List Int} (h1 : Row W1 lo1 A xs) (h2 : Row W2 lo2 B ys) (h : W2.heap.size ≤ lo1) : ∀ a, A = some a → some a.block ≠ (Value.slice B m d).ownBlock := by
  intro a ha e
  rcases B with _ | b
  · cases e
  · have k1 := (h1.1 a ha).1
    have k2 := (h2.1 b rfl).2
    have : a.block = b.block := by injection e
    omega
theorem bl_markR {a w w' : World} {lo n c : Nat} {A : Option Addr} {xs : List Int} (hb : Below a.heap.size a w) (hg : w.grownBy w' (Value.slice A n c).ownBlock) (h : Row w lo A xs) (hl : a.heap.size ≤ lo) : Below a.heap.size a w' :=
  hb.grown hg hb.size (fun j hj => by
    rcases A with _ | b
    · cases hj
    · have := (h.1 b rfl).1
      have : b.block = j := by injection hj
      omega)
end Go.Proofs.Ytlcimofhpphefaa

/-! The laws' own helpers on lists of numbers: toInt64S (the others: MarkLaw). -/
namespace Go.Proofs.Ytlcimofhpphefaa
open Go.RowKit
set_option linter.unusedVariables false

/-- What a copying loop has written after k rounds. -/
def mix (xs : List Int) (k : Nat) : List Int := xs.take k ++ List.replicate (xs.length - k) 0
theorem mix_length (xs : List Int) (k : Nat) (h : k ≤ xs.length) : (mix xs k).length = xs.length := by simp [mix]; omega
theorem mix_zero (xs : List Int) : mix xs 0 = List.replicate xs.length 0 := by simp [mix]
theorem mix_all (xs : List Int) : mix xs xs.length = xs := by simp [mix]
theorem mix_set (xs : List Int) (k : Nat) (h : k < xs.length) : (mix xs k).set k (nth xs k) = mix xs (k + 1) := by
  have hl : (xs.take k).length = k := by rw [List.length_take]; omega
  unfold mix
  rw [List.set_append_right _ _ (by omega), hl, Nat.sub_self, take_nth xs k h, List.append_assoc]
  congr 1
  have : xs.length - k = (xs.length - (k + 1)) + 1 := by omega
  rw [this, List.replicate_succ]
  rfl
/-- The copying loop's state. -/
def Copied (w : World) (xs : List Int) (k : Nat) (wr : World) : Prop :=
  wr.ownsRow w.heap.size 2 1 (.slice (some ⟨w.heap.size, 0, none⟩) xs.length xs.length) xs.length (ints (mix xs k)) ∧ Below w.heap.size w wr
theorem copied_step {w wr : World} {xs : List Int} {k : Nat} (h : Copied w xs k wr) (hk : k < xs.length) (n : Nat) :
    Copied w xs (k + 1) ((wr.drewN n).setCell ⟨w.heap.size, k, none⟩ (.int .i64 (nth xs k))) := by
  have h1 : (wr.drewN n).ownsRow w.heap.size 2 1 (.slice (some ⟨w.heap.size, 0, none⟩) xs.length xs.length) xs.length (ints (mix xs k)) := h.1
  refine ⟨?_, (bl_drewN h.2 n).setCell (Nat.le_refl _) _⟩
  have := (h1.stored k (.int .i64 (nth xs k))).1
  rwa [ints_set, mix_set xs k hk] at this
theorem copied_cell {w wr : World} {xs : List Int} {k : Nat} (h : Copied w xs k wr) (hk : k < xs.length) :
    wr.cell? ⟨w.heap.size, k, none⟩ = some (.int .i64 (nth (mix xs k) k)) ∧ wr.frozen? ⟨w.heap.size, k, none⟩ = false := by
  refine ⟨?_, h.1.frozenAt k⟩
  rw [h.1.cellAt k (by omega), ints_get _ _ (by rw [mix_length xs k (by omega)]; exact hk)]

set_option maxRecDepth 100000 in
set_option maxHeartbeats 1000000 in
theorem toInts_any (A : Option Addr) (c : Nat) (xs : List Int) (w : World) (hr : Rd w A xs) (hn : xs.length ≤ 1048576) :
    Calls Try.prog 13 #[.slice A xs.length c] w (NewL xs w) := by
  obtain ⟨i0, hi, hz0, hz1, hz2⟩ := info_parts infoInt
  have HR := Lib.hid hr
  clear hr
  obtain ⟨w0, rfl⟩ : ∃ w0 : World, w0 = w := ⟨w, rfl⟩
  go_enter Try.func13, Try.ntmps13
  go_wp2_with (at_make; refine wpList_make_full _ rfl _ _ 22 rfl w0.heap.size 2 i0 (.int .i64 0) 1 Try.underlying22 hi hz0 hz1 .i64 .i64 _ _ xs.length rfl rfl rfl rfl ?c1 ?c2 (Nat.le_refl _) ?_)
  case c1 => rw [hz2]; omega
  case c2 => unfold maxLen; omega
  intro w1 hown hgrow
  have HS : Hid (Copied w0 xs 0 w1) := Lib.hid ⟨by
    have e : (madeCells #[Value.int .i64 0] xs.length).toList = ints (mix xs 0) := by
      rw [mix_zero, ← ints_zeros]; exact toList_madeCells_one _ _
    rwa [e] at hown, (bl_refl _).grown hgrow (Nat.le_refl _) (fun j hj => by cases hj)⟩
  clear hown hgrow
  go_wp2_with fail
  go_loopw [4] (fun i wr => ∃ k : Nat, k ≤ xs.length ∧ i = .int .i64 k ∧ Hid (Copied w0 xs k wr)) (fun i _ => xs.length - (intOf i).toNat)
  case atStart => exact ⟨0, Nat.zero_le _, rfl, HS⟩
  case round =>
    obtain ⟨k, hk, rfl, hs⟩ := hrel
    by_cases hlt : k < xs.length
    · obtain ⟨b, off, rfl, hc⟩ := HR.out.at_ hs.out.2 k hlt
      obtain ⟨hg, hf⟩ := copied_cell hs.out hlt
      have hlt' : (k : Int) < xs.length := by omega
      go_wp2_with fail
      go_roundw
      case rel => exact ⟨k + 1, by omega, by go_num, Lib.hid (copied_step hs.out hlt 0)⟩
      case measure => simp [intOf]; omega
    · obtain rfl : k = xs.length := by omega
      go_wp2_with fail
      go_ret
      have h := hs.out
      unfold Copied at h
      rw [mix_all] at h
      exact ⟨_, _, rfl, h.1, h.2⟩
end Go.Proofs.Ytlcimofhpphefaa

/-! Rows of the call's own that lie apart: what is kept when one of them is written. -/
namespace Go.Proofs.Ytlcimofhpphefaa
open Go.RowKit
set_option linter.unusedVariables false

/-- A row that lay there before another was made is not that one. -/
theorem own_ne {W1 W2 : World} {lo1 lo2 n m c d : Nat} {A B : Option Addr} {xs ys : List Int} (h1 : Own W1 lo1 (.slice A n c) xs) (h2 : Own W2 lo2 (.slice B m d) ys) (h : W1.heap.size ≤ lo2) :
    (Value.slice A n c).ownBlock = none ∨ (Value.slice A n c).ownBlock ≠ (Value.slice B m d).ownBlock := by
  rcases A with _ | a
  · exact .inl rfl
  · right
    intro e
    have k1 := World.ownsRow.lt h1 a.block rfl
    have k2 := World.ownsRow.lt h2 a.block e.symm
    omega
theorem own_ne' {W1 W2 : World} {lo1 lo2 n m c d : Nat} {A B : Option Addr} {xs ys : List Int} (h1 : Own W1 lo1 (.slice A n c) xs) (h2 : Own W2 lo2 (.slice B m d) ys) (h : W2.heap.size ≤ lo1) :
    (Value.slice A n c).ownBlock = none ∨ (Value.slice A n c).ownBlock ≠ (Value.slice B m d).ownBlock := by
  rcases A with _ | a
  · exact .inl rfl
  · right
    intro e
    have k1 := World.ownsRow.lt h1 a.block rfl
    have k2 := World.ownsRow.lt h2 a.block e.symm
    omega
/-- What has been written into a row of the call's own counts for nothing. -/
theorem bl_mark {a w w' : World} {lo n c : Nat} {A : Option Addr} {xs : List Int} (hb : Below a.heap.size a w) (hg : w.grownBy w' (Value.slice A n c).ownBlock) (h : Own w lo (.slice A n c) xs) (hl : a.heap.size ≤ lo) : Below a.heap.size a w' :=
  hb.grown hg hb.size (fun j hj => Nat.le_trans hl (World.ownsRow.lt h j hj).1)
theorem sz_le {w w' : World} (h : Below w.heap.size w w') : w.heap.size ≤ w'.heap.size := h.size

end Go.Proofs.Ytlcimofhpphefaa
