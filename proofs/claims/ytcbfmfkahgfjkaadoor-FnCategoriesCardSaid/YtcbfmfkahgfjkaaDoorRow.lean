/-
  Rows of the call's own wherever they begin in their block, whatever the block's type: how they read, how a law marks them.
-/
import Derived.Test.YtcbfmfkahgfjkaaDoorMarkLaw
import Derived.Test.YtcbfmfkahgfjkaaDoorDeckPure
namespace Go.Proofs.YtcbfmfkahgfjkaaDoor
open Go.RowKit
set_option linter.unusedVariables false

/-- A row of the call's own: its block does not lie below lo. -/
def Row (w : World) (lo : Nat) (A : Option Addr) (xs : List Int) : Prop :=
  (∀ a, A = some a → lo ≤ a.block ∧ a.block < w.heap.size) ∧
  (0 < xs.length → ∃ g off, A = some ⟨g, off, none⟩ ∧ ∀ i, i < xs.length → w.cell? ⟨g, off + i, none⟩ = some (.int .i64 (nth xs i)) ∧ w.frozen? ⟨g, off + i, none⟩ = false)
theorem Row.rd {w : World} {lo : Nat} {A : Option Addr} {xs : List Int} (h : Row w lo A xs) : Rd w A xs := fun h0 => by
  obtain ⟨g, off, e, hc⟩ := h.2 h0
  exact ⟨g, off, e, fun i hi => (hc i hi).1⟩
theorem Row.less {w : World} {lo lo' : Nat} {A : Option Addr} {xs : List Int} (h : Row w lo A xs) (hl : lo' ≤ lo) : Row w lo' A xs :=
  ⟨fun a e => ⟨Nat.le_trans hl (h.1 a e).1, (h.1 a e).2⟩, h.2⟩
theorem Row.grown {w w' : World} {lo : Nat} {A : Option Addr} {xs : List Int} {row : Option Nat} (h : Row w lo A xs) (hg : w.grownBy w' row) (hne : ∀ a, A = some a → some a.block ≠ row) : Row w' lo A xs := by
  refine ⟨fun a e => ⟨(h.1 a e).1, Nat.lt_of_lt_of_le (h.1 a e).2 hg.size⟩, fun h0 => ?_⟩
  obtain ⟨g, off, rfl, hc⟩ := h.2 h0
  have hb := hg.block g (h.1 _ rfl).2 (hne _ rfl)
  exact ⟨g, off, rfl, fun i hi => ⟨(World.cell?_of_block (a := ⟨g, off + i, none⟩) hb).trans (hc i hi).1, (World.frozen?_of_block (a := ⟨g, off + i, none⟩) hb).trans (hc i hi).2⟩⟩
theorem Row.below {w w' : World} {lo : Nat} {A : Option Addr} {xs : List Int} (h : Row w lo A xs) (hb : Below w.heap.size w w') : Row w' lo A xs :=
  Row.grown (row := none) h ⟨hb.os, hb.tape, hb.output, hb.size, fun k hk _ => hb.block k hk⟩ (fun _ _ => by simp)
theorem Row.nil (w : World) (lo : Nat) : Row w lo none [] := ⟨(fun a e => by cases e), (fun h => by simp at h)⟩
theorem Row.of_own {w : World} {lo : Nat} {A : Option Addr} {c : Nat} {xs : List Int} (h : Own w lo (.slice A xs.length c) xs) : Row w lo A xs := by
  refine ⟨fun a e => h.lo_le a e, fun h0 => ?_⟩
  rcases h.2 with ⟨_, hn⟩ | ⟨g, cap, cur, hv, _⟩
  · omega
  · injection hv with hA _ hc
    subst hA hc
    refine ⟨g, 0, rfl, fun i hi => ?_⟩
    rw [Nat.zero_add]
    exact ⟨by rw [World.ownsRow.cellAt h i (by omega), ints_get xs i hi], World.ownsRow.frozenAt h i⟩
theorem own_cap {w : World} {lo : Nat} {A : Option Addr} {c : Nat} {xs : List Int} (h : Own w lo (.slice A xs.length c) xs) : xs.length ≤ c := by
  rcases h.2 with ⟨e, hn⟩ | ⟨g, cap, cur, hv, _, _, hnc, _⟩
  · omega
  · injection hv with _ _ hc
    omega
/-- A row's end. -/
theorem Row.drop {w : World} {lo g off : Nat} {xs : List Int} (h : Row w lo (some ⟨g, off, none⟩) xs) (n : Nat) : Row w lo (some ⟨g, off + n, none⟩) (xs.drop n) := by
  refine ⟨fun a e => ?_, fun h0 => ⟨g, off + n, rfl, fun i hi => ?_⟩⟩
  · obtain rfl := Option.some.inj e
    exact h.1 ⟨g, off, none⟩ rfl
  · rw [List.length_drop] at hi
    obtain ⟨g', off', e, hc⟩ := h.2 (by omega)
    injection e with e
    injection e with e1 e2
    subst e1 e2
    have := hc (n + i) (by omega)
    rw [← Nat.add_assoc] at this
    rw [show nth (xs.drop n) i = nth xs (n + i) from ix_drop xs n i]
    exact this
theorem Row.at_ {w w' : World} {lo : Nat} {A : Option Addr} {xs : List Int} (h : Row w lo A xs) (hb : Below w.heap.size w w') (k : Nat) (hk : k < xs.length) : ∃ b off, A = some ⟨b, off, none⟩ ∧ w'.cell? ⟨b, off + k, none⟩ = some (.int .i64 (nth xs k)) := h.rd.at_ hb k hk
/-- What a call leaves that returns a list of the call's own. -/
def NewR (xs : List Int) (w : World) (e : Ending) (w' : World) : Prop := ∃ A c, e = .returned (.slice A xs.length c) ∧ Row w' w.heap.size A xs ∧ Below w.heap.size w w'
/-- The same with a code beside it. -/
def NewRC (xs : List Int) (code : Int) (w : World) (e : Ending) (w' : World) : Prop := ∃ A c, e = .returned (.tuple #[.slice A xs.length c, .int .i64 code]) ∧ Row w' w.heap.size A xs ∧ Below w.heap.size w w'
theorem newR_of {xs : List Int} {w : World} {e : Ending} {w' : World} (h : NewL xs w e w') : NewR xs w e w' := by
  obtain ⟨A, c, he, ho, hb⟩ := h
  exact ⟨A, c, he, Row.of_own ho, hb⟩
theorem newRC_of {xs : List Int} {code : Int} {w : World} {e : Ending} {w' : World} (h : NewLC xs code w e w') : NewRC xs code w e w' := by
  obtain ⟨A, c, he, ho, hb⟩ := h
  exact ⟨A, c, he, Row.of_own ho, hb⟩
/-- The marking loop's state. -/
def MarkedR (w : World) (lo : Nat) (k0 : Int) (A : Option Addr) (c : Nat) (xs : List Int) (k : Nat) (wr : World) : Prop :=
  Row wr lo A (marked k0 xs k) ∧ w.grownBy wr (Value.slice A xs.length c).ownBlock
theorem nth_set_same (xs : List Int) (k : Nat) (x : Int) (h : k < xs.length) : nth (xs.set k x) k = x := ix_set_same xs k x h
theorem nth_set_other (xs : List Int) (k i : Nat) (x : Int) (h : k ≠ i) : nth (xs.set k x) i = nth xs i := ix_set_other xs k i x h
theorem markedR_step {w wr : World} {lo g off : Nat} {k0 : Int} {c : Nat} {xs : List Int} {k : Nat} (h : MarkedR w lo k0 (some ⟨g, off, none⟩) c xs k wr) (hk : k < xs.length) :
    MarkedR w lo k0 (some ⟨g, off, none⟩) c xs (k + 1) (wr.setCell ⟨g, off + k, none⟩ (.int .i64 (k0 + k))) := by
  have hl := marked_length k0 xs k (by omega)
  obtain ⟨hr, hg⟩ := h
  have hlt := (hr.1 _ rfl)
  refine ⟨⟨fun a e => ?_, fun h0 => ⟨g, off, rfl, fun i hi => ?_⟩⟩, World.grownBy.trans hg ⟨rfl, rfl, rfl, by simp [World.setCell], fun j hj hne => Below.heap_setCell wr ⟨g, off + k, none⟩ _ j (fun e => hne (by rw [e]; rfl))⟩⟩
  · obtain ⟨h1, h2⟩ := hr.1 a e
    exact ⟨h1, by simpa [World.setCell] using h2⟩
  · rw [← marked_set k0 xs k hk] at hi ⊢
    rw [List.length_set, hl] at hi
    obtain ⟨g', off', e, hc⟩ := hr.2 (by omega)
    injection e with e
    injection e with e1 e2
    subst e1 e2
    have hci := hc i (by omega)
    have hck := hc k (by omega)
    refine ⟨?_, by simp [go_sem, hci.2]⟩
    by_cases e : k = i
    · subst e
      rw [nth_set_same _ _ _ (by omega)]
      exact World.cell?_setCell_same wr _ _ hck.1
    · rw [nth_set_other _ _ _ _ e, World.cell?_setCell_other wr _ _ _ (by intro q; injection q with _ q; omega)]
      exact hci.1
theorem markedR_at {w wr : World} {lo : Nat} {k0 : Int} {A : Option Addr} {c : Nat} {xs : List Int} {k : Nat} (h : MarkedR w lo k0 A c xs k wr) (hk : k < xs.length) :
    ∃ g off, A = some ⟨g, off, none⟩ ∧ wr.cell? ⟨g, off + k, none⟩ = some (.int .i64 (nth (marked k0 xs k) k)) ∧ wr.frozen? ⟨g, off + k, none⟩ = false := by
  have hl := marked_length k0 xs k (by omega)
  obtain ⟨g, off, e, hc⟩ := h.1.2 (by omega)
  exact ⟨g, off, e, hc k (by omega)⟩
/-- What marking leaves. -/
def MarkPostR (w : World) (lo : Nat) (k0 : Int) (A : Option Addr) (c : Nat) (n : Nat) (e : Ending) (w' : World) : Prop :=
  e = .returned (.int .i64 (k0 + n)) ∧ Row w' lo A (marks k0 n) ∧ w.grownBy w' (Value.slice A n c).ownBlock

set_option maxRecDepth 100000 in
set_option maxHeartbeats 1000000 in
theorem markRow_any (A : Option Addr) (c lo : Nat) (xs : List Int) (k0 : Int) (w : World) (h : Row w lo A xs) (hn : xs.length ≤ 4000000) (h0 : 0 ≤ k0) (h1 : k0 ≤ 100000000) :
    Calls Tryd.prog 22 #[.slice A xs.length c, .int .i64 k0] w (MarkPostR w lo k0 A c xs.length) := by
  have HS : Hid (MarkedR w lo k0 A c xs 0 w) := Lib.hid ⟨by rw [marked_zero]; exact h, World.grownBy.refl w _⟩
  clear h
  obtain ⟨w0, rfl⟩ : ∃ w0 : World, w0 = w := ⟨w, rfl⟩
  go_enter Tryd.func22, Tryd.ntmps22
  go_wp2_with fail
  go_loopw [1, 5] (fun q i wr => ∃ k : Nat, k ≤ xs.length ∧ i = .int .i64 k ∧ q = .int .i64 (k0 + k) ∧ Hid (MarkedR w0 lo k0 A c xs k wr)) (fun _ i _ => xs.length - (intOf i).toNat)
  case atStart => exact ⟨0, Nat.zero_le _, rfl, by go_num, HS⟩
  case round =>
    obtain ⟨k, hk, rfl, rfl, hs⟩ := hrel
    by_cases hlt : k < xs.length
    · obtain ⟨g, off, rfl, hc, hf⟩ := markedR_at hs.out hlt
      have hlt' : (k : Int) < xs.length := by omega
      go_wp2_with fail
      go_roundw
      case rel => exact ⟨k + 1, by omega, by go_num, by go_num, Lib.hid (markedR_step hs.out hlt)⟩
      case measure => simp [intOf]; omega
    · obtain rfl : k = xs.length := by omega
      go_wp2_with fail
      go_ret
      have h := hs.out
      unfold MarkedR at h
      rw [marked_all] at h
      exact ⟨rfl, h.1, h.2⟩

/-- Rows that lie apart. -/
theorem row_ne {W1 W2 : World} {lo1 lo2 m d : Nat} {A B : Option Addr} {xs ys : List Int} (h1 : Row W1 lo1 A xs) (h2 : Row W2 lo2 B ys) (h : W1.heap.size ≤ lo2) : ∀ a, A = some a → some a.block ≠ (Value.slice B m d).ownBlock := by
  intro a ha e
  rcases B with _ | b
  · cases e
  · have k1 := (h1.1 a ha).2
    have k2 := (h2.1 b rfl).1
    have : a.block = b.block := by injection e
    omega
theorem row_ne' {W1 W2 : World} {lo1 lo2 m d : Nat} {A B : Option Addr} {xs ys : List Int} (h1 : Row W1 lo1 A xs) (h2 : Row W2 lo2 B ys) (h : W2.heap.size ≤ lo1) : ∀ a, A = some a → some a.block ≠ (Value.slice B m d).ownBlock := by
  intro a ha e
  rcases B with _ | b
  · cases e
  · have k1 := (h1.1 a ha).1
    have k2 := (h2.1 b rfl).2
    have : a.block = b.block := by injection e
    omega
theorem bl_markR {a w w' : World} {lo n c : Nat} {A : Option Addr} {xs : List Int} (hb : Below a.heap.size a w) (hg : w.grownBy w' (Value.slice A n c).ownBlock) (h : Row w lo A xs) (hl : a.heap.size ≤ lo) : Below a.heap.size a w' :=
  hb.grown hg hb.size (fun j hj => by
    rcases A with _ | b
    · cases hj
    · have := (h.1 b rfl).1
      have : b.block = j := by injection hj
      omega)
end Go.Proofs.YtcbfmfkahgfjkaaDoor
