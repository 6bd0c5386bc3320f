/-
  l01From: a source over a code.
-/
import Derived.Test.YtcbfmfkahgfjkaaDoorDraw
import Derived.RegionTactic
namespace Go.Proofs.YtcbfmfkahgfjkaaDoor
open Go.RowKit
set_option linter.unusedVariables false

/-- A code that came in. -/
def CodeIn (w : World) (a : Option Addr) (L : Nat) (zs : Nat → Int) : Prop := L = 0 ∨ ∃ b off : Nat, a = some ⟨b, off, none⟩ ∧ CodeAt w b off L zs
def FromTo (w : World) (a : Option Addr) (L c : Nat) (zs : Nat → Int) (e : Ending) (w' : World) : Prop :=
  e = .returned (.pointer (some ⟨w.heap.size, 0, none⟩)) ∧ Src w' w.heap.size a L c zs ∧ Below w.heap.size w w'
/-- The loop's state: the source is the call's own. -/
def Seeded (w : World) (cv : Value) (wr : World) : Prop := ∃ sd : Int, SrcAt wr w.heap.size cv 0 sd ∧ 0 ≤ sd ∧ sd ≤ 2147483646 ∧ Below w.heap.size w wr
theorem seeded_set {w wr : World} {cv : Value} (h : Seeded w cv wr) (x : Int) (h0 : 0 ≤ x) (h1 : x < 2147483647) (n : Nat) : Seeded w cv ((wr.drewN n).setCell ⟨w.heap.size, 2, none⟩ (.int .i64 x)) := by
  obtain ⟨sd, h2, _, _, hb⟩ := h
  exact ⟨x, srcAt_set2 (srcAt_drewN h2 n) x, h0, by omega, (bl_drewN hb n).setCell (Nat.le_refl _) _⟩

set_option maxHeartbeats 1000000 in
theorem from_none (a : Option Addr) (c : Nat) (zs : Nat → Int) (w : World) (L : Nat) (h0 : L ≤ 0) (hL : L ≤ 4096) :
    Calls Tryd.prog 64 #[.slice a L c] w (FromTo w a L c zs) := by
  skip
  obtain ⟨w0, rfl⟩ : ∃ w0 : World, w0 = w := ⟨w, rfl⟩
  go_enter Tryd.func64, Tryd.ntmps64
  go_wp2_with fail
  go_loopw [4] (fun i wr => ∃ k : Nat, k ≤ L ∧ i = .int .i64 k ∧ Hid (Seeded w0 (.slice a L c) wr)) (fun i _ => L - (intOf i).toNat)
  case atStart =>
    refine ⟨0, Nat.zero_le _, rfl, Lib.hid ⟨45007, ⟨?_, ?_, ?_, ?_, ?_⟩, by omega, by omega, bl_alloc (bl_refl _) _⟩⟩ <;> simp [go_sem]
  case round =>
    obtain ⟨k, hk, rfl, hs⟩ := hrel
    by_cases hkL : k < L
    · omega
    · go_wp2_with fail
      go_ret
      obtain ⟨sd, hsa, s1, s2, hb⟩ := hs.out
      exact ⟨rfl, ⟨⟨0, sd, hsa, by omega, by omega, s1, s2⟩, .inl (by omega), hL⟩, hb⟩

set_option maxHeartbeats 1000000 in
theorem from_some (b off c : Nat) (zs : Nat → Int) (w : World) (L : Nat) (hL : L ≤ 4096) (hc : CodeAt w b off L zs) (hne : b ≠ w.heap.size) :
    Calls Tryd.prog 64 #[.slice (some ⟨b, off, none⟩) L c] w (FromTo w (some ⟨b, off, none⟩) L c zs) := by
  have HC := Lib.hid hc
  clear hc
  obtain ⟨w0, rfl⟩ : ∃ w0 : World, w0 = w := ⟨w, rfl⟩
  go_enter Tryd.func64, Tryd.ntmps64
  go_wp2_with fail
  go_loopw [4] (fun i wr => ∃ k : Nat, k ≤ L ∧ i = .int .i64 k ∧ Hid (Seeded w0 (.slice (some ⟨b, off, none⟩) L c) wr)) (fun i _ => L - (intOf i).toNat)
  case atStart =>
    refine ⟨0, Nat.zero_le _, rfl, Lib.hid ⟨45007, ⟨?_, ?_, ?_, ?_, ?_⟩, by omega, by omega, bl_alloc (bl_refl _) _⟩⟩ <;> simp [go_sem]
  case round =>
    obtain ⟨k, hk, rfl, hs⟩ := hrel
    by_cases hkL : k < L
    · obtain ⟨sd, hsa, s1, s2, hb⟩ := hs.out
      obtain ⟨c0, c1, c2, f1, f2⟩ := hsa
      have hz : wr.cell? ⟨b, off + k, none⟩ = some (.int .u8 (zs k)) := (codeAt_below HC.out hb k hkL).1
      obtain ⟨z0, z1⟩ := (HC.out k hkL).2
      have e1 : 0 ≤ (sd * 61 + zs k) % 2147483647 := Int.emod_nonneg _ (by omega)
      have e2 : (sd * 61 + zs k) % 2147483647 < 2147483647 := Int.emod_lt_of_pos _ (by omega)
      have hkL' : (k : Int) < L := by omega
      clear hb
      by_cases h64 : k < 64
      · go_wp2_with fail
        go_region
        all_goals
          go_wp2_with fail
          go_roundw
          case rel => exact ⟨k + 1, by omega, by go_num, Lib.hid (seeded_set hs.out _ e1 e2 1)⟩
          case measure => simp [intOf]; omega
      · go_wp2_with fail
        go_ret
        obtain ⟨sd, hsa, s1, s2, hb⟩ := hs.out
        exact ⟨rfl, ⟨⟨0, sd, hsa, by omega, by omega, s1, s2⟩, .inr ⟨b, off, rfl, hne, codeAt_below HC.out hb⟩, hL⟩, hb⟩
    · go_wp2_with fail
      go_ret
      obtain ⟨sd, hsa, s1, s2, hb⟩ := hs.out
      exact ⟨rfl, ⟨⟨0, sd, hsa, by omega, by omega, s1, s2⟩, .inr ⟨b, off, rfl, hne, codeAt_below HC.out hb⟩, hL⟩, hb⟩

theorem from_any (a : Option Addr) (L c : Nat) (zs : Nat → Int) (w : World) (hL : L ≤ 4096) (hc : CodeIn w a L zs) :
    Calls Tryd.prog 64 #[.slice a L c] w (FromTo w a L c zs) := by
  by_cases h0 : L = 0
  · exact from_none a c zs w L (by omega) hL
  · rcases hc with h | ⟨b, off, rfl, h⟩
    · omega
    · have := codeAt_lt h (by omega)
      exact from_some b off c zs w L hL h (by omega)

end Go.Proofs.YtcbfmfkahgfjkaaDoor
