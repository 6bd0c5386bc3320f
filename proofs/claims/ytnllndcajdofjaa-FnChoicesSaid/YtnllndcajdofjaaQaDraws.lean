/-
  Put together: Draw, DrawFrom, Pick, SrcOwn, Big, Deal, DealP, PickList
-/
import Derived.Test.YtnllndcajdofjaaQaAnySG
import Derived.BigQuiet
import Derived.Lib.Hide
import Derived.Maps.AppendAt
import Derived.Deep.AppendLies
import Derived.RegionTactic
import Derived.WalkSpells
import Derived.Test.YtnllndcajdofjaaQaBetHelpG
import Derived.Lib.SmallJoins
import Derived.OpenShut
import Derived.Deep.RegionLaw
import Derived.IntWalk

/-! The source of drawn numbers: l01Next: its walk, over any state of the source. What it draws is a number from 0 to n - 1; it writes into the source alone. -/
namespace Go.Proofs.Ytnllndcajdofjaa
open Go.RowKit
set_option linter.unusedVariables false

/-- The cells of a source: the code, the place in it, the seed. -/
def SrcAt (w : World) (s : Nat) (cv : Value) (k sd : Int) : Prop :=
  w.cell? ⟨s, 0, none⟩ = some cv ∧ w.cell? ⟨s, 1, none⟩ = some (.int .i64 k) ∧ w.cell? ⟨s, 2, none⟩ = some (.int .i64 sd) ∧ w.frozen? ⟨s, 1, none⟩ = false ∧ w.frozen? ⟨s, 2, none⟩ = false
/-- The cells of a code. -/
def CodeAt (w : World) (b off L : Nat) (zs : Nat → Int) : Prop := ∀ i, i < L → w.cell? ⟨b, off + i, none⟩ = some (.int .u8 (zs i)) ∧ 0 ≤ zs i ∧ zs i ≤ 255
/-- Only block s has been written, and blocks that are new. -/
def Only (s : Nat) (w w' : World) : Prop := w.grownBy w' (some s)
theorem only_refl (s : Nat) (w : World) : Only s w w := ⟨rfl, rfl, rfl, Nat.le_refl _, fun _ _ _ => rfl⟩
theorem only_trans {s : Nat} {a b c : World} (h : Only s a b) (k : Only s b c) : Only s a c := World.grownBy.trans h k
theorem only_drewN {s : Nat} {a w : World} (h : Only s a w) (n : Nat) : Only s a (w.drewN n) := ⟨h.os, h.tape, h.output, h.size, h.block⟩
theorem only_below {s : Nat} {a w : World} (h : Below a.heap.size a w) : Only s a w := ⟨h.os, h.tape, h.output, h.size, fun i hi _ => h.block i hi⟩
theorem only_alloc {s : Nat} {a w : World} (h : Only s a w) (o : Obj) : Only s a (w.alloc o) := only_trans h (only_below (bl_alloc (bl_refl _) _))
theorem only_set {s : Nat} {a w : World} (h : Only s a w) (o : Nat) (u : Value) : Only s a (w.setCell ⟨s, o, none⟩ u) :=
  ⟨h.os, h.tape, h.output, by simpa [World.setCell] using h.size, fun i hi hne => (Below.heap_setCell w ⟨s, o, none⟩ u i (by
    intro e; exact hne (by rw [e]))).trans (h.block i hi hne)⟩
theorem only_cell {s : Nat} {w w' : World} (h : Only s w w') {b o : Nat} (hb : b < w.heap.size) (hne : b ≠ s) : w'.cell? ⟨b, o, none⟩ = w.cell? ⟨b, o, none⟩ :=
  World.cell?_of_block (w := w) (h.block b hb (fun e => hne (by injection e)))
theorem srcAt_lt {w : World} {s : Nat} {cv : Value} {k sd : Int} (h : SrcAt w s cv k sd) : s < w.heap.size := World.block_lt_of_cell? w _ h.1
theorem srcAt_below {w w' : World} {s : Nat} {cv : Value} {k sd : Int} (h : SrcAt w s cv k sd) (hb : Below w.heap.size w w') : SrcAt w' s cv k sd := by
  have hs := srcAt_lt h
  exact ⟨(hb.cell (p := ⟨s, 0, none⟩) hs).trans h.1, (hb.cell (p := ⟨s, 1, none⟩) hs).trans h.2.1, (hb.cell (p := ⟨s, 2, none⟩) hs).trans h.2.2.1, (hb.frozen (p := ⟨s, 1, none⟩) hs).trans h.2.2.2.1, (hb.frozen (p := ⟨s, 2, none⟩) hs).trans h.2.2.2.2⟩
theorem codeAt_lt {w : World} {b off L : Nat} {zs : Nat → Int} (h : CodeAt w b off L zs) (hL : 0 < L) : b < w.heap.size := World.block_lt_of_cell? w _ (h 0 hL).1
theorem codeAt_only {w w' : World} {b off L s : Nat} {zs : Nat → Int} (h : CodeAt w b off L zs) (ho : Only s w w') (hne : b ≠ s) : CodeAt w' b off L zs :=
  fun i hi => ⟨(only_cell ho (World.block_lt_of_cell? w _ (h i hi).1) hne).trans (h i hi).1, (h i hi).2⟩
theorem codeAt_below {w w' : World} {b off L : Nat} {zs : Nat → Int} (h : CodeAt w b off L zs) (hb : Below w.heap.size w w') : CodeAt w' b off L zs :=
  fun i hi => ⟨(hb.cell (p := ⟨b, off + i, none⟩) (World.block_lt_of_cell? w _ (h i hi).1)).trans (h i hi).1, (h i hi).2⟩

/-- The state of a source over a code of L bytes: 'a' is the code's address, nil where there is none. -/
structure Src (w : World) (s : Nat) (a : Option Addr) (L c : Nat) (zs : Nat → Int) : Prop where
  at' : ∃ k sd : Int, SrcAt w s (.slice a L c) k sd ∧ 0 ≤ k ∧ k ≤ L ∧ 0 ≤ sd ∧ sd ≤ 2147483646
  code : L = 0 ∨ ∃ b off : Nat, a = some ⟨b, off, none⟩ ∧ b ≠ s ∧ CodeAt w b off L zs
  len : L ≤ 4096
theorem Src.below {w w' : World} {s : Nat} {a : Option Addr} {L c : Nat} {zs : Nat → Int} (h : Src w s a L c zs) (hb : Below w.heap.size w w') : Src w' s a L c zs := by
  obtain ⟨k, sd, h1, h2⟩ := h.at'
  refine ⟨⟨k, sd, srcAt_below h1 hb, h2⟩, ?_, h.len⟩
  rcases h.code with h0 | ⟨b, off, e, hne, hc⟩
  · exact .inl h0
  · exact .inr ⟨b, off, e, hne, codeAt_below hc hb⟩

/-- What a draw leaves: a number, the source, and nothing else written. -/
def Drew (lo hi : Int) (w : World) (s : Nat) (a : Option Addr) (L c : Nat) (zs : Nat → Int) (e : Ending) (w' : World) : Prop :=
  ∃ x : Int, e = .returned (.int .i64 x) ∧ lo ≤ x ∧ x ≤ hi ∧ Src w' s a L c zs ∧ Only s w w'

set_option maxHeartbeats 1000000 in
theorem next_small (s : Nat) (n : Int) (w : World) (hn : n ≤ 1) :
    Calls Try.prog 72 #[.pointer (some ⟨s, 0, none⟩), .int .i64 n] w fun e w' => e = .returned (.int .i64 0) ∧ w = w' := by
  go_enter Try.func72, Try.ntmps72
  go_wp2_with fail
  go_ret
  exact ⟨rfl, rfl⟩

/-- What one call of l01Next leaves: k' and sd' are the new place and seed. -/
def NextAt (w : World) (s : Nat) (cv : Value) (k' sd' n : Int) (e : Ending) (w' : World) : Prop :=
  (∃ x : Int, e = .returned (.int .i64 x) ∧ 0 ≤ x ∧ x ≤ n - 1) ∧ SrcAt w' s cv k' sd' ∧ Only s w w'
theorem nextAt_mk {w : World} {s : Nat} {cv : Value} {k' sd' n : Int} {w' : World} {e : Ending} (y : Int) (hn : 1 < n) (hy : 0 ≤ y) (he : e = .returned (.int .i64 (y % n))) (h : SrcAt w' s cv k' sd') (ho : Only s w w') : NextAt w s cv k' sd' n e w' :=
  ⟨⟨y % n, he, Int.emod_nonneg _ (by omega), by have := Int.emod_lt_of_pos y (b := n) (by omega); omega⟩, h, ho⟩
theorem srcAt_set2 {w : World} {s : Nat} {cv : Value} {k sd : Int} (h : SrcAt w s cv k sd) (sd' : Int) : SrcAt (w.setCell ⟨s, 2, none⟩ (.int .i64 sd')) s cv k sd' := by
  obtain ⟨c0, c1, c2, f1, f2⟩ := h
  refine ⟨(World.cell?_setCell_other w _ _ _ (by simp)).trans c0, (World.cell?_setCell_other w _ _ _ (by simp)).trans c1, World.cell?_setCell_same w _ _ c2, ?_, ?_⟩ <;> simp [go_sem, f1, f2]
theorem srcAt_set1 {w : World} {s : Nat} {cv : Value} {k sd : Int} (h : SrcAt w s cv k sd) (k' : Int) : SrcAt (w.setCell ⟨s, 1, none⟩ (.int .i64 k')) s cv k' sd := by
  obtain ⟨c0, c1, c2, f1, f2⟩ := h
  refine ⟨(World.cell?_setCell_other w _ _ _ (by simp)).trans c0, World.cell?_setCell_same w _ _ c1, (World.cell?_setCell_other w _ _ _ (by simp)).trans c2, ?_, ?_⟩ <;> simp [go_sem, f1, f2]
theorem srcAt_drewN {w : World} {s : Nat} {cv : Value} {k sd : Int} (h : SrcAt w s cv k sd) (n : Nat) : SrcAt (w.drewN n) s cv k sd := h
theorem quot31 (sd : Int) (h : 0 ≤ sd) (h' : sd < 2147483647) : 0 ≤ sd / 31 ∧ sd / 31 ≤ 2147483646 := by omega

set_option maxHeartbeats 1000000 in
theorem next_end (s : Nat) (n k sd : Int) (a : Option Addr) (L c : Nat) (w : World) (hn : 1 < n) (hn' : n ≤ 4000000000000000000) (h : SrcAt w s (.slice a L c) k sd) (hk0 : 0 ≤ k) (hk : (L : Int) ≤ k) (hk' : k ≤ 4096) (hsd : 0 ≤ sd) (hsd' : sd ≤ 2147483646) :
    Calls Try.prog 72 #[.pointer (some ⟨s, 0, none⟩), .int .i64 n] w (NextAt w s (.slice a L c) k ((sd * 48271 + 29) % 2147483647) n) := by
  have H := Lib.hid h
  obtain ⟨c0, c1, c2, f1, f2⟩ := h
  have e1 : 0 ≤ (sd * 48271 + 29) % 2147483647 := Int.emod_nonneg _ (by omega)
  have e2 : (sd * 48271 + 29) % 2147483647 < 2147483647 := Int.emod_lt_of_pos _ (by omega)
  go_enter Try.func72, Try.ntmps72
  go_wp2_with fail
  go_quiet (fail)
  go_wp2_with fail
  go_ret
  exact nextAt_mk ((sd * 48271 + 29) % 2147483647 / 31) hn (quot31 _ e1 e2).1 rfl (srcAt_drewN (srcAt_set2 H.out _) _) (only_drewN (only_set (only_refl _ _) _ _) _)

set_option maxHeartbeats 1000000 in
theorem next_mid (s : Nat) (n : Int) (k : Nat) (sd z : Int) (b off L c : Nat) (w : World) (hn : 1 < n) (hn' : n ≤ 4000000000000000000) (h : SrcAt w s (.slice (some ⟨b, off, none⟩) L c) k sd) (hk : k < L) (hk' : k ≤ 4096) (hsd : 0 ≤ sd) (hsd' : sd ≤ 2147483646)
    (hne : b ≠ s) (hz : w.cell? ⟨b, off + k, none⟩ = some (.int .u8 z)) (hz0 : 0 ≤ z) (hz1 : z ≤ 255) :
    Calls Try.prog 72 #[.pointer (some ⟨s, 0, none⟩), .int .i64 n] w (NextAt w s (.slice (some ⟨b, off, none⟩) L c) (k + 1) ((sd * 48271 + 29) % 2147483647) n) := by
  have H := Lib.hid h
  obtain ⟨c0, c1, c2, f1, f2⟩ := h
  have e1 : 0 ≤ (sd * 48271 + 29) % 2147483647 := Int.emod_nonneg _ (by omega)
  have e2 : (sd * 48271 + 29) % 2147483647 < 2147483647 := Int.emod_lt_of_pos _ (by omega)
  obtain ⟨q1, q2⟩ := quot31 _ e1 e2
  have hkL : (k : Int) < L := by omega
  go_enter Try.func72, Try.ntmps72
  go_wp2_with fail
  go_quiet (fail)
  go_wp2_with fail
  go_quiet (fail)
  go_wp2_with fail
  all_goals (try (go_quiet (fail); go_wp2_with fail))
  all_goals
    go_ret
    refine nextAt_mk _ hn ?_ rfl ?_ ?_
    · first | omega | exact hz0
    · repeat (first | exact srcAt_set1 (srcAt_set2 H.out _) _ | apply srcAt_drewN)
    · repeat (first | exact only_refl _ _ | apply only_set | apply only_drewN)

/-- A draw of a number below n. -/
theorem next_any (s : Nat) (n : Int) (a : Option Addr) (L c : Nat) (zs : Nat → Int) (w : World) (hn : 1 < n) (hn' : n ≤ 4000000000000000000) (h : Src w s a L c zs) :
    Calls Try.prog 72 #[.pointer (some ⟨s, 0, none⟩), .int .i64 n] w (Drew 0 (n - 1) w s a L c zs) := by
  obtain ⟨⟨k, sd, h1, h2, h3, h4, h5⟩, hc, hL⟩ := h
  have e1 : 0 ≤ (sd * 48271 + 29) % 2147483647 := Int.emod_nonneg _ (by omega)
  have e2 : (sd * 48271 + 29) % 2147483647 < 2147483647 := Int.emod_lt_of_pos _ (by omega)
  by_cases hk : k < L
  · rcases hc with h0 | ⟨b, off, rfl, hne, hz⟩
    · omega
    · obtain ⟨k', rfl⟩ := Int.eq_ofNat_of_zero_le h2
      have hk' : k' < L := by omega
      obtain ⟨z0, z1, z2⟩ := hz k' hk'
      refine (next_mid s n k' sd (zs k') b off L c w hn hn' h1 hk' (by omega) h4 h5 hne z0 z1 z2).mono fun e w' hh => ?_
      obtain ⟨⟨x, he, x0, x1⟩, hs, ho⟩ := hh
      exact ⟨x, he, x0, x1, ⟨⟨_, _, hs, by omega, by omega, e1, by omega⟩, .inr ⟨b, off, rfl, hne, codeAt_only hz ho hne⟩, hL⟩, ho⟩
  · refine (next_end s n k sd a L c w hn hn' h1 h2 (by omega) (by omega) h4 h5).mono fun e w' hh => ?_
    obtain ⟨⟨x, he, x0, x1⟩, hs, ho⟩ := hh
    refine ⟨x, he, x0, x1, ⟨⟨_, _, hs, h2, h3, e1, by omega⟩, ?_, hL⟩, ho⟩
    rcases hc with h0 | ⟨b, off, e, hne, hz⟩
    · exact .inl h0
    · exact .inr ⟨b, off, e, hne, codeAt_only hz ho hne⟩

end Go.Proofs.Ytnllndcajdofjaa

/-! l01From: a source over a code. -/
namespace Go.Proofs.Ytnllndcajdofjaa
open Go.RowKit
set_option linter.unusedVariables false

/-- A code that came in. -/
def CodeIn (w : World) (a : Option Addr) (L : Nat) (zs : Nat → Int) : Prop := L = 0 ∨ ∃ b off : Nat, a = some ⟨b, off, none⟩ ∧ CodeAt w b off L zs
def FromTo (w : World) (a : Option Addr) (L c : Nat) (zs : Nat → Int) (e : Ending) (w' : World) : Prop :=
  e = .returned (.pointer (some ⟨w.heap.size, 0, none⟩)) ∧ Src w' w.heap.size a L c zs ∧ Below w.heap.size w w'
/-- The loop's state: the source is the call's own. -/
def Seeded (w : World) (cv : Value) (wr : World) : Prop := ∃ sd : Int, SrcAt wr w.heap.size cv 0 sd ∧ 0 ≤ sd ∧ sd ≤ 2147483646 ∧ Below w.heap.size w wr
theorem seeded_set {w wr : World} {cv : Value} (h : Seeded w cv wr) (x : Int) (h0 : 0 ≤ x) (h1 : x < 2147483647) (n : Nat) : Seeded w cv ((wr.drewN n).setCell ⟨w.heap.size, 2, none⟩ (.int .i64 x)) := by
  obtain ⟨sd, h2, _, _, hb⟩ := h
  exact ⟨x, srcAt_set2 (srcAt_drewN h2 n) x, h0, by omega, (bl_drewN hb n).setCell (Nat.le_refl _) _⟩

set_option maxHeartbeats 1000000 in
theorem from_none (a : Option Addr) (c : Nat) (zs : Nat → Int) (w : World) (L : Nat) (h0 : L ≤ 0) (hL : L ≤ 4096) :
    Calls Try.prog 66 #[.slice a L c] w (FromTo w a L c zs) := by
  skip
  obtain ⟨w0, rfl⟩ : ∃ w0 : World, w0 = w := ⟨w, rfl⟩
  go_enter Try.func66, Try.ntmps66
  go_wp2_with fail
  go_loopw [4] (fun i wr => ∃ k : Nat, k ≤ L ∧ i = .int .i64 k ∧ Hid (Seeded w0 (.slice a L c) wr)) (fun i _ => L - (intOf i).toNat)
  case atStart =>
    refine ⟨0, Nat.zero_le _, rfl, Lib.hid ⟨45007, ⟨?_, ?_, ?_, ?_, ?_⟩, by omega, by omega, bl_alloc (bl_refl _) _⟩⟩ <;> simp [go_sem]
  case round =>
    obtain ⟨k, hk, rfl, hs⟩ := hrel
    by_cases hkL : k < L
    · omega
    · go_wp2_with fail
      go_ret
      obtain ⟨sd, hsa, s1, s2, hb⟩ := hs.out
      exact ⟨rfl, ⟨⟨0, sd, hsa, by omega, by omega, s1, s2⟩, .inl (by omega), hL⟩, hb⟩

set_option maxHeartbeats 1000000 in
theorem from_some (b off c : Nat) (zs : Nat → Int) (w : World) (L : Nat) (hL : L ≤ 4096) (hc : CodeAt w b off L zs) (hne : b ≠ w.heap.size) :
    Calls Try.prog 66 #[.slice (some ⟨b, off, none⟩) L c] w (FromTo w (some ⟨b, off, none⟩) L c zs) := by
  have HC := Lib.hid hc
  clear hc
  obtain ⟨w0, rfl⟩ : ∃ w0 : World, w0 = w := ⟨w, rfl⟩
  go_enter Try.func66, Try.ntmps66
  go_wp2_with fail
  go_loopw [4] (fun i wr => ∃ k : Nat, k ≤ L ∧ i = .int .i64 k ∧ Hid (Seeded w0 (.slice (some ⟨b, off, none⟩) L c) wr)) (fun i _ => L - (intOf i).toNat)
  case atStart =>
    refine ⟨0, Nat.zero_le _, rfl, Lib.hid ⟨45007, ⟨?_, ?_, ?_, ?_, ?_⟩, by omega, by omega, bl_alloc (bl_refl _) _⟩⟩ <;> simp [go_sem]
  case round =>
    obtain ⟨k, hk, rfl, hs⟩ := hrel
    by_cases hkL : k < L
    · obtain ⟨sd, hsa, s1, s2, hb⟩ := hs.out
      obtain ⟨c0, c1, c2, f1, f2⟩ := hsa
      have hz : wr.cell? ⟨b, off + k, none⟩ = some (.int .u8 (zs k)) := (codeAt_below HC.out hb k hkL).1
      obtain ⟨z0, z1⟩ := (HC.out k hkL).2
      have e1 : 0 ≤ (sd * 61 + zs k) % 2147483647 := Int.emod_nonneg _ (by omega)
      have e2 : (sd * 61 + zs k) % 2147483647 < 2147483647 := Int.emod_lt_of_pos _ (by omega)
      have hkL' : (k : Int) < L := by omega
      clear hb
      by_cases h64 : k < 64
      · go_wp2_with fail
        go_region
        all_goals
          go_wp2_with fail
          go_roundw
          case rel => exact ⟨k + 1, by omega, by go_num, Lib.hid (seeded_set hs.out _ e1 e2 1)⟩
          case measure => simp [intOf]; omega
      · go_wp2_with fail
        go_ret
        obtain ⟨sd, hsa, s1, s2, hb⟩ := hs.out
        exact ⟨rfl, ⟨⟨0, sd, hsa, by omega, by omega, s1, s2⟩, .inr ⟨b, off, rfl, hne, codeAt_below HC.out hb⟩, hL⟩, hb⟩
    · go_wp2_with fail
      go_ret
      obtain ⟨sd, hsa, s1, s2, hb⟩ := hs.out
      exact ⟨rfl, ⟨⟨0, sd, hsa, by omega, by omega, s1, s2⟩, .inr ⟨b, off, rfl, hne, codeAt_below HC.out hb⟩, hL⟩, hb⟩

theorem from_any (a : Option Addr) (L c : Nat) (zs : Nat → Int) (w : World) (hL : L ≤ 4096) (hc : CodeIn w a L zs) :
    Calls Try.prog 66 #[.slice a L c] w (FromTo w a L c zs) := by
  by_cases h0 : L = 0
  · exact from_none a c zs w L (by omega) hL
  · rcases hc with h | ⟨b, off, rfl, h⟩
    · omega
    · have := codeAt_lt h (by omega)
      exact from_some b off c zs w L hL h (by omega)

end Go.Proofs.Ytnllndcajdofjaa

/-! l01Pick: what is drawn lies between bounds. -/
namespace Go.Proofs.Ytnllndcajdofjaa
open Go.RowKit
set_option linter.unusedVariables false

/-- A drawn index into a row of numbers. -/
def NextIdx (w : World) (s q N : Nat) (xs : Nat → Int) (a : Option Addr) (L c : Nat) (zs : Nat → Int) (e : Ending) (w' : World) : Prop :=
  ∃ i : Nat, e = .returned (.int .i64 i) ∧ i < N ∧ (i : Int) < N ∧ w'.cell? ⟨q, i, none⟩ = some (.int .i64 (xs i)) ∧ Src w' s a L c zs ∧ Only s w w'
theorem next_idx (s q N : Nat) (xs : Nat → Int) (a : Option Addr) (L c : Nat) (zs : Nat → Int) (w : World) (hN : 1 < N) (hN' : N ≤ 1000) (hq : ∀ i, i < N → w.cell? ⟨q, i, none⟩ = some (.int .i64 (xs i))) (hne : q ≠ s) (h : Src w s a L c zs) :
    Calls Try.prog 72 #[.pointer (some ⟨s, 0, none⟩), .int .i64 N] w (NextIdx w s q N xs a L c zs) := by
  refine (next_any s N a L c zs w (by omega) (by omega) h).mono fun e w1 hh => ?_
  obtain ⟨x, he, x0, x1, hs1, ho1⟩ := hh
  obtain ⟨i, rfl⟩ := Int.eq_ofNat_of_zero_le x0
  have hi' : i < N := by omega
  exact ⟨i, he, hi', by omega, (only_cell ho1 (World.block_lt_of_cell? w _ (hq i hi')) hne).trans (hq i hi'), hs1, ho1⟩

set_option maxHeartbeats 1000000 in
theorem pick_any (s q N : Nat) (xs : Nat → Int) (lo hi : Int) (a : Option Addr) (L c : Nat) (zs : Nat → Int) (w : World) (hN : 1 < N) (hN' : N ≤ 1000) (hq : ∀ i, i < N → w.cell? ⟨q, i, none⟩ = some (.int .i64 (xs i))) (hb : ∀ i, i < N → lo ≤ xs i ∧ xs i ≤ hi) (hne : q ≠ s) (h : Src w s a L c zs) :
    Calls Try.prog 74 #[.pointer (some ⟨s, 0, none⟩), .slice (some ⟨q, 0, none⟩) N N] w (Drew lo hi w s a L c zs) := by
  have K := Lib.hid (next_idx s q N xs a L c zs w hN hN' hq hne h)
  have HB := Lib.hid hb
  clear hb hq h
  go_enter Try.func74, Try.ntmps74
  go_wp2_with (go_at_call 72; refine K.out.mono ?_; rintro e w1 ⟨i, rfl, i0, i1, hc, hs1, ho1⟩)
  go_ret
  exact ⟨xs i, rfl, (HB.out i i0).1, (HB.out i i0).2, hs1, ho1⟩

/-- The numbers of a row that a call builds. -/
def rowOf (l : List Int) (i : Nat) : Int := l.getD i 0
theorem row_new (l : List Int) (t : TypeId) (w : World) (i : Nat) (hi : i < l.length) : (w.alloc (.cells (l.map (Value.int .i64)).toArray t)).cell? ⟨w.heap.size, i, none⟩ = some (.int .i64 (rowOf l i)) := by
  have e : (w.alloc (.cells (l.map (Value.int .i64)).toArray t)).heap[w.heap.size]? = some (.cells (l.map (Value.int .i64)).toArray t) := (MapKept.heap_alloc w _).1
  simp only [World.cell?, e]
  simp [rowOf, hi]
theorem src_alloc {w : World} {s : Nat} {a : Option Addr} {L c : Nat} {zs : Nat → Int} (h : Src w s a L c zs) (o : Obj) : Src (w.alloc o) s a L c zs := h.below (bl_alloc (bl_refl _) _)
theorem src_lt {w : World} {s : Nat} {a : Option Addr} {L c : Nat} {zs : Nat → Int} (h : Src w s a L c zs) : s < w.heap.size := by
  obtain ⟨k, sd, h1, _⟩ := h.at'
  exact srcAt_lt h1
theorem next_pos (s : Nat) (n : Int) (a : Option Addr) (L c : Nat) (zs : Nat → Int) (w : World) (hn : 1 ≤ n) (hn' : n ≤ 4000000000000000000) (h : Src w s a L c zs) :
    Calls Try.prog 72 #[.pointer (some ⟨s, 0, none⟩), .int .i64 n] w (Drew 0 (n - 1) w s a L c zs) := by
  by_cases h1 : n ≤ 1
  · exact (next_small s n w h1).mono fun _ _ ⟨he, hw⟩ => ⟨0, he, by omega, by omega, hw ▸ h, hw ▸ only_refl _ _⟩
  · exact next_any s n a L c zs w (by omega) hn' h

end Go.Proofs.Ytnllndcajdofjaa

/-! Rows of the call's own beside a source of drawn numbers. -/
namespace Go.Proofs.Ytnllndcajdofjaa
open Go.RowKit
set_option linter.unusedVariables false

theorem own_some {w : World} {lo : Nat} {A : Option Addr} {c : Nat} {xs : List Int} (h : Own w lo (.slice A xs.length c) xs) (h0 : 0 < xs.length) : ∃ g, A = some ⟨g, 0, none⟩ ∧ lo ≤ g ∧ g < w.heap.size ∧ xs.length ≤ c ∧ c ≤ maxLen := by
  rcases h.2 with ⟨_, hn⟩ | ⟨g, cap, cur, hv, hb, hg, hnc, hm, _⟩
  · omega
  · injection hv with hA _ hc
    subst hA hc
    exact ⟨g, rfl, hb, (Array.getElem?_eq_some_iff.1 hg).1, hnc, hm⟩
theorem own_only {w w' : World} {s lo : Nat} {v : Value} {xs : List Int} (h : Own w lo v xs) (ho : Only s w w') (hs : s < lo) : Own w' lo v xs :=
  Own.grown h ho (by
    rcases hv : v.ownBlock with _ | k
    · exact .inl rfl
    · right
      intro e
      have := World.ownsRow.lt h k hv
      have e' : k = s := by injection e
      omega)

theorem only_grown {s : Nat} {w w1 w2 : World} {row : Option Nat} (h : Only s w w1) (hg : w1.grownBy w2 row) (hr : ∀ j, row = some j → w.heap.size ≤ j) : Only s w w2 :=
  ⟨hg.os.trans h.os, hg.tape.trans h.tape, hg.output.trans h.output, Nat.le_trans h.size hg.size, fun k hk hne =>
    (hg.block k (Nat.lt_of_lt_of_le hk h.size) (fun e => by have := hr k e.symm; omega)).trans (h.block k hk hne)⟩
/-- The code lies below B. -/
def CodeB (B : Nat) (a : Option Addr) (L : Nat) : Prop := ∀ b off, a = some ⟨b, off, none⟩ → 0 < L → b < B
theorem codeB_of {w : World} {s : Nat} {a : Option Addr} {L c : Nat} {zs : Nat → Int} (h : Src w s a L c zs) : CodeB w.heap.size a L := by
  intro b off e h0
  rcases h.code with hz | ⟨b', off', e', _, hc⟩
  · omega
  · rw [e] at e'
    injection e' with e'
    injection e' with e1 _
    subst e1
    exact codeAt_lt hc h0
theorem src_grown {w1 w2 : World} {s B : Nat} {a : Option Addr} {L c : Nat} {zs : Nat → Int} {row : Option Nat} (h : Src w1 s a L c zs) (hg : w1.grownBy w2 row) (hr : ∀ j, row = some j → B ≤ j) (hs : s < B) (hB : CodeB B a L) : Src w2 s a L c zs := by
  obtain ⟨⟨k, sd, ⟨c0, c1, c2, f1, f2⟩, h2⟩, hc, hL⟩ := h
  have hsl : s < w1.heap.size := World.block_lt_of_cell? w1 _ c0
  have hne : some s ≠ row := fun e => by have := hr s e.symm; omega
  have hb := hg.block s hsl hne
  refine ⟨⟨k, sd, ⟨(World.cell?_of_block (a := ⟨s, 0, none⟩) hb).trans c0, (World.cell?_of_block (a := ⟨s, 1, none⟩) hb).trans c1, (World.cell?_of_block (a := ⟨s, 2, none⟩) hb).trans c2, (World.frozen?_of_block (a := ⟨s, 1, none⟩) hb).trans f1, (World.frozen?_of_block (a := ⟨s, 2, none⟩) hb).trans f2⟩, h2⟩, ?_, hL⟩
  rcases hc with hz | ⟨b, off, e, hbs, hcode⟩
  · exact .inl hz
  · refine .inr ⟨b, off, e, hbs, fun i hi => ?_⟩
    have hb2 := hB b off e (by omega)
    have hbl : b < w1.heap.size := codeAt_lt hcode (by omega)
    exact ⟨(World.cell?_of_block (a := ⟨b, off + i, none⟩) (hg.block b hbl (fun e => by have := hr b e.symm; omega))).trans (hcode i hi).1, (hcode i hi).2⟩

end Go.Proofs.Ytnllndcajdofjaa

/-! A code as a law's argument, and the laws' test of its length. -/
namespace Go.Proofs.Ytnllndcajdofjaa
open Go.ChangeShapes Go.WideShapes Go.ChangeAt Go.RowKit Go.Joins
set_option linter.unusedVariables false

set_option maxHeartbeats 400000 in
theorem big_yes (a : Option Addr) (L c : Nat) (w : World) (h : 4096 < L) (hm : (L : Int) ≤ 9223372036854775807) :
    Calls Try.prog 11 #[.slice a L c] w fun e w' => e = .returned (.bool true) ∧ w = w' := by
  have h' : (4096 : Int) < L := by omega
  go_enter Try.func11, Try.ntmps11
  go_wp2
  go_ret
  exact ⟨rfl, rfl⟩
set_option maxHeartbeats 400000 in
theorem big_no (a : Option Addr) (L c : Nat) (w : World) (h : L ≤ 4096) :
    Calls Try.prog 11 #[.slice a L c] w fun e w' => e = .returned (.bool false) ∧ w = w' := by
  have h' : (L : Int) ≤ 4096 := by omega
  go_enter Try.func11, Try.ntmps11
  go_wp2
  go_ret
  exact ⟨ret_bool (decide_eq_false (by omega)), rfl⟩

set_option maxRecDepth 100000 in
/-- A code as a law's argument: its value, and its bytes in memory. -/
theorem open_code {H : Type} {enc : TypeId × Value → H} {W : World} {base : Nat} {v : Value} {d : DataW H} {p : List MemPlace}
    (hv : Value.okWide Try.prog W .any base 22 v) (h : DataW.Trod enc Try.prog W 0 (fun _ => true) true 22 v d p) :
    ∃ (a : Option Addr) (L c : Nat) (zs : Nat → Int), v = .slice a L c ∧ L ≤ maxLen ∧ CodeIn W a L zs := by
  obtain ⟨a0, len, cap, rfl⟩ := okWide_slice Try.underlying22 hv
  obtain ⟨fuel, hf⟩ := h
  rcases open_ints Try.underlying22 Try.underlying5 (by kernel_rfl) hf with ⟨hcs, hx⟩ | ⟨a, len', cap', zs, hcs, _, hl, hm, hz, hx, hcell, hwz⟩
  · simp [Value.cells] at hcs
    obtain ⟨rfl, rfl, rfl⟩ := hcs
    exact ⟨none, 0, 0, fun _ => 0, rfl, by unfold maxLen; omega, .inl rfl⟩
  · simp [Value.cells] at hcs
    obtain ⟨rfl, rfl, rfl⟩ := hcs
    refine ⟨some a, len, cap, fun i => zs.getD i 0, rfl, by omega, ?_⟩
    by_cases h0 : len = 0
    · exact .inl h0
    · right
      have hlen : len ≤ zs.length := by rw [hz]; simp; exact hl
      obtain ⟨b, off, rfl, hc⟩ := ints_at hcell (by omega)
      refine ⟨b, off, rfl, fun i hi => ⟨hc i (by omega), ?_⟩⟩
      have hw := hwz (zs.getD i 0) (by rw [List.getD_eq_getElem?_getD, List.getElem?_eq_getElem (by omega)]; simp)
      have := bounds_u8 hw
      omega

theorem codeIn_below {w w' : World} {a : Option Addr} {L : Nat} {zs : Nat → Int} (h : CodeIn w a L zs) (hb : Below w.heap.size w w') : CodeIn w' a L zs := by
  rcases h with h | ⟨b, off, e, h⟩
  · exact .inl h
  · exact .inr ⟨b, off, e, codeAt_below h hb⟩

end Go.Proofs.Ytnllndcajdofjaa

/-! l02Deal: cards drawn from those that are left: some list of at most 52 numbers. -/
namespace Go.Proofs.Ytnllndcajdofjaa
open Go.RowKit
set_option linter.unusedVariables false

end Go.Proofs.Ytnllndcajdofjaa

/-! l02Deal: different cards that are not in a list. -/
namespace Go.Proofs.Ytnllndcajdofjaa
open Go.RowKit
set_option linter.unusedVariables false

end Go.Proofs.Ytnllndcajdofjaa

/-! l02Pick: a list in another order. -/
namespace Go.Proofs.Ytnllndcajdofjaa
open Go.RowKit
set_option linter.unusedVariables false

end Go.Proofs.Ytnllndcajdofjaa
