/-
  The source of drawn numbers: l01Next: its walk, over any state of the source. What it draws is a number from 0 to n - 1; it writes into the source alone.
-/
import Derived.Test.YtcbfmfkahgfjkaaDoorFrame
import Derived.BigQuiet
import Derived.Lib.Hide
import Derived.Maps.AppendAt
import Derived.Deep.AppendLies
namespace Go.Proofs.YtcbfmfkahgfjkaaDoor
open Go.RowKit
set_option linter.unusedVariables false

/-- The cells of a source: the code, the place in it, the seed. -/
def SrcAt (w : World) (s : Nat) (cv : Value) (k sd : Int) : Prop :=
  w.cell? ⟨s, 0, none⟩ = some cv ∧ w.cell? ⟨s, 1, none⟩ = some (.int .i64 k) ∧ w.cell? ⟨s, 2, none⟩ = some (.int .i64 sd) ∧ w.frozen? ⟨s, 1, none⟩ = false ∧ w.frozen? ⟨s, 2, none⟩ = false
/-- The cells of a code. -/
def CodeAt (w : World) (b off L : Nat) (zs : Nat → Int) : Prop := ∀ i, i < L → w.cell? ⟨b, off + i, none⟩ = some (.int .u8 (zs i)) ∧ 0 ≤ zs i ∧ zs i ≤ 255
/-- Only block s has been written, and blocks that are new. -/
def Only (s : Nat) (w w' : World) : Prop := w.grownBy w' (some s)
theorem only_refl (s : Nat) (w : World) : Only s w w := ⟨rfl, rfl, rfl, Nat.le_refl _, fun _ _ _ => rfl⟩
theorem only_trans {s : Nat} {a b c : World} (h : Only s a b) (k : Only s b c) : Only s a c := World.grownBy.trans h k
theorem only_drewN {s : Nat} {a w : World} (h : Only s a w) (n : Nat) : Only s a (w.drewN n) := ⟨h.os, h.tape, h.output, h.size, h.block⟩
theorem only_drew {s : Nat} {a w : World} (h : Only s a w) : Only s a w.drew := ⟨h.os, h.tape, h.output, h.size, h.block⟩
theorem only_below {s : Nat} {a w : World} (h : Below a.heap.size a w) : Only s a w := ⟨h.os, h.tape, h.output, h.size, fun i hi _ => h.block i hi⟩
theorem only_alloc {s : Nat} {a w : World} (h : Only s a w) (o : Obj) : Only s a (w.alloc o) := only_trans h (only_below (bl_alloc (bl_refl _) _))
theorem only_set {s : Nat} {a w : World} (h : Only s a w) (o : Nat) (u : Value) : Only s a (w.setCell ⟨s, o, none⟩ u) :=
  ⟨h.os, h.tape, h.output, by simpa [World.setCell] using h.size, fun i hi hne => (Below.heap_setCell w ⟨s, o, none⟩ u i (by
    intro e; exact hne (by rw [e]))).trans (h.block i hi hne)⟩
theorem only_cell {s : Nat} {w w' : World} (h : Only s w w') {b o : Nat} (hb : b < w.heap.size) (hne : b ≠ s) : w'.cell? ⟨b, o, none⟩ = w.cell? ⟨b, o, none⟩ :=
  World.cell?_of_block (w := w) (h.block b hb (fun e => hne (by injection e)))
theorem only_frozen {s : Nat} {w w' : World} (h : Only s w w') {b o : Nat} (hb : b < w.heap.size) (hne : b ≠ s) : w'.frozen? ⟨b, o, none⟩ = w.frozen? ⟨b, o, none⟩ :=
  World.frozen?_of_block (w := w) (h.block b hb (fun e => hne (by injection e)))
/-- What a source that was made by the call writes counts for nothing. -/
theorem below_only {B s : Nat} {w w' : World} (hs : B ≤ s) (hB : B ≤ w.heap.size) (h : Only s w w') : Below B w w' :=
  ⟨h.os, h.tape, h.output, h.size, fun k hk => h.block k (by omega) (fun e => by injection e; omega)⟩
theorem srcAt_lt {w : World} {s : Nat} {cv : Value} {k sd : Int} (h : SrcAt w s cv k sd) : s < w.heap.size := World.block_lt_of_cell? w _ h.1
theorem srcAt_below {w w' : World} {s : Nat} {cv : Value} {k sd : Int} (h : SrcAt w s cv k sd) (hb : Below w.heap.size w w') : SrcAt w' s cv k sd := by
  have hs := srcAt_lt h
  exact ⟨(hb.cell (p := ⟨s, 0, none⟩) hs).trans h.1, (hb.cell (p := ⟨s, 1, none⟩) hs).trans h.2.1, (hb.cell (p := ⟨s, 2, none⟩) hs).trans h.2.2.1, (hb.frozen (p := ⟨s, 1, none⟩) hs).trans h.2.2.2.1, (hb.frozen (p := ⟨s, 2, none⟩) hs).trans h.2.2.2.2⟩
theorem codeAt_lt {w : World} {b off L : Nat} {zs : Nat → Int} (h : CodeAt w b off L zs) (hL : 0 < L) : b < w.heap.size := World.block_lt_of_cell? w _ (h 0 hL).1
theorem codeAt_only {w w' : World} {b off L s : Nat} {zs : Nat → Int} (h : CodeAt w b off L zs) (ho : Only s w w') (hne : b ≠ s) : CodeAt w' b off L zs :=
  fun i hi => ⟨(only_cell ho (World.block_lt_of_cell? w _ (h i hi).1) hne).trans (h i hi).1, (h i hi).2⟩
theorem codeAt_below {w w' : World} {b off L : Nat} {zs : Nat → Int} (h : CodeAt w b off L zs) (hb : Below w.heap.size w w') : CodeAt w' b off L zs :=
  fun i hi => ⟨(hb.cell (p := ⟨b, off + i, none⟩) (World.block_lt_of_cell? w _ (h i hi).1)).trans (h i hi).1, (h i hi).2⟩

/-- The state of a source over a code of L bytes: 'a' is the code's address, nil where there is none. -/
structure Src (w : World) (s : Nat) (a : Option Addr) (L c : Nat) (zs : Nat → Int) : Prop where
  at' : ∃ k sd : Int, SrcAt w s (.slice a L c) k sd ∧ 0 ≤ k ∧ k ≤ L ∧ 0 ≤ sd ∧ sd ≤ 2147483646
  code : L = 0 ∨ ∃ b off : Nat, a = some ⟨b, off, none⟩ ∧ b ≠ s ∧ CodeAt w b off L zs
  len : L ≤ 4096
theorem Src.below {w w' : World} {s : Nat} {a : Option Addr} {L c : Nat} {zs : Nat → Int} (h : Src w s a L c zs) (hb : Below w.heap.size w w') : Src w' s a L c zs := by
  obtain ⟨k, sd, h1, h2⟩ := h.at'
  refine ⟨⟨k, sd, srcAt_below h1 hb, h2⟩, ?_, h.len⟩
  rcases h.code with h0 | ⟨b, off, e, hne, hc⟩
  · exact .inl h0
  · exact .inr ⟨b, off, e, hne, codeAt_below hc hb⟩

/-- What a draw leaves: a number, the source, and nothing else written. -/
def Drew (lo hi : Int) (w : World) (s : Nat) (a : Option Addr) (L c : Nat) (zs : Nat → Int) (e : Ending) (w' : World) : Prop :=
  ∃ x : Int, e = .returned (.int .i64 x) ∧ lo ≤ x ∧ x ≤ hi ∧ Src w' s a L c zs ∧ Only s w w'

set_option maxHeartbeats 1000000 in
theorem next_small (s : Nat) (n : Int) (w : World) (hn : n ≤ 1) :
    Calls Tryd.prog 66 #[.pointer (some ⟨s, 0, none⟩), .int .i64 n] w fun e w' => e = .returned (.int .i64 0) ∧ w = w' := by
  go_enter Tryd.func66, Tryd.ntmps66
  go_wp2_with fail
  go_ret
  exact ⟨rfl, rfl⟩

/-- What one call of l01Next leaves: k' and sd' are the new place and seed. -/
def NextAt (w : World) (s : Nat) (cv : Value) (k' sd' n : Int) (e : Ending) (w' : World) : Prop :=
  (∃ x : Int, e = .returned (.int .i64 x) ∧ 0 ≤ x ∧ x ≤ n - 1) ∧ SrcAt w' s cv k' sd' ∧ Only s w w'
theorem nextAt_mk {w : World} {s : Nat} {cv : Value} {k' sd' n : Int} {w' : World} {e : Ending} (y : Int) (hn : 1 < n) (hy : 0 ≤ y) (he : e = .returned (.int .i64 (y % n))) (h : SrcAt w' s cv k' sd') (ho : Only s w w') : NextAt w s cv k' sd' n e w' :=
  ⟨⟨y % n, he, Int.emod_nonneg _ (by omega), by have := Int.emod_lt_of_pos y (b := n) (by omega); omega⟩, h, ho⟩
theorem srcAt_set2 {w : World} {s : Nat} {cv : Value} {k sd : Int} (h : SrcAt w s cv k sd) (sd' : Int) : SrcAt (w.setCell ⟨s, 2, none⟩ (.int .i64 sd')) s cv k sd' := by
  obtain ⟨c0, c1, c2, f1, f2⟩ := h
  refine ⟨(World.cell?_setCell_other w _ _ _ (by simp)).trans c0, (World.cell?_setCell_other w _ _ _ (by simp)).trans c1, World.cell?_setCell_same w _ _ c2, ?_, ?_⟩ <;> simp [go_sem, f1, f2]
theorem srcAt_set1 {w : World} {s : Nat} {cv : Value} {k sd : Int} (h : SrcAt w s cv k sd) (k' : Int) : SrcAt (w.setCell ⟨s, 1, none⟩ (.int .i64 k')) s cv k' sd := by
  obtain ⟨c0, c1, c2, f1, f2⟩ := h
  refine ⟨(World.cell?_setCell_other w _ _ _ (by simp)).trans c0, World.cell?_setCell_same w _ _ c1, (World.cell?_setCell_other w _ _ _ (by simp)).trans c2, ?_, ?_⟩ <;> simp [go_sem, f1, f2]
theorem srcAt_drewN {w : World} {s : Nat} {cv : Value} {k sd : Int} (h : SrcAt w s cv k sd) (n : Nat) : SrcAt (w.drewN n) s cv k sd := h
theorem quot31 (sd : Int) (h : 0 ≤ sd) (h' : sd < 2147483647) : 0 ≤ sd / 31 ∧ sd / 31 ≤ 2147483646 := by omega

set_option maxHeartbeats 1000000 in
theorem next_end (s : Nat) (n k sd : Int) (a : Option Addr) (L c : Nat) (w : World) (hn : 1 < n) (hn' : n ≤ 4000000000000000000) (h : SrcAt w s (.slice a L c) k sd) (hk0 : 0 ≤ k) (hk : (L : Int) ≤ k) (hk' : k ≤ 4096) (hsd : 0 ≤ sd) (hsd' : sd ≤ 2147483646) :
    Calls Tryd.prog 66 #[.pointer (some ⟨s, 0, none⟩), .int .i64 n] w (NextAt w s (.slice a L c) k ((sd * 48271 + 29) % 2147483647) n) := by
  have H := Lib.hid h
  obtain ⟨c0, c1, c2, f1, f2⟩ := h
  have e1 : 0 ≤ (sd * 48271 + 29) % 2147483647 := Int.emod_nonneg _ (by omega)
  have e2 : (sd * 48271 + 29) % 2147483647 < 2147483647 := Int.emod_lt_of_pos _ (by omega)
  go_enter Tryd.func66, Tryd.ntmps66
  go_wp2_with fail
  go_quiet (fail)
  go_wp2_with fail
  go_ret
  exact nextAt_mk ((sd * 48271 + 29) % 2147483647 / 31) hn (quot31 _ e1 e2).1 rfl (srcAt_drewN (srcAt_set2 H.out _) _) (only_drewN (only_set (only_refl _ _) _ _) _)

set_option maxHeartbeats 1000000 in
theorem next_mid (s : Nat) (n : Int) (k : Nat) (sd z : Int) (b off L c : Nat) (w : World) (hn : 1 < n) (hn' : n ≤ 4000000000000000000) (h : SrcAt w s (.slice (some ⟨b, off, none⟩) L c) k sd) (hk : k < L) (hk' : k ≤ 4096) (hsd : 0 ≤ sd) (hsd' : sd ≤ 2147483646)
    (hne : b ≠ s) (hz : w.cell? ⟨b, off + k, none⟩ = some (.int .u8 z)) (hz0 : 0 ≤ z) (hz1 : z ≤ 255) :
    Calls Tryd.prog 66 #[.pointer (some ⟨s, 0, none⟩), .int .i64 n] w (NextAt w s (.slice (some ⟨b, off, none⟩) L c) (k + 1) ((sd * 48271 + 29) % 2147483647) n) := by
  have H := Lib.hid h
  obtain ⟨c0, c1, c2, f1, f2⟩ := h
  have e1 : 0 ≤ (sd * 48271 + 29) % 2147483647 := Int.emod_nonneg _ (by omega)
  have e2 : (sd * 48271 + 29) % 2147483647 < 2147483647 := Int.emod_lt_of_pos _ (by omega)
  obtain ⟨q1, q2⟩ := quot31 _ e1 e2
  have hkL : (k : Int) < L := by omega
  go_enter Tryd.func66, Tryd.ntmps66
  go_wp2_with fail
  go_quiet (fail)
  go_wp2_with fail
  go_quiet (fail)
  go_wp2_with fail
  all_goals (try (go_quiet (fail); go_wp2_with fail))
  all_goals
    go_ret
    refine nextAt_mk _ hn ?_ rfl ?_ ?_
    · first | omega | exact hz0
    · repeat (first | exact srcAt_set1 (srcAt_set2 H.out _) _ | apply srcAt_drewN)
    · repeat (first | exact only_refl _ _ | apply only_set | apply only_drewN)

/-- A draw of a number below n. -/
theorem next_any (s : Nat) (n : Int) (a : Option Addr) (L c : Nat) (zs : Nat → Int) (w : World) (hn : 1 < n) (hn' : n ≤ 4000000000000000000) (h : Src w s a L c zs) :
    Calls Tryd.prog 66 #[.pointer (some ⟨s, 0, none⟩), .int .i64 n] w (Drew 0 (n - 1) w s a L c zs) := by
  obtain ⟨⟨k, sd, h1, h2, h3, h4, h5⟩, hc, hL⟩ := h
  have e1 : 0 ≤ (sd * 48271 + 29) % 2147483647 := Int.emod_nonneg _ (by omega)
  have e2 : (sd * 48271 + 29) % 2147483647 < 2147483647 := Int.emod_lt_of_pos _ (by omega)
  by_cases hk : k < L
  · rcases hc with h0 | ⟨b, off, rfl, hne, hz⟩
    · omega
    · obtain ⟨k', rfl⟩ := Int.eq_ofNat_of_zero_le h2
      have hk' : k' < L := by omega
      obtain ⟨z0, z1, z2⟩ := hz k' hk'
      refine (next_mid s n k' sd (zs k') b off L c w hn hn' h1 hk' (by omega) h4 h5 hne z0 z1 z2).mono fun e w' hh => ?_
      obtain ⟨⟨x, he, x0, x1⟩, hs, ho⟩ := hh
      exact ⟨x, he, x0, x1, ⟨⟨_, _, hs, by omega, by omega, e1, by omega⟩, .inr ⟨b, off, rfl, hne, codeAt_only hz ho hne⟩, hL⟩, ho⟩
  · refine (next_end s n k sd a L c w hn hn' h1 h2 (by omega) (by omega) h4 h5).mono fun e w' hh => ?_
    obtain ⟨⟨x, he, x0, x1⟩, hs, ho⟩ := hh
    refine ⟨x, he, x0, x1, ⟨⟨_, _, hs, h2, h3, e1, by omega⟩, ?_, hL⟩, ho⟩
    rcases hc with h0 | ⟨b, off, e, hne, hz⟩
    · exact .inl h0
    · exact .inr ⟨b, off, e, hne, codeAt_only hz ho hne⟩

end Go.Proofs.YtcbfmfkahgfjkaaDoor
