/-
  l01DrawRatio, DrawAddRatios and its like: two drawn ratios.
-/
import Derived.Test.YtohhjcnkbifdbaaDoorDrawPart
import Derived.Test.YtohhjcnkbifdbaaDoorDrawFrom
import Derived.Test.YtohhjcnkbifdbaaDoorMake
namespace Go.Proofs.YtohhjcnkbifdbaaDoor
open Go.RowKit
set_option linter.unusedVariables false

theorem rat_bd (n d : Int) (h : 0 < d) : -1000000001 ≤ (rat n d).1 ∧ (rat n d).1 ≤ 1000000001 ∧ -1000000001 ≤ (rat n d).2.1 ∧ (rat n d).2.1 ≤ 1000000001 := by
  rcases hok : ratOk n d with _ | _
  · rw [rat_no n d hok]; simp
  · rw [rat_yes n d hok]
    unfold ratOk isR at hok
    simp only [decide_eq_true_eq] at hok
    simp only
    omega
theorem mkR_bd (n d : Int) : -1000000001 ≤ (mkR n d).1 ∧ (mkR n d).1 ≤ 1000000001 ∧ -1000000001 ≤ (mkR n d).2.1 ∧ (mkR n d).2.1 ≤ 1000000001 := by
  rcases in_or_out n (-1000000000) 1000000000 with ⟨h1, h2⟩ | h
  · rcases in_or_out d 1 1000000000 with ⟨h3, h4⟩ | h
    · rw [← mkR_yes n d h1 h2 h3 h4]; exact rat_bd n d (by omega)
    · rw [mkR_den n d h]; simp
  · rw [mkR_num n d h]; simp

/-- The cells of a ratio that a call has made for its result. -/
def RAt (w : World) (r : Nat) : Prop := w.cell? ⟨r, 0, none⟩ = some (.int .i64 0) ∧ w.cell? ⟨r, 1, none⟩ = some (.int .i64 0) ∧ w.frozen? ⟨r, 0, none⟩ = false ∧ w.frozen? ⟨r, 1, none⟩ = false
theorem rAt_only {w w' : World} {r s : Nat} (h : RAt w r) (ho : Only s w w') (hne : r ≠ s) : RAt w' r := by
  have hr := World.block_lt_of_cell? w _ h.1
  exact ⟨(only_cell ho hr hne).trans h.1, (only_cell ho hr hne).trans h.2.1, (only_frozen ho hr hne).trans h.2.2.1, (only_frozen ho hr hne).trans h.2.2.2⟩
theorem rAt_below {w w' : World} {r : Nat} (h : RAt w r) (hb : Below w.heap.size w w') : RAt w' r := by
  have hr := World.block_lt_of_cell? w _ h.1
  exact ⟨(hb.cell (p := ⟨r, 0, none⟩) hr).trans h.1, (hb.cell (p := ⟨r, 1, none⟩) hr).trans h.2.1, (hb.frozen (p := ⟨r, 0, none⟩) hr).trans h.2.2.1, (hb.frozen (p := ⟨r, 1, none⟩) hr).trans h.2.2.2⟩
theorem rAt_alloc {w : World} {r : Nat} (h : RAt w r) (o : Obj) : RAt (w.alloc o) r := rAt_below h (bl_alloc (bl_refl _) _)
theorem rAt_new (w : World) (t : TypeId) : RAt (w.alloc (.cells #[.int .i64 0, .int .i64 0] t)) w.heap.size := by
  refine ⟨?_, ?_, ?_, ?_⟩ <;> simp [go_sem]

theorem lt_alloc (w : World) (o : Obj) : w.heap.size < (w.alloc o).heap.size := by simp
/-- A draw, and the result's cells. -/
def DrewK (r : Nat) (lo hi : Int) (w : World) (s : Nat) (a : Option Addr) (L c : Nat) (zs : Nat → Int) (e : Ending) (w' : World) : Prop :=
  ∃ x : Int, e = .returned (.int .i64 x) ∧ lo ≤ x ∧ x ≤ hi ∧ Src w' s a L c zs ∧ Only s w w' ∧ RAt w' r
theorem drewK {P : Program} {f : FuncId} {args : Array Value} {r : Nat} {lo hi : Int} {w : World} {s : Nat} {a : Option Addr} {L c : Nat} {zs : Nat → Int} (hr : RAt w r) (hne : r ≠ s)
    (h : Calls P f args w (Drew lo hi w s a L c zs)) : Calls P f args w (DrewK r lo hi w s a L c zs) :=
  h.mono fun _ _ ⟨x, he, x0, x1, hs, ho⟩ => ⟨x, he, x0, x1, hs, ho, rAt_only hr ho hne⟩
def FreshK (r : Nat) (v : Value) (w : World) (s : Nat) (a : Option Addr) (L c : Nat) (zs : Nat → Int) (e : Ending) (w' : World) : Prop :=
  e = .returned v ∧ Src w' s a L c zs ∧ Only s w w' ∧ RAt w' r ∧ w.heap.size ≤ w'.heap.size
theorem freshK {P : Program} {f : FuncId} {args : Array Value} {r : Nat} {v : Value} {w : World} {s : Nat} {a : Option Addr} {L c : Nat} {zs : Nat → Int} (hr : RAt w r) (hs : Src w s a L c zs)
    (h : Calls P f args w (Fresh v w)) : Calls P f args w (FreshK r v w s a L c zs) :=
  h.mono fun _ _ ⟨he, hb⟩ => ⟨he, hs.below hb, only_below hb, rAt_below hr hb, hb.size⟩

/-- Two numbers of a ratio, drawn. -/
def DrewR (w : World) (s : Nat) (a : Option Addr) (L c : Nat) (zs : Nat → Int) (e : Ending) (w' : World) : Prop :=
  ∃ n d : Int, e = .returned (.agg #[.int .i64 n, .int .i64 d]) ∧ -1000000001 ≤ n ∧ n ≤ 1000000001 ∧ -1000000001 ≤ d ∧ d ≤ 1000000001 ∧ Src w' s a L c zs ∧ Only s w w' ∧ w.heap.size ≤ w'.heap.size

theorem src_setR {w W : World} {s : Nat} {a : Option Addr} {L c : Nat} {zs : Nat → Int} (h : Src w s a L c zs) (H : Src W s a L c zs) (o : Nat) (u : Value) : Src (W.setCell ⟨w.heap.size, o, none⟩ u) s a L c zs := by
  have hs := src_lt h
  have hb : ∀ k, k ≠ w.heap.size → (W.setCell ⟨w.heap.size, o, none⟩ u).heap[k]? = W.heap[k]? := fun k hk => Below.heap_setCell W ⟨w.heap.size, o, none⟩ u k hk
  have cell : ∀ b o', b ≠ w.heap.size → (W.setCell ⟨w.heap.size, o, none⟩ u).cell? ⟨b, o', none⟩ = W.cell? ⟨b, o', none⟩ := fun b o' hk => World.cell?_of_block (w := W) (a := ⟨b, o', none⟩) (hb b hk)
  have froz : ∀ b o', b ≠ w.heap.size → (W.setCell ⟨w.heap.size, o, none⟩ u).frozen? ⟨b, o', none⟩ = W.frozen? ⟨b, o', none⟩ := fun b o' hk => World.frozen?_of_block (w := W) (a := ⟨b, o', none⟩) (hb b hk)
  obtain ⟨⟨k, sd, ⟨c0, c1, c2, f1, f2⟩, h2⟩, hc, hL⟩ := H
  have hs' : s ≠ w.heap.size := Nat.ne_of_lt hs
  refine ⟨⟨k, sd, ⟨(cell s 0 hs').trans c0, (cell s 1 hs').trans c1, (cell s 2 hs').trans c2, (froz s 1 hs').trans f1, (froz s 2 hs').trans f2⟩, h2⟩, ?_, hL⟩
  rcases hc with h0 | ⟨b, off, e, hne, hz⟩
  · exact .inl h0
  · by_cases h0 : L = 0
    · exact .inl h0
    · rcases h.code with h1 | ⟨b', off', e', _, hz'⟩
      · exact .inl h1
      · rw [e] at e'
        obtain ⟨rfl, rfl⟩ : b = b' ∧ off = off' := by
          injection e' with e1
          injection e1 with e2 e3
          exact ⟨e2, e3⟩
        have hlt := codeAt_lt hz' (by omega)
        exact .inr ⟨b, off, e, hne, fun i hi => ⟨(cell b (off + i) (Nat.ne_of_lt hlt)).trans (hz i hi).1, (hz i hi).2⟩⟩
theorem only_new {s r : Nat} {a w : World} (h : Only s a w) (hr : a.heap.size ≤ r) (o : Nat) (u : Value) : Only s a (w.setCell ⟨r, o, none⟩ u) :=
  ⟨h.os, h.tape, h.output, by simpa [World.setCell] using h.size, fun i hi hne => (Below.heap_setCell w ⟨r, o, none⟩ u i (by
    intro e; have : i = r := e; omega)).trans (h.block i hi hne)⟩

set_option maxHeartbeats 2000000 in
theorem drawRatio_any (s : Nat) (a : Option Addr) (L c : Nat) (zs : Nat → Int) (w : World) (h : Src w s a L c zs) :
    Calls Tryd.prog 22 #[.pointer (some ⟨s, 0, none⟩)] w (DrewR w s a L c zs) := by
  have hne : w.heap.size ≠ s := by have := src_lt h; omega
  have h0 := src_alloc h (.cells #[.int .i64 0, .int .i64 0] 25)
  have r0 := rAt_new w 25
  go_enter Tryd.func22, Tryd.ntmps22
  go_wp2_with (go_at_call 32; refine (drewK r0 hne (part_any _ _ _ _ _ _ h0)).mono ?_; rintro e w1 ⟨x, rfl, x0, x1, hs1, ho1, r1⟩)
  go_wp2_with (go_at_call 27; refine (drewK r1 hne (next_any _ _ _ _ _ _ _ (by omega) (by omega) hs1)).mono ?_; rintro e w2 ⟨y, rfl, y0, y1, hs2, ho2, r2⟩)
  all_goals
    go_wp2_with (go_at_call 32; refine (drewK r2 hne (part_any _ _ _ _ _ _ hs2)).mono ?_; rintro e w3 ⟨z, rfl, z0, z1, hs3, ho3, r3⟩)
    go_wp2_with (go_at_call 14; refine (freshK r3 hs3 (specMk_any _ _ _)).mono ?_; rintro e w4 ⟨rfl, hs4, ho4, r4, z4⟩; have hs5 := src_alloc hs4; have r5 := rAt_alloc r4; have u0 := fun o => (rAt_alloc r4 o).1; have u1 := fun o => (rAt_alloc r4 o).2.1; have u2 := fun o => (rAt_alloc r4 o).2.2.1; have u3 := fun o => (rAt_alloc r4 o).2.2.2; have ne4 : w4.heap.size ≠ s := Nat.ne_of_gt (src_lt hs4))
    go_wp2_with (go_at_call 27; refine (drewK (r5 _) hne (next_any _ _ _ _ _ _ _ (by omega) (by omega) (hs5 _))).mono ?_; rintro e w5 ⟨y', rfl, y0', y1', hs6, ho5, r6⟩; obtain ⟨q0, q1, q2, q3⟩ := r6; have t0 := only_cell (b := w4.heap.size) (o := 0) ho5 (lt_alloc _ _) ne4; have t1 := only_cell (b := w4.heap.size) (o := 1) ho5 (lt_alloc _ _) ne4)
  · exact bodyPost_ret (v := .agg #[.int .i64 (-x), .int .i64 z]) (by simp [results, Tryd.results22, go_sem, q0, q1]) rfl ⟨(-x), z, rfl, by omega, by omega, by omega, by omega, src_setR h (src_setR h hs6 _ _) _ _, only_new (only_new (only_trans (only_alloc (only_trans (only_trans (only_trans (only_trans (only_alloc (only_refl _ _) _) ho1) ho2) ho3) ho4) _) ho5) (Nat.le_refl _) _ _) (Nat.le_refl _) _ _, (only_new (only_new (only_trans (only_alloc (only_trans (only_trans (only_trans (only_trans (only_alloc (only_refl _ _) _) ho1) ho2) ho3) ho4) _) ho5) (Nat.le_refl _) _ _) (Nat.le_refl _) _ _).size⟩
  · exact bodyPost_ret (v := .agg #[.int .i64 (mkR (-x) z).1, .int .i64 (mkR (-x) z).2.1]) (by simp [results, Tryd.results22, go_sem, q0, q1]) rfl ⟨(mkR (-x) z).1, (mkR (-x) z).2.1, rfl, (mkR_bd (-x) z).1, (mkR_bd (-x) z).2.1, (mkR_bd (-x) z).2.2.1, (mkR_bd (-x) z).2.2.2, src_setR h (src_setR h hs6 _ _) _ _, only_new (only_new (only_trans (only_alloc (only_trans (only_trans (only_trans (only_trans (only_alloc (only_refl _ _) _) ho1) ho2) ho3) ho4) _) ho5) (Nat.le_refl _) _ _) (Nat.le_refl _) _ _, (only_new (only_new (only_trans (only_alloc (only_trans (only_trans (only_trans (only_trans (only_alloc (only_refl _ _) _) ho1) ho2) ho3) ho4) _) ho5) (Nat.le_refl _) _ _) (Nat.le_refl _) _ _).size⟩
  · exact bodyPost_ret (v := .agg #[.int .i64 (-x), .int .i64 z]) (by simp [results, Tryd.results22, go_sem, u0, u1]) rfl ⟨(-x), z, rfl, by omega, by omega, by omega, by omega, src_setR h (src_setR h (hs5 _) _ _) _ _, only_new (only_new (only_alloc (only_trans (only_trans (only_trans (only_trans (only_alloc (only_refl _ _) _) ho1) ho2) ho3) ho4) _) (Nat.le_refl _) _ _) (Nat.le_refl _) _ _, (only_new (only_new (only_alloc (only_trans (only_trans (only_trans (only_trans (only_alloc (only_refl _ _) _) ho1) ho2) ho3) ho4) _) (Nat.le_refl _) _ _) (Nat.le_refl _) _ _).size⟩
  · exact bodyPost_ret (v := .agg #[.int .i64 x, .int .i64 z]) (by simp [results, Tryd.results22, go_sem, q0, q1]) rfl ⟨x, z, rfl, by omega, by omega, by omega, by omega, src_setR h (src_setR h hs6 _ _) _ _, only_new (only_new (only_trans (only_alloc (only_trans (only_trans (only_trans (only_trans (only_alloc (only_refl _ _) _) ho1) ho2) ho3) ho4) _) ho5) (Nat.le_refl _) _ _) (Nat.le_refl _) _ _, (only_new (only_new (only_trans (only_alloc (only_trans (only_trans (only_trans (only_trans (only_alloc (only_refl _ _) _) ho1) ho2) ho3) ho4) _) ho5) (Nat.le_refl _) _ _) (Nat.le_refl _) _ _).size⟩
  · exact bodyPost_ret (v := .agg #[.int .i64 (mkR x z).1, .int .i64 (mkR x z).2.1]) (by simp [results, Tryd.results22, go_sem, q0, q1]) rfl ⟨(mkR x z).1, (mkR x z).2.1, rfl, (mkR_bd x z).1, (mkR_bd x z).2.1, (mkR_bd x z).2.2.1, (mkR_bd x z).2.2.2, src_setR h (src_setR h hs6 _ _) _ _, only_new (only_new (only_trans (only_alloc (only_trans (only_trans (only_trans (only_trans (only_alloc (only_refl _ _) _) ho1) ho2) ho3) ho4) _) ho5) (Nat.le_refl _) _ _) (Nat.le_refl _) _ _, (only_new (only_new (only_trans (only_alloc (only_trans (only_trans (only_trans (only_trans (only_alloc (only_refl _ _) _) ho1) ho2) ho3) ho4) _) ho5) (Nat.le_refl _) _ _) (Nat.le_refl _) _ _).size⟩
  · exact bodyPost_ret (v := .agg #[.int .i64 x, .int .i64 z]) (by simp [results, Tryd.results22, go_sem, u0, u1]) rfl ⟨x, z, rfl, by omega, by omega, by omega, by omega, src_setR h (src_setR h (hs5 _) _ _) _ _, only_new (only_new (only_alloc (only_trans (only_trans (only_trans (only_trans (only_alloc (only_refl _ _) _) ho1) ho2) ho3) ho4) _) (Nat.le_refl _) _ _) (Nat.le_refl _) _ _, (only_new (only_new (only_alloc (only_trans (only_trans (only_trans (only_trans (only_alloc (only_refl _ _) _) ho1) ho2) ho3) ho4) _) (Nat.le_refl _) _ _) (Nat.le_refl _) _ _).size⟩

end Go.Proofs.YtohhjcnkbifdbaaDoor
