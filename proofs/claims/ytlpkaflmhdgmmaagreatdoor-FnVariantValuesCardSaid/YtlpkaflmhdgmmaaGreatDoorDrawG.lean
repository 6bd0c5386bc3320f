/-
  Put together: DrawList, DrawVar, DrawHands6, DrawBestIn
-/
import Derived.Test.YtlpkaflmhdgmmaaGreatDoorDraws
import Derived.Test.YtlpkaflmhdgmmaaGreatDoorVariant
import Derived.Test.YtlpkaflmhdgmmaaGreatDoorBase
import Derived.Test.YtlpkaflmhdgmmaaGreatDoorRows2
import Derived.Test.YtlpkaflmhdgmmaaGreatDoorLowPure
import Derived.IntWalk

/-! l02DrawList, l02DrawCard and what the laws draw with them. -/
namespace Go.Proofs.YtlpkaflmhdgmmaaGreatDoor
open Go.RowKit
set_option linter.unusedVariables false

theorem drewL_mono {N M : Nat} {w : World} {s : Nat} {a : Option Addr} {L c : Nat} {zs : Nat → Int} {e : Ending} {w' : World} (h : DrewL N w s a L c zs e w') (hm : N ≤ M) : DrewL M w s a L c zs e w' := by
  obtain ⟨xs, A, cc, he, hl, rest⟩ := h
  exact ⟨xs, A, cc, he, Nat.le_trans hl hm, rest⟩
/-- What holds between the draws of a list. -/
structure Lists (w : World) (s : Nat) (a : Option Addr) (L c : Nat) (zs : Nat → Int) (xs : List Int) (v : Value) (wr : World) : Prop where
  own : Own wr w.heap.size v xs
  src : Src wr s a L c zs
  only : Only s w wr
theorem lists_next {w wr w1 : World} {s : Nat} {a : Option Addr} {L c : Nat} {zs : Nat → Int} {xs : List Int} {v : Value} (h : Lists w s a L c zs xs v wr) (hs : s < w.heap.size) (hsrc : Src w1 s a L c zs) (ho : Only s wr w1) : Lists w s a L c zs xs v w1 :=
  ⟨own_only h.own ho hs, hsrc, only_trans h.only ho⟩
theorem lists_alloc {w wr : World} {s : Nat} {a : Option Addr} {L c : Nat} {zs : Nat → Int} {xs : List Int} {v : Value} (h : Lists w s a L c zs xs v wr) (o : Obj) : Lists w s a L c zs xs v (wr.alloc o) :=
  ⟨h.own.below (bl_alloc (bl_refl _) _), src_alloc h.src o, only_alloc h.only o⟩
theorem lists_app {w w1 w2 : World} {s : Nat} {a : Option Addr} {L c : Nat} {zs : Nat → Int} {xs : List Int} {v v' : Value} {y : Int} {o : Obj} (h : Lists w s a L c zs xs v w1) (hs : s < w.heap.size) (hB : CodeB w.heap.size a L)
    (hown : w2.ownsRow w.heap.size 2 1 v' (xs.length + 1) (ints xs ++ [.int .i64 y])) (hgrow : (w1.alloc o).grownBy w2 v.ownBlock) : Lists w s a L c zs (xs ++ [y]) v' w2 := by
  have hr : ∀ j, v.ownBlock = some j → w.heap.size ≤ j := fun j hj => (World.ownsRow.lt h.own j hj).1
  exact ⟨own_app hown, src_grown (src_alloc h.src o) hgrow hr hs hB, only_grown (only_alloc h.only o) hgrow hr⟩
theorem bl_trans' {w w1 w2 : World} {s : Nat} (hb : Below w.heap.size w w1) (hs : w.heap.size ≤ s) (hy : Only s w1 w2) : Below w.heap.size w w2 := by
  refine Below.grown (row := some s) hb hy hb.size (fun j hj => ?_)
  injection hj with hj
  omega
theorem pair_row (w : World) (s : Nat) (a : Option Addr) (L c : Nat) (zs : Nat → Int) (h : Src w s a L c zs) :
    Calls Tryz.prog 69 #[.pointer (some ⟨s, 0, none⟩), .slice (some ⟨w.heap.size, 0, none⟩) 2 2] (w.alloc (.cells #[.int .i64 (-1), .int .i64 52] 2)) (Drew (-1) 52 (w.alloc (.cells #[.int .i64 (-1), .int .i64 52] 2)) s a L c zs) := by
  have hs := src_lt h
  refine pick_any s w.heap.size 2 (rowOf [-1, 52]) (-1) 52 a L c zs _ (by omega) (by omega) (fun i hi => row_new [-1, 52] 2 w i hi) (fun i hi => ?_) (by omega) (src_alloc h _)
  match i, hi with
  | 0, _ => exact ⟨by decide, by decide⟩
  | 1, _ => exact ⟨by decide, by decide⟩
/-- A list that a law draws from its code. -/
def DrawnL (N : Nat) (w : World) (e : Ending) (w' : World) : Prop :=
  ∃ (xs : List Int) (A : Option Addr) (cc : Nat), e = .returned (.slice A xs.length cc) ∧ xs.length ≤ N ∧ Own w' w.heap.size (.slice A xs.length cc) xs ∧ Below w.heap.size w w'
theorem drawnL_of {N : Nat} {w w1 w2 : World} {s : Nat} {a : Option Addr} {L c : Nat} {zs : Nat → Int} {e : Ending} (hb : Below w.heap.size w w1) (hs : w.heap.size ≤ s) (h : DrewL N w1 s a L c zs e w2) : DrawnL N w e w2 := by
  obtain ⟨xs, A, cc, he, hl, ho, _, hy⟩ := h
  exact ⟨xs, A, cc, he, hl, ho.less hb.size, bl_trans' hb hs hy⟩

end Go.Proofs.YtlpkaflmhdgmmaaGreatDoor

/-! The draw of a variant. -/
namespace Go.Proofs.YtlpkaflmhdgmmaaGreatDoor
open Go.RowKit
set_option linter.unusedVariables false

def stdCells : List Value := [.int .i64 2, .int .i64 0, .int .i64 2, .int .i64 5, .bool true, .int .i64 0, .int .i64 4, .int .i64 2, .int .i64 2, .int .i64 5, .bool true, .int .i64 0, .int .i64 4, .int .i64 2, .int .i64 2, .int .i64 5, .bool true, .int .i64 1, .int .i64 7, .int .i64 5, .int .i64 5, .int .i64 0, .bool true, .int .i64 0, .int .i64 7, .int .i64 5, .int .i64 5, .int .i64 0, .bool true, .int .i64 1, .int .i64 7, .int .i64 5, .int .i64 5, .int .i64 0, .bool false, .int .i64 2, .int .i64 5, .int .i64 5, .int .i64 5, .int .i64 0, .bool true, .int .i64 0, .int .i64 5, .int .i64 5, .int .i64 5, .int .i64 0, .bool false, .int .i64 3]
set_option maxRecDepth 100000 in
set_option maxHeartbeats 4000000 in
theorem stdCells_any (w : World) : Calls Tryz.prog 68 #[] w fun e w' => e = .returned (.slice (some ⟨w.heap.size, 0, none⟩) 8 8) ∧ Blk w' w.heap.size 25 stdCells ∧ Below w.heap.size w w' := by
  go_enter Tryz.func68, Tryz.ntmps68
  go_wp2_with fail
  go_ret
  exact ⟨rfl, blk_new w _ stdCells, bl_alloc (bl_refl w) _⟩
/-- One of the standard variants, as it lies there. -/
theorem std_row {W : World} {g : Nat} {t : TypeId} (h : Blk W g t stdCells) (j : Nat) (hj : j < 8) : ∃ (xh xl xm xb : Int) (xi : Bool) (xo : Int), W.cell? ⟨g, j * 6, none⟩ = some (.int .i64 xh) ∧ W.cell? ⟨g, j * 6 + 1, none⟩ = some (.int .i64 xl) ∧ W.cell? ⟨g, j * 6 + 2, none⟩ = some (.int .i64 xm) ∧ W.cell? ⟨g, j * 6 + 3, none⟩ = some (.int .i64 xb) ∧ W.cell? ⟨g, j * 6 + 4, none⟩ = some (.bool xi) ∧ W.cell? ⟨g, j * 6 + 5, none⟩ = some (.int .i64 xo) ∧ (0 ≤ xh ∧ xh ≤ 10) ∧ (0 ≤ xm ∧ xm ≤ 10) ∧ 0 ≤ xb ∧ xb ≤ 10 := by
  have h1 : j = 0 ∨ j = 1 ∨ j = 2 ∨ j = 3 ∨ j = 4 ∨ j = 5 ∨ j = 6 ∨ j = 7 := by omega
  rcases h1 with rfl | rfl | rfl | rfl | rfl | rfl | rfl | rfl <;>
    exact ⟨_, _, _, _, _, _, (h.cell _ _ rfl).1, (h.cell _ _ rfl).1, (h.cell _ _ rfl).1, (h.cell _ _ rfl).1, (h.cell _ _ rfl).1, (h.cell _ _ rfl).1, by decide, by decide, by decide, by decide⟩
/-- A drawn variant. -/
def VarD (w : World) (s : Nat) (a : Option Addr) (L c : Nat) (zs : Nat → Int) (e : Ending) (w' : World) : Prop :=
  ∃ (h l m b : Int) (hi : Bool) (lo : Int), e = .returned (vV h l m b hi lo) ∧ (-10 ≤ h ∧ h ≤ 10) ∧ (-10 ≤ m ∧ m ≤ 10) ∧ (-10 ≤ b ∧ b ≤ 10) ∧ Src w' s a L c zs ∧ Only s w w'
theorem pickV_row (ys : List Int) (N : Nat) (w : World) (s : Nat) (a : Option Addr) (L c : Nat) (zs : Nat → Int) (h : Src w s a L c zs) (hN : ys.length = N) (h1 : 1 < N) (h2 : N ≤ 100) (hb : ∀ i, i < N → -1 ≤ rowOf ys i ∧ rowOf ys i ≤ 8) :
    Calls Tryz.prog 69 #[.pointer (some ⟨s, 0, none⟩), .slice (some ⟨w.heap.size, 0, none⟩) N N] (w.alloc (.cells (ys.map (Value.int .i64)).toArray 2)) (Drew (-1) 8 (w.alloc (.cells (ys.map (Value.int .i64)).toArray 2)) s a L c zs) := by
  have hs := src_lt h
  exact pick_any s w.heap.size N (rowOf ys) (-1) 8 a L c zs _ (by omega) (by omega) (fun i hi => row_new ys 2 w i (by omega)) hb (by omega) (src_alloc h _)
theorem pickH_row (w : World) (s : Nat) (a : Option Addr) (L c : Nat) (zs : Nat → Int) (h : Src w s a L c zs) :
    Calls Tryz.prog 69 #[.pointer (some ⟨s, 0, none⟩), .slice (some ⟨w.heap.size, 0, none⟩) 4 4] (w.alloc (.cells #[.int .i64 0, .int .i64 1, .int .i64 7, .int .i64 8] 2)) (Drew (-1) 8 (w.alloc (.cells #[.int .i64 0, .int .i64 1, .int .i64 7, .int .i64 8] 2)) s a L c zs) :=
  pickV_row [0, 1, 7, 8] 4 w s a L c zs h rfl (by omega) (by omega) (by decide)
theorem pickB_row (w : World) (s : Nat) (a : Option Addr) (L c : Nat) (zs : Nat → Int) (h : Src w s a L c zs) :
    Calls Tryz.prog 69 #[.pointer (some ⟨s, 0, none⟩), .slice (some ⟨w.heap.size, 0, none⟩) 4 4] (w.alloc (.cells #[.int .i64 (-1), .int .i64 2, .int .i64 5, .int .i64 6] 2)) (Drew (-1) 8 (w.alloc (.cells #[.int .i64 (-1), .int .i64 2, .int .i64 5, .int .i64 6] 2)) s a L c zs) :=
  pickV_row [-1, 2, 5, 6] 4 w s a L c zs h rfl (by omega) (by omega) (by decide)
theorem pickM_row (w : World) (s : Nat) (a : Option Addr) (L c : Nat) (zs : Nat → Int) (h : Src w s a L c zs) :
    Calls Tryz.prog 69 #[.pointer (some ⟨s, 0, none⟩), .slice (some ⟨w.heap.size, 0, none⟩) 3 3] (w.alloc (.cells #[.int .i64 1, .int .i64 5, .int .i64 6] 2)) (Drew (-1) 8 (w.alloc (.cells #[.int .i64 1, .int .i64 5, .int .i64 6] 2)) s a L c zs) :=
  pickV_row [1, 5, 6] 3 w s a L c zs h rfl (by omega) (by omega) (by decide)
theorem src_setB {w : World} {s B g : Nat} {a : Option Addr} {L c : Nat} {zs : Nat → Int} (h : Src w s a L c zs) (hs : s < B) (hB : CodeB B a L) (hg : B ≤ g) (o : Nat) (v : Value) : Src (w.setCell ⟨g, o, none⟩ v) s a L c zs :=
  src_grown h (only_set (only_refl g w) o v) (fun j e => by obtain rfl := Option.some.inj e; exact hg) hs hB
theorem only_setB {w0 w : World} {s g : Nat} (h : Only s w0 w) (hg : w0.heap.size ≤ g) (o : Nat) (v : Value) : Only s w0 (w.setCell ⟨g, o, none⟩ v) :=
  only_grown h (only_set (only_refl g w) o v) (fun j e => by obtain rfl := Option.some.inj e; exact hg)
theorem blk_six {W : World} {g : Nat} {t : TypeId} {o0 o1 o2 o3 o4 o5 : Value} (h : Blk W g t [o0, o1, o2, o3, o4, o5]) (x0 x1 x2 x3 x4 x5 : Value) :
    Blk ((((((W.setCell ⟨g, 0, none⟩ (x0)).setCell ⟨g, 1, none⟩ (x1)).setCell ⟨g, 2, none⟩ (x2)).setCell ⟨g, 3, none⟩ (x3)).setCell ⟨g, 4, none⟩ (x4)).setCell ⟨g, 5, none⟩ (x5)) g t [x0, x1, x2, x3, x4, x5] ∧ W.grownBy ((((((W.setCell ⟨g, 0, none⟩ (x0)).setCell ⟨g, 1, none⟩ (x1)).setCell ⟨g, 2, none⟩ (x2)).setCell ⟨g, 3, none⟩ (x3)).setCell ⟨g, 4, none⟩ (x4)).setCell ⟨g, 5, none⟩ (x5)) (some g) := by
  have s0 := blk_set h 0 x0
  have s1 := blk_set s0.1 1 x1
  have s2 := blk_set s1.1 2 x2
  have s3 := blk_set s2.1 3 x3
  have s4 := blk_set s3.1 4 x4
  have s5 := blk_set s4.1 5 x5
  exact ⟨s5.1, ((((s0.2.trans s1.2).trans s2.2).trans s3.2).trans s4.2).trans s5.2⟩
set_option maxRecDepth 100000 in
set_option maxHeartbeats 1000000 in
theorem var_ret {tmps : Array Value} {w0 WB : World} {s : Nat} {a : Option Addr} {L c : Nat} {zs : Nat → Int} {o0 o1 o2 o3 o4 o5 : Value} (hP : Blk WB w0.heap.size 25 [o0, o1, o2, o3, o4, o5]) (hS : Src WB s a L c zs) (hY : Only s w0 WB) (HS : s < w0.heap.size) (HB : CodeB w0.heap.size a L)
    (h l m b : Int) (hi : Bool) (lo : Int) (b1 : -10 ≤ h ∧ h ≤ 10) (b2 : -10 ≤ m ∧ m ≤ 10) (b3 : -10 ≤ b ∧ b ≤ 10) (ht : tmps[2]? = some (.pointer (some ⟨w0.heap.size, 0, none⟩))) :
    bodyPost Tryz.prog Tryz.f42 (VarD w0 s a L c zs) .ret { tmps := tmps, defers := [] } ((((((WB.setCell ⟨w0.heap.size, 0, none⟩ (.int .i64 h)).setCell ⟨w0.heap.size, 1, none⟩ (.int .i64 l)).setCell ⟨w0.heap.size, 2, none⟩ (.int .i64 m)).setCell ⟨w0.heap.size, 3, none⟩ (.int .i64 b)).setCell ⟨w0.heap.size, 4, none⟩ (.bool hi)).setCell ⟨w0.heap.size, 5, none⟩ (.int .i64 lo)) := by
  obtain ⟨hb, hg⟩ := blk_six hP (.int .i64 h) (.int .i64 l) (.int .i64 m) (.int .i64 b) (.bool hi) (.int .i64 lo)
  obtain ⟨W, eW⟩ : ∃ W, W = ((((((WB.setCell ⟨w0.heap.size, 0, none⟩ (.int .i64 h)).setCell ⟨w0.heap.size, 1, none⟩ (.int .i64 l)).setCell ⟨w0.heap.size, 2, none⟩ (.int .i64 m)).setCell ⟨w0.heap.size, 3, none⟩ (.int .i64 b)).setCell ⟨w0.heap.size, 4, none⟩ (.bool hi)).setCell ⟨w0.heap.size, 5, none⟩ (.int .i64 lo)) := ⟨_, rfl⟩
  rw [← eW] at hb hg ⊢
  clear eW
  obtain ⟨u0, _⟩ := hb.cell 0 _ rfl
  obtain ⟨u1, _⟩ := hb.cell 1 _ rfl
  obtain ⟨u2, _⟩ := hb.cell 2 _ rfl
  obtain ⟨u3, _⟩ := hb.cell 3 _ rfl
  obtain ⟨u4, _⟩ := hb.cell 4 _ rfl
  obtain ⟨u5, _⟩ := hb.cell 5 _ rfl
  have hr : ∀ j, some w0.heap.size = some j → w0.heap.size ≤ j := fun j e => by obtain rfl := Option.some.inj e; exact Nat.le_refl _
  exact bodyPost_ret (v := vV h l m b hi lo) (by simp [results, Tryz.results42, go_sem, vV, ht, u0, u1, u2, u3, u4, u5]) rfl ⟨_, _, _, _, _, _, rfl, b1, b2, b3, src_grown hS hg hr HS HB, only_grown hY hg hr⟩
set_option maxRecDepth 100000 in
set_option maxHeartbeats 2000000 in
theorem drawVar_any (s : Nat) (a : Option Addr) (L c : Nat) (zs : Nat → Int) (w : World) (h : Src w s a L c zs) :
    Calls Tryz.prog 42 #[.pointer (some ⟨s, 0, none⟩)] w (VarD w s a L c zs) := by
  have HS := src_lt h
  have H := Lib.hid h
  have HB := Lib.hid (codeB_of h)
  clear h
  have KT := Lib.hid stdCells_any
  obtain ⟨w0, rfl⟩ : ∃ w0 : World, w0 = w := ⟨w, rfl⟩
  have B0 := Lib.hid (bl_alloc (bl_refl w0) (.cells #[.int .i64 0, .int .i64 0, .int .i64 0, .int .i64 0, .bool false, .int .i64 0] 25))
  go_enter Tryz.func42, Tryz.ntmps42
  go_wp2_with (first
    | (go_at_call 68; refine (KT.out _).mono ?_; rintro e w1 ⟨rfl, hk1, hb1⟩; rw [World.size_alloc] at hk1; have B1 := Lib.hid (bl_trans B0.out hb1); have S1 := Lib.hid (H.out.below (bl_trans B0.out hb1)); have P1 := Lib.hid ((blk_new w0 25 [.int .i64 0, .int .i64 0, .int .i64 0, .int .i64 0, .bool false, .int .i64 0]).below hb1); have K1 := Lib.hid hk1; have Z1 := hk1.lt; clear hb1 hk1)
    | (go_at_call 44; ((with_reducible refine (next_any s 8 a L c zs _ (by decide) (by decide) S1.out).mono ?_); rintro e w2 ⟨V, rfl, v0, v1, hs2, ho2⟩; obtain ⟨j, rfl⟩ := Int.eq_ofNat_of_zero_le v0; have hj : j < 8 := (by omega); have Z2 := Nat.lt_of_lt_of_le Z1 ho2.size; have P2 := Lib.hid (P1.out.grown ho2 (fun e => by have := Option.some.inj e; omega)); have S2 := Lib.hid hs2; have Y2 := Lib.hid (only_trans (only_below B1.out) ho2); obtain ⟨xh, xl, xm, xb, xi, xo, d0, d1, d2, d3, d4, d5, bd1, bd2, bd3⟩ := std_row (K1.out.grown ho2 (fun e => by have := Option.some.inj e; omega)) j hj; clear hs2 ho2))
    | (go_at_call 44; ((with_reducible refine (next_any s 10 a L c zs _ (by decide) (by decide) (src_alloc S2.out _)).mono ?_); rintro e w3 ⟨U, rfl, u0, u1, hs3, ho3⟩; have S3 := Lib.hid hs3; have Y3 := Lib.hid (only_trans (only_alloc Y2.out _) ho3); have N3 := Lib.hid ((blk_new w2 25 [.int .i64 xh, .int .i64 xl, .int .i64 xm, .int .i64 xb, .bool xi, .int .i64 xo]).grown ho3 (fun e => by have := Option.some.inj e; omega)); have P3 := Lib.hid ((P2.out.below (bl_alloc (bl_refl _) _)).grown ho3 (fun e => by have := Option.some.inj e; omega)); obtain ⟨q0, f0⟩ := N3.out.cell 0 _ rfl; obtain ⟨q1, f1⟩ := N3.out.cell 1 _ rfl; obtain ⟨q2, f2⟩ := N3.out.cell 2 _ rfl; obtain ⟨q3, f3⟩ := N3.out.cell 3 _ rfl; obtain ⟨q4, f4⟩ := N3.out.cell 4 _ rfl; obtain ⟨q5, f5⟩ := N3.out.cell 5 _ rfl; obtain ⟨p0, g0⟩ := P3.out.cell 0 _ rfl; obtain ⟨p1, g1⟩ := P3.out.cell 1 _ rfl; obtain ⟨p2, g2⟩ := P3.out.cell 2 _ rfl; obtain ⟨p3, g3⟩ := P3.out.cell 3 _ rfl; obtain ⟨p4, g4⟩ := P3.out.cell 4 _ rfl; obtain ⟨p5, g5⟩ := P3.out.cell 5 _ rfl; clear hs3 ho3))
    | (go_at_call 44; ((with_reducible refine (next_any s 3 a L c zs _ (by decide) (by decide) S3.out).mono ?_); rintro e w4 ⟨ya, rfl, ya0, ya1, hs, ho⟩; have S4 := Lib.hid hs; have Y4 := Lib.hid (only_trans Y3.out ho); have N4 := Lib.hid (N3.out.grown ho (fun e => by have := Option.some.inj e; omega)); have P4 := Lib.hid (P3.out.grown ho (fun e => by have := Option.some.inj e; omega)); obtain ⟨q0, f0⟩ := N4.out.cell 0 _ rfl; obtain ⟨q1, f1⟩ := N4.out.cell 1 _ rfl; obtain ⟨q2, f2⟩ := N4.out.cell 2 _ rfl; obtain ⟨q3, f3⟩ := N4.out.cell 3 _ rfl; obtain ⟨q4, f4⟩ := N4.out.cell 4 _ rfl; obtain ⟨q5, f5⟩ := N4.out.cell 5 _ rfl; obtain ⟨p0, g0⟩ := P4.out.cell 0 _ rfl; obtain ⟨p1, g1⟩ := P4.out.cell 1 _ rfl; obtain ⟨p2, g2⟩ := P4.out.cell 2 _ rfl; obtain ⟨p3, g3⟩ := P4.out.cell 3 _ rfl; obtain ⟨p4, g4⟩ := P4.out.cell 4 _ rfl; obtain ⟨p5, g5⟩ := P4.out.cell 5 _ rfl; clear hs ho))
    | (go_at_call 44; ((with_reducible refine (next_any s 2 a L c zs _ (by decide) (by decide) S4.out).mono ?_); rintro e w5 ⟨yb, rfl, yb0, yb1, hs, ho⟩; have S5 := Lib.hid hs; have Y5 := Lib.hid (only_trans Y4.out ho); have N5 := Lib.hid (N4.out.grown ho (fun e => by have := Option.some.inj e; omega)); have P5 := Lib.hid (P4.out.grown ho (fun e => by have := Option.some.inj e; omega)); obtain ⟨q0, f0⟩ := N5.out.cell 0 _ rfl; obtain ⟨q1, f1⟩ := N5.out.cell 1 _ rfl; obtain ⟨q2, f2⟩ := N5.out.cell 2 _ rfl; obtain ⟨q3, f3⟩ := N5.out.cell 3 _ rfl; obtain ⟨q4, f4⟩ := N5.out.cell 4 _ rfl; obtain ⟨q5, f5⟩ := N5.out.cell 5 _ rfl; obtain ⟨p0, g0⟩ := P5.out.cell 0 _ rfl; obtain ⟨p1, g1⟩ := P5.out.cell 1 _ rfl; obtain ⟨p2, g2⟩ := P5.out.cell 2 _ rfl; obtain ⟨p3, g3⟩ := P5.out.cell 3 _ rfl; obtain ⟨p4, g4⟩ := P5.out.cell 4 _ rfl; obtain ⟨p5, g5⟩ := P5.out.cell 5 _ rfl; clear hs ho))
    | (go_at_call 44; ((with_reducible refine (next_any s 3 a L c zs _ (by decide) (by decide) S5.out).mono ?_); rintro e w6 ⟨yc, rfl, yc0, yc1, hs, ho⟩; have S6 := Lib.hid hs; have Y6 := Lib.hid (only_trans Y5.out ho); have N6 := Lib.hid (N5.out.grown ho (fun e => by have := Option.some.inj e; omega)); have P6 := Lib.hid (P5.out.grown ho (fun e => by have := Option.some.inj e; omega)); obtain ⟨q0, f0⟩ := N6.out.cell 0 _ rfl; obtain ⟨q1, f1⟩ := N6.out.cell 1 _ rfl; obtain ⟨q2, f2⟩ := N6.out.cell 2 _ rfl; obtain ⟨q3, f3⟩ := N6.out.cell 3 _ rfl; obtain ⟨q4, f4⟩ := N6.out.cell 4 _ rfl; obtain ⟨q5, f5⟩ := N6.out.cell 5 _ rfl; obtain ⟨p0, g0⟩ := P6.out.cell 0 _ rfl; obtain ⟨p1, g1⟩ := P6.out.cell 1 _ rfl; obtain ⟨p2, g2⟩ := P6.out.cell 2 _ rfl; obtain ⟨p3, g3⟩ := P6.out.cell 3 _ rfl; obtain ⟨p4, g4⟩ := P6.out.cell 4 _ rfl; obtain ⟨p5, g5⟩ := P6.out.cell 5 _ rfl; clear hs ho))
    | (go_at_call 44; ((with_reducible refine (next_any s 2 a L c zs _ (by decide) (by decide) S6.out).mono ?_); rintro e w7 ⟨yd, rfl, yd0, yd1, hs, ho⟩; have S7 := Lib.hid hs; have Y7 := Lib.hid (only_trans Y6.out ho); have N7 := Lib.hid (N6.out.grown ho (fun e => by have := Option.some.inj e; omega)); have P7 := Lib.hid (P6.out.grown ho (fun e => by have := Option.some.inj e; omega)); obtain ⟨q0, f0⟩ := N7.out.cell 0 _ rfl; obtain ⟨q1, f1⟩ := N7.out.cell 1 _ rfl; obtain ⟨q2, f2⟩ := N7.out.cell 2 _ rfl; obtain ⟨q3, f3⟩ := N7.out.cell 3 _ rfl; obtain ⟨q4, f4⟩ := N7.out.cell 4 _ rfl; obtain ⟨q5, f5⟩ := N7.out.cell 5 _ rfl; obtain ⟨p0, g0⟩ := P7.out.cell 0 _ rfl; obtain ⟨p1, g1⟩ := P7.out.cell 1 _ rfl; obtain ⟨p2, g2⟩ := P7.out.cell 2 _ rfl; obtain ⟨p3, g3⟩ := P7.out.cell 3 _ rfl; obtain ⟨p4, g4⟩ := P7.out.cell 4 _ rfl; obtain ⟨p5, g5⟩ := P7.out.cell 5 _ rfl; clear hs ho))
    | (go_at_call 44; ((with_reducible refine (next_any s 4 a L c zs _ (by decide) (by decide) S7.out).mono ?_); rintro e w8 ⟨ye, rfl, ye0, ye1, hs, ho⟩; have S8 := Lib.hid hs; have Y8 := Lib.hid (only_trans Y7.out ho); have N8 := Lib.hid (N7.out.grown ho (fun e => by have := Option.some.inj e; omega)); have P8 := Lib.hid (P7.out.grown ho (fun e => by have := Option.some.inj e; omega)); obtain ⟨q0, f0⟩ := N8.out.cell 0 _ rfl; obtain ⟨q1, f1⟩ := N8.out.cell 1 _ rfl; obtain ⟨q2, f2⟩ := N8.out.cell 2 _ rfl; obtain ⟨q3, f3⟩ := N8.out.cell 3 _ rfl; obtain ⟨q4, f4⟩ := N8.out.cell 4 _ rfl; obtain ⟨q5, f5⟩ := N8.out.cell 5 _ rfl; obtain ⟨p0, g0⟩ := P8.out.cell 0 _ rfl; obtain ⟨p1, g1⟩ := P8.out.cell 1 _ rfl; obtain ⟨p2, g2⟩ := P8.out.cell 2 _ rfl; obtain ⟨p3, g3⟩ := P8.out.cell 3 _ rfl; obtain ⟨p4, g4⟩ := P8.out.cell 4 _ rfl; obtain ⟨p5, g5⟩ := P8.out.cell 5 _ rfl; clear hs ho))
    | (go_at_call 69; ((with_reducible refine (pickH_row _ _ _ _ _ _ S3.out).mono ?_); rintro e w9 ⟨z, rfl, z0, z1, hs, ho⟩; have S9 := Lib.hid hs; have Y9 := Lib.hid (only_trans (only_alloc Y3.out _) ho); have N9 := Lib.hid ((N3.out.below (bl_alloc (bl_refl _) _)).grown ho (fun e => by have := Option.some.inj e; omega)); have P9 := Lib.hid ((P3.out.below (bl_alloc (bl_refl _) _)).grown ho (fun e => by have := Option.some.inj e; omega)); obtain ⟨q0, f0⟩ := N9.out.cell 0 _ rfl; obtain ⟨q1, f1⟩ := N9.out.cell 1 _ rfl; obtain ⟨q2, f2⟩ := N9.out.cell 2 _ rfl; obtain ⟨q3, f3⟩ := N9.out.cell 3 _ rfl; obtain ⟨q4, f4⟩ := N9.out.cell 4 _ rfl; obtain ⟨q5, f5⟩ := N9.out.cell 5 _ rfl; obtain ⟨p0, g0⟩ := P9.out.cell 0 _ rfl; obtain ⟨p1, g1⟩ := P9.out.cell 1 _ rfl; obtain ⟨p2, g2⟩ := P9.out.cell 2 _ rfl; obtain ⟨p3, g3⟩ := P9.out.cell 3 _ rfl; obtain ⟨p4, g4⟩ := P9.out.cell 4 _ rfl; obtain ⟨p5, g5⟩ := P9.out.cell 5 _ rfl; clear hs ho))
    | (go_at_call 69; ((with_reducible refine (pickB_row _ _ _ _ _ _ S3.out).mono ?_); rintro e w9 ⟨z, rfl, z0, z1, hs, ho⟩; have S9 := Lib.hid hs; have Y9 := Lib.hid (only_trans (only_alloc Y3.out _) ho); have N9 := Lib.hid ((N3.out.below (bl_alloc (bl_refl _) _)).grown ho (fun e => by have := Option.some.inj e; omega)); have P9 := Lib.hid ((P3.out.below (bl_alloc (bl_refl _) _)).grown ho (fun e => by have := Option.some.inj e; omega)); obtain ⟨q0, f0⟩ := N9.out.cell 0 _ rfl; obtain ⟨q1, f1⟩ := N9.out.cell 1 _ rfl; obtain ⟨q2, f2⟩ := N9.out.cell 2 _ rfl; obtain ⟨q3, f3⟩ := N9.out.cell 3 _ rfl; obtain ⟨q4, f4⟩ := N9.out.cell 4 _ rfl; obtain ⟨q5, f5⟩ := N9.out.cell 5 _ rfl; obtain ⟨p0, g0⟩ := P9.out.cell 0 _ rfl; obtain ⟨p1, g1⟩ := P9.out.cell 1 _ rfl; obtain ⟨p2, g2⟩ := P9.out.cell 2 _ rfl; obtain ⟨p3, g3⟩ := P9.out.cell 3 _ rfl; obtain ⟨p4, g4⟩ := P9.out.cell 4 _ rfl; obtain ⟨p5, g5⟩ := P9.out.cell 5 _ rfl; clear hs ho))
    | (go_at_call 69; ((with_reducible refine (pickM_row _ _ _ _ _ _ S3.out).mono ?_); rintro e w9 ⟨z, rfl, z0, z1, hs, ho⟩; have S9 := Lib.hid hs; have Y9 := Lib.hid (only_trans (only_alloc Y3.out _) ho); have N9 := Lib.hid ((N3.out.below (bl_alloc (bl_refl _) _)).grown ho (fun e => by have := Option.some.inj e; omega)); have P9 := Lib.hid ((P3.out.below (bl_alloc (bl_refl _) _)).grown ho (fun e => by have := Option.some.inj e; omega)); obtain ⟨q0, f0⟩ := N9.out.cell 0 _ rfl; obtain ⟨q1, f1⟩ := N9.out.cell 1 _ rfl; obtain ⟨q2, f2⟩ := N9.out.cell 2 _ rfl; obtain ⟨q3, f3⟩ := N9.out.cell 3 _ rfl; obtain ⟨q4, f4⟩ := N9.out.cell 4 _ rfl; obtain ⟨q5, f5⟩ := N9.out.cell 5 _ rfl; obtain ⟨p0, g0⟩ := P9.out.cell 0 _ rfl; obtain ⟨p1, g1⟩ := P9.out.cell 1 _ rfl; obtain ⟨p2, g2⟩ := P9.out.cell 2 _ rfl; obtain ⟨p3, g3⟩ := P9.out.cell 3 _ rfl; obtain ⟨p4, g4⟩ := P9.out.cell 4 _ rfl; obtain ⟨p5, g5⟩ := P9.out.cell 5 _ rfl; clear hs ho)))
  · have BX := blk_six N8.out (.int .i64 3) (.int .i64 ya) (.int .i64 (2 + yb)) (.int .i64 (3 + yc)) (.bool (yd == 0)) (.int .i64 ye)
    exact var_ret (P8.out.grown BX.2 (fun e => by have := Option.some.inj e; omega)) (src_grown S8.out BX.2 (fun j e => by have := Option.some.inj e; omega) HS HB.out) (only_grown Y8.out BX.2 (fun j e => by have := Option.some.inj e; omega)) HS HB.out 3 ya (2 + yb) (3 + yc) (yd == 0) ye (by omega) (by omega) (by omega) rfl
  · have BX : w9.grownBy (w9.setCell ⟨w2.heap.size, 0, none⟩ (.int .i64 z)) (some w2.heap.size) := only_set (only_refl w2.heap.size w9) 0 (.int .i64 z)
    exact var_ret (P9.out.grown BX (fun e => by have := Option.some.inj e; omega)) (src_grown S9.out BX (fun j e => by have := Option.some.inj e; omega) HS HB.out) (only_grown Y9.out BX (fun j e => by have := Option.some.inj e; omega)) HS HB.out z xl xm xb xi xo (by omega) (by omega) (by omega) rfl
  · have BX : w9.grownBy (w9.setCell ⟨w2.heap.size, 3, none⟩ (.int .i64 z)) (some w2.heap.size) := only_set (only_refl w2.heap.size w9) 3 (.int .i64 z)
    exact var_ret (P9.out.grown BX (fun e => by have := Option.some.inj e; omega)) (src_grown S9.out BX (fun j e => by have := Option.some.inj e; omega) HS HB.out) (only_grown Y9.out BX (fun j e => by have := Option.some.inj e; omega)) HS HB.out xh xl xm z xi xo (by omega) (by omega) (by omega) rfl
  · have BX : w9.grownBy (w9.setCell ⟨w2.heap.size, 2, none⟩ (.int .i64 z)) (some w2.heap.size) := only_set (only_refl w2.heap.size w9) 2 (.int .i64 z)
    exact var_ret (P9.out.grown BX (fun e => by have := Option.some.inj e; omega)) (src_grown S9.out BX (fun j e => by have := Option.some.inj e; omega) HS HB.out) (only_grown Y9.out BX (fun j e => by have := Option.some.inj e; omega)) HS HB.out xh xl z xb xi xo (by omega) (by omega) (by omega) rfl
  · exact var_ret P3.out S3.out Y3.out HS HB.out xh xl xm xb xi xo (by omega) (by omega) (by omega) rfl
end Go.Proofs.YtlpkaflmhdgmmaaGreatDoor

/-! The draw of a variant and of cards. -/
namespace Go.Proofs.YtlpkaflmhdgmmaaGreatDoor
open Go.RowKit
set_option linter.unusedVariables false
set_option linter.unusedSimpArgs false

set_option maxRecDepth 100000 in
set_option maxHeartbeats 400000 in
theorem rank5_any (x : Int) (w : World) (h0 : 0 ≤ x) (h1 : x < 52) :
    Calls Tryz.prog 45 #[.int .i64 x] w (Same (.int .i64 (lr x)) w) := by
  have H := Lib.hid (show (x / 4 + 1).tmod 13 = lr x by unfold lr; exact Int.tmod_eq_emod_of_nonneg (by omega))
  go_enter Tryz.func45, Tryz.ntmps45
  go_wp2
  go_ret
  exact ⟨ret_int rfl, rfl⟩
/-- The cards of low ranks below q. -/
def lowL : Nat → List Int
  | 0 => []
  | q + 1 => if lr (q : Int) < 8 then lowL q ++ [(q : Int)] else lowL q
theorem lowL_yes {q : Nat} (h : lr (q : Int) < 8) : lowL (q + 1) = lowL q ++ [(q : Int)] := by rw [lowL, if_pos h]
theorem lowL_no {q : Nat} (h : ¬ lr (q : Int) < 8) : lowL (q + 1) = lowL q := by rw [lowL, if_neg h]
theorem lowL_len : (lowL 52).length = 32 := by decide +kernel
theorem lowL_le : ∀ q, (lowL q).length ≤ q
  | 0 => by simp [lowL]
  | q + 1 => by
    have := lowL_le q
    rw [lowL]
    split
    · rw [List.length_append]; simp; omega
    · omega
/-- A drawn variant and two drawn lists. -/
def DrewV (w : World) (s : Nat) (a : Option Addr) (L c : Nat) (zs : Nat → Int) (e : Ending) (w' : World) : Prop :=
  ∃ (h l m b : Int) (hi : Bool) (lo : Int) (A : Option Addr) (cc : Nat) (hs : List Int) (A2 : Option Addr) (c2 : Nat) (bs : List Int), e = .returned (.tuple #[vV h l m b hi lo, .slice A hs.length cc, .slice A2 bs.length c2]) ∧ (-10 ≤ m ∧ m ≤ 10) ∧ hs.length ≤ 20 ∧ bs.length ≤ 20 ∧ hs.length ≤ cc ∧ bs.length ≤ c2 ∧
    Rd w' A hs ∧ Rd w' A2 bs ∧ (∀ x, A = some x → w.heap.size < x.block) ∧ (∀ x, A2 = some x → w.heap.size < x.block) ∧ Src w' s a L c zs ∧ Only s w w'
set_option maxRecDepth 100000 in
set_option maxHeartbeats 1000000 in
theorem draw_ret {tmps : Array Value} {w0 WB : World} {s : Nat} {a : Option Addr} {L c : Nat} {zs : Nat → Int} {o0 o1 o2 o3 o4 o5 : Value} (hP : Blk WB w0.heap.size 25 [o0, o1, o2, o3, o4, o5]) (hS : Src WB s a L c zs) (hY : Only s w0 WB) (HS : s < w0.heap.size) (HB : CodeB w0.heap.size a L)
    (h l m b : Int) (hi : Bool) (lo : Int) (b2 : -10 ≤ m ∧ m ≤ 10) (ht : tmps[2]? = some (.pointer (some ⟨w0.heap.size, 0, none⟩)))
    (A : Option Addr) (n1 cc : Nat) (hs : List Int) (A2 : Option Addr) (n2 c2 : Nat) (bs : List Int) (h3 : tmps[3]? = some (.slice A n1 cc)) (h4 : tmps[4]? = some (.slice A2 n2 c2)) (e1 : hs.length = n1) (e2 : bs.length = n2) (l1 : n1 ≤ 20) (l2 : n2 ≤ 20) (l3 : n1 ≤ cc) (l4 : n2 ≤ c2)
    (hr1 : Rd WB A hs) (hr2 : Rd WB A2 bs) (ne1 : ∀ x, A = some x → w0.heap.size < x.block) (ne2 : ∀ x, A2 = some x → w0.heap.size < x.block) :
    bodyPost Tryz.prog Tryz.f22 (DrewV w0 s a L c zs) .ret { tmps := tmps, defers := [] } ((((((WB.setCell ⟨w0.heap.size, 0, none⟩ (.int .i64 h)).setCell ⟨w0.heap.size, 1, none⟩ (.int .i64 l)).setCell ⟨w0.heap.size, 2, none⟩ (.int .i64 m)).setCell ⟨w0.heap.size, 3, none⟩ (.int .i64 b)).setCell ⟨w0.heap.size, 4, none⟩ (.bool hi)).setCell ⟨w0.heap.size, 5, none⟩ (.int .i64 lo)) := by
  obtain ⟨hb, hg⟩ := blk_six hP (.int .i64 h) (.int .i64 l) (.int .i64 m) (.int .i64 b) (.bool hi) (.int .i64 lo)
  obtain ⟨W, eW⟩ : ∃ W, W = ((((((WB.setCell ⟨w0.heap.size, 0, none⟩ (.int .i64 h)).setCell ⟨w0.heap.size, 1, none⟩ (.int .i64 l)).setCell ⟨w0.heap.size, 2, none⟩ (.int .i64 m)).setCell ⟨w0.heap.size, 3, none⟩ (.int .i64 b)).setCell ⟨w0.heap.size, 4, none⟩ (.bool hi)).setCell ⟨w0.heap.size, 5, none⟩ (.int .i64 lo)) := ⟨_, rfl⟩
  rw [← eW] at hb hg ⊢
  clear eW
  obtain ⟨u0, _⟩ := hb.cell 0 _ rfl
  obtain ⟨u1, _⟩ := hb.cell 1 _ rfl
  obtain ⟨u2, _⟩ := hb.cell 2 _ rfl
  obtain ⟨u3, _⟩ := hb.cell 3 _ rfl
  obtain ⟨u4, _⟩ := hb.cell 4 _ rfl
  obtain ⟨u5, _⟩ := hb.cell 5 _ rfl
  have hr : ∀ j, some w0.heap.size = some j → w0.heap.size ≤ j := fun j e => by obtain rfl := Option.some.inj e; exact Nat.le_refl _
  subst e1 e2
  exact bodyPost_ret (v := .tuple #[vV h l m b hi lo, .slice A hs.length cc, .slice A2 bs.length c2]) (by simp [results, Tryz.results22, go_sem, vV, ht, h3, h4, u0, u1, u2, u3, u4, u5]) rfl
    ⟨_, _, _, _, _, _, _, _, _, _, _, _, rfl, b2, l1, l2, l3, l4, rd_grown hr1 hg (fun x e q => by have := ne1 x e; have := Option.some.inj q; omega), rd_grown hr2 hg (fun x e q => by have := ne2 x e; have := Option.some.inj q; omega), ne1, ne2, src_grown hS hg hr HS HB, only_grown hY hg hr⟩
/-- The list of low cards while it grows. -/
structure LowSt (w0 : World) (lo gb : Nat) (s : Nat) (a : Option Addr) (L c : Nat) (zs : Nat → Int) (bx rs : List Value) (ls : List Int) (v : Value) (wr : World) : Prop where
  own : Own wr lo v ls
  src : Src wr s a L c zs
  only : Only s w0 wr
  box : Blk wr gb 25 bx
  res : Blk wr w0.heap.size 25 rs
  le : lo ≤ wr.heap.size
theorem LowSt.app {w0 w1 w2 : World} {lo gb s : Nat} {a : Option Addr} {L c : Nat} {zs : Nat → Int} {bx rs : List Value} {ls : List Int} {v v' : Value} {y : Int} {o : Obj} (h : LowSt w0 lo gb s a L c zs bx rs ls v w1) (hs : s < w0.heap.size) (hB : CodeB w0.heap.size a L) (hl : w0.heap.size < lo) (hg : gb < lo)
    (hown : w2.ownsRow lo 2 1 v' (ls.length + 1) (ints ls ++ [.int .i64 y])) (hgrow : (w1.alloc o).grownBy w2 v.ownBlock) : LowSt w0 lo gb s a L c zs bx rs (ls ++ [y]) v' w2 := by
  have hlo : ∀ j, v.ownBlock = some j → lo ≤ j := fun j e => (World.ownsRow.lt h.own j e).1
  have up : ∀ {g : Nat} {vs : List Value}, g < lo → Blk w1 g 25 vs → Blk w2 g 25 vs := fun hq hb => (hb.below (bl_alloc (bl_refl _) o)).grown hgrow (fun e => by have := hlo _ e.symm; omega)
  refine ⟨?_, src_grown (src_alloc h.src o) hgrow (fun j e => Nat.le_trans (Nat.le_of_lt hl) (hlo j e)) hs hB, only_grown (only_alloc h.only o) hgrow (fun j e => Nat.le_trans (Nat.le_of_lt hl) (hlo j e)), up hg h.box, up hl h.res, ?_⟩
  · show w2.ownsRow lo 2 1 v' (ls ++ [y]).length (ints (ls ++ [y]))
    rw [List.length_append]
    simpa [ints] using hown
  · have := hgrow.size; have := h.le; simp at *; omega
theorem fromAt_block {b off c n : Nat} {x : Addr} (e : fromAt b off c n = some x) : x.block = b := by
  unfold fromAt at e
  split at e <;> (obtain rfl := Option.some.inj e; rfl)
theorem own_setQ {w : World} {lo g c : Nat} {xs : List Int} (h : Own w lo (.slice (some ⟨g, 0, none⟩) xs.length c) xs) (i : Nat) (x : Int) :
    Own (w.setCell ⟨g, i, none⟩ (.int .i64 x)) lo (.slice (some ⟨g, 0, none⟩) (xs.set i x).length c) (xs.set i x) ∧ w.grownBy (w.setCell ⟨g, i, none⟩ (.int .i64 x)) (some g) := by
  unfold Own at h ⊢
  have h2 := h.stored i (.int .i64 x)
  rw [ints_set] at h2
  rw [List.length_set]
  exact h2
theorem nil_to (w : World) : (Instr.slice 26 (.slice none 0 0) none (some (.int .i64 0)) none).run Tryz.prog w = .ok (.slice none 0 0) w := by
  obtain ⟨i0, hi, hz0, hz1, hz2⟩ := info_parts infoInt
  simp [Instr.slice, run_underlying Tryz.underlying26, Instr.sliceBounds, Instr.sliceBound, sizeOf, typeInfo, hi, asIntOf]
theorem nil_from (w : World) : (Instr.slice 26 (.slice none 0 0) (some (.int .i64 0)) none none).run Tryz.prog w = .ok (.slice none 0 0) w := by
  obtain ⟨i0, hi, hz0, hz1, hz2⟩ := info_parts infoInt
  simp [Instr.slice, run_underlying Tryz.underlying26, Instr.sliceBounds, Instr.sliceBound, sizeOf, typeInfo, hi, asIntOf]
theorem min_max (x t : Int) (ht : 0 ≤ t) : ∃ (u : Int) (k : Nat), (if x < t then x else t) = u ∧ (if 0 < u then u else 0) = (k : Int) ∧ (k : Int) ≤ t := by
  refine ⟨_, (if 0 < (if x < t then x else t) then (if x < t then x else t) else 0).toNat, rfl, ?_, ?_⟩ <;> (repeat split) <;> omega
set_option maxRecDepth 100000 in
set_option maxHeartbeats 1000000 in
theorem draw6_any (s : Nat) (a : Option Addr) (L c : Nat) (zs : Nat → Int) (w : World) (h : Src w s a L c zs) :
    Calls Tryz.prog 22 #[.pointer (some ⟨s, 0, none⟩)] w (DrewV w s a L c zs) := by
  have HS := src_lt h
  have H := Lib.hid h
  have HB := Lib.hid (codeB_of h)
  clear h
  obtain ⟨w0, rfl⟩ : ∃ w0 : World, w0 = w := ⟨w, rfl⟩
  have B0 := Lib.hid (bl_alloc (bl_refl w0) (.cells #[.int .i64 0, .int .i64 0, .int .i64 0, .int .i64 0, .bool false, .int .i64 0] 25))
  have KV := Lib.hid (fun W (hb : Below w0.heap.size w0 W) => drawVar_any s a L c zs W (H.out.below hb))
  have O52 : Hid ((othersN 52 []).length = 52) := Lib.hid (by decide +kernel)
  unfold VarD vV at KV
  go_enter Tryz.func22, Tryz.ntmps22
  go_wp2_with (first
    | (go_at_call 42; refine (KV.out _ B0.out).mono ?_; rintro e w1 ⟨vh, vl, vm, vb, vhi, vlo, rfl, b1, b2, b3, hs1, ho1⟩; have Z1 := ho1.size; rw [World.size_alloc] at Z1; have S1 := Lib.hid (src_alloc hs1 (.cells ([.int .i64 vh, .int .i64 vl, .int .i64 vm, .int .i64 vb, .bool vhi, .int .i64 vlo] : List Value).toArray 25)); have Y1 := Lib.hid (only_alloc (only_trans (only_below B0.out) ho1) (.cells ([.int .i64 vh, .int .i64 vl, .int .i64 vm, .int .i64 vb, .bool vhi, .int .i64 vlo] : List Value).toArray 25)); have N1 := Lib.hid (blk_new w1 25 [.int .i64 vh, .int .i64 vl, .int .i64 vm, .int .i64 vb, .bool vhi, .int .i64 vlo]); have P1 := Lib.hid (((blk_new w0 25 [.int .i64 0, .int .i64 0, .int .i64 0, .int .i64 0, .bool false, .int .i64 0]).grown ho1 (fun e => by have := Option.some.inj e; omega)).below (bl_alloc (bl_refl _) (.cells ([.int .i64 vh, .int .i64 vl, .int .i64 vm, .int .i64 vb, .bool vhi, .int .i64 vlo] : List Value).toArray 25))); obtain ⟨xh, k, E1, E2, hk⟩ := min_max vh 8 (by omega); obtain ⟨xb, kb, E3, E4, hkb⟩ := min_max vb 6 (by omega); obtain ⟨n, en⟩ : ∃ n : Nat, n = k + kb := ⟨_, rfl⟩; have hn14 : n ≤ 14 := (by omega); have E5 : IntKind.i64.wrap ((k : Int) + (kb : Int)) = (n : Int) := ((IntWalk.i64_in _ (by omega)).trans (by omega)); have hkn : k ≤ n := (by omega); clear en; clear hs1 ho1)
    | (go_at_call 43; refine (deal_perm s n none 0 [] a L c zs _ (by omega) (fun h => by simp at h) (by simp) S1.out).mono ?_; rintro e w2 ⟨xs, A2, c2, rfl, ho2, hs2, hy2, hp2, hl2⟩; have hln : xs.length = n := (by have := O52.out; omega); have S2 := Lib.hid hs2; have Y2 := Lib.hid (only_trans Y1.out hy2); have O2 := Lib.hid ho2; have N2 := Lib.hid (N1.out.grown hy2 (fun e => by have := Option.some.inj e; omega)); have P2 := Lib.hid (P1.out.grown hy2 (fun e => by have := Option.some.inj e; omega)); have Z2 := hy2.size; rw [World.size_alloc] at Z2; clear hs2 hy2 hp2 hl2))
  rw [World.size_alloc] at ho2
  have O2 := Lib.hid ho2
  have hA2 : (A2 = none ∧ c2 = 0 ∧ n = 0) ∨ ∃ g, A2 = some ⟨g, 0, none⟩ ∧ w1.heap.size < g ∧ n ≤ c2 := by
    rcases Nat.eq_zero_or_pos n with h0 | h0
    · have h2 := ho2.2
      rcases h2 with ⟨e, hn⟩ | ⟨g, cap, cur, e, hb, hq⟩
      · injection e with e1 e2 e3
        exact .inl ⟨e1, e3, h0⟩
      · injection e with e1 e2 e3
        exact .inr ⟨g, e1, by omega, by omega⟩
    · obtain ⟨g, e, h1, h2, h3, h4⟩ := own_some ho2 (by omega)
      exact .inr ⟨g, e, by omega, by omega⟩
  have hk8 : k ≤ 8 := by omega
  clear ho2
  go_wp2_with (go_at_call 44; refine (next_any s 3 a L c zs _ (by decide) (by decide) S2.out).mono ?_; rintro e w3 ⟨y, rfl, y0, y1, hs3, ho3⟩; have S3 := Lib.hid hs3; have Y3 := Lib.hid (only_trans Y2.out ho3); have O3 := Lib.hid (own_only O2.out ho3 (by omega)); have N3 := Lib.hid (N2.out.grown ho3 (fun e => by have := Option.some.inj e; omega)); have P3 := Lib.hid (P2.out.grown ho3 (fun e => by have := Option.some.inj e; omega)); have Z3 := ho3.size; obtain ⟨q0, f0⟩ := N3.out.cell 0 _ rfl; obtain ⟨q1, f1⟩ := N3.out.cell 1 _ rfl; obtain ⟨q2, f2⟩ := N3.out.cell 2 _ rfl; obtain ⟨q3, f3⟩ := N3.out.cell 3 _ rfl; obtain ⟨q4, f4⟩ := N3.out.cell 4 _ rfl; obtain ⟨q5, f5⟩ := N3.out.cell 5 _ rfl; clear hs3 ho3)
  · clear q0 q1 q2 q3 q4 q5 f0 f1 f2 f3 f4 f5 O3 O2 hA2
    obtain ⟨i0, hi, hz0, hz1, hz2⟩ := info_parts infoInt
    have L0 : Hid (LowSt w0 w3.heap.size w1.heap.size s a L c zs [.int .i64 vh, .int .i64 vl, .int .i64 vm, .int .i64 vb, .bool vhi, .int .i64 vlo] [.int .i64 0, .int .i64 0, .int .i64 0, .int .i64 0, .bool false, .int .i64 0] [] (.slice (some ⟨w3.heap.size, 0, none⟩) 0 0) (w3.alloc (.cells #[] 2))) := Lib.hid ⟨(grow_start w3).1, src_alloc S3.out _, only_alloc Y3.out _, N3.out.below (bl_alloc (bl_refl _) _), P3.out.below (bl_alloc (bl_refl _) _), by simp⟩
    generalize (y == 0) = yb
    go_loopw [7, 8] (fun v i wr => ∃ q : Nat, q ≤ 52 ∧ i = .int .i64 q ∧ Hid (LowSt w0 w3.heap.size w1.heap.size s a L c zs [.int .i64 vh, .int .i64 vl, .int .i64 vm, .int .i64 vb, .bool vhi, .int .i64 vlo] [.int .i64 0, .int .i64 0, .int .i64 0, .int .i64 0, .bool false, .int .i64 0] (lowL q) v wr)) (fun _ i _ => 52 - (intOf i).toNat)
    case atStart => exact ⟨0, by omega, rfl, L0⟩
    case round =>
      obtain ⟨q, hq, rfl, hs⟩ := hrel
      by_cases hlt : q < 52
      · have hlt' : (q : Int) < 52 := by omega
        have KR := Lib.hid (fun (W : World) => rank5_any (q : Int) W (by omega) (by omega))
        have hle := lowL_le q
        by_cases h8 : lr (q : Int) < 8
        · have EL := Lib.hid (lowL_yes h8)
          generalize lr (q : Int) = r at *
          go_wp2_with (first
            | (go_at_call 45; refine (KR.out _).mono ?_; rintro e w4 ⟨rfl, rfl⟩)
            | (at_builtin; refine wpList_append_own _ rfl _ _ 26 rfl w3.heap.size 2 i0 (.int .i64 0) 1 8 Tryz.underlying26 hi hz0 hz1 hz2 rfl (by decide) _ _ _ rfl (hs.out.own.below (bl_alloc (bl_refl _) _)) ⟨wr.heap.size, 0, none⟩ 1 1 [.int .i64 (q : Int)] rfl rfl ?c1 ?c2 ?c3 ?c4 ?c5 ?_))
          case c1 =>
            intro j u hj
            match j, hj with
            | 0, hj => simp at hj; subst hj; simp [Addr.add]
          case c2 => intro u hu; simp at hu; subst hu; rfl
          case c3 => unfold maxLen; omega
          case c4 => omega
          case c5 => have := hs.out.le; simp; omega
          intro v' w5 hown5 hgrow5 _
          have D5 := Lib.hid (hs.out.app HS HB.out (by omega) (by omega) hown5 hgrow5)
          clear hown5 hgrow5
          go_wp2_with fail
          go_roundw
          case rel => exact ⟨q + 1, by omega, by go_num, by rw [EL.out]; exact D5⟩
          case measure => simp [intOf]; omega
        · have EL := Lib.hid (lowL_no h8)
          generalize lr (q : Int) = r at *
          go_wp2_with (go_at_call 45; refine (KR.out _).mono ?_; rintro e w4 ⟨rfl, rfl⟩)
          go_roundw
          case rel => exact ⟨q + 1, by omega, by go_num, by rw [EL.out]; exact hs⟩
          case measure => simp [intOf]; omega
      · obtain rfl : q = 52 := by omega
        obtain ⟨A4, c4, rfl, ho4⟩ := own_form hs.out.own
        have hl4 := lowL_len
        have KP := Lib.hid (pickList_any s A4 c4 (lowL 52) a L c zs wr ho4.rd (fun x e => by have := (ho4.lo_le x e).1; omega) (by rw [hl4]; omega) hs.out.src)
        have HLe := hs.out.le
        have hsz := hs.out.only.size
        clear ho4
        generalize lowL 52 = l52 at *
        rw [hl4] at KP
        go_wp2_with (go_at_call 46; refine KP.out.mono ?_; rintro e w5 ⟨ys, A5, c5, rfl, ho5, hs5, hy5, hp5⟩; have hl5 : ys.length = 32 := (hp5.length_eq.trans hl4); obtain ⟨g5, rfl, hg5, hg5', hc5, _⟩ := own_some ho5 (by omega); have hg : w1.heap.size < g5 := (by omega); have O5 := Lib.hid ho5; have S5 := Lib.hid hs5; have Y5 := Lib.hid (only_trans hs.out.only hy5); have N5 := Lib.hid (hs.out.box.grown hy5 (fun e => by have := Option.some.inj e; omega)); have P5 := Lib.hid (hs.out.res.grown hy5 (fun e => by have := Option.some.inj e; omega)); obtain ⟨q0, f0⟩ := N5.out.cell 0 _ rfl; obtain ⟨q1, f1⟩ := N5.out.cell 1 _ rfl; obtain ⟨q2, f2⟩ := N5.out.cell 2 _ rfl; obtain ⟨q3, f3⟩ := N5.out.cell 3 _ rfl; obtain ⟨q4, f4⟩ := N5.out.cell 4 _ rfl; obtain ⟨q5, f5⟩ := N5.out.cell 5 _ rfl; have hsl := fun (W : World) => run_sliceTo g5 0 32 c5 n (by omega) W; have hst := fun (W : World) => run_sliceTo g5 0 n c5 k (by omega) W; have hsf := fun (W : World) => run_sliceFrom g5 0 n c5 k hkn W; clear hs5 hy5 ho5 hp5)
        have hcap : n ≤ c5 := by omega
        by_cases hA : 0 < k ∧ k < n
        · obtain ⟨ha1, ha2⟩ := hA
          have G1 : decide ((0 : Int) < ((n - k : Nat) : Int)) = true := decide_eq_true (by omega)
          have G2 : decide ((0 : Int) < (k : Int)) = true := decide_eq_true (by omega)
          have EF : fromAt g5 0 c5 k = some ⟨g5, 0 + k, none⟩ := by unfold fromAt; rw [if_neg (by omega)]
          rw [EF] at hsf
          simp only [Nat.zero_add] at hsf EF
          go_quiet (fail)
          go_wp2_with (go_at_call 44; refine (next_any s 24 a L c zs _ (by decide) (by decide) (S5.out.below (bl_drewN (bl_refl _) _))).mono ?_; rintro e w9 ⟨u, rfl, u0, u1, hs9, ho9⟩; have ho := only_trans (only_below (bl_drewN (bl_refl w5) _)) ho9; have S9 := Lib.hid hs9; have Y9 := Lib.hid (only_trans Y5.out ho); have O9 := Lib.hid (own_only O5.out ho (by omega)); have N9 := Lib.hid (N5.out.grown ho (fun e => by have := Option.some.inj e; omega)); have P9 := Lib.hid (P5.out.grown ho (fun e => by have := Option.some.inj e; omega)); obtain ⟨q0, f0⟩ := N9.out.cell 0 _ rfl; obtain ⟨q1, f1⟩ := N9.out.cell 1 _ rfl; obtain ⟨q2, f2⟩ := N9.out.cell 2 _ rfl; obtain ⟨q3, f3⟩ := N9.out.cell 3 _ rfl; obtain ⟨q4, f4⟩ := N9.out.cell 4 _ rfl; obtain ⟨q5, f5⟩ := N9.out.cell 5 _ rfl; obtain ⟨p0, z0⟩ := P9.out.cell 0 _ rfl; obtain ⟨p1, z1⟩ := P9.out.cell 1 _ rfl; obtain ⟨p2, z2⟩ := P9.out.cell 2 _ rfl; obtain ⟨p3, z3⟩ := P9.out.cell 3 _ rfl; obtain ⟨p4, z4⟩ := P9.out.cell 4 _ rfl; obtain ⟨p5, z5⟩ := P9.out.cell 5 _ rfl; have d0 := own_cell O9.out 0 (by omega); have dk := own_cell O9.out k (by omega); have fk := World.ownsRow.frozenAt O9.out k; clear hs9 ho9 ho)
          · have OS := own_setQ O9.out k (nth ys 0)
            exact draw_ret (P9.out.grown OS.2 (fun e => by have := Option.some.inj e; omega)) (src_grown S9.out OS.2 (fun j e => by obtain rfl := Option.some.inj e; omega) HS HB.out) (only_grown Y9.out OS.2 (fun j e => by obtain rfl := Option.some.inj e; omega)) HS HB.out vh vl vm vb vhi vlo b2 rfl _ _ _ ((ys.set k (nth ys 0)).take (k)) _ _ _ (((ys.set k (nth ys 0)).take n).drop k) rfl rfl (by simp only [List.length_take, List.length_set]; omega) (by simp only [List.length_drop, List.length_take, List.length_set]; omega) (by omega) (by omega) (by omega) (by omega) (rd_to OS.1.rd) (by have q := rd_from (c := c5) (n := k) (rd_to (n := n) OS.1.rd) (.inl (by simp only [List.length_take, List.length_set]; omega)); first | exact q | (rw [EF] at q; exact q)) (fun x e => by obtain rfl := Option.some.inj e; show w0.heap.size < g5; omega) (by intro x e; first | (have := fromAt_block e; omega) | (obtain rfl := Option.some.inj e; show w0.heap.size < g5; omega))
          · exact draw_ret P9.out S9.out Y9.out HS HB.out vh vl vm vb vhi vlo b2 rfl _ _ _ ((ys).take (k / 2)) _ _ _ (((ys).take n).drop k) rfl rfl (by simp only [List.length_take, List.length_set]; omega) (by simp only [List.length_drop, List.length_take, List.length_set]; omega) (by omega) (by omega) (by omega) (by omega) (rd_to O9.out.rd) (by have q := rd_from (c := c5) (n := k) (rd_to (n := n) O9.out.rd) (.inl (by simp only [List.length_take, List.length_set]; omega)); first | exact q | (rw [EF] at q; exact q)) (fun x e => by obtain rfl := Option.some.inj e; show w0.heap.size < g5; omega) (by intro x e; first | (have := fromAt_block e; omega) | (obtain rfl := Option.some.inj e; show w0.heap.size < g5; omega))
          · exact draw_ret P9.out S9.out Y9.out HS HB.out vh vl vm vb vhi vlo b2 rfl _ _ _ ((ys).take (k)) _ _ _ (((ys).take n).drop k) rfl rfl (by simp only [List.length_take, List.length_set]; omega) (by simp only [List.length_drop, List.length_take, List.length_set]; omega) (by omega) (by omega) (by omega) (by omega) (rd_to O9.out.rd) (by have q := rd_from (c := c5) (n := k) (rd_to (n := n) O9.out.rd) (.inl (by simp only [List.length_take, List.length_set]; omega)); first | exact q | (rw [EF] at q; exact q)) (fun x e => by obtain rfl := Option.some.inj e; show w0.heap.size < g5; omega) (by intro x e; first | (have := fromAt_block e; omega) | (obtain rfl := Option.some.inj e; show w0.heap.size < g5; omega))
        · by_cases hB : k < n
          · have ha1 : k ≤ 0 := by omega
            have G1 : decide ((0 : Int) < ((n - k : Nat) : Int)) = true := decide_eq_true (by omega)
            have G2 : decide ((0 : Int) < (k : Int)) = false := decide_eq_false (by omega)
            go_quiet (fail)
            go_wp2_with (go_at_call 44; refine (next_any s 24 a L c zs _ (by decide) (by decide) (S5.out.below (bl_drewN (bl_refl _) _))).mono ?_; rintro e w9 ⟨u, rfl, u0, u1, hs9, ho9⟩; have ho := only_trans (only_below (bl_drewN (bl_refl w5) _)) ho9; have S9 := Lib.hid hs9; have Y9 := Lib.hid (only_trans Y5.out ho); have O9 := Lib.hid (own_only O5.out ho (by omega)); have N9 := Lib.hid (N5.out.grown ho (fun e => by have := Option.some.inj e; omega)); have P9 := Lib.hid (P5.out.grown ho (fun e => by have := Option.some.inj e; omega)); obtain ⟨q0, f0⟩ := N9.out.cell 0 _ rfl; obtain ⟨q1, f1⟩ := N9.out.cell 1 _ rfl; obtain ⟨q2, f2⟩ := N9.out.cell 2 _ rfl; obtain ⟨q3, f3⟩ := N9.out.cell 3 _ rfl; obtain ⟨q4, f4⟩ := N9.out.cell 4 _ rfl; obtain ⟨q5, f5⟩ := N9.out.cell 5 _ rfl; obtain ⟨p0, z0⟩ := P9.out.cell 0 _ rfl; obtain ⟨p1, z1⟩ := P9.out.cell 1 _ rfl; obtain ⟨p2, z2⟩ := P9.out.cell 2 _ rfl; obtain ⟨p3, z3⟩ := P9.out.cell 3 _ rfl; obtain ⟨p4, z4⟩ := P9.out.cell 4 _ rfl; obtain ⟨p5, z5⟩ := P9.out.cell 5 _ rfl; clear hs9 ho9 ho)
            · exact draw_ret P9.out S9.out Y9.out HS HB.out vh vl vm vb vhi vlo b2 rfl _ _ _ ((ys).take (k)) _ _ _ (((ys).take n).drop k) rfl rfl (by simp only [List.length_take, List.length_set]; omega) (by simp only [List.length_drop, List.length_take, List.length_set]; omega) (by omega) (by omega) (by omega) (by omega) (rd_to O9.out.rd) (by have q := rd_from (c := c5) (n := k) (rd_to (n := n) O9.out.rd) (.inl (by simp only [List.length_take, List.length_set]; omega)); first | exact q | (rw [EF] at q; exact q)) (fun x e => by obtain rfl := Option.some.inj e; show w0.heap.size < g5; omega) (by intro x e; first | (have := fromAt_block e; omega) | (obtain rfl := Option.some.inj e; show w0.heap.size < g5; omega))
            · exact draw_ret P9.out S9.out Y9.out HS HB.out vh vl vm vb vhi vlo b2 rfl _ _ _ ((ys).take (k / 2)) _ _ _ (((ys).take n).drop k) rfl rfl (by simp only [List.length_take, List.length_set]; omega) (by simp only [List.length_drop, List.length_take, List.length_set]; omega) (by omega) (by omega) (by omega) (by omega) (rd_to O9.out.rd) (by have q := rd_from (c := c5) (n := k) (rd_to (n := n) O9.out.rd) (.inl (by simp only [List.length_take, List.length_set]; omega)); first | exact q | (rw [EF] at q; exact q)) (fun x e => by obtain rfl := Option.some.inj e; show w0.heap.size < g5; omega) (by intro x e; first | (have := fromAt_block e; omega) | (obtain rfl := Option.some.inj e; show w0.heap.size < g5; omega))
            · exact draw_ret P9.out S9.out Y9.out HS HB.out vh vl vm vb vhi vlo b2 rfl _ _ _ ((ys).take (k)) _ _ _ (((ys).take n).drop k) rfl rfl (by simp only [List.length_take, List.length_set]; omega) (by simp only [List.length_drop, List.length_take, List.length_set]; omega) (by omega) (by omega) (by omega) (by omega) (rd_to O9.out.rd) (by have q := rd_from (c := c5) (n := k) (rd_to (n := n) O9.out.rd) (.inl (by simp only [List.length_take, List.length_set]; omega)); first | exact q | (rw [EF] at q; exact q)) (fun x e => by obtain rfl := Option.some.inj e; show w0.heap.size < g5; omega) (by intro x e; first | (have := fromAt_block e; omega) | (obtain rfl := Option.some.inj e; show w0.heap.size < g5; omega))
          · have ha1 : n ≤ k := by omega
            have G1 : decide ((0 : Int) < ((n - k : Nat) : Int)) = false := decide_eq_false (by omega)
            go_quiet (fail)
            go_wp2_with (go_at_call 44; refine (next_any s 24 a L c zs _ (by decide) (by decide) (S5.out.below (bl_drewN (bl_refl _) _))).mono ?_; rintro e w9 ⟨u, rfl, u0, u1, hs9, ho9⟩; have ho := only_trans (only_below (bl_drewN (bl_refl w5) _)) ho9; have S9 := Lib.hid hs9; have Y9 := Lib.hid (only_trans Y5.out ho); have O9 := Lib.hid (own_only O5.out ho (by omega)); have N9 := Lib.hid (N5.out.grown ho (fun e => by have := Option.some.inj e; omega)); have P9 := Lib.hid (P5.out.grown ho (fun e => by have := Option.some.inj e; omega)); obtain ⟨q0, f0⟩ := N9.out.cell 0 _ rfl; obtain ⟨q1, f1⟩ := N9.out.cell 1 _ rfl; obtain ⟨q2, f2⟩ := N9.out.cell 2 _ rfl; obtain ⟨q3, f3⟩ := N9.out.cell 3 _ rfl; obtain ⟨q4, f4⟩ := N9.out.cell 4 _ rfl; obtain ⟨q5, f5⟩ := N9.out.cell 5 _ rfl; obtain ⟨p0, z0⟩ := P9.out.cell 0 _ rfl; obtain ⟨p1, z1⟩ := P9.out.cell 1 _ rfl; obtain ⟨p2, z2⟩ := P9.out.cell 2 _ rfl; obtain ⟨p3, z3⟩ := P9.out.cell 3 _ rfl; obtain ⟨p4, z4⟩ := P9.out.cell 4 _ rfl; obtain ⟨p5, z5⟩ := P9.out.cell 5 _ rfl; clear hs9 ho9 ho)
            · exact draw_ret P9.out S9.out Y9.out HS HB.out vh vl vm vb vhi vlo b2 rfl _ _ _ ((ys).take (k)) _ _ _ (((ys).take n).drop k) rfl rfl (by simp only [List.length_take, List.length_set]; omega) (by simp only [List.length_drop, List.length_take, List.length_set]; omega) (by omega) (by omega) (by omega) (by omega) (rd_to O9.out.rd) (by have q := rd_from (c := c5) (n := k) (rd_to (n := n) O9.out.rd) (.inl (by simp only [List.length_take, List.length_set]; omega)); first | exact q | (rw [EF] at q; exact q)) (fun x e => by obtain rfl := Option.some.inj e; show w0.heap.size < g5; omega) (by intro x e; first | (have := fromAt_block e; omega) | (obtain rfl := Option.some.inj e; show w0.heap.size < g5; omega))
            · exact draw_ret P9.out S9.out Y9.out HS HB.out vh vl vm vb vhi vlo b2 rfl _ _ _ ((ys).take (k / 2)) _ _ _ (((ys).take n).drop k) rfl rfl (by simp only [List.length_take, List.length_set]; omega) (by simp only [List.length_drop, List.length_take, List.length_set]; omega) (by omega) (by omega) (by omega) (by omega) (rd_to O9.out.rd) (by have q := rd_from (c := c5) (n := k) (rd_to (n := n) O9.out.rd) (.inl (by simp only [List.length_take, List.length_set]; omega)); first | exact q | (rw [EF] at q; exact q)) (fun x e => by obtain rfl := Option.some.inj e; show w0.heap.size < g5; omega) (by intro x e; first | (have := fromAt_block e; omega) | (obtain rfl := Option.some.inj e; show w0.heap.size < g5; omega))
            · exact draw_ret P9.out S9.out Y9.out HS HB.out vh vl vm vb vhi vlo b2 rfl _ _ _ ((ys).take (k)) _ _ _ (((ys).take n).drop k) rfl rfl (by simp only [List.length_take, List.length_set]; omega) (by simp only [List.length_drop, List.length_take, List.length_set]; omega) (by omega) (by omega) (by omega) (by omega) (rd_to O9.out.rd) (by have q := rd_from (c := c5) (n := k) (rd_to (n := n) O9.out.rd) (.inl (by simp only [List.length_take, List.length_set]; omega)); first | exact q | (rw [EF] at q; exact q)) (fun x e => by obtain rfl := Option.some.inj e; show w0.heap.size < g5; omega) (by intro x e; first | (have := fromAt_block e; omega) | (obtain rfl := Option.some.inj e; show w0.heap.size < g5; omega))
  · rcases hA2 with ⟨rfl, rfl, hn0⟩ | ⟨g, rfl, hg, hcap⟩
    · obtain rfl : k = 0 := by omega
      subst hn0
      have z0 : ((0 : Nat) : Int) = 0 := rfl
      simp only [z0] at E2 ⊢
      have hst := nil_to
      have hsf := nil_from
      go_quiet (fail)
      go_wp2_with (go_at_call 44; refine (next_any s 24 a L c zs _ (by decide) (by decide) (S3.out.below (bl_drewN (bl_refl _) _))).mono ?_; rintro e w9 ⟨u, rfl, u0, u1, hs9, ho9⟩; have ho := only_trans (only_below (bl_drewN (bl_refl w3) _)) ho9; have S9 := Lib.hid hs9; have Y9 := Lib.hid (only_trans Y3.out ho); have N9 := Lib.hid (N3.out.grown ho (fun e => by have := Option.some.inj e; omega)); have P9 := Lib.hid (P3.out.grown ho (fun e => by have := Option.some.inj e; omega)); obtain ⟨q0, f0⟩ := N9.out.cell 0 _ rfl; obtain ⟨q1, f1⟩ := N9.out.cell 1 _ rfl; obtain ⟨q2, f2⟩ := N9.out.cell 2 _ rfl; obtain ⟨q3, f3⟩ := N9.out.cell 3 _ rfl; obtain ⟨q4, f4⟩ := N9.out.cell 4 _ rfl; obtain ⟨q5, f5⟩ := N9.out.cell 5 _ rfl; obtain ⟨p0, z0⟩ := P9.out.cell 0 _ rfl; obtain ⟨p1, z1⟩ := P9.out.cell 1 _ rfl; obtain ⟨p2, z2⟩ := P9.out.cell 2 _ rfl; obtain ⟨p3, z3⟩ := P9.out.cell 3 _ rfl; obtain ⟨p4, z4⟩ := P9.out.cell 4 _ rfl; obtain ⟨p5, z5⟩ := P9.out.cell 5 _ rfl; clear hs9 ho9 ho)
      all_goals exact draw_ret P9.out S9.out Y9.out HS HB.out vh vl vm vb vhi vlo b2 rfl none 0 0 [] none 0 0 [] rfl rfl rfl rfl (by omega) (by omega) (by omega) (by omega) (fun h => by simp at h) (fun h => by simp at h) (fun x e => by cases e) (fun x e => by cases e)
    · have hgs : g ≠ s := by omega
      have hst := fun (W : World) => run_sliceTo g 0 n c2 k (by omega) W
      have hsf := fun (W : World) => run_sliceFrom g 0 n c2 k hkn W
      by_cases hA : 0 < k ∧ k < n
      · obtain ⟨ha1, ha2⟩ := hA
        have G1 : decide ((0 : Int) < ((n - k : Nat) : Int)) = true := decide_eq_true (by omega)
        have G2 : decide ((0 : Int) < (k : Int)) = true := decide_eq_true (by omega)
        have EF : fromAt g 0 c2 k = some ⟨g, 0 + k, none⟩ := by unfold fromAt; rw [if_neg (by omega)]
        rw [EF] at hsf
        simp only [Nat.zero_add] at hsf EF
        go_quiet (fail)
        go_wp2_with (go_at_call 44; refine (next_any s 24 a L c zs _ (by decide) (by decide) (S3.out.below (bl_drewN (bl_refl _) _))).mono ?_; rintro e w9 ⟨u, rfl, u0, u1, hs9, ho9⟩; have ho := only_trans (only_below (bl_drewN (bl_refl w3) _)) ho9; have S9 := Lib.hid hs9; have Y9 := Lib.hid (only_trans Y3.out ho); have O9 := Lib.hid (own_only O3.out ho (by omega)); have N9 := Lib.hid (N3.out.grown ho (fun e => by have := Option.some.inj e; omega)); have P9 := Lib.hid (P3.out.grown ho (fun e => by have := Option.some.inj e; omega)); obtain ⟨q0, f0⟩ := N9.out.cell 0 _ rfl; obtain ⟨q1, f1⟩ := N9.out.cell 1 _ rfl; obtain ⟨q2, f2⟩ := N9.out.cell 2 _ rfl; obtain ⟨q3, f3⟩ := N9.out.cell 3 _ rfl; obtain ⟨q4, f4⟩ := N9.out.cell 4 _ rfl; obtain ⟨q5, f5⟩ := N9.out.cell 5 _ rfl; obtain ⟨p0, z0⟩ := P9.out.cell 0 _ rfl; obtain ⟨p1, z1⟩ := P9.out.cell 1 _ rfl; obtain ⟨p2, z2⟩ := P9.out.cell 2 _ rfl; obtain ⟨p3, z3⟩ := P9.out.cell 3 _ rfl; obtain ⟨p4, z4⟩ := P9.out.cell 4 _ rfl; obtain ⟨p5, z5⟩ := P9.out.cell 5 _ rfl; have d0 := own_cell O9.out 0 (by omega); have dk := own_cell O9.out k (by omega); have fk := World.ownsRow.frozenAt O9.out k; clear hs9 ho9 ho)
        · have OS := own_setQ O9.out k (nth xs 0)
          exact draw_ret (P9.out.grown OS.2 (fun e => by have := Option.some.inj e; omega)) (src_grown S9.out OS.2 (fun j e => by obtain rfl := Option.some.inj e; omega) HS HB.out) (only_grown Y9.out OS.2 (fun j e => by obtain rfl := Option.some.inj e; omega)) HS HB.out vh vl vm vb vhi vlo b2 rfl _ _ _ ((xs.set k (nth xs 0)).take (k)) _ _ _ (((xs.set k (nth xs 0)).take n).drop k) rfl rfl (by simp only [List.length_take, List.length_set]; omega) (by simp only [List.length_drop, List.length_take, List.length_set]; omega) (by omega) (by omega) (by omega) (by omega) (rd_to OS.1.rd) (by have q := rd_from (c := c2) (n := k) (rd_to (n := n) OS.1.rd) (.inl (by simp only [List.length_take, List.length_set]; omega)); first | exact q | (rw [EF] at q; exact q)) (fun x e => by obtain rfl := Option.some.inj e; show w0.heap.size < g; omega) (by intro x e; first | (have := fromAt_block e; omega) | (obtain rfl := Option.some.inj e; show w0.heap.size < g; omega))
        · exact draw_ret P9.out S9.out Y9.out HS HB.out vh vl vm vb vhi vlo b2 rfl _ _ _ ((xs).take (k / 2)) _ _ _ (((xs).take n).drop k) rfl rfl (by simp only [List.length_take, List.length_set]; omega) (by simp only [List.length_drop, List.length_take, List.length_set]; omega) (by omega) (by omega) (by omega) (by omega) (rd_to O9.out.rd) (by have q := rd_from (c := c2) (n := k) (rd_to (n := n) O9.out.rd) (.inl (by simp only [List.length_take, List.length_set]; omega)); first | exact q | (rw [EF] at q; exact q)) (fun x e => by obtain rfl := Option.some.inj e; show w0.heap.size < g; omega) (by intro x e; first | (have := fromAt_block e; omega) | (obtain rfl := Option.some.inj e; show w0.heap.size < g; omega))
        · exact draw_ret P9.out S9.out Y9.out HS HB.out vh vl vm vb vhi vlo b2 rfl _ _ _ ((xs).take (k)) _ _ _ (((xs).take n).drop k) rfl rfl (by simp only [List.length_take, List.length_set]; omega) (by simp only [List.length_drop, List.length_take, List.length_set]; omega) (by omega) (by omega) (by omega) (by omega) (rd_to O9.out.rd) (by have q := rd_from (c := c2) (n := k) (rd_to (n := n) O9.out.rd) (.inl (by simp only [List.length_take, List.length_set]; omega)); first | exact q | (rw [EF] at q; exact q)) (fun x e => by obtain rfl := Option.some.inj e; show w0.heap.size < g; omega) (by intro x e; first | (have := fromAt_block e; omega) | (obtain rfl := Option.some.inj e; show w0.heap.size < g; omega))
      · by_cases hB : k < n
        · have ha1 : k ≤ 0 := by omega
          have G1 : decide ((0 : Int) < ((n - k : Nat) : Int)) = true := decide_eq_true (by omega)
          have G2 : decide ((0 : Int) < (k : Int)) = false := decide_eq_false (by omega)
          go_quiet (fail)
          go_wp2_with (go_at_call 44; refine (next_any s 24 a L c zs _ (by decide) (by decide) (S3.out.below (bl_drewN (bl_refl _) _))).mono ?_; rintro e w9 ⟨u, rfl, u0, u1, hs9, ho9⟩; have ho := only_trans (only_below (bl_drewN (bl_refl w3) _)) ho9; have S9 := Lib.hid hs9; have Y9 := Lib.hid (only_trans Y3.out ho); have O9 := Lib.hid (own_only O3.out ho (by omega)); have N9 := Lib.hid (N3.out.grown ho (fun e => by have := Option.some.inj e; omega)); have P9 := Lib.hid (P3.out.grown ho (fun e => by have := Option.some.inj e; omega)); obtain ⟨q0, f0⟩ := N9.out.cell 0 _ rfl; obtain ⟨q1, f1⟩ := N9.out.cell 1 _ rfl; obtain ⟨q2, f2⟩ := N9.out.cell 2 _ rfl; obtain ⟨q3, f3⟩ := N9.out.cell 3 _ rfl; obtain ⟨q4, f4⟩ := N9.out.cell 4 _ rfl; obtain ⟨q5, f5⟩ := N9.out.cell 5 _ rfl; obtain ⟨p0, z0⟩ := P9.out.cell 0 _ rfl; obtain ⟨p1, z1⟩ := P9.out.cell 1 _ rfl; obtain ⟨p2, z2⟩ := P9.out.cell 2 _ rfl; obtain ⟨p3, z3⟩ := P9.out.cell 3 _ rfl; obtain ⟨p4, z4⟩ := P9.out.cell 4 _ rfl; obtain ⟨p5, z5⟩ := P9.out.cell 5 _ rfl; clear hs9 ho9 ho)
          · exact draw_ret P9.out S9.out Y9.out HS HB.out vh vl vm vb vhi vlo b2 rfl _ _ _ ((xs).take (k)) _ _ _ (((xs).take n).drop k) rfl rfl (by simp only [List.length_take, List.length_set]; omega) (by simp only [List.length_drop, List.length_take, List.length_set]; omega) (by omega) (by omega) (by omega) (by omega) (rd_to O9.out.rd) (by have q := rd_from (c := c2) (n := k) (rd_to (n := n) O9.out.rd) (.inl (by simp only [List.length_take, List.length_set]; omega)); first | exact q | (rw [EF] at q; exact q)) (fun x e => by obtain rfl := Option.some.inj e; show w0.heap.size < g; omega) (by intro x e; first | (have := fromAt_block e; omega) | (obtain rfl := Option.some.inj e; show w0.heap.size < g; omega))
          · exact draw_ret P9.out S9.out Y9.out HS HB.out vh vl vm vb vhi vlo b2 rfl _ _ _ ((xs).take (k / 2)) _ _ _ (((xs).take n).drop k) rfl rfl (by simp only [List.length_take, List.length_set]; omega) (by simp only [List.length_drop, List.length_take, List.length_set]; omega) (by omega) (by omega) (by omega) (by omega) (rd_to O9.out.rd) (by have q := rd_from (c := c2) (n := k) (rd_to (n := n) O9.out.rd) (.inl (by simp only [List.length_take, List.length_set]; omega)); first | exact q | (rw [EF] at q; exact q)) (fun x e => by obtain rfl := Option.some.inj e; show w0.heap.size < g; omega) (by intro x e; first | (have := fromAt_block e; omega) | (obtain rfl := Option.some.inj e; show w0.heap.size < g; omega))
          · exact draw_ret P9.out S9.out Y9.out HS HB.out vh vl vm vb vhi vlo b2 rfl _ _ _ ((xs).take (k)) _ _ _ (((xs).take n).drop k) rfl rfl (by simp only [List.length_take, List.length_set]; omega) (by simp only [List.length_drop, List.length_take, List.length_set]; omega) (by omega) (by omega) (by omega) (by omega) (rd_to O9.out.rd) (by have q := rd_from (c := c2) (n := k) (rd_to (n := n) O9.out.rd) (.inl (by simp only [List.length_take, List.length_set]; omega)); first | exact q | (rw [EF] at q; exact q)) (fun x e => by obtain rfl := Option.some.inj e; show w0.heap.size < g; omega) (by intro x e; first | (have := fromAt_block e; omega) | (obtain rfl := Option.some.inj e; show w0.heap.size < g; omega))
        · have ha1 : n ≤ k := by omega
          have G1 : decide ((0 : Int) < ((n - k : Nat) : Int)) = false := decide_eq_false (by omega)
          go_quiet (fail)
          go_wp2_with (go_at_call 44; refine (next_any s 24 a L c zs _ (by decide) (by decide) (S3.out.below (bl_drewN (bl_refl _) _))).mono ?_; rintro e w9 ⟨u, rfl, u0, u1, hs9, ho9⟩; have ho := only_trans (only_below (bl_drewN (bl_refl w3) _)) ho9; have S9 := Lib.hid hs9; have Y9 := Lib.hid (only_trans Y3.out ho); have O9 := Lib.hid (own_only O3.out ho (by omega)); have N9 := Lib.hid (N3.out.grown ho (fun e => by have := Option.some.inj e; omega)); have P9 := Lib.hid (P3.out.grown ho (fun e => by have := Option.some.inj e; omega)); obtain ⟨q0, f0⟩ := N9.out.cell 0 _ rfl; obtain ⟨q1, f1⟩ := N9.out.cell 1 _ rfl; obtain ⟨q2, f2⟩ := N9.out.cell 2 _ rfl; obtain ⟨q3, f3⟩ := N9.out.cell 3 _ rfl; obtain ⟨q4, f4⟩ := N9.out.cell 4 _ rfl; obtain ⟨q5, f5⟩ := N9.out.cell 5 _ rfl; obtain ⟨p0, z0⟩ := P9.out.cell 0 _ rfl; obtain ⟨p1, z1⟩ := P9.out.cell 1 _ rfl; obtain ⟨p2, z2⟩ := P9.out.cell 2 _ rfl; obtain ⟨p3, z3⟩ := P9.out.cell 3 _ rfl; obtain ⟨p4, z4⟩ := P9.out.cell 4 _ rfl; obtain ⟨p5, z5⟩ := P9.out.cell 5 _ rfl; clear hs9 ho9 ho)
          · exact draw_ret P9.out S9.out Y9.out HS HB.out vh vl vm vb vhi vlo b2 rfl _ _ _ ((xs).take (k)) _ _ _ (((xs).take n).drop k) rfl rfl (by simp only [List.length_take, List.length_set]; omega) (by simp only [List.length_drop, List.length_take, List.length_set]; omega) (by omega) (by omega) (by omega) (by omega) (rd_to O9.out.rd) (by have q := rd_from (c := c2) (n := k) (rd_to (n := n) O9.out.rd) (.inl (by simp only [List.length_take, List.length_set]; omega)); first | exact q | (rw [EF] at q; exact q)) (fun x e => by obtain rfl := Option.some.inj e; show w0.heap.size < g; omega) (by intro x e; first | (have := fromAt_block e; omega) | (obtain rfl := Option.some.inj e; show w0.heap.size < g; omega))
          · exact draw_ret P9.out S9.out Y9.out HS HB.out vh vl vm vb vhi vlo b2 rfl _ _ _ ((xs).take (k / 2)) _ _ _ (((xs).take n).drop k) rfl rfl (by simp only [List.length_take, List.length_set]; omega) (by simp only [List.length_drop, List.length_take, List.length_set]; omega) (by omega) (by omega) (by omega) (by omega) (rd_to O9.out.rd) (by have q := rd_from (c := c2) (n := k) (rd_to (n := n) O9.out.rd) (.inl (by simp only [List.length_take, List.length_set]; omega)); first | exact q | (rw [EF] at q; exact q)) (fun x e => by obtain rfl := Option.some.inj e; show w0.heap.size < g; omega) (by intro x e; first | (have := fromAt_block e; omega) | (obtain rfl := Option.some.inj e; show w0.heap.size < g; omega))
          · exact draw_ret P9.out S9.out Y9.out HS HB.out vh vl vm vb vhi vlo b2 rfl _ _ _ ((xs).take (k)) _ _ _ (((xs).take n).drop k) rfl rfl (by simp only [List.length_take, List.length_set]; omega) (by simp only [List.length_drop, List.length_take, List.length_set]; omega) (by omega) (by omega) (by omega) (by omega) (rd_to O9.out.rd) (by have q := rd_from (c := c2) (n := k) (rd_to (n := n) O9.out.rd) (.inl (by simp only [List.length_take, List.length_set]; omega)); first | exact q | (rw [EF] at q; exact q)) (fun x e => by obtain rfl := Option.some.inj e; show w0.heap.size < g; omega) (by intro x e; first | (have := fromAt_block e; omega) | (obtain rfl := Option.some.inj e; show w0.heap.size < g; omega))
end Go.Proofs.YtlpkaflmhdgmmaaGreatDoor

/-! DrawBestHandIn: what FnVariantValues draws. -/
namespace Go.Proofs.YtlpkaflmhdgmmaaGreatDoor
open Go.RowKit
set_option linter.unusedVariables false

/-- A variant and two lists that a law draws from its code. -/
def DrawnV (w : World) (e : Ending) (w' : World) : Prop :=
  ∃ (h l m b : Int) (hi : Bool) (lo : Int) (A : Option Addr) (cc : Nat) (hs : List Int) (A2 : Option Addr) (c2 : Nat) (bs : List Int), e = .returned (.tuple #[vV h l m b hi lo, .slice A hs.length cc, .slice A2 bs.length c2]) ∧ (-10 ≤ m ∧ m ≤ 10) ∧ hs.length ≤ 20 ∧ bs.length ≤ 20 ∧ hs.length ≤ cc ∧ bs.length ≤ c2 ∧
    Rd w' A hs ∧ Rd w' A2 bs ∧ Below w.heap.size w w'
set_option maxRecDepth 100000 in
set_option maxHeartbeats 2000000 in
theorem drawBestIn_any (a : Option Addr) (L c : Nat) (zs : Nat → Int) (w : World) (hL : L ≤ 4096) (hc : CodeIn w a L zs) :
    Calls Tryz.prog 6 #[.slice a L c] w (DrawnV w) := by
  obtain ⟨w0, rfl⟩ : ∃ w0 : World, w0 = w := ⟨w, rfl⟩
  have KF := Lib.hid (fun (W : World) (hb : Below w0.heap.size w0 W) => from_any a L c zs W hL (codeIn_below hc hb))
  have B0 := Lib.hid (bl_alloc (bl_refl w0) (.cells #[.int .i64 0, .int .i64 0, .int .i64 0, .int .i64 0, .bool false, .int .i64 0] 25))
  clear hc
  go_enter Tryz.func6, Tryz.ntmps6
  go_wp2_with (first
    | (go_at_call 23; refine (KF.out _ B0.out).mono ?_; rintro e w1 ⟨rfl, hs1, hb1⟩; rw [World.size_alloc] at hs1; have KD := Lib.hid (draw6_any _ _ _ _ _ _ hs1); have P1 := Lib.hid ((blk_new w0 25 [.int .i64 0, .int .i64 0, .int .i64 0, .int .i64 0, .bool false, .int .i64 0]).below hb1); have B1 := Lib.hid (bl_trans B0.out hb1); clear hs1 hb1)
    | (go_at_call 22; refine (KD.out).mono ?_; rintro e w2 ⟨vh, vl, vm, vb, vhi, vlo, A, cc, hs, A2, c2, bs, rfl, b2, l1, l2, l3, l4, r1, r2, ne1, ne2, hs2, ho2⟩; have P2 := P1.out.grown ho2 (fun e => by have := Option.some.inj e; omega); have B2 := Lib.hid (below_only (Nat.le_succ _) B1.out.size ho2); obtain ⟨q0, f0⟩ := P2.cell 0 _ rfl; obtain ⟨q1, f1⟩ := P2.cell 1 _ rfl; obtain ⟨q2, f2⟩ := P2.cell 2 _ rfl; obtain ⟨q3, f3⟩ := P2.cell 3 _ rfl; obtain ⟨q4, f4⟩ := P2.cell 4 _ rfl; obtain ⟨q5, f5⟩ := P2.cell 5 _ rfl; have P2 := Lib.hid P2; unfold vV))
  have hz1 : w0.heap.size < w1.heap.size := by have := B1.out.size; have := P1.out.lt; omega
  obtain ⟨hb, hg⟩ := blk_six P2.out (.int .i64 vh) (.int .i64 vl) (.int .i64 vm) (.int .i64 vb) (.bool vhi) (.int .i64 vlo)
  obtain ⟨W, eW⟩ : ∃ W, W = ((((((w2.setCell ⟨w0.heap.size, 0, none⟩ (.int .i64 vh)).setCell ⟨w0.heap.size, 1, none⟩ (.int .i64 vl)).setCell ⟨w0.heap.size, 2, none⟩ (.int .i64 vm)).setCell ⟨w0.heap.size, 3, none⟩ (.int .i64 vb)).setCell ⟨w0.heap.size, 4, none⟩ (.bool vhi)).setCell ⟨w0.heap.size, 5, none⟩ (.int .i64 vlo)) := ⟨_, rfl⟩
  rw [← eW] at hb hg ⊢
  clear eW q0 q1 q2 q3 q4 q5
  obtain ⟨u0, _⟩ := hb.cell 0 _ rfl
  obtain ⟨u1, _⟩ := hb.cell 1 _ rfl
  obtain ⟨u2, _⟩ := hb.cell 2 _ rfl
  obtain ⟨u3, _⟩ := hb.cell 3 _ rfl
  obtain ⟨u4, _⟩ := hb.cell 4 _ rfl
  obtain ⟨u5, _⟩ := hb.cell 5 _ rfl
  exact bodyPost_ret (v := .tuple #[vV vh vl vm vb vhi vlo, .slice A hs.length cc, .slice A2 bs.length c2]) (by simp [results, Tryz.results6, go_sem, vV, u0, u1, u2, u3, u4, u5]) rfl
    ⟨_, _, _, _, _, _, _, _, _, _, _, _, rfl, b2, l1, l2, l3, l4, rd_grown r1 hg (fun x e q => by have := ne1 x e; have := Option.some.inj q; omega), rd_grown r2 hg (fun x e q => by have := ne2 x e; have := Option.some.inj q; omega), bl_blk (B1.out.trans B2.out) hg (Nat.le_refl _)⟩
end Go.Proofs.YtlpkaflmhdgmmaaGreatDoor
