/-
  The draw of a variant.
-/
import Derived.Test.YtjmfecjgomkofaaVariant
import Derived.Test.YtjmfecjgomkofaaDraws
import Derived.Test.YtjmfecjgomkofaaBase
namespace Go.Proofs.Ytjmfecjgomkofaa
open Go.RowKit
set_option linter.unusedVariables false

def stdCells : List Value := [.int .i64 2, .int .i64 0, .int .i64 2, .int .i64 5, .bool true, .int .i64 0, .int .i64 4, .int .i64 2, .int .i64 2, .int .i64 5, .bool true, .int .i64 0, .int .i64 4, .int .i64 2, .int .i64 2, .int .i64 5, .bool true, .int .i64 1, .int .i64 7, .int .i64 5, .int .i64 5, .int .i64 0, .bool true, .int .i64 0, .int .i64 7, .int .i64 5, .int .i64 5, .int .i64 0, .bool true, .int .i64 1, .int .i64 7, .int .i64 5, .int .i64 5, .int .i64 0, .bool false, .int .i64 2, .int .i64 5, .int .i64 5, .int .i64 5, .int .i64 0, .bool true, .int .i64 0, .int .i64 5, .int .i64 5, .int .i64 5, .int .i64 0, .bool false, .int .i64 3]
set_option maxRecDepth 100000 in
set_option maxHeartbeats 4000000 in
theorem stdCells_any (w : World) : Calls Try.prog 109 #[] w fun e w' => e = .returned (.slice (some ⟨w.heap.size, 0, none⟩) 8 8) ∧ Blk w' w.heap.size 25 stdCells ∧ Below w.heap.size w w' := by
  go_enter Try.func109, Try.ntmps109
  go_wp2_with fail
  go_ret
  exact ⟨rfl, blk_new w _ stdCells, bl_alloc (bl_refl w) _⟩
/-- One of the standard variants, as it lies there. -/
theorem std_row {W : World} {g : Nat} {t : TypeId} (h : Blk W g t stdCells) (j : Nat) (hj : j < 8) : ∃ (xh xl xm xb : Int) (xi : Bool) (xo : Int), W.cell? ⟨g, j * 6, none⟩ = some (.int .i64 xh) ∧ W.cell? ⟨g, j * 6 + 1, none⟩ = some (.int .i64 xl) ∧ W.cell? ⟨g, j * 6 + 2, none⟩ = some (.int .i64 xm) ∧ W.cell? ⟨g, j * 6 + 3, none⟩ = some (.int .i64 xb) ∧ W.cell? ⟨g, j * 6 + 4, none⟩ = some (.bool xi) ∧ W.cell? ⟨g, j * 6 + 5, none⟩ = some (.int .i64 xo) ∧ (0 ≤ xh ∧ xh ≤ 10) ∧ (0 ≤ xm ∧ xm ≤ 10) ∧ 0 ≤ xb ∧ xb ≤ 10 := by
  have h1 : j = 0 ∨ j = 1 ∨ j = 2 ∨ j = 3 ∨ j = 4 ∨ j = 5 ∨ j = 6 ∨ j = 7 := by omega
  rcases h1 with rfl | rfl | rfl | rfl | rfl | rfl | rfl | rfl <;>
    exact ⟨_, _, _, _, _, _, (h.cell _ _ rfl).1, (h.cell _ _ rfl).1, (h.cell _ _ rfl).1, (h.cell _ _ rfl).1, (h.cell _ _ rfl).1, (h.cell _ _ rfl).1, by decide, by decide, by decide, by decide⟩
/-- A drawn variant. -/
def VarD (w : World) (s : Nat) (a : Option Addr) (L c : Nat) (zs : Nat → Int) (e : Ending) (w' : World) : Prop :=
  ∃ (h l m b : Int) (hi : Bool) (lo : Int), e = .returned (vV h l m b hi lo) ∧ (-10 ≤ h ∧ h ≤ 10) ∧ (-10 ≤ m ∧ m ≤ 10) ∧ (-10 ≤ b ∧ b ≤ 10) ∧ Src w' s a L c zs ∧ Only s w w'
theorem pickV_row (ys : List Int) (N : Nat) (w : World) (s : Nat) (a : Option Addr) (L c : Nat) (zs : Nat → Int) (h : Src w s a L c zs) (hN : ys.length = N) (h1 : 1 < N) (h2 : N ≤ 100) (hb : ∀ i, i < N → -1 ≤ rowOf ys i ∧ rowOf ys i ≤ 8) :
    Calls Try.prog 103 #[.pointer (some ⟨s, 0, none⟩), .slice (some ⟨w.heap.size, 0, none⟩) N N] (w.alloc (.cells (ys.map (Value.int .i64)).toArray 2)) (Drew (-1) 8 (w.alloc (.cells (ys.map (Value.int .i64)).toArray 2)) s a L c zs) := by
  have hs := src_lt h
  exact pick_any s w.heap.size N (rowOf ys) (-1) 8 a L c zs _ (by omega) (by omega) (fun i hi => row_new ys 2 w i (by omega)) hb (by omega) (src_alloc h _)
theorem pickH_row (w : World) (s : Nat) (a : Option Addr) (L c : Nat) (zs : Nat → Int) (h : Src w s a L c zs) :
    Calls Try.prog 103 #[.pointer (some ⟨s, 0, none⟩), .slice (some ⟨w.heap.size, 0, none⟩) 4 4] (w.alloc (.cells #[.int .i64 0, .int .i64 1, .int .i64 7, .int .i64 8] 2)) (Drew (-1) 8 (w.alloc (.cells #[.int .i64 0, .int .i64 1, .int .i64 7, .int .i64 8] 2)) s a L c zs) :=
  pickV_row [0, 1, 7, 8] 4 w s a L c zs h rfl (by omega) (by omega) (by decide)
theorem pickB_row (w : World) (s : Nat) (a : Option Addr) (L c : Nat) (zs : Nat → Int) (h : Src w s a L c zs) :
    Calls Try.prog 103 #[.pointer (some ⟨s, 0, none⟩), .slice (some ⟨w.heap.size, 0, none⟩) 4 4] (w.alloc (.cells #[.int .i64 (-1), .int .i64 2, .int .i64 5, .int .i64 6] 2)) (Drew (-1) 8 (w.alloc (.cells #[.int .i64 (-1), .int .i64 2, .int .i64 5, .int .i64 6] 2)) s a L c zs) :=
  pickV_row [-1, 2, 5, 6] 4 w s a L c zs h rfl (by omega) (by omega) (by decide)
theorem pickM_row (w : World) (s : Nat) (a : Option Addr) (L c : Nat) (zs : Nat → Int) (h : Src w s a L c zs) :
    Calls Try.prog 103 #[.pointer (some ⟨s, 0, none⟩), .slice (some ⟨w.heap.size, 0, none⟩) 3 3] (w.alloc (.cells #[.int .i64 1, .int .i64 5, .int .i64 6] 2)) (Drew (-1) 8 (w.alloc (.cells #[.int .i64 1, .int .i64 5, .int .i64 6] 2)) s a L c zs) :=
  pickV_row [1, 5, 6] 3 w s a L c zs h rfl (by omega) (by omega) (by decide)
theorem src_setB {w : World} {s B g : Nat} {a : Option Addr} {L c : Nat} {zs : Nat → Int} (h : Src w s a L c zs) (hs : s < B) (hB : CodeB B a L) (hg : B ≤ g) (o : Nat) (v : Value) : Src (w.setCell ⟨g, o, none⟩ v) s a L c zs :=
  src_grown h (only_set (only_refl g w) o v) (fun j e => by obtain rfl := Option.some.inj e; exact hg) hs hB
theorem only_setB {w0 w : World} {s g : Nat} (h : Only s w0 w) (hg : w0.heap.size ≤ g) (o : Nat) (v : Value) : Only s w0 (w.setCell ⟨g, o, none⟩ v) :=
  only_grown h (only_set (only_refl g w) o v) (fun j e => by obtain rfl := Option.some.inj e; exact hg)
theorem blk_six {W : World} {g : Nat} {t : TypeId} {o0 o1 o2 o3 o4 o5 : Value} (h : Blk W g t [o0, o1, o2, o3, o4, o5]) (x0 x1 x2 x3 x4 x5 : Value) :
    Blk ((((((W.setCell ⟨g, 0, none⟩ (x0)).setCell ⟨g, 1, none⟩ (x1)).setCell ⟨g, 2, none⟩ (x2)).setCell ⟨g, 3, none⟩ (x3)).setCell ⟨g, 4, none⟩ (x4)).setCell ⟨g, 5, none⟩ (x5)) g t [x0, x1, x2, x3, x4, x5] ∧ W.grownBy ((((((W.setCell ⟨g, 0, none⟩ (x0)).setCell ⟨g, 1, none⟩ (x1)).setCell ⟨g, 2, none⟩ (x2)).setCell ⟨g, 3, none⟩ (x3)).setCell ⟨g, 4, none⟩ (x4)).setCell ⟨g, 5, none⟩ (x5)) (some g) := by
  have s0 := blk_set h 0 x0
  have s1 := blk_set s0.1 1 x1
  have s2 := blk_set s1.1 2 x2
  have s3 := blk_set s2.1 3 x3
  have s4 := blk_set s3.1 4 x4
  have s5 := blk_set s4.1 5 x5
  exact ⟨s5.1, ((((s0.2.trans s1.2).trans s2.2).trans s3.2).trans s4.2).trans s5.2⟩
set_option maxRecDepth 100000 in
set_option maxHeartbeats 1000000 in
theorem var_ret {tmps : Array Value} {w0 WB : World} {s : Nat} {a : Option Addr} {L c : Nat} {zs : Nat → Int} {o0 o1 o2 o3 o4 o5 : Value} (hP : Blk WB w0.heap.size 25 [o0, o1, o2, o3, o4, o5]) (hS : Src WB s a L c zs) (hY : Only s w0 WB) (HS : s < w0.heap.size) (HB : CodeB w0.heap.size a L)
    (h l m b : Int) (hi : Bool) (lo : Int) (b1 : -10 ≤ h ∧ h ≤ 10) (b2 : -10 ≤ m ∧ m ≤ 10) (b3 : -10 ≤ b ∧ b ≤ 10) (ht : tmps[2]? = some (.pointer (some ⟨w0.heap.size, 0, none⟩))) :
    bodyPost Try.prog Try.f80 (VarD w0 s a L c zs) .ret { tmps := tmps, defers := [] } ((((((WB.setCell ⟨w0.heap.size, 0, none⟩ (.int .i64 h)).setCell ⟨w0.heap.size, 1, none⟩ (.int .i64 l)).setCell ⟨w0.heap.size, 2, none⟩ (.int .i64 m)).setCell ⟨w0.heap.size, 3, none⟩ (.int .i64 b)).setCell ⟨w0.heap.size, 4, none⟩ (.bool hi)).setCell ⟨w0.heap.size, 5, none⟩ (.int .i64 lo)) := by
  obtain ⟨hb, hg⟩ := blk_six hP (.int .i64 h) (.int .i64 l) (.int .i64 m) (.int .i64 b) (.bool hi) (.int .i64 lo)
  obtain ⟨W, eW⟩ : ∃ W, W = ((((((WB.setCell ⟨w0.heap.size, 0, none⟩ (.int .i64 h)).setCell ⟨w0.heap.size, 1, none⟩ (.int .i64 l)).setCell ⟨w0.heap.size, 2, none⟩ (.int .i64 m)).setCell ⟨w0.heap.size, 3, none⟩ (.int .i64 b)).setCell ⟨w0.heap.size, 4, none⟩ (.bool hi)).setCell ⟨w0.heap.size, 5, none⟩ (.int .i64 lo)) := ⟨_, rfl⟩
  rw [← eW] at hb hg ⊢
  clear eW
  obtain ⟨u0, _⟩ := hb.cell 0 _ rfl
  obtain ⟨u1, _⟩ := hb.cell 1 _ rfl
  obtain ⟨u2, _⟩ := hb.cell 2 _ rfl
  obtain ⟨u3, _⟩ := hb.cell 3 _ rfl
  obtain ⟨u4, _⟩ := hb.cell 4 _ rfl
  obtain ⟨u5, _⟩ := hb.cell 5 _ rfl
  have hr : ∀ j, some w0.heap.size = some j → w0.heap.size ≤ j := fun j e => by obtain rfl := Option.some.inj e; exact Nat.le_refl _
  exact bodyPost_ret (v := vV h l m b hi lo) (by simp [results, Try.results80, go_sem, vV, ht, u0, u1, u2, u3, u4, u5]) rfl ⟨_, _, _, _, _, _, rfl, b1, b2, b3, src_grown hS hg hr HS HB, only_grown hY hg hr⟩
set_option maxRecDepth 100000 in
set_option maxHeartbeats 2000000 in
theorem drawVar_any (s : Nat) (a : Option Addr) (L c : Nat) (zs : Nat → Int) (w : World) (h : Src w s a L c zs) :
    Calls Try.prog 80 #[.pointer (some ⟨s, 0, none⟩)] w (VarD w s a L c zs) := by
  have HS := src_lt h
  have H := Lib.hid h
  have HB := Lib.hid (codeB_of h)
  clear h
  have KT := Lib.hid stdCells_any
  obtain ⟨w0, rfl⟩ : ∃ w0 : World, w0 = w := ⟨w, rfl⟩
  have B0 := Lib.hid (bl_alloc (bl_refl w0) (.cells #[.int .i64 0, .int .i64 0, .int .i64 0, .int .i64 0, .bool false, .int .i64 0] 25))
  go_enter Try.func80, Try.ntmps80
  go_wp2_with (first
    | (go_at_call 109; refine (KT.out _).mono ?_; rintro e w1 ⟨rfl, hk1, hb1⟩; rw [World.size_alloc] at hk1; have B1 := Lib.hid (bl_trans B0.out hb1); have S1 := Lib.hid (H.out.below (bl_trans B0.out hb1)); have P1 := Lib.hid ((blk_new w0 25 [.int .i64 0, .int .i64 0, .int .i64 0, .int .i64 0, .bool false, .int .i64 0]).below hb1); have K1 := Lib.hid hk1; have Z1 := hk1.lt; clear hb1 hk1)
    | (go_at_call 76; ((with_reducible refine (next_any s 8 a L c zs _ (by decide) (by decide) S1.out).mono ?_); rintro e w2 ⟨V, rfl, v0, v1, hs2, ho2⟩; obtain ⟨j, rfl⟩ := Int.eq_ofNat_of_zero_le v0; have hj : j < 8 := (by omega); have Z2 := Nat.lt_of_lt_of_le Z1 ho2.size; have P2 := Lib.hid (P1.out.grown ho2 (fun e => by have := Option.some.inj e; omega)); have S2 := Lib.hid hs2; have Y2 := Lib.hid (only_trans (only_below B1.out) ho2); obtain ⟨xh, xl, xm, xb, xi, xo, d0, d1, d2, d3, d4, d5, bd1, bd2, bd3⟩ := std_row (K1.out.grown ho2 (fun e => by have := Option.some.inj e; omega)) j hj; clear hs2 ho2))
    | (go_at_call 76; ((with_reducible refine (next_any s 10 a L c zs _ (by decide) (by decide) (src_alloc S2.out _)).mono ?_); rintro e w3 ⟨U, rfl, u0, u1, hs3, ho3⟩; have S3 := Lib.hid hs3; have Y3 := Lib.hid (only_trans (only_alloc Y2.out _) ho3); have N3 := Lib.hid ((blk_new w2 25 [.int .i64 xh, .int .i64 xl, .int .i64 xm, .int .i64 xb, .bool xi, .int .i64 xo]).grown ho3 (fun e => by have := Option.some.inj e; omega)); have P3 := Lib.hid ((P2.out.below (bl_alloc (bl_refl _) _)).grown ho3 (fun e => by have := Option.some.inj e; omega)); obtain ⟨q0, f0⟩ := N3.out.cell 0 _ rfl; obtain ⟨q1, f1⟩ := N3.out.cell 1 _ rfl; obtain ⟨q2, f2⟩ := N3.out.cell 2 _ rfl; obtain ⟨q3, f3⟩ := N3.out.cell 3 _ rfl; obtain ⟨q4, f4⟩ := N3.out.cell 4 _ rfl; obtain ⟨q5, f5⟩ := N3.out.cell 5 _ rfl; obtain ⟨p0, g0⟩ := P3.out.cell 0 _ rfl; obtain ⟨p1, g1⟩ := P3.out.cell 1 _ rfl; obtain ⟨p2, g2⟩ := P3.out.cell 2 _ rfl; obtain ⟨p3, g3⟩ := P3.out.cell 3 _ rfl; obtain ⟨p4, g4⟩ := P3.out.cell 4 _ rfl; obtain ⟨p5, g5⟩ := P3.out.cell 5 _ rfl; clear hs3 ho3))
    | (go_at_call 76; ((with_reducible refine (next_any s 3 a L c zs _ (by decide) (by decide) S3.out).mono ?_); rintro e w4 ⟨ya, rfl, ya0, ya1, hs, ho⟩; have S4 := Lib.hid hs; have Y4 := Lib.hid (only_trans Y3.out ho); have N4 := Lib.hid (N3.out.grown ho (fun e => by have := Option.some.inj e; omega)); have P4 := Lib.hid (P3.out.grown ho (fun e => by have := Option.some.inj e; omega)); obtain ⟨q0, f0⟩ := N4.out.cell 0 _ rfl; obtain ⟨q1, f1⟩ := N4.out.cell 1 _ rfl; obtain ⟨q2, f2⟩ := N4.out.cell 2 _ rfl; obtain ⟨q3, f3⟩ := N4.out.cell 3 _ rfl; obtain ⟨q4, f4⟩ := N4.out.cell 4 _ rfl; obtain ⟨q5, f5⟩ := N4.out.cell 5 _ rfl; obtain ⟨p0, g0⟩ := P4.out.cell 0 _ rfl; obtain ⟨p1, g1⟩ := P4.out.cell 1 _ rfl; obtain ⟨p2, g2⟩ := P4.out.cell 2 _ rfl; obtain ⟨p3, g3⟩ := P4.out.cell 3 _ rfl; obtain ⟨p4, g4⟩ := P4.out.cell 4 _ rfl; obtain ⟨p5, g5⟩ := P4.out.cell 5 _ rfl; clear hs ho))
    | (go_at_call 76; ((with_reducible refine (next_any s 2 a L c zs _ (by decide) (by decide) S4.out).mono ?_); rintro e w5 ⟨yb, rfl, yb0, yb1, hs, ho⟩; have S5 := Lib.hid hs; have Y5 := Lib.hid (only_trans Y4.out ho); have N5 := Lib.hid (N4.out.grown ho (fun e => by have := Option.some.inj e; omega)); have P5 := Lib.hid (P4.out.grown ho (fun e => by have := Option.some.inj e; omega)); obtain ⟨q0, f0⟩ := N5.out.cell 0 _ rfl; obtain ⟨q1, f1⟩ := N5.out.cell 1 _ rfl; obtain ⟨q2, f2⟩ := N5.out.cell 2 _ rfl; obtain ⟨q3, f3⟩ := N5.out.cell 3 _ rfl; obtain ⟨q4, f4⟩ := N5.out.cell 4 _ rfl; obtain ⟨q5, f5⟩ := N5.out.cell 5 _ rfl; obtain ⟨p0, g0⟩ := P5.out.cell 0 _ rfl; obtain ⟨p1, g1⟩ := P5.out.cell 1 _ rfl; obtain ⟨p2, g2⟩ := P5.out.cell 2 _ rfl; obtain ⟨p3, g3⟩ := P5.out.cell 3 _ rfl; obtain ⟨p4, g4⟩ := P5.out.cell 4 _ rfl; obtain ⟨p5, g5⟩ := P5.out.cell 5 _ rfl; clear hs ho))
    | (go_at_call 76; ((with_reducible refine (next_any s 3 a L c zs _ (by decide) (by decide) S5.out).mono ?_); rintro e w6 ⟨yc, rfl, yc0, yc1, hs, ho⟩; have S6 := Lib.hid hs; have Y6 := Lib.hid (only_trans Y5.out ho); have N6 := Lib.hid (N5.out.grown ho (fun e => by have := Option.some.inj e; omega)); have P6 := Lib.hid (P5.out.grown ho (fun e => by have := Option.some.inj e; omega)); obtain ⟨q0, f0⟩ := N6.out.cell 0 _ rfl; obtain ⟨q1, f1⟩ := N6.out.cell 1 _ rfl; obtain ⟨q2, f2⟩ := N6.out.cell 2 _ rfl; obtain ⟨q3, f3⟩ := N6.out.cell 3 _ rfl; obtain ⟨q4, f4⟩ := N6.out.cell 4 _ rfl; obtain ⟨q5, f5⟩ := N6.out.cell 5 _ rfl; obtain ⟨p0, g0⟩ := P6.out.cell 0 _ rfl; obtain ⟨p1, g1⟩ := P6.out.cell 1 _ rfl; obtain ⟨p2, g2⟩ := P6.out.cell 2 _ rfl; obtain ⟨p3, g3⟩ := P6.out.cell 3 _ rfl; obtain ⟨p4, g4⟩ := P6.out.cell 4 _ rfl; obtain ⟨p5, g5⟩ := P6.out.cell 5 _ rfl; clear hs ho))
    | (go_at_call 76; ((with_reducible refine (next_any s 2 a L c zs _ (by decide) (by decide) S6.out).mono ?_); rintro e w7 ⟨yd, rfl, yd0, yd1, hs, ho⟩; have S7 := Lib.hid hs; have Y7 := Lib.hid (only_trans Y6.out ho); have N7 := Lib.hid (N6.out.grown ho (fun e => by have := Option.some.inj e; omega)); have P7 := Lib.hid (P6.out.grown ho (fun e => by have := Option.some.inj e; omega)); obtain ⟨q0, f0⟩ := N7.out.cell 0 _ rfl; obtain ⟨q1, f1⟩ := N7.out.cell 1 _ rfl; obtain ⟨q2, f2⟩ := N7.out.cell 2 _ rfl; obtain ⟨q3, f3⟩ := N7.out.cell 3 _ rfl; obtain ⟨q4, f4⟩ := N7.out.cell 4 _ rfl; obtain ⟨q5, f5⟩ := N7.out.cell 5 _ rfl; obtain ⟨p0, g0⟩ := P7.out.cell 0 _ rfl; obtain ⟨p1, g1⟩ := P7.out.cell 1 _ rfl; obtain ⟨p2, g2⟩ := P7.out.cell 2 _ rfl; obtain ⟨p3, g3⟩ := P7.out.cell 3 _ rfl; obtain ⟨p4, g4⟩ := P7.out.cell 4 _ rfl; obtain ⟨p5, g5⟩ := P7.out.cell 5 _ rfl; clear hs ho))
    | (go_at_call 76; ((with_reducible refine (next_any s 4 a L c zs _ (by decide) (by decide) S7.out).mono ?_); rintro e w8 ⟨ye, rfl, ye0, ye1, hs, ho⟩; have S8 := Lib.hid hs; have Y8 := Lib.hid (only_trans Y7.out ho); have N8 := Lib.hid (N7.out.grown ho (fun e => by have := Option.some.inj e; omega)); have P8 := Lib.hid (P7.out.grown ho (fun e => by have := Option.some.inj e; omega)); obtain ⟨q0, f0⟩ := N8.out.cell 0 _ rfl; obtain ⟨q1, f1⟩ := N8.out.cell 1 _ rfl; obtain ⟨q2, f2⟩ := N8.out.cell 2 _ rfl; obtain ⟨q3, f3⟩ := N8.out.cell 3 _ rfl; obtain ⟨q4, f4⟩ := N8.out.cell 4 _ rfl; obtain ⟨q5, f5⟩ := N8.out.cell 5 _ rfl; obtain ⟨p0, g0⟩ := P8.out.cell 0 _ rfl; obtain ⟨p1, g1⟩ := P8.out.cell 1 _ rfl; obtain ⟨p2, g2⟩ := P8.out.cell 2 _ rfl; obtain ⟨p3, g3⟩ := P8.out.cell 3 _ rfl; obtain ⟨p4, g4⟩ := P8.out.cell 4 _ rfl; obtain ⟨p5, g5⟩ := P8.out.cell 5 _ rfl; clear hs ho))
    | (go_at_call 103; ((with_reducible refine (pickH_row _ _ _ _ _ _ S3.out).mono ?_); rintro e w9 ⟨z, rfl, z0, z1, hs, ho⟩; have S9 := Lib.hid hs; have Y9 := Lib.hid (only_trans (only_alloc Y3.out _) ho); have N9 := Lib.hid ((N3.out.below (bl_alloc (bl_refl _) _)).grown ho (fun e => by have := Option.some.inj e; omega)); have P9 := Lib.hid ((P3.out.below (bl_alloc (bl_refl _) _)).grown ho (fun e => by have := Option.some.inj e; omega)); obtain ⟨q0, f0⟩ := N9.out.cell 0 _ rfl; obtain ⟨q1, f1⟩ := N9.out.cell 1 _ rfl; obtain ⟨q2, f2⟩ := N9.out.cell 2 _ rfl; obtain ⟨q3, f3⟩ := N9.out.cell 3 _ rfl; obtain ⟨q4, f4⟩ := N9.out.cell 4 _ rfl; obtain ⟨q5, f5⟩ := N9.out.cell 5 _ rfl; obtain ⟨p0, g0⟩ := P9.out.cell 0 _ rfl; obtain ⟨p1, g1⟩ := P9.out.cell 1 _ rfl; obtain ⟨p2, g2⟩ := P9.out.cell 2 _ rfl; obtain ⟨p3, g3⟩ := P9.out.cell 3 _ rfl; obtain ⟨p4, g4⟩ := P9.out.cell 4 _ rfl; obtain ⟨p5, g5⟩ := P9.out.cell 5 _ rfl; clear hs ho))
    | (go_at_call 103; ((with_reducible refine (pickB_row _ _ _ _ _ _ S3.out).mono ?_); rintro e w9 ⟨z, rfl, z0, z1, hs, ho⟩; have S9 := Lib.hid hs; have Y9 := Lib.hid (only_trans (only_alloc Y3.out _) ho); have N9 := Lib.hid ((N3.out.below (bl_alloc (bl_refl _) _)).grown ho (fun e => by have := Option.some.inj e; omega)); have P9 := Lib.hid ((P3.out.below (bl_alloc (bl_refl _) _)).grown ho (fun e => by have := Option.some.inj e; omega)); obtain ⟨q0, f0⟩ := N9.out.cell 0 _ rfl; obtain ⟨q1, f1⟩ := N9.out.cell 1 _ rfl; obtain ⟨q2, f2⟩ := N9.out.cell 2 _ rfl; obtain ⟨q3, f3⟩ := N9.out.cell 3 _ rfl; obtain ⟨q4, f4⟩ := N9.out.cell 4 _ rfl; obtain ⟨q5, f5⟩ := N9.out.cell 5 _ rfl; obtain ⟨p0, g0⟩ := P9.out.cell 0 _ rfl; obtain ⟨p1, g1⟩ := P9.out.cell 1 _ rfl; obtain ⟨p2, g2⟩ := P9.out.cell 2 _ rfl; obtain ⟨p3, g3⟩ := P9.out.cell 3 _ rfl; obtain ⟨p4, g4⟩ := P9.out.cell 4 _ rfl; obtain ⟨p5, g5⟩ := P9.out.cell 5 _ rfl; clear hs ho))
    | (go_at_call 103; ((with_reducible refine (pickM_row _ _ _ _ _ _ S3.out).mono ?_); rintro e w9 ⟨z, rfl, z0, z1, hs, ho⟩; have S9 := Lib.hid hs; have Y9 := Lib.hid (only_trans (only_alloc Y3.out _) ho); have N9 := Lib.hid ((N3.out.below (bl_alloc (bl_refl _) _)).grown ho (fun e => by have := Option.some.inj e; omega)); have P9 := Lib.hid ((P3.out.below (bl_alloc (bl_refl _) _)).grown ho (fun e => by have := Option.some.inj e; omega)); obtain ⟨q0, f0⟩ := N9.out.cell 0 _ rfl; obtain ⟨q1, f1⟩ := N9.out.cell 1 _ rfl; obtain ⟨q2, f2⟩ := N9.out.cell 2 _ rfl; obtain ⟨q3, f3⟩ := N9.out.cell 3 _ rfl; obtain ⟨q4, f4⟩ := N9.out.cell 4 _ rfl; obtain ⟨q5, f5⟩ := N9.out.cell 5 _ rfl; obtain ⟨p0, g0⟩ := P9.out.cell 0 _ rfl; obtain ⟨p1, g1⟩ := P9.out.cell 1 _ rfl; obtain ⟨p2, g2⟩ := P9.out.cell 2 _ rfl; obtain ⟨p3, g3⟩ := P9.out.cell 3 _ rfl; obtain ⟨p4, g4⟩ := P9.out.cell 4 _ rfl; obtain ⟨p5, g5⟩ := P9.out.cell 5 _ rfl; clear hs ho)))
  · have BX := blk_six N8.out (.int .i64 3) (.int .i64 ya) (.int .i64 (2 + yb)) (.int .i64 (3 + yc)) (.bool (yd == 0)) (.int .i64 ye)
    exact var_ret (P8.out.grown BX.2 (fun e => by have := Option.some.inj e; omega)) (src_grown S8.out BX.2 (fun j e => by have := Option.some.inj e; omega) HS HB.out) (only_grown Y8.out BX.2 (fun j e => by have := Option.some.inj e; omega)) HS HB.out 3 ya (2 + yb) (3 + yc) (yd == 0) ye (by omega) (by omega) (by omega) rfl
  · have BX : w9.grownBy (w9.setCell ⟨w2.heap.size, 0, none⟩ (.int .i64 z)) (some w2.heap.size) := only_set (only_refl w2.heap.size w9) 0 (.int .i64 z)
    exact var_ret (P9.out.grown BX (fun e => by have := Option.some.inj e; omega)) (src_grown S9.out BX (fun j e => by have := Option.some.inj e; omega) HS HB.out) (only_grown Y9.out BX (fun j e => by have := Option.some.inj e; omega)) HS HB.out z xl xm xb xi xo (by omega) (by omega) (by omega) rfl
  · have BX : w9.grownBy (w9.setCell ⟨w2.heap.size, 3, none⟩ (.int .i64 z)) (some w2.heap.size) := only_set (only_refl w2.heap.size w9) 3 (.int .i64 z)
    exact var_ret (P9.out.grown BX (fun e => by have := Option.some.inj e; omega)) (src_grown S9.out BX (fun j e => by have := Option.some.inj e; omega) HS HB.out) (only_grown Y9.out BX (fun j e => by have := Option.some.inj e; omega)) HS HB.out xh xl xm z xi xo (by omega) (by omega) (by omega) rfl
  · have BX : w9.grownBy (w9.setCell ⟨w2.heap.size, 2, none⟩ (.int .i64 z)) (some w2.heap.size) := only_set (only_refl w2.heap.size w9) 2 (.int .i64 z)
    exact var_ret (P9.out.grown BX (fun e => by have := Option.some.inj e; omega)) (src_grown S9.out BX (fun j e => by have := Option.some.inj e; omega) HS HB.out) (only_grown Y9.out BX (fun j e => by have := Option.some.inj e; omega)) HS HB.out xh xl z xb xi xo (by omega) (by omega) (by omega) rfl
  · exact var_ret P3.out S3.out Y3.out HS HB.out xh xl xm xb xi xo (by omega) (by omega) (by omega) rfl
end Go.Proofs.Ytjmfecjgomkofaa
