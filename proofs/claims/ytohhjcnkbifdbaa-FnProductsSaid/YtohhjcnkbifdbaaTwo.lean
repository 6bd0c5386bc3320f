/-
  Two ratios that a law has boxed: what is kept of them from world to world.
-/
import Derived.Test.YtohhjcnkbifdbaaDiv
import Derived.Test.YtohhjcnkbifdbaaCmp
import Derived.Test.YtohhjcnkbifdbaaRatioArg
import Derived.Deep.RegionHeld3
import Derived.Deep.DeepCutAuto
namespace Go.Proofs.Ytohhjcnkbifdbaa
open Go.RowKit
set_option linter.unusedVariables false

theorem sz_gen {k : Nat} {W w1 : World} (hb : Below W.heap.size W w1) (h : k < W.heap.size) : k < w1.heap.size := Nat.lt_of_lt_of_le h hb.size
theorem two_call {w W W1 : World} {n d m e : Int} (h : W.cell? ⟨w.heap.size, 0, none⟩ = some (.int .i64 n) ∧ W.cell? ⟨w.heap.size, 1, none⟩ = some (.int .i64 d) ∧ W.cell? ⟨w.heap.size + 1, 0, none⟩ = some (.int .i64 m) ∧ W.cell? ⟨w.heap.size + 1, 1, none⟩ = some (.int .i64 e) ∧ Below w.heap.size w W ∧ w.heap.size + 1 < W.heap.size)
    (hb : Below W.heap.size W W1) :
    W1.cell? ⟨w.heap.size, 0, none⟩ = some (.int .i64 n) ∧ W1.cell? ⟨w.heap.size, 1, none⟩ = some (.int .i64 d) ∧ W1.cell? ⟨w.heap.size + 1, 0, none⟩ = some (.int .i64 m) ∧ W1.cell? ⟨w.heap.size + 1, 1, none⟩ = some (.int .i64 e) ∧ Below w.heap.size w W1 ∧ w.heap.size + 1 < W1.heap.size := by
  obtain ⟨h1, h2, h3, h4, h5, h6⟩ := h
  exact ⟨(hb.cell (by show w.heap.size < _; omega)).trans h1, (hb.cell (by show w.heap.size < _; omega)).trans h2, (hb.cell h6).trans h3, (hb.cell h6).trans h4, bl_trans h5 hb, sz_old h6 hb⟩
theorem two_alloc {w W : World} {n d m e : Int} (o : Obj) (h : W.cell? ⟨w.heap.size, 0, none⟩ = some (.int .i64 n) ∧ W.cell? ⟨w.heap.size, 1, none⟩ = some (.int .i64 d) ∧ W.cell? ⟨w.heap.size + 1, 0, none⟩ = some (.int .i64 m) ∧ W.cell? ⟨w.heap.size + 1, 1, none⟩ = some (.int .i64 e) ∧ Below w.heap.size w W ∧ w.heap.size + 1 < W.heap.size) :
    (W.alloc o).cell? ⟨w.heap.size, 0, none⟩ = some (.int .i64 n) ∧ (W.alloc o).cell? ⟨w.heap.size, 1, none⟩ = some (.int .i64 d) ∧ (W.alloc o).cell? ⟨w.heap.size + 1, 0, none⟩ = some (.int .i64 m) ∧ (W.alloc o).cell? ⟨w.heap.size + 1, 1, none⟩ = some (.int .i64 e) ∧ Below w.heap.size w (W.alloc o) ∧ w.heap.size + 1 < (W.alloc o).heap.size :=
  two_call h (bl_alloc (bl_refl _) _)
theorem two_realloc {w W : World} {n d m e : Int} {o : Obj} (o' : Obj) (hz : w.heap.size + 1 < W.heap.size) (h : (W.alloc o).cell? ⟨w.heap.size, 0, none⟩ = some (.int .i64 n) ∧ (W.alloc o).cell? ⟨w.heap.size, 1, none⟩ = some (.int .i64 d) ∧ (W.alloc o).cell? ⟨w.heap.size + 1, 0, none⟩ = some (.int .i64 m) ∧ (W.alloc o).cell? ⟨w.heap.size + 1, 1, none⟩ = some (.int .i64 e) ∧ Below w.heap.size w (W.alloc o) ∧ w.heap.size + 1 < (W.alloc o).heap.size) :
    (W.alloc o').cell? ⟨w.heap.size, 0, none⟩ = some (.int .i64 n) ∧ (W.alloc o').cell? ⟨w.heap.size, 1, none⟩ = some (.int .i64 d) ∧ (W.alloc o').cell? ⟨w.heap.size + 1, 0, none⟩ = some (.int .i64 m) ∧ (W.alloc o').cell? ⟨w.heap.size + 1, 1, none⟩ = some (.int .i64 e) ∧ Below w.heap.size w (W.alloc o') ∧ w.heap.size + 1 < (W.alloc o').heap.size := by
  obtain ⟨h1, h2, h3, h4, h5, h6⟩ := h
  have hb : Below W.heap.size W (W.alloc o) := bl_alloc (bl_refl _) _
  have hs : w.heap.size < W.heap.size := by omega
  refine two_alloc o' ⟨(hb.cell (p := ⟨w.heap.size, 0, none⟩) hs).symm.trans h1, (hb.cell (p := ⟨w.heap.size, 1, none⟩) hs).symm.trans h2, (hb.cell (p := ⟨w.heap.size + 1, 0, none⟩) hz).symm.trans h3, (hb.cell (p := ⟨w.heap.size + 1, 1, none⟩) hz).symm.trans h4, ⟨h5.os, h5.tape, h5.output, by omega, fun k hk => (hb.block k (by omega)).symm.trans (h5.block k hk)⟩, hz⟩
theorem two_drew {w W : World} {n d m e : Int} (h : W.cell? ⟨w.heap.size, 0, none⟩ = some (.int .i64 n) ∧ W.cell? ⟨w.heap.size, 1, none⟩ = some (.int .i64 d) ∧ W.cell? ⟨w.heap.size + 1, 0, none⟩ = some (.int .i64 m) ∧ W.cell? ⟨w.heap.size + 1, 1, none⟩ = some (.int .i64 e) ∧ Below w.heap.size w W ∧ w.heap.size + 1 < W.heap.size) :
    W.drew.cell? ⟨w.heap.size, 0, none⟩ = some (.int .i64 n) ∧ W.drew.cell? ⟨w.heap.size, 1, none⟩ = some (.int .i64 d) ∧ W.drew.cell? ⟨w.heap.size + 1, 0, none⟩ = some (.int .i64 m) ∧ W.drew.cell? ⟨w.heap.size + 1, 1, none⟩ = some (.int .i64 e) ∧ Below w.heap.size w W.drew ∧ w.heap.size + 1 < W.drew.heap.size :=
  two_call h (bl_drew (bl_refl _))
theorem two_set {w W : World} {n d m e : Int} {p : Addr} (hp : w.heap.size + 1 < p.block) (u : Value) (h : W.cell? ⟨w.heap.size, 0, none⟩ = some (.int .i64 n) ∧ W.cell? ⟨w.heap.size, 1, none⟩ = some (.int .i64 d) ∧ W.cell? ⟨w.heap.size + 1, 0, none⟩ = some (.int .i64 m) ∧ W.cell? ⟨w.heap.size + 1, 1, none⟩ = some (.int .i64 e) ∧ Below w.heap.size w W ∧ w.heap.size + 1 < W.heap.size) :
    (W.setCell p u).cell? ⟨w.heap.size, 0, none⟩ = some (.int .i64 n) ∧ (W.setCell p u).cell? ⟨w.heap.size, 1, none⟩ = some (.int .i64 d) ∧ (W.setCell p u).cell? ⟨w.heap.size + 1, 0, none⟩ = some (.int .i64 m) ∧ (W.setCell p u).cell? ⟨w.heap.size + 1, 1, none⟩ = some (.int .i64 e) ∧ Below w.heap.size w (W.setCell p u) ∧ w.heap.size + 1 < (W.setCell p u).heap.size := by
  obtain ⟨h1, h2, h3, h4, h5, h6⟩ := h
  have hb : Below (w.heap.size + 2) W (W.setCell p u) := (Below.refl _ _).setCell (by omega) u
  exact ⟨(hb.cell (by show w.heap.size < _; omega)).trans h1, (hb.cell (by show w.heap.size < _; omega)).trans h2, (hb.cell (by show w.heap.size + 1 < _; omega)).trans h3, (hb.cell (by show w.heap.size + 1 < _; omega)).trans h4, bl_set h5 (by omega) u, Nat.lt_of_lt_of_le h6 (by simp [World.setCell])⟩
theorem two_set2 {w W : World} {n d m e : Int} {b o o' : Nat} {u u' : Value} (hp : w.heap.size + 1 < b) (h : W.cell? ⟨w.heap.size, 0, none⟩ = some (.int .i64 n) ∧ W.cell? ⟨w.heap.size, 1, none⟩ = some (.int .i64 d) ∧ W.cell? ⟨w.heap.size + 1, 0, none⟩ = some (.int .i64 m) ∧ W.cell? ⟨w.heap.size + 1, 1, none⟩ = some (.int .i64 e) ∧ Below w.heap.size w W ∧ w.heap.size + 1 < W.heap.size) :
    ((W.setCell ⟨b, o, none⟩ u).setCell ⟨b, o', none⟩ u').cell? ⟨w.heap.size, 0, none⟩ = some (.int .i64 n) ∧ ((W.setCell ⟨b, o, none⟩ u).setCell ⟨b, o', none⟩ u').cell? ⟨w.heap.size, 1, none⟩ = some (.int .i64 d) ∧ ((W.setCell ⟨b, o, none⟩ u).setCell ⟨b, o', none⟩ u').cell? ⟨w.heap.size + 1, 0, none⟩ = some (.int .i64 m) ∧ ((W.setCell ⟨b, o, none⟩ u).setCell ⟨b, o', none⟩ u').cell? ⟨w.heap.size + 1, 1, none⟩ = some (.int .i64 e) ∧ Below w.heap.size w ((W.setCell ⟨b, o, none⟩ u).setCell ⟨b, o', none⟩ u') ∧ w.heap.size + 1 < ((W.setCell ⟨b, o, none⟩ u).setCell ⟨b, o', none⟩ u').heap.size :=
  two_set (p := ⟨b, o', none⟩) hp u' (two_set (p := ⟨b, o, none⟩) hp u h)
theorem twog_call {g : Nat} {t0 t1 : Int} {w W W1 : World} {n d m e : Int} (h : W.cell? ⟨g, 0, none⟩ = some (.int .i64 t0) ∧ W.cell? ⟨g, 1, none⟩ = some (.int .i64 t1) ∧ g < W.heap.size ∧ W.cell? ⟨w.heap.size, 0, none⟩ = some (.int .i64 n) ∧ W.cell? ⟨w.heap.size, 1, none⟩ = some (.int .i64 d) ∧ W.cell? ⟨w.heap.size + 1, 0, none⟩ = some (.int .i64 m) ∧ W.cell? ⟨w.heap.size + 1, 1, none⟩ = some (.int .i64 e) ∧ Below w.heap.size w W ∧ w.heap.size + 1 < W.heap.size) (hb : Below W.heap.size W W1) :
    W1.cell? ⟨g, 0, none⟩ = some (.int .i64 t0) ∧ W1.cell? ⟨g, 1, none⟩ = some (.int .i64 t1) ∧ g < W1.heap.size ∧ W1.cell? ⟨w.heap.size, 0, none⟩ = some (.int .i64 n) ∧ W1.cell? ⟨w.heap.size, 1, none⟩ = some (.int .i64 d) ∧ W1.cell? ⟨w.heap.size + 1, 0, none⟩ = some (.int .i64 m) ∧ W1.cell? ⟨w.heap.size + 1, 1, none⟩ = some (.int .i64 e) ∧ Below w.heap.size w W1 ∧ w.heap.size + 1 < W1.heap.size :=
  ⟨(hb.cell h.2.2.1).trans h.1, (hb.cell h.2.2.1).trans h.2.1, sz_old h.2.2.1 hb, two_call h.2.2.2 hb⟩
theorem twog_alloc {g : Nat} {t0 t1 : Int} {w W : World} {n d m e : Int} (o : Obj) (h : W.cell? ⟨g, 0, none⟩ = some (.int .i64 t0) ∧ W.cell? ⟨g, 1, none⟩ = some (.int .i64 t1) ∧ g < W.heap.size ∧ W.cell? ⟨w.heap.size, 0, none⟩ = some (.int .i64 n) ∧ W.cell? ⟨w.heap.size, 1, none⟩ = some (.int .i64 d) ∧ W.cell? ⟨w.heap.size + 1, 0, none⟩ = some (.int .i64 m) ∧ W.cell? ⟨w.heap.size + 1, 1, none⟩ = some (.int .i64 e) ∧ Below w.heap.size w W ∧ w.heap.size + 1 < W.heap.size) :
    (W.alloc o).cell? ⟨g, 0, none⟩ = some (.int .i64 t0) ∧ (W.alloc o).cell? ⟨g, 1, none⟩ = some (.int .i64 t1) ∧ g < (W.alloc o).heap.size ∧ (W.alloc o).cell? ⟨w.heap.size, 0, none⟩ = some (.int .i64 n) ∧ (W.alloc o).cell? ⟨w.heap.size, 1, none⟩ = some (.int .i64 d) ∧ (W.alloc o).cell? ⟨w.heap.size + 1, 0, none⟩ = some (.int .i64 m) ∧ (W.alloc o).cell? ⟨w.heap.size + 1, 1, none⟩ = some (.int .i64 e) ∧ Below w.heap.size w (W.alloc o) ∧ w.heap.size + 1 < (W.alloc o).heap.size := twog_call h (bl_alloc (bl_refl _) _)
theorem twog_drew {g : Nat} {t0 t1 : Int} {w W : World} {n d m e : Int} (h : W.cell? ⟨g, 0, none⟩ = some (.int .i64 t0) ∧ W.cell? ⟨g, 1, none⟩ = some (.int .i64 t1) ∧ g < W.heap.size ∧ W.cell? ⟨w.heap.size, 0, none⟩ = some (.int .i64 n) ∧ W.cell? ⟨w.heap.size, 1, none⟩ = some (.int .i64 d) ∧ W.cell? ⟨w.heap.size + 1, 0, none⟩ = some (.int .i64 m) ∧ W.cell? ⟨w.heap.size + 1, 1, none⟩ = some (.int .i64 e) ∧ Below w.heap.size w W ∧ w.heap.size + 1 < W.heap.size) :
    W.drew.cell? ⟨g, 0, none⟩ = some (.int .i64 t0) ∧ W.drew.cell? ⟨g, 1, none⟩ = some (.int .i64 t1) ∧ g < W.drew.heap.size ∧ W.drew.cell? ⟨w.heap.size, 0, none⟩ = some (.int .i64 n) ∧ W.drew.cell? ⟨w.heap.size, 1, none⟩ = some (.int .i64 d) ∧ W.drew.cell? ⟨w.heap.size + 1, 0, none⟩ = some (.int .i64 m) ∧ W.drew.cell? ⟨w.heap.size + 1, 1, none⟩ = some (.int .i64 e) ∧ Below w.heap.size w W.drew ∧ w.heap.size + 1 < W.drew.heap.size := twog_call h (bl_drew (bl_refl _))
theorem twog_realloc {g : Nat} {t0 t1 : Int} {w W : World} {n d m e : Int} {o : Obj} (o' : Obj) (hz : w.heap.size + 1 < W.heap.size) (hg : g < W.heap.size) (h : (W.alloc o).cell? ⟨g, 0, none⟩ = some (.int .i64 t0) ∧ (W.alloc o).cell? ⟨g, 1, none⟩ = some (.int .i64 t1) ∧ g < (W.alloc o).heap.size ∧ (W.alloc o).cell? ⟨w.heap.size, 0, none⟩ = some (.int .i64 n) ∧ (W.alloc o).cell? ⟨w.heap.size, 1, none⟩ = some (.int .i64 d) ∧ (W.alloc o).cell? ⟨w.heap.size + 1, 0, none⟩ = some (.int .i64 m) ∧ (W.alloc o).cell? ⟨w.heap.size + 1, 1, none⟩ = some (.int .i64 e) ∧ Below w.heap.size w (W.alloc o) ∧ w.heap.size + 1 < (W.alloc o).heap.size) :
    (W.alloc o').cell? ⟨g, 0, none⟩ = some (.int .i64 t0) ∧ (W.alloc o').cell? ⟨g, 1, none⟩ = some (.int .i64 t1) ∧ g < (W.alloc o').heap.size ∧ (W.alloc o').cell? ⟨w.heap.size, 0, none⟩ = some (.int .i64 n) ∧ (W.alloc o').cell? ⟨w.heap.size, 1, none⟩ = some (.int .i64 d) ∧ (W.alloc o').cell? ⟨w.heap.size + 1, 0, none⟩ = some (.int .i64 m) ∧ (W.alloc o').cell? ⟨w.heap.size + 1, 1, none⟩ = some (.int .i64 e) ∧ Below w.heap.size w (W.alloc o') ∧ w.heap.size + 1 < (W.alloc o').heap.size := by
  have hb : Below W.heap.size W (W.alloc o) := bl_alloc (bl_refl _) _
  have hb' : Below W.heap.size W (W.alloc o') := bl_alloc (bl_refl _) _
  have a0 := (hb.cell (p := ⟨g, 0, none⟩) hg).symm.trans h.1
  have a1 := (hb.cell (p := ⟨g, 1, none⟩) hg).symm.trans h.2.1
  exact ⟨(hb'.cell (p := ⟨g, 0, none⟩) hg).trans a0, (hb'.cell (p := ⟨g, 1, none⟩) hg).trans a1, sz_old hg hb', two_realloc o' hz h.2.2.2⟩
theorem twog_set2 {g : Nat} {t0 t1 : Int} {w W : World} {n d m e : Int} {b o o' : Nat} {u u' : Value} (hp : w.heap.size + 1 < b) (hg : g < b) (h : W.cell? ⟨g, 0, none⟩ = some (.int .i64 t0) ∧ W.cell? ⟨g, 1, none⟩ = some (.int .i64 t1) ∧ g < W.heap.size ∧ W.cell? ⟨w.heap.size, 0, none⟩ = some (.int .i64 n) ∧ W.cell? ⟨w.heap.size, 1, none⟩ = some (.int .i64 d) ∧ W.cell? ⟨w.heap.size + 1, 0, none⟩ = some (.int .i64 m) ∧ W.cell? ⟨w.heap.size + 1, 1, none⟩ = some (.int .i64 e) ∧ Below w.heap.size w W ∧ w.heap.size + 1 < W.heap.size) :
    ((W.setCell ⟨b, o, none⟩ u).setCell ⟨b, o', none⟩ u').cell? ⟨g, 0, none⟩ = some (.int .i64 t0) ∧ ((W.setCell ⟨b, o, none⟩ u).setCell ⟨b, o', none⟩ u').cell? ⟨g, 1, none⟩ = some (.int .i64 t1) ∧ g < ((W.setCell ⟨b, o, none⟩ u).setCell ⟨b, o', none⟩ u').heap.size ∧ ((W.setCell ⟨b, o, none⟩ u).setCell ⟨b, o', none⟩ u').cell? ⟨w.heap.size, 0, none⟩ = some (.int .i64 n) ∧ ((W.setCell ⟨b, o, none⟩ u).setCell ⟨b, o', none⟩ u').cell? ⟨w.heap.size, 1, none⟩ = some (.int .i64 d) ∧ ((W.setCell ⟨b, o, none⟩ u).setCell ⟨b, o', none⟩ u').cell? ⟨w.heap.size + 1, 0, none⟩ = some (.int .i64 m) ∧ ((W.setCell ⟨b, o, none⟩ u).setCell ⟨b, o', none⟩ u').cell? ⟨w.heap.size + 1, 1, none⟩ = some (.int .i64 e) ∧ Below w.heap.size w ((W.setCell ⟨b, o, none⟩ u).setCell ⟨b, o', none⟩ u') ∧ w.heap.size + 1 < ((W.setCell ⟨b, o, none⟩ u).setCell ⟨b, o', none⟩ u').heap.size := by
  have hb : Below (g + 1) W ((W.setCell ⟨b, o, none⟩ u).setCell ⟨b, o', none⟩ u') := ((Below.refl _ _).setCell (p := ⟨b, o, none⟩) hg u).setCell (p := ⟨b, o', none⟩) hg u'
  exact ⟨(hb.cell (p := ⟨g, 0, none⟩) (Nat.lt_succ_self g)).trans h.1, (hb.cell (p := ⟨g, 1, none⟩) (Nat.lt_succ_self g)).trans h.2.1, Nat.lt_of_lt_of_le h.2.2.1 hb.size, two_set2 hp h.2.2.2⟩
theorem twog_fin {g : Nat} {t0 t1 : Int} {w W V : World} {n d m e : Int} (h : W.cell? ⟨g, 0, none⟩ = some (.int .i64 t0) ∧ W.cell? ⟨g, 1, none⟩ = some (.int .i64 t1) ∧ g < W.heap.size ∧ W.cell? ⟨w.heap.size, 0, none⟩ = some (.int .i64 n) ∧ W.cell? ⟨w.heap.size, 1, none⟩ = some (.int .i64 d) ∧ W.cell? ⟨w.heap.size + 1, 0, none⟩ = some (.int .i64 m) ∧ W.cell? ⟨w.heap.size + 1, 1, none⟩ = some (.int .i64 e) ∧ Below w.heap.size w W ∧ w.heap.size + 1 < W.heap.size) (hb : Below W.heap.size W V) : Below w.heap.size w V := bl_trans h.2.2.2.2.2.2.2.1 hb
theorem two_fin {w W V : World} {n d m e : Int} (h : W.cell? ⟨w.heap.size, 0, none⟩ = some (.int .i64 n) ∧ W.cell? ⟨w.heap.size, 1, none⟩ = some (.int .i64 d) ∧ W.cell? ⟨w.heap.size + 1, 0, none⟩ = some (.int .i64 m) ∧ W.cell? ⟨w.heap.size + 1, 1, none⟩ = some (.int .i64 e) ∧ Below w.heap.size w W ∧ w.heap.size + 1 < W.heap.size) (hb : Below W.heap.size W V) : Below w.heap.size w V := bl_trans h.2.2.2.2.1 hb
theorem two_start (w : World) (n d m e : Int) (t : TypeId) :
    ((w.alloc (.cells #[.int .i64 n, .int .i64 d] t)).alloc (.cells #[.int .i64 m, .int .i64 e] t)).cell? ⟨w.heap.size, 0, none⟩ = some (.int .i64 n) ∧ ((w.alloc (.cells #[.int .i64 n, .int .i64 d] t)).alloc (.cells #[.int .i64 m, .int .i64 e] t)).cell? ⟨w.heap.size, 1, none⟩ = some (.int .i64 d) ∧
    ((w.alloc (.cells #[.int .i64 n, .int .i64 d] t)).alloc (.cells #[.int .i64 m, .int .i64 e] t)).cell? ⟨w.heap.size + 1, 0, none⟩ = some (.int .i64 m) ∧ ((w.alloc (.cells #[.int .i64 n, .int .i64 d] t)).alloc (.cells #[.int .i64 m, .int .i64 e] t)).cell? ⟨w.heap.size + 1, 1, none⟩ = some (.int .i64 e) ∧
    Below w.heap.size w ((w.alloc (.cells #[.int .i64 n, .int .i64 d] t)).alloc (.cells #[.int .i64 m, .int .i64 e] t)) ∧ w.heap.size + 1 < ((w.alloc (.cells #[.int .i64 n, .int .i64 d] t)).alloc (.cells #[.int .i64 m, .int .i64 e] t)).heap.size := by
  refine ⟨by simp [go_sem], by simp [go_sem], by simp [go_sem], by simp [go_sem], bl_alloc (bl_alloc (bl_refl _) _) _, by simp⟩

/-- A call behind a new block: the block was there before it. -/
def FreshNew (v : Value) (w X : World) (e : Ending) (w' : World) : Prop := e = .returned v ∧ Below w.heap.size w w' ∧ X.heap.size < w'.heap.size
theorem call_late {P : Program} {f : FuncId} {args : Array Value} {v : Value} {X : World} {o : Obj} (h : Calls P f args (X.alloc o) (Fresh v (X.alloc o))) : Calls P f args (X.alloc o) (FreshNew v (X.alloc o) X) :=
  h.mono fun _ _ ⟨he, hb⟩ => ⟨he, hb, sz_new hb⟩
theorem call_new {P : Program} {f : FuncId} {args : Array Value} {v : Value} {X : World} {o : Obj} (h : Calls P f args (X.alloc o).drew (Fresh v (X.alloc o).drew)) : Calls P f args (X.alloc o).drew (FreshNew v (X.alloc o).drew X) :=
  h.mono fun _ _ ⟨he, hb⟩ => ⟨he, hb, Nat.lt_of_lt_of_le (by show X.heap.size < (X.alloc o).heap.size; simp) hb.size⟩
theorem toRatio_late (n d : Int) (X : World) (o : Obj) : Calls Try.prog 30 #[.agg #[.int .i64 n, .int .i64 d]] (X.alloc o) (FreshNew (.agg #[.int .i64 n, .int .i64 d]) (X.alloc o) X) := call_late (toRatio_any n d (X.alloc o))
theorem toRatio_new (n d : Int) (X : World) (o : Obj) : Calls Try.prog 30 #[.agg #[.int .i64 n, .int .i64 d]] (X.alloc o).drew (FreshNew (.agg #[.int .i64 n, .int .i64 d]) (X.alloc o).drew X) := call_new (toRatio_any n d (X.alloc o).drew)

set_option maxHeartbeats 400000 in
theorem eqRatio_same (n d : Int) (w : World) :
    Calls Try.prog 35 #[.agg #[.int .i64 n, .int .i64 d], .agg #[.int .i64 n, .int .i64 d]] w (Fresh (.bool true) w) := by
  go_enter Try.func35, Try.ntmps35
  go_wp2
  go_ret
  exact ⟨rfl, bl_alloc (bl_alloc (bl_refl _) _) _⟩

end Go.Proofs.Ytohhjcnkbifdbaa
