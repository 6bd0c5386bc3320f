/-
  What the laws of tables over a code draw.
-/
import Derived.Test.YtimdgaclmejjhaaDrawTabs
namespace Go.Proofs.Ytimdgaclmejjhaa
open Go.RowKit
set_option linter.unusedVariables false

/-- A table that has been drawn. -/
def DrawnT (w : World) (e : Ending) (w' : World) : Prop :=
  ∃ (A : Option Addr) (k : Nat) (xs : List Int) (b p g t l : Int), e = .returned (.agg #[.slice A xs.length k, .int .i64 b, .int .i64 p, .int .i64 g, .int .i64 t, .int .i64 l]) ∧ 2 ≤ xs.length ∧ xs.length ≤ 11 ∧ 0 ≤ g ∧ g ≤ 200000 ∧ Rd w' A xs ∧ Below w.heap.size w w'
set_option maxRecDepth 100000 in
set_option maxHeartbeats 1000000 in
theorem drawChipsAt_any (a : Option Addr) (L c : Nat) (zs : Nat → Int) (w : World) (hL : L ≤ 4096) (hc : CodeIn w a L zs) :
    Calls Try.prog 8 #[.slice a L c] w (DrawnT w) := by
  have uT := Try.underlying26
  have iT : (Try.prog.info? 26).map (·.size) = some 6 := by kernel_rfl
  have h1 := codeIn_below hc (bl_alloc (bl_refl w) (.cells (([.slice none 0 0, .int .i64 0, .int .i64 0, .int .i64 0, .int .i64 0, .int .i64 0] : List Value)).toArray 26))
  have KF := Lib.hid (from_any a L c zs _ hL h1)
  have N0 := Lib.hid (blk_new w 26 [.slice none 0 0, .int .i64 0, .int .i64 0, .int .i64 0, .int .i64 0, .int .i64 0])
  have Z0 : Hid (w.heap.size < (w.alloc (.cells (([.slice none 0 0, .int .i64 0, .int .i64 0, .int .i64 0, .int .i64 0, .int .i64 0] : List Value)).toArray 26)).heap.size) := Lib.hid (by rw [World.size_alloc]; omega)
  have B0 := Lib.hid (bl_alloc (bl_refl w) (.cells (([.slice none 0 0, .int .i64 0, .int .i64 0, .int .i64 0, .int .i64 0, .int .i64 0] : List Value)).toArray 26))
  clear hc h1
  go_enter Try.func8, Try.ntmps8
  go_wp2_with (go_at_call 14; refine (KF.out).mono ?_; rintro e w1 ⟨rfl, hs1, hb1⟩; rw [World.size_alloc] at hs1; have KD := Lib.hid (drawT_any _ _ _ _ _ _ hs1); have B1 := Lib.hid (bl_trans B0.out hb1); have N1 := Lib.hid (N0.out.below hb1); have Z1 : Hid (w.heap.size < w1.heap.size) := Lib.hid (by have := hb1.size; have := Z0.out; omega); clear hs1 hb1)
  go_wp2_with (first
    | (go_at_call 15; refine (KD.out).mono ?_; rintro e w2 ⟨A, k, xs, b, p, g, t, l, rfl, hx2, hx11, hg0, hg1, ho2, hs2, hy2⟩; have O2 := Lib.hid ho2; have B2 := Lib.hid (bl_trans' B1.out (by omega) hy2); have N2 := Lib.hid (blk_only N1.out hy2 (by omega)); clear ho2 hs2 hy2)
    | (refine wpList_store_blk 26 6 rfl (.tmp 2) (.tmp 5) rfl iT w.heap.size rfl [.slice A xs.length k, .int .i64 b, .int .i64 p, .int .i64 g, .int .i64 t, .int .i64 l] rfl rfl (by simp [Value.oneCell']) _ N2.out rfl ?_; intro w3 k3 g3; have O3 := Lib.hid (own_keptT O2.out N2.out (by decide) g3); have B3 := Lib.hid (B2.out.grown g3 B2.out.size (fun j hj => by injection hj with hj; omega)); have K3 := Lib.hid k3; clear k3 g3))
  obtain ⟨z0', _⟩ := K3.out.cell 0 _ rfl
  obtain ⟨z1', _⟩ := K3.out.cell 1 _ rfl
  obtain ⟨z2', _⟩ := K3.out.cell 2 _ rfl
  obtain ⟨z3', _⟩ := K3.out.cell 3 _ rfl
  obtain ⟨z4', _⟩ := K3.out.cell 4 _ rfl
  obtain ⟨z5', _⟩ := K3.out.cell 5 _ rfl
  exact bodyPost_ret (v := .agg #[.slice A xs.length k, .int .i64 b, .int .i64 p, .int .i64 g, .int .i64 t, .int .i64 l]) (by simp [results, Try.results8, go_sem, z0', z1', z2', z3', z4', z5']) rfl ⟨A, k, xs, b, p, g, t, l, rfl, hx2, hx11, hg0, hg1, O3.out.rd, B3.out⟩
end Go.Proofs.Ytimdgaclmejjhaa
