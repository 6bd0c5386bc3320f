/-
  A table and a number that a law draws.
-/
import Derived.Test.YtnbaemgidfgdaaaDrawTabFns
namespace Go.Proofs.Ytnbaemgidfgdaaa
open Go.RowKit
set_option linter.unusedVariables false

/-- A table and a number that have been drawn. -/
def DrawnTI (w : World) (e : Ending) (w' : World) : Prop :=
  ∃ (A : Option Addr) (k : Nat) (xs : List Int) (b p g t l x : Int), e = .returned (.tuple #[.agg #[.slice A xs.length k, .int .i64 b, .int .i64 p, .int .i64 g, .int .i64 t, .int .i64 l], .int .i64 x]) ∧ 2 ≤ xs.length ∧ xs.length ≤ 11 ∧ -1 ≤ x ∧ x ≤ 8 ∧ Rd w' A xs ∧ Below w.heap.size w w'
set_option maxRecDepth 100000 in
set_option maxHeartbeats 4000000 in
theorem drawSeatsFrom_any (a : Option Addr) (L c : Nat) (zs : Nat → Int) (w : World) (hL : L ≤ 4096) (hc : CodeIn w a L zs) :
    Calls Try.prog 24 #[.slice a L c] w (DrawnTI w) := by
  have uT := Try.underlying26
  have iT : (Try.prog.info? 26).map (·.size) = some 6 := by kernel_rfl
  have hmx : Try.prog.follows .mixedOrders = true := by kernel_rfl
  have h1 := codeIn_below hc (bl_alloc (bl_refl w) (.cells (([.slice none 0 0, .int .i64 0, .int .i64 0, .int .i64 0, .int .i64 0, .int .i64 0] : List Value)).toArray 26))
  have KF := Lib.hid (from_any a L c zs _ hL h1)
  have N0 := Lib.hid (blk_new w 26 [.slice none 0 0, .int .i64 0, .int .i64 0, .int .i64 0, .int .i64 0, .int .i64 0])
  have Z0 : Hid (w.heap.size < (w.alloc (.cells (([.slice none 0 0, .int .i64 0, .int .i64 0, .int .i64 0, .int .i64 0, .int .i64 0] : List Value)).toArray 26)).heap.size) := Lib.hid (by rw [World.size_alloc]; omega)
  have B0 := Lib.hid (bl_alloc (bl_refl w) (.cells (([.slice none 0 0, .int .i64 0, .int .i64 0, .int .i64 0, .int .i64 0, .int .i64 0] : List Value)).toArray 26))
  clear hc h1
  go_enter Try.func24, Try.ntmps24
  go_wp2_with (go_at_call 49; refine (KF.out).mono ?_; rintro e w1 ⟨rfl, hs1, hb1⟩; rw [World.size_alloc] at hs1; have KD := Lib.hid (drawT_any _ _ _ _ _ _ hs1); have B1 := Lib.hid (bl_trans B0.out hb1); have N1 := Lib.hid (N0.out.below hb1); have Z1 : Hid (w.heap.size < w1.heap.size) := Lib.hid (by have := hb1.size; have := Z0.out; omega); have Z2 : Hid (w.heap.size + 1 < w1.heap.size) := Lib.hid (src_lt hs1); clear hs1 hb1)
  go_wp2_with (go_at_call 48; refine (KD.out).mono ?_; rintro e w2 ⟨A, k, xs, b, p, g, t, l, rfl, hx2, hx11, hg0, hg1, ho2, hs2, hy2⟩; have BL := Lib.hid (bl_alloc (bl_refl w2) (.cells ([.slice A xs.length k, .int .i64 b, .int .i64 p, .int .i64 g, .int .i64 t, .int .i64 l] : List Value).toArray 26)); have O3 := Lib.hid (ho2.below BL.out); have B3 := Lib.hid (bl_trans (bl_trans' B1.out (by omega) hy2) BL.out); have N3 := Lib.hid ((blk_only N1.out hy2 (by omega)).below BL.out); have S3 := Lib.hid (hs2.below BL.out); have X3 := Lib.hid (blk_new w2 26 [.slice A xs.length k, .int .i64 b, .int .i64 p, .int .i64 g, .int .i64 t, .int .i64 l]); have Z3 : Hid (w1.heap.size ≤ w2.heap.size) := Lib.hid hy2.size; clear ho2 hs2 hy2 BL)
  obtain ⟨w3, e3⟩ : ∃ w3, w3 = w2.alloc (.cells ([.slice A xs.length k, .int .i64 b, .int .i64 p, .int .i64 g, .int .i64 t, .int .i64 l] : List Value).toArray 26) := ⟨_, rfl⟩
  rw [← e3] at O3 B3 N3 S3 X3 ⊢
  clear e3
  refine wp_region_R (R := fun a b => Below a.heap.size a b) (I := fun W' => Blk W' w2.heap.size 26 [.slice A xs.length k, .int .i64 b, .int .i64 p, .int .i64 g, .int .i64 t, .int .i64 l]) (last := 5) (k := 5) (fun _ => bl_refl _) hmx rfl (fun HC0 => ?_)
  refine wpAnyR_takeL (i := 0) (kw := 5) (v := .agg #[.slice A xs.length k, .int .i64 b, .int .i64 p, .int .i64 g, .int .i64 t, .int .i64 l]) (fun _ => bl_refl _) (fun p q => bl_trans p q) rfl rfl (by kernel_rfl) (by kernel_rfl) (by kernel_rfl) (by kernel_rfl) (fun _ _ _ h => h) HC0 (Or.inl ⟨by kernel_rfl, fun W' hI => ?_⟩) (fun HC1 => ?_)
  · obtain ⟨q0, -⟩ := hI.cell 0 _ rfl; obtain ⟨q1, -⟩ := hI.cell 1 _ rfl; obtain ⟨q2, -⟩ := hI.cell 2 _ rfl; obtain ⟨q3, -⟩ := hI.cell 3 _ rfl; obtain ⟨q4, -⟩ := hI.cell 4 _ rfl; obtain ⟨q5, -⟩ := hI.cell 5 _ rfl
    exact .inl (by go_simp)
  refine wpAnyR_takeL (i := 1) (kw := 5) (v := .pointer (some ⟨w.heap.size + 1, 0, none⟩)) (fun _ => bl_refl _) (fun p q => bl_trans p q) rfl rfl (by kernel_rfl) (by kernel_rfl) (by kernel_rfl) (by kernel_rfl) (fun _ _ _ h => h) HC1 (Or.inl ⟨by kernel_rfl, fun W' hI => ?_⟩) (fun HC2 => ?_)
  · exact .inl (by go_simp)
  refine wpAnyR_oneL HC2 (i := 2) (by kernel_rfl) rfl (by kernel_rfl) (fun w4 hr4 => ⟨X3.out.below (bl_drewT hr4), ?_⟩)
  intro K hK
  have B4 := Lib.hid (bl_trans B3.out (bl_drewT hr4))
  have O4 := Lib.hid (O3.out.below (bl_drewT hr4))
  have N4 := Lib.hid (N3.out.below (bl_drewT hr4))
  have X4 := Lib.hid (X3.out.below (bl_drewT hr4))
  have KN := Lib.hid (next_any (w.heap.size + 1) 8 a L c zs _ (by omega) (by omega) (S3.out.below (bl_drewT hr4)))
  clear hr4
  go_simp
  go_wp2_with (go_at_call 63; refine (KN.out).mono ?_; rintro e w5 ⟨x, rfl, x0, x1, hs5, ho5⟩; have O5 := Lib.hid (own_only O4.out ho5 (by have := Z2.out; omega)); have N5 := Lib.hid (blk_only N4.out ho5 (by omega)); have X5 := Lib.hid (blk_only X4.out ho5 (by have := Z2.out; have := Z3.out; omega)); have B5 := Lib.hid (bl_trans' B4.out (by omega) ho5); clear hs5 ho5)
  intro HC3
  have hw : IntKind.i64.wrap (x - 1) = x - 1 := IntWalk.i64_in _ (by omega)
  refine wpAnyR_takeL (i := 3) (kw := 5) (v := .int .i64 (x - 1)) (fun _ => bl_refl _) (fun p q => bl_trans p q) rfl rfl (by kernel_rfl) (by kernel_rfl) (by kernel_rfl) (by kernel_rfl) (fun _ _ _ h => h) HC3 (Or.inl ⟨by kernel_rfl, fun W' hI => ?_⟩) (fun HC4 => ?_)
  · exact .inl (by go_simp)
  refine wpAnyR_oneL HC4 (i := 4) (by kernel_rfl) rfl (by kernel_rfl) (fun w6 hr6 => ⟨X5.out.below hr6, ?_⟩)
  intro K hK
  have B6 := Lib.hid (bl_trans B5.out hr6)
  have O6 := Lib.hid (O5.out.below hr6)
  have N6 := Lib.hid (N5.out.below hr6)
  have X6 := Lib.hid (X5.out.below hr6)
  try simp only [Act.put, List.setIfInBounds_toArray, List.set_cons_succ, List.set_cons_zero]
  refine wp_store_blk 26 6 (.tmp 2) (.tmp 10) rfl iT w.heap.size rfl [.slice A xs.length k, .int .i64 b, .int .i64 p, .int .i64 g, .int .i64 t, .int .i64 l] rfl rfl (by simp [Value.oneCell']) _ N6.out rfl ?_
  intro w7 k7 g7
  have O7 := Lib.hid (own_keptT O6.out N6.out (by decide) g7)
  have X7 := Lib.hid (X6.out.grown g7 (fun e => by injection e with e; have := Z2.out; have := Z3.out; omega))
  have B7 := Lib.hid (B6.out.grown g7 B6.out.size (fun j hj => by injection hj with hj; omega))
  have K7 := Lib.hid k7
  clear k7 g7
  refine hK _ _ ?_
  clear hK K
  intro HC5
  refine wpAnyR_lastL (by kernel_rfl) (by kernel_rfl) rfl (by kernel_rfl) (fun w8 hr8 => ⟨X7.out.below hr8, ?_⟩)
  intro K hK
  have O8 := Lib.hid (O7.out.below hr8)
  have K8 := Lib.hid (K7.out.below hr8)
  have B8 := Lib.hid (bl_trans B7.out hr8)
  go_simp
  refine hK _ _ ?_
  clear hK K
  go_wp2_with fail
  obtain ⟨z0', _⟩ := K8.out.cell 0 _ rfl
  obtain ⟨z1', _⟩ := K8.out.cell 1 _ rfl
  obtain ⟨z2', _⟩ := K8.out.cell 2 _ rfl
  obtain ⟨z3', _⟩ := K8.out.cell 3 _ rfl
  obtain ⟨z4', _⟩ := K8.out.cell 4 _ rfl
  obtain ⟨z5', _⟩ := K8.out.cell 5 _ rfl
  exact bodyPost_ret (v := .tuple #[.agg #[.slice A xs.length k, .int .i64 b, .int .i64 p, .int .i64 g, .int .i64 t, .int .i64 l], .int .i64 (x - 1)]) (by simp [results, Try.results24, go_sem, z0', z1', z2', z3', z4', z5']) rfl ⟨A, k, xs, b, p, g, t, l, x - 1, rfl, hx2, hx11, by omega, by omega, O8.out.rd, B8.out⟩
set_option maxRecDepth 100000 in
set_option maxHeartbeats 4000000 in
theorem drawFirstSeat_any (a : Option Addr) (L c : Nat) (zs : Nat → Int) (w : World) (hL : L ≤ 4096) (hc : CodeIn w a L zs) :
    Calls Try.prog 27 #[.slice a L c] w (DrawnTI w) := by
  have uT := Try.underlying26
  have iT : (Try.prog.info? 26).map (·.size) = some 6 := by kernel_rfl
  have hmx : Try.prog.follows .mixedOrders = true := by kernel_rfl
  have h1 := codeIn_below hc (bl_alloc (bl_refl w) (.cells (([.slice none 0 0, .int .i64 0, .int .i64 0, .int .i64 0, .int .i64 0, .int .i64 0] : List Value)).toArray 26))
  have KF := Lib.hid (from_any a L c zs _ hL h1)
  have N0 := Lib.hid (blk_new w 26 [.slice none 0 0, .int .i64 0, .int .i64 0, .int .i64 0, .int .i64 0, .int .i64 0])
  have Z0 : Hid (w.heap.size < (w.alloc (.cells (([.slice none 0 0, .int .i64 0, .int .i64 0, .int .i64 0, .int .i64 0, .int .i64 0] : List Value)).toArray 26)).heap.size) := Lib.hid (by rw [World.size_alloc]; omega)
  have B0 := Lib.hid (bl_alloc (bl_refl w) (.cells (([.slice none 0 0, .int .i64 0, .int .i64 0, .int .i64 0, .int .i64 0, .int .i64 0] : List Value)).toArray 26))
  clear hc h1
  go_enter Try.func27, Try.ntmps27
  go_wp2_with (go_at_call 49; refine (KF.out).mono ?_; rintro e w1 ⟨rfl, hs1, hb1⟩; rw [World.size_alloc] at hs1; have KD := Lib.hid (drawT_any _ _ _ _ _ _ hs1); have B1 := Lib.hid (bl_trans B0.out hb1); have N1 := Lib.hid (N0.out.below hb1); have Z1 : Hid (w.heap.size < w1.heap.size) := Lib.hid (by have := hb1.size; have := Z0.out; omega); have Z2 : Hid (w.heap.size + 1 < w1.heap.size) := Lib.hid (src_lt hs1); clear hs1 hb1)
  go_wp2_with (go_at_call 48; refine (KD.out).mono ?_; rintro e w2 ⟨A, k, xs, b, p, g, t, l, rfl, hx2, hx11, hg0, hg1, ho2, hs2, hy2⟩; have BL := Lib.hid (bl_alloc (bl_refl w2) (.cells ([.slice A xs.length k, .int .i64 b, .int .i64 p, .int .i64 g, .int .i64 t, .int .i64 l] : List Value).toArray 26)); have O3 := Lib.hid (ho2.below BL.out); have B3 := Lib.hid (bl_trans (bl_trans' B1.out (by omega) hy2) BL.out); have N3 := Lib.hid ((blk_only N1.out hy2 (by omega)).below BL.out); have S3 := Lib.hid (hs2.below BL.out); have X3 := Lib.hid (blk_new w2 26 [.slice A xs.length k, .int .i64 b, .int .i64 p, .int .i64 g, .int .i64 t, .int .i64 l]); have Z3 : Hid (w1.heap.size ≤ w2.heap.size) := Lib.hid hy2.size; clear ho2 hs2 hy2 BL)
  obtain ⟨w3, e3⟩ : ∃ w3, w3 = w2.alloc (.cells ([.slice A xs.length k, .int .i64 b, .int .i64 p, .int .i64 g, .int .i64 t, .int .i64 l] : List Value).toArray 26) := ⟨_, rfl⟩
  rw [← e3] at O3 B3 N3 S3 X3 ⊢
  clear e3
  refine wp_region_R (R := fun a b => Below a.heap.size a b) (I := fun W' => Blk W' w2.heap.size 26 [.slice A xs.length k, .int .i64 b, .int .i64 p, .int .i64 g, .int .i64 t, .int .i64 l]) (last := 5) (k := 5) (fun _ => bl_refl _) hmx rfl (fun HC0 => ?_)
  refine wpAnyR_takeL (i := 0) (kw := 5) (v := .agg #[.slice A xs.length k, .int .i64 b, .int .i64 p, .int .i64 g, .int .i64 t, .int .i64 l]) (fun _ => bl_refl _) (fun p q => bl_trans p q) rfl rfl (by kernel_rfl) (by kernel_rfl) (by kernel_rfl) (by kernel_rfl) (fun _ _ _ h => h) HC0 (Or.inl ⟨by kernel_rfl, fun W' hI => ?_⟩) (fun HC1 => ?_)
  · obtain ⟨q0, -⟩ := hI.cell 0 _ rfl; obtain ⟨q1, -⟩ := hI.cell 1 _ rfl; obtain ⟨q2, -⟩ := hI.cell 2 _ rfl; obtain ⟨q3, -⟩ := hI.cell 3 _ rfl; obtain ⟨q4, -⟩ := hI.cell 4 _ rfl; obtain ⟨q5, -⟩ := hI.cell 5 _ rfl
    exact .inl (by go_simp)
  refine wpAnyR_takeL (i := 1) (kw := 5) (v := .pointer (some ⟨w.heap.size + 1, 0, none⟩)) (fun _ => bl_refl _) (fun p q => bl_trans p q) rfl rfl (by kernel_rfl) (by kernel_rfl) (by kernel_rfl) (by kernel_rfl) (fun _ _ _ h => h) HC1 (Or.inl ⟨by kernel_rfl, fun W' hI => ?_⟩) (fun HC2 => ?_)
  · exact .inl (by go_simp)
  refine wpAnyR_oneL HC2 (i := 2) (by kernel_rfl) rfl (by kernel_rfl) (fun w4 hr4 => ⟨X3.out.below (bl_drewT hr4), ?_⟩)
  intro K hK
  have B4 := Lib.hid (bl_trans B3.out (bl_drewT hr4))
  have O4 := Lib.hid (O3.out.below (bl_drewT hr4))
  have N4 := Lib.hid (N3.out.below (bl_drewT hr4))
  have X4 := Lib.hid (X3.out.below (bl_drewT hr4))
  have KN := Lib.hid (next_any (w.heap.size + 1) 6 a L c zs _ (by omega) (by omega) (S3.out.below (bl_drewT hr4)))
  clear hr4
  go_simp
  go_wp2_with (go_at_call 63; refine (KN.out).mono ?_; rintro e w5 ⟨x, rfl, x0, x1, hs5, ho5⟩; have O5 := Lib.hid (own_only O4.out ho5 (by have := Z2.out; omega)); have N5 := Lib.hid (blk_only N4.out ho5 (by omega)); have X5 := Lib.hid (blk_only X4.out ho5 (by have := Z2.out; have := Z3.out; omega)); have B5 := Lib.hid (bl_trans' B4.out (by omega) ho5); clear hs5 ho5)
  intro HC3
  have hw : IntKind.i64.wrap (x - 1) = x - 1 := IntWalk.i64_in _ (by omega)
  refine wpAnyR_takeL (i := 3) (kw := 5) (v := .int .i64 (x - 1)) (fun _ => bl_refl _) (fun p q => bl_trans p q) rfl rfl (by kernel_rfl) (by kernel_rfl) (by kernel_rfl) (by kernel_rfl) (fun _ _ _ h => h) HC3 (Or.inl ⟨by kernel_rfl, fun W' hI => ?_⟩) (fun HC4 => ?_)
  · exact .inl (by go_simp)
  refine wpAnyR_oneL HC4 (i := 4) (by kernel_rfl) rfl (by kernel_rfl) (fun w6 hr6 => ⟨X5.out.below hr6, ?_⟩)
  intro K hK
  have B6 := Lib.hid (bl_trans B5.out hr6)
  have O6 := Lib.hid (O5.out.below hr6)
  have N6 := Lib.hid (N5.out.below hr6)
  have X6 := Lib.hid (X5.out.below hr6)
  try simp only [Act.put, List.setIfInBounds_toArray, List.set_cons_succ, List.set_cons_zero]
  refine wp_store_blk 26 6 (.tmp 2) (.tmp 10) rfl iT w.heap.size rfl [.slice A xs.length k, .int .i64 b, .int .i64 p, .int .i64 g, .int .i64 t, .int .i64 l] rfl rfl (by simp [Value.oneCell']) _ N6.out rfl ?_
  intro w7 k7 g7
  have O7 := Lib.hid (own_keptT O6.out N6.out (by decide) g7)
  have X7 := Lib.hid (X6.out.grown g7 (fun e => by injection e with e; have := Z2.out; have := Z3.out; omega))
  have B7 := Lib.hid (B6.out.grown g7 B6.out.size (fun j hj => by injection hj with hj; omega))
  have K7 := Lib.hid k7
  clear k7 g7
  refine hK _ _ ?_
  clear hK K
  intro HC5
  refine wpAnyR_lastL (by kernel_rfl) (by kernel_rfl) rfl (by kernel_rfl) (fun w8 hr8 => ⟨X7.out.below hr8, ?_⟩)
  intro K hK
  have O8 := Lib.hid (O7.out.below hr8)
  have K8 := Lib.hid (K7.out.below hr8)
  have B8 := Lib.hid (bl_trans B7.out hr8)
  go_simp
  refine hK _ _ ?_
  clear hK K
  go_wp2_with fail
  obtain ⟨z0', _⟩ := K8.out.cell 0 _ rfl
  obtain ⟨z1', _⟩ := K8.out.cell 1 _ rfl
  obtain ⟨z2', _⟩ := K8.out.cell 2 _ rfl
  obtain ⟨z3', _⟩ := K8.out.cell 3 _ rfl
  obtain ⟨z4', _⟩ := K8.out.cell 4 _ rfl
  obtain ⟨z5', _⟩ := K8.out.cell 5 _ rfl
  exact bodyPost_ret (v := .tuple #[.agg #[.slice A xs.length k, .int .i64 b, .int .i64 p, .int .i64 g, .int .i64 t, .int .i64 l], .int .i64 (x - 1)]) (by simp [results, Try.results27, go_sem, z0', z1', z2', z3', z4', z5']) rfl ⟨A, k, xs, b, p, g, t, l, x - 1, rfl, hx2, hx11, by omega, by omega, O8.out.rd, B8.out⟩
end Go.Proofs.Ytnbaemgidfgdaaa
