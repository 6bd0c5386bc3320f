/-
  A table and the chips behind a hand, drawn.
-/
import Derived.Test.YtimdgaclmejjhaaDrawTabFns
namespace Go.Proofs.Ytimdgaclmejjhaa
open Go.RowKit
set_option linter.unusedVariables false

/-- A table and a list that have been drawn. -/
def DrawnTL (w : World) (e : Ending) (w' : World) : Prop :=
  ∃ (A : Option Addr) (k : Nat) (xs : List Int) (b p g t l : Int) (A2 : Option Addr) (c2 : Nat) (ys : List Int), e = .returned (.tuple #[.agg #[.slice A xs.length k, .int .i64 b, .int .i64 p, .int .i64 g, .int .i64 t, .int .i64 l], .slice A2 ys.length c2]) ∧ 2 ≤ xs.length ∧ xs.length ≤ 11 ∧ ys.length ≤ 12 ∧ ys.length ≤ c2 ∧ Rd w' A xs ∧ Rd w' A2 ys ∧ Below w.heap.size w w'
theorem wpList_store_ownT {ops : Array Oper} {rest : List Oper} {o : Oper} {a : Act} {w : World} {Q : Exit → Act → World → Prop} (hgd : o.guard = none) (x y : Operand) (ho : o.op = .store 2 x y)
    (hi : (Try.prog.info? 2).map (·.size) = some 1) (g lo k : Nat) (xs : List Int) (u : Int) (hx : a.eval x = .pointer (some ⟨g, 0, none⟩)) (hy : a.eval y = .int .i64 u) (hB : Own w lo (.slice (some ⟨g, 0, none⟩) xs.length k) xs) (hl : 0 < xs.length)
    (h : ∀ ws w', Hid (ws.length = xs.length) → Own w' lo (.slice (some ⟨g, 0, none⟩) ws.length k) ws → w.grownBy w' (some g) → wpList Try.prog ops Q rest (a.put o.dst undef) w') : wpList Try.prog ops Q (o :: rest) a w :=
  wpList_plain hgd fun _ hK => by
    obtain ⟨hc, hf⟩ := own_atC hB 0 hl
    obtain ⟨k1, k2⟩ := own_setC hB 0 u
    unfold Oper.wp execOp
    simp only [ho, hx, hy, Instr.storeAt, Instr.sureAddr, Sem.run_bind, Sem.run_pure, Result.andThen_ok, run_store1 w _ 2 (.int .i64 u) _ hi rfl hc hf]
    exact hK _ _ (h _ _ (Lib.hid (List.length_set ..)) k1 k2)
set_option maxRecDepth 100000 in
set_option maxHeartbeats 4000000 in
theorem drawNextTable_any (a : Option Addr) (L c : Nat) (zs : Nat → Int) (w : World) (hL : L ≤ 4096) (hc : CodeIn w a L zs) :
    Calls Try.prog 5 #[.slice a L c] w (DrawnTL w) := by
  have uT := Try.underlying26
  have iT : (Try.prog.info? 26).map (·.size) = some 6 := by kernel_rfl
  have i1 : (Try.prog.info? 2).map (·.size) = some 1 := by kernel_rfl
  have h1 := codeIn_below hc (bl_alloc (bl_refl w) (.cells (([.slice none 0 0, .int .i64 0, .int .i64 0, .int .i64 0, .int .i64 0, .int .i64 0] : List Value)).toArray 26))
  have KF := Lib.hid (from_any a L c zs _ hL h1)
  have N0 := Lib.hid (blk_new w 26 [.slice none 0 0, .int .i64 0, .int .i64 0, .int .i64 0, .int .i64 0, .int .i64 0])
  have Z0 : Hid (w.heap.size < (w.alloc (.cells (([.slice none 0 0, .int .i64 0, .int .i64 0, .int .i64 0, .int .i64 0, .int .i64 0] : List Value)).toArray 26)).heap.size) := Lib.hid (by rw [World.size_alloc]; omega)
  have B0 := Lib.hid (bl_alloc (bl_refl w) (.cells (([.slice none 0 0, .int .i64 0, .int .i64 0, .int .i64 0, .int .i64 0, .int .i64 0] : List Value)).toArray 26))
  clear hc h1
  go_enter Try.func5, Try.ntmps5
  go_wp2_with (go_at_call 14; refine (KF.out).mono ?_; rintro e w1 ⟨rfl, hs1, hb1⟩; rw [World.size_alloc] at hs1; have KD := Lib.hid (drawT_any _ _ _ _ _ _ hs1); have B1 := Lib.hid (bl_trans B0.out hb1); have N1 := Lib.hid (N0.out.below hb1); have Z2 : Hid (w.heap.size + 1 < w1.heap.size) := Lib.hid (src_lt hs1); clear hs1 hb1)
  go_wp2_with (go_at_call 15; refine (KD.out).mono ?_; rintro e w2 ⟨A, k, xs, b, p, g, t, l, rfl, hx2, hx11, hg0, hg1, ho2, hs2, hy2⟩; have BL := Lib.hid (bl_alloc (bl_refl w2) (.cells ([.slice A xs.length k, .int .i64 b, .int .i64 p, .int .i64 g, .int .i64 t, .int .i64 l] : List Value).toArray 26)); have O3 := Lib.hid (ho2.below BL.out); have B3 := Lib.hid (bl_trans (bl_trans' B1.out (by omega) hy2) BL.out); have N3 := Lib.hid ((blk_only N1.out hy2 (by omega)).below BL.out); have S3 := Lib.hid (hs2.below BL.out); have X3 := Lib.hid (blk_new w2 26 [.slice A xs.length k, .int .i64 b, .int .i64 p, .int .i64 g, .int .i64 t, .int .i64 l]); have Z3 : Hid (w1.heap.size ≤ w2.heap.size) := Lib.hid hy2.size; clear ho2 hs2 hy2 BL)
  obtain ⟨w3, e3⟩ : ∃ w3, w3 = w2.alloc (.cells ([.slice A xs.length k, .int .i64 b, .int .i64 p, .int .i64 g, .int .i64 t, .int .i64 l] : List Value).toArray 26) := ⟨_, rfl⟩
  have Z4 : Hid (w3.heap.size = w2.heap.size + 1) := Lib.hid (by rw [e3]; exact World.size_alloc _ _)
  rw [← e3] at O3 B3 N3 S3 X3 ⊢
  clear e3
  have hs3 : w.heap.size + 1 < w3.heap.size := by have := Z2.out; have := Z3.out; have := Z4.out; omega
  have hw1 : w.heap.size + 1 < w1.heap.size := Z2.out
  have hg2 : w2.heap.size ≠ w.heap.size + 1 := by have := Z2.out; have := Z3.out; omega
  have HS := Lib.hid hs3
  have HW := Lib.hid hw1
  have HG := Lib.hid hg2
  have HB := Lib.hid (codeB_of S3.out)
  clear hs3 hw1 hg2
  have ON : Hid (Own (w3.alloc (.cells #[] 2)) w3.heap.size (.slice (some ⟨w2.heap.size + 1, 0, none⟩) 0 0) []) := Lib.hid (by rw [← Z4.out]; exact own_new w3)
  go_loopw [6, 7] (fun v i wr => ∃ (m : Nat) (A' : Option Addr) (c' : Nat) (ys : List Int), m ≤ xs.length ∧ v = .slice A' ys.length c' ∧ Hid (ys.length = m) ∧ i = .int .i64 m ∧ Hid (Own wr w3.heap.size (.slice A' ys.length c') ys) ∧ Hid (Src wr (w.heap.size + 1) a L c zs) ∧ Hid (Only (w.heap.size + 1) w3 wr)) (fun _ i _ => xs.length - (intOf i).toNat)
  case atStart => exact ⟨0, _, 0, [], Nat.zero_le _, rfl, Lib.hid rfl, rfl, ON, Lib.hid (src_alloc S3.out _), Lib.hid (only_alloc (only_refl _ _) _)⟩
  case round =>
    obtain ⟨m, A', c', ys, hm, rfl, HL, rfl, HO, HSr, HY⟩ := hrel
    have Xr := Lib.hid (blk_only X3.out HY.out HG.out)
    obtain ⟨q0, -⟩ := Xr.out.cell 0 _ rfl
    by_cases hlt : m < xs.length
    · have hlt' : (m : Int) < xs.length := by omega
      have KP := Lib.hid (pickT_row [0, 0, 5, 100] 4 wr (w.heap.size + 1) a L c zs HSr.out rfl (by omega) (by omega) 0 100 (by intro y hy; simp at hy; omega))
      simp only [List.map_cons, List.map_nil] at KP
      go_wp2_with (first
        | (go_at_call 16; refine (KP.out).mono ?_; rintro e w4 ⟨z, rfl, z0, z1, hs4, ho4⟩; have HSp := Lib.hid hs4; have HOp := Lib.hid (own_only (HO.out.below (bl_alloc (bl_refl wr) (.cells #[.int .i64 0, .int .i64 0, .int .i64 5, .int .i64 100] 2))) ho4 HS.out); have HYp := Lib.hid (only_trans (only_trans HY.out (only_below (bl_alloc (bl_refl wr) (.cells #[.int .i64 0, .int .i64 0, .int .i64 5, .int .i64 100] 2)))) ho4); clear hs4 ho4; have HOb := Lib.hid (HOp.out.below (bl_alloc (bl_refl w4) (.cells #[.int .i64 z] 2))); have RDb := Lib.hid (rd_blk (blk_new w4 2 (ints [z]))); have SZb : Hid (w3.heap.size ≤ (w4.alloc (.cells #[.int .i64 z] 2)).heap.size) := Lib.hid (by rw [World.size_alloc]; have := HYp.out.size; omega); have LNb : Hid (ys.length + [(z : Int)].length ≤ 4000000) := Lib.hid (by have := HL.out; simp; omega); have HSb := Lib.hid (HSp.out.below (bl_alloc (bl_refl w4) (.cells #[.int .i64 z] 2))); have HYb := Lib.hid (only_trans HYp.out (only_below (bl_alloc (bl_refl w4) (.cells #[.int .i64 z] 2)))))
        | (at_builtin; refine wpList_glue (.tmp 20) (.tmp 24) rfl rfl w3.heap.size (.slice A' ys.length c') ys [z] (some ⟨w4.heap.size, 0, none⟩) 1 rfl HOb.out rfl RDb.out LNb.out SZb.out ?_; intro A2 c2 ws w6 ew ho hg _; have HO6 := Lib.hid ho; have HS6 := Lib.hid (src_grown (B := w3.heap.size) HSb.out hg (fun j e => (World.ownsRow.lt HOb.out j e).1) HS.out HB.out); have HY6 := Lib.hid (only_grown HYb.out hg (fun j e => (World.ownsRow.lt HOb.out j e).1)); have hwl : Hid (ws.length = ys.length + 1) := Lib.hid (by rw [ew.out]; simp); clear ho hg ew))
      go_roundw
      case rel => exact ⟨m + 1, A2, c2, ws, by omega, rfl, Lib.hid (by rw [hwl.out, HL.out]), by go_num, HO6, HS6, HY6⟩
      case measure => simp [intOf]; omega
    · obtain rfl : m = xs.length := by omega
      have KN := Lib.hid (next_any (w.heap.size + 1) 20 a L c zs wr (by omega) (by omega) HSr.out)
      obtain ⟨gA, rfl, hA1, hA2, hA3, _⟩ := own_some HO.out (by have := HL.out; omega)
      have hne : ys ≠ [] := fun e => by have := HL.out; rw [e] at this; simp at this; omega
      have hpos : (0 : Int) < ys.length := by have := HL.out; omega
      go_wp2_with (first
        | (go_at_call 17; refine (KN.out).mono ?_; rintro e w4 ⟨x, rfl, x0, x1, hs4, ho4⟩; have HSp := Lib.hid hs4; have HOp := Lib.hid (own_only HO.out ho4 HS.out); have HYp := Lib.hid (only_trans HY.out ho4); clear hs4 ho4; have Tp := Lib.hid (own_only O3.out HYp.out HW.out); have Xp := Lib.hid (blk_only X3.out HYp.out HG.out); have Mp := Lib.hid (blk_only N3.out HYp.out (by omega)); have Dp := Lib.hid (bl_trans' B3.out (by omega) HYp.out); obtain ⟨r0, -⟩ := Xp.out.cell 0 _ rfl; obtain ⟨r1, -⟩ := Xp.out.cell 1 _ rfl; obtain ⟨r2, -⟩ := Xp.out.cell 2 _ rfl; obtain ⟨r3, -⟩ := Xp.out.cell 3 _ rfl; obtain ⟨r4, -⟩ := Xp.out.cell 4 _ rfl; obtain ⟨r5, -⟩ := Xp.out.cell 5 _ rfl; have HOb := Lib.hid (HOp.out.below (bl_alloc (bl_refl w4) (.cells #[.int .i64 1] 2))); have RDb := Lib.hid (rd_blk (blk_new w4 2 (ints [1]))); have SZb : Hid (w3.heap.size ≤ (w4.alloc (.cells #[.int .i64 1] 2)).heap.size) := Lib.hid (by rw [World.size_alloc]; have := HYp.out.size; omega); have LNb : Hid (ys.length + [(1 : Int)].length ≤ 4000000) := Lib.hid (by have := HL.out; simp; omega); have HSb := Lib.hid (HSp.out.below (bl_alloc (bl_refl w4) (.cells #[.int .i64 1] 2))); have HYb := Lib.hid (only_trans HYp.out (only_below (bl_alloc (bl_refl w4) (.cells #[.int .i64 1] 2)))); have KP := Lib.hid (pickT_row [-1, 100000, 100001] 3 w4 (w.heap.size + 1) a L c zs HSp.out rfl (by omega) (by omega) (-1) 100001 (by intro y hy; simp at hy; omega)); simp only [List.map_cons, List.map_nil] at KP)
        | (at_builtin; refine wpList_glue (.tmp 30) (.tmp 31) rfl rfl w3.heap.size (.slice (some ⟨gA, 0, none⟩) ys.length c') ys [1] (some ⟨w4.heap.size, 0, none⟩) 1 rfl HOb.out rfl RDb.out LNb.out SZb.out ?_; intro A2 c2 ws w6 ew ho hg _; have HO6 := Lib.hid ho; have HS6 := Lib.hid (src_grown (B := w3.heap.size) HSb.out hg (fun j e => (World.ownsRow.lt HOb.out j e).1) HS.out HB.out); have HY6 := Lib.hid (only_grown HYb.out hg (fun j e => (World.ownsRow.lt HOb.out j e).1)); have hwl : Hid (ws.length = ys.length + 1) := Lib.hid (by rw [ew.out]; simp); clear ho hg ew; clear r0 r1 r2 r3 r4 r5 q0; have T6 := Lib.hid (own_only O3.out HY6.out HW.out); have X6 := Lib.hid (blk_only X3.out HY6.out HG.out); have M6 := Lib.hid (blk_only N3.out HY6.out (by omega)); have D6 := Lib.hid (bl_trans' B3.out (by omega) HY6.out); obtain ⟨s0, -⟩ := X6.out.cell 0 _ rfl; obtain ⟨s1, -⟩ := X6.out.cell 1 _ rfl; obtain ⟨s2, -⟩ := X6.out.cell 2 _ rfl; obtain ⟨s3, -⟩ := X6.out.cell 3 _ rfl; obtain ⟨s4, -⟩ := X6.out.cell 4 _ rfl; obtain ⟨s5, -⟩ := X6.out.cell 5 _ rfl)
        | (go_at_call 16; refine (KP.out).mono ?_; rintro e w5 ⟨z, rfl, z0, z1, hs4, ho4⟩; have HOq := Lib.hid (own_only (HOp.out.below (bl_alloc (bl_refl w4) (.cells #[.int .i64 (-1), .int .i64 100000, .int .i64 100001] 2))) ho4 HS.out); have HYq := Lib.hid (only_trans (only_trans HYp.out (only_below (bl_alloc (bl_refl w4) (.cells #[.int .i64 (-1), .int .i64 100000, .int .i64 100001] 2)))) ho4); clear hs4 ho4 r0 r1 r2 r3 r4 r5 q0)
        | (refine wpList_store_ownT rfl (.tmp 39) (.tmp 38) rfl i1 gA w3.heap.size c' ys z rfl rfl HOq.out (by have := HL.out; omega) ?_; intro ws w6 hwl ho hg; have HO6 := Lib.hid ho; have HY6 := Lib.hid (only_grown HYq.out hg (fun j e => by injection e with e; omega)); clear ho hg; have T6 := Lib.hid (own_only O3.out HY6.out HW.out); have X6 := Lib.hid (blk_only X3.out HY6.out HG.out); have M6 := Lib.hid (blk_only N3.out HY6.out (by omega)); have D6 := Lib.hid (bl_trans' B3.out (by omega) HY6.out); obtain ⟨s0, -⟩ := X6.out.cell 0 _ rfl; obtain ⟨s1, -⟩ := X6.out.cell 1 _ rfl; obtain ⟨s2, -⟩ := X6.out.cell 2 _ rfl; obtain ⟨s3, -⟩ := X6.out.cell 3 _ rfl; obtain ⟨s4, -⟩ := X6.out.cell 4 _ rfl; obtain ⟨s5, -⟩ := X6.out.cell 5 _ rfl)
        | (refine wpList_store_blk 26 6 rfl (.tmp 2) (.tmp 40) rfl iT w.heap.size rfl [.slice A xs.length k, .int .i64 b, .int .i64 p, .int .i64 g, .int .i64 t, .int .i64 l] rfl rfl (by simp [Value.oneCell']) _ M6.out rfl ?_; intro w9 k9 g9; have HO9 := Lib.hid (own_keptT T6.out M6.out (by decide) g9); have HR9 := Lib.hid (own_keptT HO6.out M6.out (by decide) g9); have HB9 := Lib.hid (D6.out.grown g9 D6.out.size (fun j hj => by injection hj with hj; omega)); have K9 := Lib.hid k9; clear k9 g9)
        | (refine wpList_store_blk 26 6 rfl (.tmp 2) (.tmp 40) rfl iT w.heap.size rfl [.slice A xs.length k, .int .i64 b, .int .i64 p, .int .i64 g, .int .i64 t, .int .i64 l] rfl rfl (by simp [Value.oneCell']) _ Mp.out rfl ?_; intro w9 k9 g9; have HO9 := Lib.hid (own_keptT Tp.out Mp.out (by decide) g9); have HR9 := Lib.hid (own_keptT HOp.out Mp.out (by decide) g9); have HB9 := Lib.hid (Dp.out.grown g9 Dp.out.size (fun j hj => by injection hj with hj; omega)); have K9 := Lib.hid k9; clear k9 g9))
      · obtain ⟨_, _, _, _, hcap, _⟩ := own_some HR9.out (by have := hwl.out; have := HL.out; omega)
        obtain ⟨z0', _⟩ := K9.out.cell 0 _ rfl
        obtain ⟨z1', _⟩ := K9.out.cell 1 _ rfl
        obtain ⟨z2', _⟩ := K9.out.cell 2 _ rfl
        obtain ⟨z3', _⟩ := K9.out.cell 3 _ rfl
        obtain ⟨z4', _⟩ := K9.out.cell 4 _ rfl
        obtain ⟨z5', _⟩ := K9.out.cell 5 _ rfl
        exact bodyPost_ret (v := .tuple #[.agg #[.slice A xs.length k, .int .i64 b, .int .i64 p, .int .i64 g, .int .i64 t, .int .i64 l], .slice A2 ws.length c2]) (by simp [results, Try.results5, go_sem, z0', z1', z2', z3', z4', z5']) rfl ⟨A, k, xs, b, p, g, t, l, A2, c2, ws, rfl, hx2, hx11, by have := hwl.out; have := HL.out; omega, hcap, HO9.out.rd, HR9.out.rd, HB9.out⟩
      · obtain ⟨_, _, _, _, hcap, _⟩ := own_some HR9.out (by have := hwl.out; have := HL.out; omega)
        obtain ⟨z0', _⟩ := K9.out.cell 0 _ rfl
        obtain ⟨z1', _⟩ := K9.out.cell 1 _ rfl
        obtain ⟨z2', _⟩ := K9.out.cell 2 _ rfl
        obtain ⟨z3', _⟩ := K9.out.cell 3 _ rfl
        obtain ⟨z4', _⟩ := K9.out.cell 4 _ rfl
        obtain ⟨z5', _⟩ := K9.out.cell 5 _ rfl
        exact bodyPost_ret (v := .tuple #[.agg #[.slice A xs.length k, .int .i64 b, .int .i64 p, .int .i64 g, .int .i64 t, .int .i64 l], .slice (some ⟨gA, 0, none⟩) ws.length c']) (by simp [results, Try.results5, go_sem, z0', z1', z2', z3', z4', z5', hwl.out]) rfl ⟨A, k, xs, b, p, g, t, l, (some ⟨gA, 0, none⟩), c', ws, rfl, hx2, hx11, by have := hwl.out; have := HL.out; omega, hcap, HO9.out.rd, HR9.out.rd, HB9.out⟩
      · obtain ⟨_, _, _, _, hcap, _⟩ := own_some HR9.out (by have := HL.out; omega)
        obtain ⟨z0', _⟩ := K9.out.cell 0 _ rfl
        obtain ⟨z1', _⟩ := K9.out.cell 1 _ rfl
        obtain ⟨z2', _⟩ := K9.out.cell 2 _ rfl
        obtain ⟨z3', _⟩ := K9.out.cell 3 _ rfl
        obtain ⟨z4', _⟩ := K9.out.cell 4 _ rfl
        obtain ⟨z5', _⟩ := K9.out.cell 5 _ rfl
        exact bodyPost_ret (v := .tuple #[.agg #[.slice A xs.length k, .int .i64 b, .int .i64 p, .int .i64 g, .int .i64 t, .int .i64 l], .slice (some ⟨gA, 0, none⟩) ys.length c']) (by simp [results, Try.results5, go_sem, z0', z1', z2', z3', z4', z5']) rfl ⟨A, k, xs, b, p, g, t, l, (some ⟨gA, 0, none⟩), c', ys, rfl, hx2, hx11, by have := HL.out; omega, hcap, HO9.out.rd, HR9.out.rd, HB9.out⟩
end Go.Proofs.Ytimdgaclmejjhaa
