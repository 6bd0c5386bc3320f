/-
  The model's sort by insertion.
-/
import Derived.Test.YtilbkgnjgmlhjaaDoorInsPure
import Derived.Test.YtilbkgnjgmlhjaaDoorRows2
import Derived.Test.YtilbkgnjgmlhjaaDoorDraws
import Derived.BigQuiet
namespace Go.Proofs.YtilbkgnjgmlhjaaDoor
open Go.RowKit
set_option linter.unusedVariables false

theorem rd_grownI {w w' : World} {A : Option Addr} {xs : List Int} {row : Option Nat} (h : Rd w A xs) (hg : w.grownBy w' row) (hne : ∀ a, A = some a → some a.block ≠ row) : Rd w' A xs := fun h0 => by
  obtain ⟨b, off, e, hc⟩ := h h0
  exact ⟨b, off, e, fun i hi => (World.cell?_of_block (a := ⟨b, off + i, none⟩) (hg.block b (World.block_lt_of_cell? w _ (hc i hi)) (hne ⟨b, off, none⟩ e))).trans (hc i hi)⟩
/-- What the loops keep. -/
def sortedSt (w : World) (os : List Int) (v : Value) (wr : World) : Prop := Own wr w.heap.size v os ∧ Below w.heap.size w wr
theorem sortedSt.below {w wr w' : World} {os : List Int} {v : Value} (h : sortedSt w os v wr) (hb : Below wr.heap.size wr w') : sortedSt w os v w' := ⟨h.1.below hb, bl_trans h.2 hb⟩
set_option maxRecDepth 100000 in
set_option maxHeartbeats 4000000 in
theorem sorted_any (A : Option Addr) (cA : Nat) (xs : List Int) (w : World) (hr : Rd w A xs) (hl100 : xs.length ≤ 100) :
    Calls Tryd.prog 120 #[.slice A xs.length cA] w (NewL (sortA xs) w) := by
  have HR := Lib.hid hr
  clear hr
  obtain ⟨w0, rfl⟩ : ∃ w0 : World, w0 = w := ⟨w, rfl⟩
  go_enter Tryd.func120, Tryd.ntmps120
  go_wp2_with fail
  have HS0 : Hid (sortedSt w0 [] (.slice (some ⟨w0.heap.size, 0, none⟩) 0 0) (w0.alloc (.cells #[] 2))) := Lib.hid ⟨own_new w0, bl_alloc (bl_refl _) _⟩
  go_loopw [3, 4] (fun v i wr => ∃ (m : Nat) (os : List Int) (g c' : Nat), m ≤ xs.length ∧ os.length = m ∧ v = .slice (some ⟨g, 0, none⟩) m c' ∧ i = .int .i64 m ∧ Hid (sortedSt w0 os (.slice (some ⟨g, 0, none⟩) os.length c') wr) ∧ Hid (os = sortM xs m)) (fun _ i _ => xs.length - (intOf i).toNat)
  case atStart => exact ⟨0, [], w0.heap.size, 0, Nat.zero_le _, rfl, rfl, rfl, HS0, Lib.hid rfl⟩
  case round =>
    obtain ⟨m, os, g, c', hm, hl, rfl, rfl, hp, hos⟩ := hrel
    by_cases hlt : m < xs.length
    · have hlt' : (m : Int) < xs.length := by omega
      have HOM : Hid (∀ z ∈ os, z ∈ xs) := Lib.hid (fun z hz => List.mem_of_mem_take (((sortM_facts xs m hm).1).mem_iff.1 (by rw [← hos.out]; exact hz)))
      have EI : Hid (sortM xs (m + 1) = (os.take (placeA (nth xs m) os) ++ [nth xs m]) ++ os.drop (placeA (nth xs m) os)) := Lib.hid (by
        rw [sortM, ← hos.out]; exact insA_place _ _)
      have hpl := placeA_le (nth xs m) os
      have HPB := Lib.hid (fun j hj => placeA_before (nth xs m) os j hj)
      have HPA := Lib.hid (placeA_at (nth xs m) os)
      have HXX := Lib.hid (nth_mem xs m hlt)
      generalize placeA (nth xs m) os = k at *
      rw [hl] at hpl
      obtain ⟨b, off, rfl, hc0⟩ := HR.out (by omega)
      have hcx0 := hc0 m hlt
      generalize hxx : nth xs m = x at *
      have EXX := Lib.hid hxx
      clear hxx hc0
      have HX0 := Lib.hid hcx0
      clear hcx0
      go_wp2_with fail
      go_loopw [5] (fun p wx => ∃ n : Nat, n ≤ k ∧ p = .int .i64 n ∧ Hid (sortedSt w0 os (.slice (some ⟨g, 0, none⟩) os.length c') wx)) (fun p _ => k - (intOf p).toNat)
      case atStart => exact ⟨0, Nat.zero_le _, rfl, hp⟩
      case round =>
        obtain ⟨n, hn, rfl, hq⟩ := hrel
        have hcx := (hq.out.2.cell (p := ⟨b, off + m, none⟩) (World.block_lt_of_cell? _ _ HX0.out)).trans HX0.out
        by_cases hnk : n < k
        · have hnm : (n : Int) < (m : Int) := by omega
          have hcn := own_cell hq.out.1 n (by omega)
          have hb4 := HPB.out n hnk
          change nth os n ≤ x at hb4
          obtain ⟨y, ey⟩ : ∃ y, y = nth os n := ⟨_, rfl⟩
          rw [← ey] at hcn hb4

          clear ey
          go_wp2_with fail
          go_quiet (fail)
          go_wp2_with fail
          go_roundw
          case rel => exact ⟨n + 1, by omega, by go_num, Lib.hid (hq.out.below (bl_drewN (bl_refl _) _))⟩
          case measure => simp [intOf]; omega
        · obtain rfl : n = k := by omega
          by_cases hend : n < m
          · have hnm : (n : Int) < (m : Int) := by omega
            have hcn := own_cell hq.out.1 n (by omega)
            have hb4 := HPA.out (by omega)
            change x < nth os n at hb4
            obtain ⟨y, ey⟩ : ∃ y, y = nth os n := ⟨_, rfl⟩
            rw [← ey] at hcn hb4

            clear ey
            have HQ := Lib.hid (fun q => hq.out.below (bl_drewN (bl_refl wr) q))
            go_wp2_with fail
            go_quiet (fail)
            go_wp2_with fail
            have Q2 := Lib.hid (HQ.out nq)
            have HX : Hid ((wr.drewN nq).cell? ⟨b, off + m, none⟩ = some (.int .i64 x)) := Lib.hid hcx
            clear HQ hcx
            generalize wr.drewN nq = w2 at *
            have hcx2 := HX.out
            have hcap := own_cap Q2.out.1
            have hsl := run_sliceFrom g 0 m c' n (by omega)
            have hst := run_sliceTo g 0 m c' n (by omega)
            have hcx1 : (w2.alloc (.cells #[] 2)).cell? ⟨b, off + m, none⟩ = some (.int .i64 x) := ((bl_alloc (bl_refl w2) _).cell (p := ⟨b, off + m, none⟩) (World.block_lt_of_cell? w2 _ hcx2)).trans hcx2
            have S0 := Lib.hid (bl_drew (bl_alloc (bl_refl w2) (.cells #[] 2)))
            have S1 := Lib.hid (bl_drew (bl_alloc (bl_alloc (bl_refl w2) (.cells #[] 2)) (.cells #[.int .i64 x] 2)))
            have S2 := Lib.hid (bl_drew (bl_alloc (bl_alloc (bl_refl w2) (.cells #[.int .i64 x] 2)) (.cells #[] 2)))
            have O0 := Lib.hid (Own.below (own_new w2) (bl_drew (bl_refl _)))
            have O1 := Lib.hid (Own.below (own_new w2) (bl_drew (bl_alloc (bl_refl _) (.cells #[.int .i64 x] 2))))
            have O2 : Hid (Own ((w2.alloc (.cells #[.int .i64 x] 2)).alloc (.cells #[] 2)).drew w2.heap.size (.slice (some ⟨w2.heap.size + 1, 0, none⟩) 0 0) []) := Lib.hid (by
              have := own_new (w2.alloc (.cells #[.int .i64 x] 2))
              rw [World.size_alloc] at this
              exact (Own.below this (bl_drew (bl_refl _))).less (by omega))
            have R1 : Hid (Rd ((w2.alloc (.cells #[] 2)).alloc (.cells #[.int .i64 x] 2)).drew (some ⟨w2.heap.size + 1, 0, none⟩) [x]) := Lib.hid (by
              have := rd_new1 (w2.alloc (.cells #[] 2)) x
              rw [World.size_alloc] at this
              exact this.below (bl_drew (bl_refl _)))
            have R2 : Hid (Rd ((w2.alloc (.cells #[.int .i64 x] 2)).alloc (.cells #[] 2)).drew (some ⟨w2.heap.size, 0, none⟩) [x]) := Lib.hid ((rd_new1 w2 x).below (bl_drew (bl_alloc (bl_refl _) _)))
            have TK := Lib.hid (fun (W : World) (hb : Below w2.heap.size w2 W) => rd_to (n := n) (Q2.out.1.rd.below hb))
            have DR := Lib.hid (fun (W : World) (hb : Below w2.heap.size w2 W) => rd_from (n := n) (c := c') (Q2.out.1.rd.below hb) (.inl hcap))
            have LT : Hid ((os.take n).length = n) := Lib.hid (by rw [List.length_take]; omega)
            have LD : Hid ((os.drop n).length = m - n) := Lib.hid (by rw [List.length_drop]; omega)
            have L1 : Hid (([] : List Int).length + (os.take n).length ≤ 4000000) := Lib.hid (by rw [LT.out]; simp; omega)
            have GB : Hid (g < w2.heap.size) := Lib.hid (World.ownsRow.lt Q2.out.1 g rfl).2
            have BB : Hid (b < w2.heap.size) := Lib.hid (World.block_lt_of_cell? w2 _ hcx2)
            go_region_law (first
              | (refine step_glue rfl (.tmp 30) (.tmp 33) rfl w2.heap.size (.slice (some ⟨w2.heap.size, 0, none⟩) 0 0) [] (os.take n) (some ⟨g, 0, none⟩) c' (by simp [Act.eval]) O0.out (by rw [LT.out]; simp [Act.eval]) (TK.out _ S0.out) L1.out S0.out.size ?_
                 intro A4 c4 ws4 w4 e4 ho4 hg4 hv4
                 have S4 := Lib.hid (bl_app S0.out O0.out (Nat.le_refl _) hg4)
                 have hx4 : w4.cell? ⟨b, off + m, none⟩ = some (.int .i64 x) := (S4.out.cell (p := ⟨b, off + m, none⟩) BB.out).trans HX.out
                 have O4 := Lib.hid (Own.below ho4 (bl_alloc (bl_refl _) (.cells #[.int .i64 x] 2)))
                 have RX := Lib.hid (rd_new1 w4 x)
                 have S5 := Lib.hid (bl_alloc S4.out (.cells #[.int .i64 x] 2)))
              | (refine step_glue rfl (.tmp 30) (.tmp 33) rfl w2.heap.size (.slice (some ⟨w2.heap.size, 0, none⟩) 0 0) [] (os.take n) (some ⟨g, 0, none⟩) c' (by simp [Act.eval]) O1.out (by rw [LT.out]; simp [Act.eval]) (TK.out _ S1.out) L1.out S1.out.size ?_
                 intro A4 c4 ws4 w4 e4 ho4 hg4 hv4
                 have S4 := Lib.hid (bl_app S1.out O1.out (Nat.le_refl _) hg4)
                 have O4 := Lib.hid ho4
                 have RX := Lib.hid (rd_grownI R1.out hg4 (fun a e => by obtain rfl := Option.some.inj e; simp [Value.ownBlock]))
                 have S5 := Lib.hid S4.out)
              | (refine step_glue rfl (.tmp 30) (.tmp 33) rfl w2.heap.size (.slice (some ⟨w2.heap.size + 1, 0, none⟩) 0 0) [] (os.take n) (some ⟨g, 0, none⟩) c' (by simp [Act.eval]) O2.out (by rw [LT.out]; simp [Act.eval]) (TK.out _ S2.out) L1.out S2.out.size ?_
                 intro A4 c4 ws4 w4 e4 ho4 hg4 hv4
                 have S4 := Lib.hid (bl_app S2.out O2.out (Nat.le_refl _) hg4)
                 have O4 := Lib.hid ho4
                 have RX := Lib.hid (rd_grownI R2.out hg4 (fun a e => by obtain rfl := Option.some.inj e; simp [Value.ownBlock]))
                 have S5 := Lib.hid S4.out)
              | (refine step_glue rfl (.tmp 34) (.tmp 39) rfl w2.heap.size (.slice A4 ws4.length c4) ws4 [x] _ 1 (by simp [Act.eval]) O4.out (by simp [Act.eval]) RX.out (by rw [e4.out, List.nil_append, LT.out]; simp; omega) S5.out.size ?_
                 intro A5 c5 ws5 w5 e5 ho5 hg5 hv5
                 have S6 := Lib.hid (bl_app S5.out O4.out (Nat.le_refl _) hg5)
                 have L5 : Hid (ws5.length = n + 1) := Lib.hid (by rw [e5.out, e4.out, List.nil_append, List.length_append, LT.out]; rfl))
              | (refine step_glue rfl (.tmp 40) (.tmp 43) rfl w2.heap.size (.slice A5 ws5.length c5) ws5 (os.drop n) (fromAt g 0 c' n) (c' - n) (by simp [Act.eval]) ho5 (by rw [LD.out]; simp [Act.eval]) (DR.out _ S6.out) (by rw [L5.out, LD.out]; omega) S6.out.size ?_
                 intro A6 c6 ws6 w6 e6 ho6 hg6 hv6
                 have S7 := Lib.hid (bl_app S6.out ho5 (Nat.le_refl _) hg6)))
            all_goals
              have E6 : Hid (ws6 = (os.take n ++ [x]) ++ os.drop n) := Lib.hid (by rw [e6.out, e5.out, e4.out, List.nil_append])
              have L6 : Hid (ws6.length = m + 1) := Lib.hid (by rw [e6.out, List.length_append, L5.out, LD.out]; omega)
              have PM : Hid (ws6 = sortM xs (m + 1)) := Lib.hid (E6.out.trans EI.out.symm)
              obtain ⟨g6, rfl, _⟩ := own_some ho6 (by rw [L6.out]; omega)
              have P3 : Hid (sortedSt w0 ws6 (.slice (some ⟨g6, 0, none⟩) ws6.length c6) w6) := Lib.hid ⟨ho6.less Q2.out.2.size, bl_trans Q2.out.2 S7.out⟩
              rw [L6.out]
              clear ho6 hg6 hv6 ho5 hg5 hv5 ho4 hg4 hv4
              go_wp2_with fail
              go_roundw
              case rel => exact ⟨m + 1, ws6, g6, c6, by omega, L6.out, rfl, by go_num, P3, PM⟩
              case measure => simp [intOf]; omega
          · obtain rfl : n = m := by omega
            have HQ := Lib.hid (fun q => hq.out.below (bl_drewN (bl_refl wr) q))
            go_wp2_with fail
            go_quiet (fail)
            go_wp2_with fail
            have Q2 := Lib.hid (HQ.out nq)
            have HX : Hid ((wr.drewN nq).cell? ⟨b, off + n, none⟩ = some (.int .i64 x)) := Lib.hid hcx
            clear HQ hcx
            generalize wr.drewN nq = w2 at *
            have hcx2 := HX.out
            have hcap := own_cap Q2.out.1
            have hsl := run_sliceFrom g 0 n c' n (by omega)
            have hst := run_sliceTo g 0 n c' n (by omega)
            have hcx1 : (w2.alloc (.cells #[] 2)).cell? ⟨b, off + n, none⟩ = some (.int .i64 x) := ((bl_alloc (bl_refl w2) _).cell (p := ⟨b, off + n, none⟩) (World.block_lt_of_cell? w2 _ hcx2)).trans hcx2
            have S0 := Lib.hid (bl_drew (bl_alloc (bl_refl w2) (.cells #[] 2)))
            have S1 := Lib.hid (bl_drew (bl_alloc (bl_alloc (bl_refl w2) (.cells #[] 2)) (.cells #[.int .i64 x] 2)))
            have S2 := Lib.hid (bl_drew (bl_alloc (bl_alloc (bl_refl w2) (.cells #[.int .i64 x] 2)) (.cells #[] 2)))
            have O0 := Lib.hid (Own.below (own_new w2) (bl_drew (bl_refl _)))
            have O1 := Lib.hid (Own.below (own_new w2) (bl_drew (bl_alloc (bl_refl _) (.cells #[.int .i64 x] 2))))
            have O2 : Hid (Own ((w2.alloc (.cells #[.int .i64 x] 2)).alloc (.cells #[] 2)).drew w2.heap.size (.slice (some ⟨w2.heap.size + 1, 0, none⟩) 0 0) []) := Lib.hid (by
              have := own_new (w2.alloc (.cells #[.int .i64 x] 2))
              rw [World.size_alloc] at this
              exact (Own.below this (bl_drew (bl_refl _))).less (by omega))
            have R1 : Hid (Rd ((w2.alloc (.cells #[] 2)).alloc (.cells #[.int .i64 x] 2)).drew (some ⟨w2.heap.size + 1, 0, none⟩) [x]) := Lib.hid (by
              have := rd_new1 (w2.alloc (.cells #[] 2)) x
              rw [World.size_alloc] at this
              exact this.below (bl_drew (bl_refl _)))
            have R2 : Hid (Rd ((w2.alloc (.cells #[.int .i64 x] 2)).alloc (.cells #[] 2)).drew (some ⟨w2.heap.size, 0, none⟩) [x]) := Lib.hid ((rd_new1 w2 x).below (bl_drew (bl_alloc (bl_refl _) _)))
            have TK := Lib.hid (fun (W : World) (hb : Below w2.heap.size w2 W) => rd_to (n := n) (Q2.out.1.rd.below hb))
            have DR := Lib.hid (fun (W : World) (hb : Below w2.heap.size w2 W) => rd_from (n := n) (c := c') (Q2.out.1.rd.below hb) (.inl hcap))
            have LT : Hid ((os.take n).length = n) := Lib.hid (by rw [List.length_take]; omega)
            have LD : Hid ((os.drop n).length = n - n) := Lib.hid (by rw [List.length_drop]; omega)
            have L1 : Hid (([] : List Int).length + (os.take n).length ≤ 4000000) := Lib.hid (by rw [LT.out]; simp; omega)
            have GB : Hid (g < w2.heap.size) := Lib.hid (World.ownsRow.lt Q2.out.1 g rfl).2
            have BB : Hid (b < w2.heap.size) := Lib.hid (World.block_lt_of_cell? w2 _ hcx2)
            go_region_law (first
              | (refine step_glue rfl (.tmp 30) (.tmp 33) rfl w2.heap.size (.slice (some ⟨w2.heap.size, 0, none⟩) 0 0) [] (os.take n) (some ⟨g, 0, none⟩) c' (by simp [Act.eval]) O0.out (by rw [LT.out]; simp [Act.eval]) (TK.out _ S0.out) L1.out S0.out.size ?_
                 intro A4 c4 ws4 w4 e4 ho4 hg4 hv4
                 have S4 := Lib.hid (bl_app S0.out O0.out (Nat.le_refl _) hg4)
                 have hx4 : w4.cell? ⟨b, off + n, none⟩ = some (.int .i64 x) := (S4.out.cell (p := ⟨b, off + n, none⟩) BB.out).trans HX.out
                 have O4 := Lib.hid (Own.below ho4 (bl_alloc (bl_refl _) (.cells #[.int .i64 x] 2)))
                 have RX := Lib.hid (rd_new1 w4 x)
                 have S5 := Lib.hid (bl_alloc S4.out (.cells #[.int .i64 x] 2)))
              | (refine step_glue rfl (.tmp 30) (.tmp 33) rfl w2.heap.size (.slice (some ⟨w2.heap.size, 0, none⟩) 0 0) [] (os.take n) (some ⟨g, 0, none⟩) c' (by simp [Act.eval]) O1.out (by rw [LT.out]; simp [Act.eval]) (TK.out _ S1.out) L1.out S1.out.size ?_
                 intro A4 c4 ws4 w4 e4 ho4 hg4 hv4
                 have S4 := Lib.hid (bl_app S1.out O1.out (Nat.le_refl _) hg4)
                 have O4 := Lib.hid ho4
                 have RX := Lib.hid (rd_grownI R1.out hg4 (fun a e => by obtain rfl := Option.some.inj e; simp [Value.ownBlock]))
                 have S5 := Lib.hid S4.out)
              | (refine step_glue rfl (.tmp 30) (.tmp 33) rfl w2.heap.size (.slice (some ⟨w2.heap.size + 1, 0, none⟩) 0 0) [] (os.take n) (some ⟨g, 0, none⟩) c' (by simp [Act.eval]) O2.out (by rw [LT.out]; simp [Act.eval]) (TK.out _ S2.out) L1.out S2.out.size ?_
                 intro A4 c4 ws4 w4 e4 ho4 hg4 hv4
                 have S4 := Lib.hid (bl_app S2.out O2.out (Nat.le_refl _) hg4)
                 have O4 := Lib.hid ho4
                 have RX := Lib.hid (rd_grownI R2.out hg4 (fun a e => by obtain rfl := Option.some.inj e; simp [Value.ownBlock]))
                 have S5 := Lib.hid S4.out)
              | (refine step_glue rfl (.tmp 34) (.tmp 39) rfl w2.heap.size (.slice A4 ws4.length c4) ws4 [x] _ 1 (by simp [Act.eval]) O4.out (by simp [Act.eval]) RX.out (by rw [e4.out, List.nil_append, LT.out]; simp; omega) S5.out.size ?_
                 intro A5 c5 ws5 w5 e5 ho5 hg5 hv5
                 have S6 := Lib.hid (bl_app S5.out O4.out (Nat.le_refl _) hg5)
                 have L5 : Hid (ws5.length = n + 1) := Lib.hid (by rw [e5.out, e4.out, List.nil_append, List.length_append, LT.out]; rfl))
              | (refine step_glue rfl (.tmp 40) (.tmp 43) rfl w2.heap.size (.slice A5 ws5.length c5) ws5 (os.drop n) (fromAt g 0 c' n) (c' - n) (by simp [Act.eval]) ho5 (by rw [LD.out]; simp [Act.eval]) (DR.out _ S6.out) (by rw [L5.out, LD.out]; omega) S6.out.size ?_
                 intro A6 c6 ws6 w6 e6 ho6 hg6 hv6
                 have S7 := Lib.hid (bl_app S6.out ho5 (Nat.le_refl _) hg6)))
            all_goals
              have E6 : Hid (ws6 = (os.take n ++ [x]) ++ os.drop n) := Lib.hid (by rw [e6.out, e5.out, e4.out, List.nil_append])
              have L6 : Hid (ws6.length = n + 1) := Lib.hid (by rw [e6.out, List.length_append, L5.out, LD.out]; omega)
              have PM : Hid (ws6 = sortM xs (n + 1)) := Lib.hid (E6.out.trans EI.out.symm)
              obtain ⟨g6, rfl, _⟩ := own_some ho6 (by rw [L6.out]; omega)
              have P3 : Hid (sortedSt w0 ws6 (.slice (some ⟨g6, 0, none⟩) ws6.length c6) w6) := Lib.hid ⟨ho6.less Q2.out.2.size, bl_trans Q2.out.2 S7.out⟩
              rw [L6.out]
              clear ho6 hg6 hv6 ho5 hg5 hv5 ho4 hg4 hv4
              go_wp2_with fail
              go_roundw
              case rel => exact ⟨n + 1, ws6, g6, c6, by omega, L6.out, rfl, by go_num, P3, PM⟩
              case measure => simp [intOf]; omega
    · obtain rfl : m = xs.length := by omega
      have EF : Hid (os = sortA xs) := hos
      go_wp2_with fail
      go_ret
      rw [← hl]
      refine ⟨some ⟨g, 0, none⟩, c', ?_, ?_, hp.out.2⟩
      · rw [← EF.out]; rfl
      · rw [← EF.out]; exact hp.out.1
end Go.Proofs.YtilbkgnjgmlhjaaDoor
