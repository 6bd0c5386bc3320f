/-
  The program's iterator over all choices of s out of n indices.
-/
import Derived.Test.YtlpkaflmhdgmmaaGreatDoorChoicesC
import Derived.Test.YtlpkaflmhdgmmaaGreatDoorIterS
import Derived.Test.YtlpkaflmhdgmmaaGreatDoorRangeC
namespace Go.Proofs.YtlpkaflmhdgmmaaGreatDoor
open Go.RowKit
set_option linter.unusedVariables false
attribute [local go_sem] Oper.semAt_some

/-- The blocks that the iterator keeps for itself. -/
def kInt : TypeId → Bool := fun t => t == 3
theorem kInt_int : kInt 3 = true := rfl
/-- What it hands to yield at the i-th round. -/
def YC (n s i : Nat) (W : World) (ar : Array Value) : Prop := ∃ gb, ar = #[.slice (some ⟨gb, 0, none⟩) s s] ∧ Blk W gb 3 (ints ((idxC n s).getD i []))
theorem YC.keep {n s i : Nat} {A B : World} {ar : Array Value} (h : YC n s i A ar) (hc : CellsAs A B) : YC n s i B ar := by
  obtain ⟨gb, e, hb⟩ := h
  exact ⟨gb, e, hc gb _ _ _ hb⟩
def leftOfC (n s gb : Nat) (W : World) : Nat := (idxC n s).length - (idxC n s).idxOf (contentOf W gb)
theorem leftOfC_at {n s i gb : Nat} {W : World} (hn : n ≤ 7) (hs : s ≤ 5) (hi : i < (idxC n s).length) (h : Blk W gb 3 (ints ((idxC n s).getD i []))) : leftOfC n s gb W = (idxC n s).length - i := by
  have hc : contentOf W gb = (idxC n s).getD i [] := by
    unfold Blk at h
    unfold contentOf
    rw [h]
    simp only [ints, List.map_map]
    exact List.map_id' _
  unfold leftOfC
  rw [hc, (idxC_facts n s hn hs i hi).2.2.2]
theorem stepC_next (n s i gb : Nat) (W : World) (hn : n ≤ 7) (hs5 : s ≤ 5) (hi : i + 1 < (idxC n s).length) (h : Blk W gb 3 (ints ((idxC n s).getD i []))) :
    Calls Tryz.prog 76 #[.slice (some ⟨gb, 0, none⟩) s s, .int .i64 n] W fun e w' => e = .returned (.bool true) ∧ Blk w' gb 3 (ints ((idxC n s).getD (i + 1) [])) ∧ W.grownBy w' (some gb) := by
  obtain ⟨hl, hb, hs, _⟩ := idxC_facts n s hn hs5 i (by omega)
  refine (stepS_any gb n s _ W h hl hs5 (fun y hy => by have := hb y hy; omega) (by omega)).mono ?_
  intro e w' hq
  have hq : Stepped (stepFromS n s ((idxC n s).getD i []) s) gb ((idxC n s).getD i []) W e w' := hq
  rw [hs, List.getElem?_eq_getElem hi] at hq
  obtain ⟨h1, h2, h3⟩ := hq
  refine ⟨h1, ?_, h3⟩
  rw [List.getD_eq_getElem?_getD, List.getElem?_eq_getElem hi]
  exact h2
theorem stepC_last (n s i gb : Nat) (W : World) (hn : n ≤ 7) (hs5 : s ≤ 5) (hi : i < (idxC n s).length) (hl : ¬ i + 1 < (idxC n s).length) (h : Blk W gb 3 (ints ((idxC n s).getD i []))) :
    Calls Tryz.prog 76 #[.slice (some ⟨gb, 0, none⟩) s s, .int .i64 n] W fun e w' => e = .returned (.bool false) ∧ w' = W := by
  obtain ⟨hl5, hb, hs, _⟩ := idxC_facts n s hn hs5 i hi
  refine (stepS_any gb n s _ W h hl5 hs5 (fun y hy => by have := hb y hy; omega) (by omega)).mono ?_
  intro e w' hq
  have hq : Stepped (stepFromS n s ((idxC n s).getD i []) s) gb ((idxC n s).getD i []) W e w' := hq
  rw [hs, List.getElem?_eq_none (by omega)] at hq
  exact hq

set_option maxRecDepth 100000 in
set_option maxHeartbeats 4000000 in
theorem iterC_any (fn n s bs bc : Nat) (hn7 : n ≤ 7) (hs5 : s ≤ 5) (I : Nat → World → Prop) (w : World) (hfn : 1 ≤ fn)
    (hbox : ∀ i W, I i W → W.cell? ⟨bs, 0, none⟩ = some (.int .i64 s) ∧ W.cell? ⟨bc, 0, none⟩ = some (.int .i64 n)) :
    IterC Fence.wide fn Tryz.prog 75 #[.pointer (some ⟨bs, 0, none⟩), .pointer (some ⟨bc, 0, none⟩)] (idxC n s).length (YC n s) kInt I w := by
  intro l J W hW hJ hJI hY h0
  refine callsIn_of_wp Tryz.func75 rfl trivial ?_ rfl
  simp only [Tryz.ntmps75, List.size_toArray, List.length_cons, List.length_nil, Nat.reduceAdd, Nat.reduceSub, Array.replicate_succ, Array.replicate_zero, List.push_toArray, List.append_toArray, List.nil_append, List.cons_append]
  obtain ⟨c1, c2⟩ := hbox 0 W (hJI 0 W h0)
  by_cases hsn : n < s
  · have hN := Lib.hid (idxC_none n s hn7 hsn hs5)
    have hdn : decide ((n : Int) < (s : Int)) = true := decide_eq_true (by omega)
    have H0 := Lib.hid h0
    clear hbox hJI hJ hY h0 hW
    gi_wp2
    exact bodyPost_ret (results_none rfl _ _ _) rfl ⟨⟨_, rfl⟩, by rw [hN.out]; exact H0.out⟩
  obtain ⟨i0, hi, hz0, hz1, hz2⟩ := info_parts infoInt3
  have hmk := fun W => run_makeNC 86 3 i0 Tryz.underlying86 hi hz0 hz1 hz2 s (by omega) W
  clear hi hz0 hz1 hz2
  have HBX := Lib.hid hbox
  have HJI := Lib.hid hJI
  have HJ := Lib.hid hJ
  have HY := Lib.hid hY
  have hn5 : (s : Int) ≤ (n : Int) := by omega
  have hdn : decide ((n : Int) < (s : Int)) = false := decide_eq_false (by omega)
  have HN7 := Lib.hid hn7
  have HS5 := Lib.hid hs5
  have HSN := Lib.hid hsn
  have B1 := Lib.hid (bl_alloc (bl_refl W) (.cells (ints (List.replicate s 0)).toArray 3))
  have HS : Hid (J 0 (W.alloc (.cells (ints (List.replicate s 0)).toArray 3)) ∧ Blk (W.alloc (.cells (ints (List.replicate s 0)).toArray 3)) W.heap.size 3 (ints (fillS s 0)) ∧ W.heap.size ≤ (W.alloc (.cells (ints (List.replicate s 0)).toArray 3)).heap.size) :=
    Lib.hid ⟨hJ 0 W _ h0 (itw_below B1.out (Nat.le_refl _)), by rw [fillS_zero]; exact blk_new W 3 _, B1.out.size⟩
  clear hbox hJI hJ hY h0 hW hsn B1
  gi_wp2
  clear hmk c1 c2 hn5 hdn
  have hs4 : (s : Int) ≤ 5 := by omega
  gi_loopw [13] (fun i wr => ∃ k : Nat, k ≤ s ∧ i = .int .i64 k ∧ Hid (J 0 wr ∧ Blk wr W.heap.size 3 (ints (fillS s k)) ∧ W.heap.size ≤ wr.heap.size)) (fun i _ => s - (intOf i).toNat)
  case atStart => exact ⟨0, by omega, rfl, HS⟩
  case round =>
    obtain ⟨k, hk, rfl, hs⟩ := hrel
    by_cases hlt : k < s
    · have hlt' : (k : Int) < (s : Int) := by omega
      obtain ⟨c3, f3⟩ := hs.out.2.1.int k (by rw [fillS_len s k (by omega)]; exact hlt)
      have hset := blk_setI hs.out.2.1 k (k : Int)
      rw [fillS_step s k hlt] at hset
      have HP : Hid (J 0 (wr.setCell ⟨W.heap.size, k, none⟩ (.int .i64 k)) ∧ Blk (wr.setCell ⟨W.heap.size, k, none⟩ (.int .i64 k)) W.heap.size 3 (ints (fillS s (k + 1))) ∧ W.heap.size ≤ (wr.setCell ⟨W.heap.size, k, none⟩ (.int .i64 k)).heap.size) := Lib.hid ⟨HJ.out 0 _ _ hs.out.1 (itw_grown hset.2 hs.out.2.1 kInt_int (Nat.le_refl _) hs.out.2.2), hset.1, Nat.le_trans hs.out.2.2 hset.2.size⟩
      generalize nth (fillS s k) k = z at *
      clear hset
      gi_wp2
      go_roundw
      case rel => exact ⟨k + 1, by omega, by go_num, HP⟩
      case measure => simp [intOf]; omega
    · obtain rfl : k = s := by omega
      have HS2 : Hid (J 0 wr ∧ Blk wr W.heap.size 3 (ints ((idxC n k).getD 0 [])) ∧ W.heap.size ≤ wr.heap.size) := Lib.hid ⟨hs.out.1, by
        have e : (idxC n k).getD 0 [] = fillS k k := by
          rw [List.getD_eq_getElem?_getD, idxC_first n k HN7.out (by have := HSN.out; omega) HS5.out, fillS_all]; rfl
        rw [e]; exact hs.out.2.1, hs.out.2.2⟩
      clear hs
      have hdn' : decide (n < k) = false := decide_eq_false (by have := HSN.out; omega)
      gi_wp2
      simp only [hdn']
      clear hdn'
      gi_loopw [28] (fun _ wx => ∃ i : Nat, i < (idxC n k).length ∧ Hid (J i wx ∧ Blk wx W.heap.size 3 (ints ((idxC n k).getD i [])) ∧ W.heap.size ≤ wx.heap.size)) (fun _ wx => leftOfC n k W.heap.size wx)
      case atStart => exact ⟨0, idxC_pos n k HN7.out (by have := HSN.out; omega) HS5.out, HS2⟩
      case round =>
        obtain ⟨i, hi, hs⟩ := hrel
        have HL := Lib.hid (leftOfC_at HN7.out HS5.out hi hs.out.2.1)
        obtain ⟨fn', tmps, assign, body, hy, hR⟩ := HY.out i #[.slice (some ⟨W.heap.size, 0, none⟩) k k] wr hi hs.out.1 ⟨W.heap.size, rfl, hs.out.2.1⟩ hs.out.2.2
        have HR := Lib.hid hR
        have HB0 := Lib.hid hs.out.2
        clear hR hs
        gi_wp2
        refine HR.out.mono ?_
        rintro e W3 ⟨rfl, hJ3, hC3⟩
        obtain ⟨_, c2⟩ := HBX.out _ _ (HJI.out _ _ hJ3)
        have HJ3 := Lib.hid hJ3
        have HK3 := Lib.hid (con_blk hC3 HB0.out.1 kInt_int)
        have HZ3 := Lib.hid (Nat.le_trans HB0.out.2 hC3.1)
        clear hJ3 hC3
        by_cases hnx : i + 1 < (idxC n k).length
        · have KS := Lib.hid (stepC_next n k i W.heap.size W3 HN7.out HS5.out hnx HK3.out)
          gi_wp2_with (refine ⟨trivial, ?_⟩; gi_at_call 76; refine (callsIn_wide.2 KS.out).mono ?_; rintro e w4 ⟨rfl, hc4, hg4⟩; have HC4 := Lib.hid hc4; have HJ4 := Lib.hid (HJ.out _ _ _ HJ3.out (itw_grown hg4 HK3.out kInt_int (Nat.le_refl _) HZ3.out)); have HZ4 := Lib.hid (Nat.le_trans HZ3.out hg4.size); clear hc4 hg4)
          go_roundw
          case rel => exact ⟨i + 1, hnx, Lib.hid ⟨HJ4.out, HC4.out, HZ4.out⟩⟩
          case measure => rw [leftOfC_at HN7.out HS5.out hnx HC4.out, HL.out]; omega
        · have KS := Lib.hid (stepC_last n k i W.heap.size W3 HN7.out HS5.out hi hnx HK3.out)
          gi_wp2_with (refine ⟨trivial, ?_⟩; gi_at_call 76; refine (callsIn_wide.2 KS.out).mono ?_; rintro e w4 ⟨rfl, rfl⟩)
          go_end0
          exact ⟨⟨_, rfl⟩, by
            have e : i + 1 = (idxC n k).length := by omega
            rw [← e]; exact HJ3.out⟩
end Go.Proofs.YtlpkaflmhdgmmaaGreatDoor
