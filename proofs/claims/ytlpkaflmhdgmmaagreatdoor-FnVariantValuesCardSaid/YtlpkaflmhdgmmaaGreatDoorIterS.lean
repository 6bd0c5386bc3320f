/-
  The program's iterator over all choices of s out of four.
-/
import Derived.Test.YtlpkaflmhdgmmaaGreatDoorStepS
import Derived.Test.YtlpkaflmhdgmmaaGreatDoorIter
import Derived.Test.YtlpkaflmhdgmmaaGreatDoorRangeK
namespace Go.Proofs.YtlpkaflmhdgmmaaGreatDoor
open Go.RowKit
set_option linter.unusedVariables false
attribute [local go_sem] Oper.semAt_some

/-- The i-th choice lies in block gb. -/
def ChoiceAtS (s i gb : Nat) (W : World) : Prop := Blk W gb 3 (ints ((idxS s).getD i []))
/-- The first k indices, and zeros. -/
def fillS (s k : Nat) : List Int := upTo k ++ List.replicate (s - k) 0
theorem upTo_len (k : Nat) : (upTo k).length = k := by simp [upTo]
theorem fillS_zero (s : Nat) : fillS s 0 = List.replicate s 0 := by simp [fillS, upTo]
theorem fillS_step (s k : Nat) (hk : k < s) : (fillS s k).set k (k : Int) = fillS s (k + 1) := by
  unfold fillS
  rw [List.set_append_right _ _ (by rw [upTo_len]; omega), upTo_len, Nat.sub_self]
  have e : List.replicate (s - k) (0 : Int) = 0 :: List.replicate (s - (k + 1)) 0 := by
    rw [← List.replicate_succ]; congr 1; omega
  have e2 : upTo (k + 1) = upTo k ++ [(k : Int)] := by unfold upTo; rw [List.range_succ, List.map_append]; rfl
  rw [e, List.set_cons_zero, e2, List.append_assoc]
  rfl
theorem fillS_len (s k : Nat) (hk : k ≤ s) : (fillS s k).length = s := by unfold fillS; rw [List.length_append, upTo_len, List.length_replicate]; omega
theorem fillS_all (s : Nat) : fillS s s = upTo s := by unfold fillS; rw [Nat.sub_self]; simp
set_option maxRecDepth 100000 in
set_option maxHeartbeats 400000 in
/-- What choicesOf leaves: a closure over two boxes. -/
theorem choicesOfS_any (n s : Int) (w : World) :
    Calls Tryz.prog 51 #[.int .i64 n, .int .i64 s] w fun e w' => e = .returned (.func (.func 75) #[] #[.pointer (some ⟨w.heap.size + 1, 0, none⟩), .pointer (some ⟨w.heap.size, 0, none⟩)]) ∧ w' = (w.alloc (.cells #[.int .i64 n] 3)).alloc (.cells #[.int .i64 s] 3) := by
  go_enter Tryz.func51, Tryz.ntmps51
  go_wp2_with fail
  go_ret
  exact ⟨rfl, rfl⟩

def leftOfS (s gb : Nat) (W : World) : Nat := (idxS s).length - (idxS s).idxOf (contentOf W gb)
theorem leftOfS_at {s i gb : Nat} {W : World} (h5 : 1 ≤ s) (h8 : s ≤ 4) (hi : i < (idxS s).length) (h : ChoiceAtS s i gb W) : leftOfS s gb W = (idxS s).length - i := by
  have hc : contentOf W gb = (idxS s).getD i [] := by
    unfold ChoiceAtS Blk at h
    unfold contentOf
    rw [h]
    simp only [ints, List.map_map]
    exact List.map_id' _
  unfold leftOfS
  rw [hc, (idxS_facts s h5 h8 i hi).2.2.2]
/-- stepChoice at a choice that is not the last one; at the last one. -/
theorem stepS_next (s i gb : Nat) (W : World) (h5 : 1 ≤ s) (h8 : s ≤ 4) (hi : i + 1 < (idxS s).length) (h : ChoiceAtS s i gb W) :
    Calls Tryz.prog 76 #[.slice (some ⟨gb, 0, none⟩) s s, .int .i64 4] W fun e w' => e = .returned (.bool true) ∧ ChoiceAtS s (i + 1) gb w' ∧ W.grownBy w' (some gb) := by
  obtain ⟨hl, hb, hs, _⟩ := idxS_facts s h5 h8 i (by omega)
  refine (stepS_any gb 4 s _ W h hl (by omega) (fun y hy => by have := hb y hy; omega) (by omega)).mono ?_
  intro e w' hq
  have hq : Stepped (stepFromS 4 s ((idxS s).getD i []) s) gb ((idxS s).getD i []) W e w' := hq
  rw [hs, List.getElem?_eq_getElem hi] at hq
  obtain ⟨h1, h2, h3⟩ := hq
  refine ⟨h1, ?_, h3⟩
  unfold ChoiceAtS
  rw [List.getD_eq_getElem?_getD, List.getElem?_eq_getElem hi]
  exact h2
theorem stepS_last (s i gb : Nat) (W : World) (h5 : 1 ≤ s) (h8 : s ≤ 4) (hi : i < (idxS s).length) (hl : ¬ i + 1 < (idxS s).length) (h : ChoiceAtS s i gb W) :
    Calls Tryz.prog 76 #[.slice (some ⟨gb, 0, none⟩) s s, .int .i64 4] W fun e w' => e = .returned (.bool false) ∧ w' = W := by
  obtain ⟨hl5, hb, hs, _⟩ := idxS_facts s h5 h8 i hi
  refine (stepS_any gb 4 s _ W h hl5 (by omega) (fun y hy => by have := hb y hy; omega) (by omega)).mono ?_
  intro e w' hq
  have hq : Stepped (stepFromS 4 s ((idxS s).getD i []) s) gb ((idxS s).getD i []) W e w' := hq
  rw [hs, List.getElem?_eq_none (by omega)] at hq
  exact hq

set_option maxRecDepth 100000 in
set_option maxHeartbeats 4000000 in
theorem iterS_any (fn s bs bc : Nat) (h5 : 1 ≤ s) (h8 : s ≤ 4) (I : Nat → World → Prop) (w : World) (hn : 1 ≤ fn)
    (hbox : ∀ i W, I i W → W.cell? ⟨bs, 0, none⟩ = some (.int .i64 s) ∧ W.cell? ⟨bc, 0, none⟩ = some (.int .i64 4)) :
    IteratesK Fence.wide fn Tryz.prog 75 #[.pointer (some ⟨bs, 0, none⟩), .pointer (some ⟨bc, 0, none⟩)] (idxS s).length (fun gb => #[.slice (some ⟨gb, 0, none⟩) s s]) (ChoiceAtS s) I w := by
  intro l J W hW hJ hJI hY h0
  refine callsIn_of_wp Tryz.func75 rfl trivial ?_ rfl
  simp only [Tryz.ntmps75, List.size_toArray, List.length_cons, List.length_nil, Nat.reduceAdd, Nat.reduceSub, Array.replicate_succ, Array.replicate_zero, List.push_toArray, List.append_toArray, List.nil_append, List.cons_append]
  obtain ⟨i0, hi, hz0, hz1, hz2⟩ := info_parts infoInt3
  have hmk := fun W => run_makeNC 86 3 i0 Tryz.underlying86 hi hz0 hz1 hz2 s (by omega) W
  clear hi hz0 hz1 hz2
  obtain ⟨c1, c2⟩ := hbox 0 W (hJI 0 W h0)
  have HBX := Lib.hid hbox
  have HJI := Lib.hid hJI
  have HJ := Lib.hid hJ
  have HY := Lib.hid hY
  have hn5 : (s : Int) ≤ 4 := by omega
  have hdn : decide ((4 : Int) < (s : Int)) = false := decide_eq_false (by omega)
  have HN5 := Lib.hid h5
  have HN8 := Lib.hid h8
  have B1 := Lib.hid (bl_alloc (bl_refl W) (.cells (ints (List.replicate s 0)).toArray 3))
  have HS : Hid (J 0 (W.alloc (.cells (ints (List.replicate s 0)).toArray 3)) ∧ Blk (W.alloc (.cells (ints (List.replicate s 0)).toArray 3)) W.heap.size 3 (ints (fillS s 0))) :=
    Lib.hid ⟨hJ 0 W _ h0 (grown_of_below B1.out _), by rw [fillS_zero]; exact blk_new W 3 _⟩
  clear hbox hJI hJ hY h0 hW h5 h8 B1
  gi_wp2
  clear hmk c1 c2 hn5 hdn
  have hs4 : (s : Int) ≤ 4 := by have := HN8.out; omega
  gi_loopw [13] (fun i wr => ∃ k : Nat, k ≤ s ∧ i = .int .i64 k ∧ Hid (J 0 wr ∧ Blk wr W.heap.size 3 (ints (fillS s k)))) (fun i _ => s - (intOf i).toNat)
  case atStart => exact ⟨0, by omega, rfl, HS⟩
  case round =>
    obtain ⟨k, hk, rfl, hs⟩ := hrel
    by_cases hlt : k < s
    · have hlt' : (k : Int) < (s : Int) := by omega
      obtain ⟨c3, f3⟩ := hs.out.2.int k (by rw [fillS_len s k (by omega)]; exact hlt)
      have hset := blk_setI hs.out.2 k (k : Int)
      rw [fillS_step s k hlt] at hset
      have HP : Hid (J 0 (wr.setCell ⟨W.heap.size, k, none⟩ (.int .i64 k)) ∧ Blk (wr.setCell ⟨W.heap.size, k, none⟩ (.int .i64 k)) W.heap.size 3 (ints (fillS s (k + 1)))) := Lib.hid ⟨HJ.out 0 _ _ hs.out.1 hset.2, hset.1⟩
      generalize nth (fillS s k) k = z at *
      clear hset
      gi_wp2
      go_roundw
      case rel => exact ⟨k + 1, by omega, by go_num, HP⟩
      case measure => simp [intOf]; omega
    · obtain rfl : k = s := by omega
      have HS2 : Hid (J 0 wr ∧ Blk wr W.heap.size 3 (ints ((idxS k).getD 0 []))) := Lib.hid ⟨hs.out.1, by
        have e : (idxS k).getD 0 [] = fillS k k := by
          rw [List.getD_eq_getElem?_getD, idxS_first k HN5.out HN8.out, fillS_all]; rfl
        rw [e]; exact hs.out.2⟩
      clear hs
      gi_wp2
      gi_loopw [28] (fun _ wx => ∃ i : Nat, i < (idxS k).length ∧ Hid (J i wx ∧ ChoiceAtS k i W.heap.size wx)) (fun _ wx => leftOfS k W.heap.size wx)
      case atStart => exact ⟨0, idxS_pos k HN5.out HN8.out, HS2⟩
      case round =>
        obtain ⟨i, hi, hs⟩ := hrel
        have HL := Lib.hid (leftOfS_at HN5.out HN8.out hi hs.out.2)
        obtain ⟨fn', tmps, assign, body, hy, hR⟩ := HY.out i W.heap.size wr hi hs.out.1 hs.out.2 rfl
        have HR := Lib.hid hR
        clear hR
        gi_wp2
        refine HR.out.mono ?_
        rintro e W3 ⟨rfl, hJ3, hC3, _⟩
        obtain ⟨_, c2⟩ := HBX.out _ _ (HJI.out _ _ hJ3)
        have HJ3 := Lib.hid hJ3
        clear hJ3
        by_cases hnx : i + 1 < (idxS k).length
        · have KS := Lib.hid (stepS_next k i W.heap.size W3 HN5.out HN8.out hnx hC3)
          have hz3 := Lib.hid (Blk.lt hC3)
          clear hC3
          gi_wp2_with (refine ⟨trivial, ?_⟩; gi_at_call 76; refine (callsIn_wide.2 KS.out).mono ?_; rintro e w4 ⟨rfl, hc4, hg4⟩; have HC4 := Lib.hid hc4; have HJ4 := Lib.hid (HJ.out _ _ _ HJ3.out hg4); clear hc4 hg4)
          go_roundw
          case rel => exact ⟨i + 1, hnx, Lib.hid ⟨HJ4.out, HC4.out⟩⟩
          case measure => rw [leftOfS_at HN5.out HN8.out hnx HC4.out, HL.out]; omega
        · have KS := Lib.hid (stepS_last k i W.heap.size W3 HN5.out HN8.out hi hnx hC3)
          gi_wp2_with (refine ⟨trivial, ?_⟩; gi_at_call 76; refine (callsIn_wide.2 KS.out).mono ?_; rintro e w4 ⟨rfl, rfl⟩)
          go_end0
          exact ⟨⟨_, rfl⟩, by
            have e : i + 1 = (idxS k).length := by omega
            rw [← e]; exact HJ3.out⟩
end Go.Proofs.YtlpkaflmhdgmmaaGreatDoor
