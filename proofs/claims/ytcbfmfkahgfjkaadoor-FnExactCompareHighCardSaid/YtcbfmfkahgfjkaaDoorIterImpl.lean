/-
  The program's iterator over all choices of five indices.
-/
import Derived.Test.YtcbfmfkahgfjkaaDoorRange
import Derived.Test.YtcbfmfkahgfjkaaDoorStepImpl
namespace Go.Proofs.YtcbfmfkahgfjkaaDoor
open Go.RowKit
set_option linter.unusedVariables false
attribute [local go_sem] Oper.semAt_some

/-- The i-th choice lies in block gb. -/
def ChoiceAt (n i gb : Nat) (W : World) : Prop := Blk W gb 3 (ints ((idx n).getD i []))
/-- The first k indices, and zeros. -/
def fill5 (k : Nat) : List Int := (List.range k).map (fun i : Nat => (i : Int)) ++ List.replicate (5 - k) 0
theorem fill5_step : ∀ k : Fin 5, (fill5 k.val).set k.val (k.val : Int) = fill5 (k.val + 1) := by decide
theorem fill5_len : ∀ k : Fin 6, (fill5 k.val).length = 5 := by decide

set_option maxRecDepth 100000 in
set_option maxHeartbeats 400000 in
/-- What choicesOf leaves: a closure over two boxes. -/
theorem choicesOf_any (n : Int) (w : World) :
    Calls Tryd.prog 81 #[.int .i64 n, .int .i64 5] w fun e w' => e = .returned (.func (.func 100) #[] #[.pointer (some ⟨w.heap.size + 1, 0, none⟩), .pointer (some ⟨w.heap.size, 0, none⟩)]) ∧ w' = (w.alloc (.cells #[.int .i64 n] 3)).alloc (.cells #[.int .i64 5] 3) := by
  go_enter Tryd.func81, Tryd.ntmps81
  go_wp2_with fail
  go_ret
  exact ⟨rfl, rfl⟩

/-- How many choices are left, read off a block. -/
def contentOf (W : World) (gb : Nat) : List Int := match W.heap[gb]? with
  | some (.cells cs _ _) => cs.toList.map (fun v => match v with | .int _ x => x | _ => 0)
  | _ => []
def leftOf (n gb : Nat) (W : World) : Nat := (idx n).length - (idx n).idxOf (contentOf W gb)
theorem leftOf_at {n i gb : Nat} {W : World} (h5 : 5 ≤ n) (h8 : n ≤ 8) (hi : i < (idx n).length) (h : ChoiceAt n i gb W) : leftOf n gb W = (idx n).length - i := by
  have hc : contentOf W gb = (idx n).getD i [] := by
    unfold ChoiceAt Blk at h
    unfold contentOf
    rw [h]
    simp only [ints, List.map_map]
    exact List.map_id' _
  unfold leftOf
  rw [hc, idx_nodup n h5 h8 i hi]
/-- stepChoice at a choice that is not the last one; at the last one. -/
theorem step_next (n i gb : Nat) (W : World) (h5 : 5 ≤ n) (h8 : n ≤ 8) (hi : i + 1 < (idx n).length) (h : ChoiceAt n i gb W) :
    Calls Tryd.prog 101 #[.slice (some ⟨gb, 0, none⟩) 5 5, .int .i64 n] W fun e w' => e = .returned (.bool true) ∧ ChoiceAt n (i + 1) gb w' ∧ W.grownBy w' (some gb) := by
  obtain ⟨hl, hb, hs⟩ := idx_facts n h5 h8 i (by omega)
  refine (step_any gb n _ W h hl (fun y hy => by have := hb y hy; omega) h8).mono ?_
  intro e w' hq
  rw [hs, List.getElem?_eq_getElem hi] at hq
  obtain ⟨h1, h2, h3⟩ := hq
  refine ⟨h1, ?_, h3⟩
  unfold ChoiceAt
  rw [List.getD_eq_getElem?_getD, List.getElem?_eq_getElem hi]
  exact h2
theorem step_last (n i gb : Nat) (W : World) (h5 : 5 ≤ n) (h8 : n ≤ 8) (hi : i < (idx n).length) (hl : ¬ i + 1 < (idx n).length) (h : ChoiceAt n i gb W) :
    Calls Tryd.prog 101 #[.slice (some ⟨gb, 0, none⟩) 5 5, .int .i64 n] W fun e w' => e = .returned (.bool false) ∧ w' = W := by
  obtain ⟨hl5, hb, hs⟩ := idx_facts n h5 h8 i hi
  refine (step_any gb n _ W h hl5 (fun y hy => by have := hb y hy; omega) h8).mono ?_
  intro e w' hq
  rw [hs, List.getElem?_eq_none (by omega)] at hq
  exact hq

set_option maxRecDepth 100000 in
set_option maxHeartbeats 4000000 in
theorem iter_any (fn n bs bc : Nat) (h5 : 5 ≤ n) (h8 : n ≤ 8) (I : Nat → World → Prop) (w : World) (hn : 1 ≤ fn)
    (hbox : ∀ i W, I i W → W.cell? ⟨bs, 0, none⟩ = some (.int .i64 5) ∧ W.cell? ⟨bc, 0, none⟩ = some (.int .i64 n)) :
    Iterates Fence.wide fn Tryd.prog 100 #[.pointer (some ⟨bs, 0, none⟩), .pointer (some ⟨bc, 0, none⟩)] (idx n).length (fun gb => #[.slice (some ⟨gb, 0, none⟩) 5 5]) (ChoiceAt n) I w := by
  intro l J W hW hJ hJI hY h0
  refine callsIn_of_wp Tryd.func100 rfl trivial ?_ rfl
  simp only [Tryd.ntmps100, List.size_toArray, List.length_cons, List.length_nil, Nat.reduceAdd, Nat.reduceSub, Array.replicate_succ, Array.replicate_zero, List.push_toArray, List.append_toArray, List.nil_append, List.cons_append]
  obtain ⟨i0, hi, hz0, hz1, hz2⟩ := info_parts infoInt3
  have hmk := fun W => run_make5 83 3 i0 Tryd.underlying83 hi hz0 hz1 hz2 W
  clear hi hz0 hz1 hz2
  obtain ⟨c1, c2⟩ := hbox 0 W (hJI 0 W h0)
  have HBX := Lib.hid hbox
  have HJI := Lib.hid hJI
  have HJ := Lib.hid hJ
  have HY := Lib.hid hY
  have hn5 : (5 : Int) ≤ (n : Int) := by omega
  have hdn : decide ((n : Int) < 5) = false := decide_eq_false (by omega)
  have HN5 := Lib.hid h5
  have HN8 := Lib.hid h8
  have B1 := Lib.hid (bl_alloc (bl_refl W) (.cells #[.int .i64 0, .int .i64 0, .int .i64 0, .int .i64 0, .int .i64 0] 3))
  have HS : Hid (J 0 (W.alloc (.cells #[.int .i64 0, .int .i64 0, .int .i64 0, .int .i64 0, .int .i64 0] 3)) ∧ Blk (W.alloc (.cells #[.int .i64 0, .int .i64 0, .int .i64 0, .int .i64 0, .int .i64 0] 3)) W.heap.size 3 (ints (fill5 0))) :=
    Lib.hid ⟨hJ 0 W _ h0 B1.out, blk_new W 3 (ints (fill5 0))⟩
  clear hbox hJI hJ hY h0 hW h5 h8 B1
  gi_wp2
  clear hmk c1 c2 hn5 hdn
  gi_loopw [13] (fun i wr => ∃ k : Nat, k ≤ 5 ∧ i = .int .i64 k ∧ Hid (J 0 wr ∧ Blk wr W.heap.size 3 (ints (fill5 k)))) (fun i _ => 5 - (intOf i).toNat)
  case atStart => exact ⟨0, by omega, rfl, HS⟩
  case round =>
    obtain ⟨k, hk, rfl, hs⟩ := hrel
    by_cases hlt : k < 5
    · have hlt' : (k : Int) < 5 := by omega
      obtain ⟨c3, f3⟩ := hs.out.2.int k (by rw [fill5_len ⟨k, by omega⟩]; exact hlt)
      have hset := blk_setI hs.out.2 k (k : Int)
      rw [fill5_step ⟨k, hlt⟩] at hset
      have HP : Hid (J 0 (wr.setCell ⟨W.heap.size, k, none⟩ (.int .i64 k)) ∧ Blk (wr.setCell ⟨W.heap.size, k, none⟩ (.int .i64 k)) W.heap.size 3 (ints (fill5 (k + 1)))) := Lib.hid ⟨HJ.out 0 _ _ hs.out.1 ((Below.refl W.heap.size wr).setCell (p := ⟨W.heap.size, k, none⟩) (Nat.le_refl _) _), hset.1⟩
      generalize nth (fill5 k) k = z at *
      clear hset
      gi_wp2
      go_roundw
      case rel => exact ⟨k + 1, by omega, by go_num, HP⟩
      case measure => simp [intOf]; omega
    · obtain rfl : k = 5 := by omega
      have HS2 : Hid (J 0 wr ∧ Blk wr W.heap.size 3 (ints ((idx n).getD 0 []))) := Lib.hid ⟨hs.out.1, by
        have e : (idx n).getD 0 [] = fill5 5 := by
          rw [List.getD_eq_getElem?_getD, idx_first n HN5.out HN8.out]; decide
        rw [e]; exact hs.out.2⟩
      clear hs
      have e5 : ((5 : Nat) : Int) = 5 := rfl
      rw [e5]
      clear e5
      gi_wp2
      gi_loopw [28] (fun _ wx => ∃ i : Nat, i < (idx n).length ∧ Hid (J i wx ∧ ChoiceAt n i W.heap.size wx)) (fun _ wx => leftOf n W.heap.size wx)
      case atStart => exact ⟨0, idx_pos n HN5.out HN8.out, HS2⟩
      case round =>
        obtain ⟨i, hi, hs⟩ := hrel
        have HL := Lib.hid (leftOf_at HN5.out HN8.out hi hs.out.2)
        obtain ⟨fn', tmps, assign, body, hy, hR⟩ := HY.out i W.heap.size wr hi hs.out.1 hs.out.2 (Nat.le_refl _)
        have HR := Lib.hid hR
        clear hR
        gi_wp2
        refine HR.out.mono ?_
        rintro e W3 ⟨rfl, hJ3, hC3, _⟩
        obtain ⟨_, c2⟩ := HBX.out _ _ (HJI.out _ _ hJ3)
        have HJ3 := Lib.hid hJ3
        clear hJ3
        by_cases hnx : i + 1 < (idx n).length
        · have KS := Lib.hid (step_next n i W.heap.size W3 HN5.out HN8.out hnx hC3)
          have hz3 := Lib.hid (Blk.lt hC3)
          clear hC3
          gi_wp2_with (refine ⟨trivial, ?_⟩; gi_at_call 101; refine (callsIn_wide.2 KS.out).mono ?_; rintro e w4 ⟨rfl, hc4, hg4⟩; have HC4 := Lib.hid hc4; have HJ4 := Lib.hid (HJ.out _ _ _ HJ3.out ((Below.refl W.heap.size W3).grown hg4 (Nat.le_of_lt hz3.out) (fun j hj => by cases hj; exact Nat.le_refl _))); clear hc4 hg4)
          go_roundw
          case rel => exact ⟨i + 1, hnx, Lib.hid ⟨HJ4.out, HC4.out⟩⟩
          case measure => rw [leftOf_at HN5.out HN8.out hnx HC4.out, HL.out]; omega
        · have KS := Lib.hid (step_last n i W.heap.size W3 HN5.out HN8.out hi hnx hC3)
          gi_wp2_with (refine ⟨trivial, ?_⟩; gi_at_call 101; refine (callsIn_wide.2 KS.out).mono ?_; rintro e w4 ⟨rfl, rfl⟩)
          go_end0
          exact ⟨⟨_, rfl⟩, by
            have e : i + 1 = (idx n).length := by omega
            rw [← e]; exact HJ3.out⟩
end Go.Proofs.YtcbfmfkahgfjkaaDoor
