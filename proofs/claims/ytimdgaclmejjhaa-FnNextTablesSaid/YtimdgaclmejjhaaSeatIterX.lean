/-
  The seats of a table one after another, left early.
-/
import Derived.Test.YtimdgaclmejjhaaSeatIter
namespace Go.Proofs.Ytimdgaclmejjhaa
open Go.RowKit
set_option linter.unusedVariables false
attribute [local go_sem] Oper.semAt_some

set_option maxRecDepth 100000 in
set_option maxHeartbeats 2000000 in
theorem seatsX_any (fn N M : Nat) (t : Int) (I : Nat → World → Prop) (w : World) (hfn : 1 ≤ fn) (hM : M < N) (hN6 : N ≤ 6) (h0t : 0 ≤ t) (h1t : t < N) :
    IterXF Fence.wide fn Try.prog 37 #[wkV t N] #[] M (YS N t) kWalk I w := by
  intro l J W hW hl hJ hJI hY h0
  refine callsIn_of_wp Try.func37 rfl trivial ?_ rfl
  simp only [Try.ntmps37, List.size_toArray, List.length_cons, List.length_nil, Nat.reduceAdd, Nat.reduceSub, Array.replicate_succ, Array.replicate_zero, List.push_toArray, List.append_toArray, List.nil_append, List.cons_append]
  have HJ := Lib.hid hJ
  have HY := Lib.hid hY
  have nb := blk_new W 54 [.int .i64 t, .int .i64 N]
  have bb := bl_alloc (bl_refl W) (.cells ([.int .i64 t, .int .i64 N] : List Value).toArray 54)
  have HS : Hid (J 0 (W.alloc (.cells ([.int .i64 t, .int .i64 N] : List Value).toArray 54)) ∧ Blk (W.alloc (.cells ([.int .i64 t, .int .i64 N] : List Value).toArray 54)) W.heap.size 54 [.int .i64 t, .int .i64 N] ∧ W.heap.size ≤ (W.alloc (.cells ([.int .i64 t, .int .i64 N] : List Value).toArray 54)).heap.size) :=
    Lib.hid ⟨hJ 0 W _ h0 (itw_below bb (Nat.le_refl _)), nb, bb.size⟩
  have e0 := seatAt_zero N t h0t h1t
  have E0 := Lib.hid e0
  clear hJI hJ hY h0 hW nb bb e0
  gi_wp2
  gi_loopw [4, 9] (fun s i wr => ∃ k : Nat, k ≤ M ∧ i = .int .i64 k ∧ s = .int .i64 (seatAt N t k) ∧ Hid (J k wr ∧ Blk wr W.heap.size 54 [.int .i64 t, .int .i64 N] ∧ W.heap.size ≤ wr.heap.size)) (fun _ i _ => M - (intOf i).toNat)
  case atStart => exact ⟨0, Nat.zero_le _, rfl, by rw [E0.out], HS⟩
  case round =>
    obtain ⟨k, hk, rfl, rfl, hs⟩ := hrel
    have hlt' : (k : Int) < N := by omega
    have sb := seatAt_bd N t k (by omega)
    have KL := Lib.hid (fun W : World => leftOf_any (seatAt N t k) N W sb.1 (by omega) (by omega) (by omega))
    rw [seatAt_next N t k] at KL
    obtain ⟨fn', tmps, assign, body, hy, hR⟩ := HY.out k #[.int .i64 (seatAt N t k)] wr hk hs.out.1 rfl hs.out.2.2
    have HR := Lib.hid hR
    have HB := Lib.hid hs.out.2
    clear hR hs sb
    generalize seatAt N t k = x at *
    gi_wp2
    refine HR.out.mono ?_
    rintro e W3 ⟨he, hJ3, hC3, hX3⟩
    have HJ3 := Lib.hid hJ3
    by_cases hkM : k < M
    · rw [decide_eq_true hkM] at he
      subst he
      have hC3 := hC3 hkM
      have HB3 := Lib.hid (con_blk hC3 HB.out.1 kWalk_own)
      have HZ3 := Lib.hid (Nat.le_trans HB.out.2 hC3.1)
      obtain ⟨q1, _⟩ := HB3.out.cell 1 _ rfl
      clear hJ3 hC3 hX3 hy
      gi_wp2_with (refine ⟨trivial, ?_⟩; gi_at_call 39; refine (callsIn_wide.2 (KL.out W3)).mono ?_; rintro e w4 ⟨rfl, rfl⟩)
      go_roundw
      case rel => exact ⟨k + 1, by omega, by go_num, rfl, Lib.hid ⟨HJ3.out, HB3.out, HZ3.out⟩⟩
      case measure => simp [intOf]; omega
    · rw [decide_eq_false hkM] at he
      subst he
      clear hJ3 hC3 hX3 hy
      gi_wp2
      exact bodyPost_ret (results_none rfl _ _ _) rfl ⟨⟨_, rfl⟩, by
        have e : k = M := by omega
        rw [← e]; exact HJ3.out⟩
end Go.Proofs.Ytimdgaclmejjhaa
