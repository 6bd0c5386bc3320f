/-
  slices.Backward over a list of numbers: the iterator.
-/
import Derived.Test.YtlpkaflmhdgmmaaRangeC
namespace Go.Proofs.Ytlpkaflmhdgmmaa
open Go.RowKit
set_option linter.unusedVariables false
attribute [local go_sem] Oper.semAt_some

/-- It keeps no block of cells for itself. -/
def kNone : TypeId → Bool := fun _ => false
/-- What it hands to yield at the i-th round. -/
def YB (xs : List Int) (i : Nat) (W : World) (ar : Array Value) : Prop := ar = #[.int .i64 ((xs.length : Int) - 1 - i), .int .i64 (nth xs (xs.length - 1 - i))]
set_option maxRecDepth 100000 in
set_option maxHeartbeats 4000000 in
theorem backIt_any (fn : Nat) (A : Option Addr) (c : Nat) (xs : List Int) (bs : Nat) (I : Nat → World → Prop) (w : World) (hfn : 1 ≤ fn) (hn : xs.length ≤ 4000000)
    (hbox : ∀ i W, I i W → W.cell? ⟨bs, 0, none⟩ = some (.slice A xs.length c) ∧ Rd W A xs) :
    IterC Fence.wide fn Try.prog 37 #[.pointer (some ⟨bs, 0, none⟩)] xs.length (YB xs) kNone I w := by
  intro l J W hW hJ hJI hY h0
  refine callsIn_of_wp Try.func37 rfl trivial ?_ rfl
  simp only [Try.ntmps37, List.size_toArray, List.length_cons, List.length_nil, Nat.reduceAdd, Nat.reduceSub, Array.replicate_succ, Array.replicate_zero, List.push_toArray, List.append_toArray, List.nil_append, List.cons_append]
  obtain ⟨c1, _⟩ := hbox 0 W (hJI 0 W h0)
  have HBX := Lib.hid hbox
  have HJI := Lib.hid hJI
  have HY := Lib.hid hY
  have HS : Hid (J (xs.length - xs.length) W ∧ W.heap.size ≤ W.heap.size) := Lib.hid ⟨by rw [Nat.sub_self]; exact h0, Nat.le_refl _⟩
  clear hbox hJI hJ hY h0 hW
  gi_wp2
  clear c1
  gi_loopw [3] (fun i wr => ∃ q : Nat, q ≤ xs.length ∧ i = .int .i64 ((q : Int) - 1) ∧ Hid (J (xs.length - q) wr ∧ W.heap.size ≤ wr.heap.size)) (fun i _ => ((intOf i) + 1).toNat)
  case atStart => exact ⟨xs.length, Nat.le_refl _, rfl, HS⟩
  case round =>
    obtain ⟨q, hq, rfl, hs⟩ := hrel
    by_cases hlt : 0 < q
    · obtain ⟨c1, hr⟩ := HBX.out _ _ (HJI.out _ _ hs.out.1)
      obtain ⟨b, off, rfl, hc0⟩ := hr (by omega)
      have hc := hc0 (q - 1) (by omega)
      have hge : decide ((1 : Int) ≤ (q : Int)) = true := decide_eq_true (by omega)
      have e1 : ((q : Int) - 1).toNat = q - 1 := by omega
      have hlt2 : (q : Int) - 1 < xs.length := by omega
      obtain ⟨fn', tmps, assign, body, hy, hR⟩ := HY.out (xs.length - q) #[.int .i64 ((q : Int) - 1), .int .i64 (nth xs (q - 1))] wr (by omega) hs.out.1 (by unfold YB; rw [show ((xs.length : Int) - 1 - ((xs.length - q : Nat) : Int)) = (q : Int) - 1 by omega, show xs.length - 1 - (xs.length - q) = q - 1 by omega]) hs.out.2
      have HR := Lib.hid hR
      have HZ := Lib.hid hs.out.2
      have HE : Hid (xs.length - q + 1 = xs.length - (q - 1)) := Lib.hid (by omega)
      clear hR hs hc0 hr
      generalize nth xs (q - 1) = x at *
      gi_wp2
      refine HR.out.mono ?_
      rintro e W3 ⟨rfl, hJ3, hC3⟩
      rw [HE.out] at hJ3
      have HJ3 := Lib.hid hJ3
      have HZ3 := Lib.hid (Nat.le_trans HZ.out hC3.1)
      clear hJ3 hC3 hy c1 hc
      gi_wp2
      go_roundw
      case rel => exact ⟨q - 1, by omega, by rw [show ((q - 1 : Nat) : Int) = (q : Int) - 1 by omega], Lib.hid ⟨HJ3.out, HZ3.out⟩⟩
      case measure => simp [intOf]; omega
    · obtain rfl : q = 0 := by omega
      have HJ0 := hs.out.1
      rw [Nat.sub_zero] at HJ0
      have HN := Lib.hid HJ0
      clear HJ0 hs
      gi_wp2
      go_end0
      exact ⟨⟨_, rfl⟩, HN.out⟩
end Go.Proofs.Ytlpkaflmhdgmmaa
