/-
  Put together, what this law needs of: BetLike, BetRun.
-/
import Derived.Test.YtnllndcajdofjaaQaDrawBG
import Derived.Test.YtnllndcajdofjaaQaBetHelpG
import Derived.Test.YtnllndcajdofjaaQaBetDG
import Derived.BigQuiet
import Derived.Test.YtnllndcajdofjaaQaBetActG
namespace Go.Proofs.Ytnllndcajdofjaa
open Go.RowKit
set_option linter.unusedVariables false

set_option maxRecDepth 100000 in
set_option maxHeartbeats 1000000 in
theorem likeBools_same (A B : Option Addr) (c d : Nat) (xs : List Bool) (w : World) (hr : RdB w A xs) (hq : RdB w B xs) (hn : xs.length ≤ 4000000) :
    Calls Try.prog 91 #[.slice A xs.length c, .slice B xs.length d] w (Fresh (.bool true) w) := by
  have HR := Lib.hid hr
  have HQ := Lib.hid hq
  clear hr hq
  obtain ⟨w0, rfl⟩ : ∃ w0 : World, w0 = w := ⟨w, rfl⟩
  go_enter Try.func91, Try.ntmps91
  go_wp2_with fail
  go_loopw [5] (fun i wr => ∃ k : Nat, k ≤ xs.length ∧ i = .int .i64 k ∧ Hid (Below w0.heap.size w0 wr)) (fun i _ => xs.length - (intOf i).toNat)
  case atStart => exact ⟨0, Nat.zero_le _, rfl, Lib.hid (bl_refl _)⟩
  case round =>
    obtain ⟨k, hk, rfl, hs⟩ := hrel
    by_cases hlt : k < xs.length
    · obtain ⟨b, off, rfl, hc⟩ := HR.out.at_ hs.out k hlt
      obtain ⟨b', off', rfl, hc'⟩ := HQ.out.at_ hs.out k hlt
      have hlt' : (k : Int) < xs.length := by omega
      generalize nthB xs k = x at *
      have ex : (x != x) = false := by cases x <;> rfl
      go_wp2_with fail
      go_quiet (fail)
      go_wp2_with fail
      go_roundw
      case rel => exact ⟨k + 1, by omega, by go_num, Lib.hid (bl_drewN hs.out _)⟩
      case measure => simp [intOf]; omega
    · obtain rfl : k = xs.length := by omega
      go_wp2_with fail
      go_ret
      exact ⟨rfl, hs.out⟩

set_option maxRecDepth 100000 in
set_option maxHeartbeats 4000000 in
theorem likeBt_same (L M : At5) (b : Bt) (w : World) (h : Rd5 w L b) (k : Rd5 w M b) (m : Sm b) :
    Calls Try.prog 24 #[bV L b, bV M b] w (Fresh (.bool true) w) := by
  have b1 := bl_box (w := w) (L := L) (b := b)
  have b2 := bl_box (w := (w.alloc (.cells (btL L b).toArray 27))) (L := M) (b := b)
  have n1 := ((btAt_new h).below b2).blk
  have n2 := (btAt_new (k.below b1)).blk
  rw [World.size_alloc] at n2
  have X0 := Lib.hid (bl_trans b1 b2)
  have N1 := Lib.hid n1
  have N2 := Lib.hid n2
  have K0 := Lib.hid (fun (W : World) (hb : Below w.heap.size w W) => likeInts_same L.a1 M.a1 L.c1 M.c1 b.st W ((h.below hb).r1) ((k.below hb).r1) (by have := m.m1; omega))
  have K1 := Lib.hid (fun (W : World) (hb : Below w.heap.size w W) => likeInts_same L.a2 M.a2 L.c2 M.c2 b.bt W ((h.below hb).r2) ((k.below hb).r2) (by have := m.m2; omega))
  have K2 := Lib.hid (fun (W : World) (hb : Below w.heap.size w W) => likeInts_same L.a3 M.a3 L.c3 M.c3 b.pd W ((h.below hb).r3) ((k.below hb).r3) (by have := m.m3; omega))
  have K3 := Lib.hid (fun (W : World) (hb : Below w.heap.size w W) => likeBools_same L.a4 M.a4 L.c4 M.c4 b.fo W ((h.below hb).r4) ((k.below hb).r4) (by have := m.m4; omega))
  have K4 := Lib.hid (fun (W : World) (hb : Below w.heap.size w W) => likeBools_same L.a5 M.a5 L.c5 M.c5 b.ac W ((h.below hb).r5) ((k.below hb).r5) (by have := m.m5; omega))
  clear h k m b1 b2 n1 n2
  unfold bV at *
  have NA := N1.out
  have NB := N2.out
  obtain ⟨q0, -⟩ := NA.cell 0 _ rfl
  obtain ⟨q1, -⟩ := NA.cell 1 _ rfl
  obtain ⟨q2, -⟩ := NA.cell 2 _ rfl
  obtain ⟨q3, -⟩ := NA.cell 3 _ rfl
  obtain ⟨q4, -⟩ := NA.cell 4 _ rfl
  obtain ⟨q5, -⟩ := NA.cell 5 _ rfl
  obtain ⟨q6, -⟩ := NA.cell 6 _ rfl
  obtain ⟨q7, -⟩ := NA.cell 7 _ rfl
  obtain ⟨q8, -⟩ := NA.cell 8 _ rfl
  obtain ⟨p0, -⟩ := NB.cell 0 _ rfl
  obtain ⟨p1, -⟩ := NB.cell 1 _ rfl
  obtain ⟨p2, -⟩ := NB.cell 2 _ rfl
  obtain ⟨p3, -⟩ := NB.cell 3 _ rfl
  obtain ⟨p4, -⟩ := NB.cell 4 _ rfl
  obtain ⟨p5, -⟩ := NB.cell 5 _ rfl
  obtain ⟨p6, -⟩ := NB.cell 6 _ rfl
  obtain ⟨p7, -⟩ := NB.cell 7 _ rfl
  obtain ⟨p8, -⟩ := NB.cell 8 _ rfl
  clear NA NB
  go_enter Try.func24, Try.ntmps24
  go_wp2_with (first
    | (go_at_call 32; (with_reducible refine (K0.out _ X0.out).mono ?_); rintro e w1 ⟨rfl, hb⟩; have X1 := Lib.hid (bl_trans X0.out hb); have N1a := Lib.hid (N1.out.below hb); have N2a := Lib.hid (N2.out.below hb); clear N1 N2 hb q0 q1 q2 q3 q4 q5 q6 q7 q8 p0 p1 p2 p3 p4 p5 p6 p7 p8; have N1 := N1a; have N2 := N2a; clear N1a N2a; have NA := N1.out; have NB := N2.out; obtain ⟨q0, -⟩ := NA.cell 0 _ rfl; obtain ⟨q1, -⟩ := NA.cell 1 _ rfl; obtain ⟨q2, -⟩ := NA.cell 2 _ rfl; obtain ⟨q3, -⟩ := NA.cell 3 _ rfl; obtain ⟨q4, -⟩ := NA.cell 4 _ rfl; obtain ⟨q5, -⟩ := NA.cell 5 _ rfl; obtain ⟨q6, -⟩ := NA.cell 6 _ rfl; obtain ⟨q7, -⟩ := NA.cell 7 _ rfl; obtain ⟨q8, -⟩ := NA.cell 8 _ rfl; obtain ⟨p0, -⟩ := NB.cell 0 _ rfl; obtain ⟨p1, -⟩ := NB.cell 1 _ rfl; obtain ⟨p2, -⟩ := NB.cell 2 _ rfl; obtain ⟨p3, -⟩ := NB.cell 3 _ rfl; obtain ⟨p4, -⟩ := NB.cell 4 _ rfl; obtain ⟨p5, -⟩ := NB.cell 5 _ rfl; obtain ⟨p6, -⟩ := NB.cell 6 _ rfl; obtain ⟨p7, -⟩ := NB.cell 7 _ rfl; obtain ⟨p8, -⟩ := NB.cell 8 _ rfl; clear NA NB)
    | (go_at_call 32; (with_reducible refine (K1.out _ X1.out).mono ?_); rintro e w2 ⟨rfl, hb⟩; have X2 := Lib.hid (bl_trans X1.out hb); have N1a := Lib.hid (N1.out.below hb); have N2a := Lib.hid (N2.out.below hb); clear N1 N2 hb q0 q1 q2 q3 q4 q5 q6 q7 q8 p0 p1 p2 p3 p4 p5 p6 p7 p8; have N1 := N1a; have N2 := N2a; clear N1a N2a; have NA := N1.out; have NB := N2.out; obtain ⟨q0, -⟩ := NA.cell 0 _ rfl; obtain ⟨q1, -⟩ := NA.cell 1 _ rfl; obtain ⟨q2, -⟩ := NA.cell 2 _ rfl; obtain ⟨q3, -⟩ := NA.cell 3 _ rfl; obtain ⟨q4, -⟩ := NA.cell 4 _ rfl; obtain ⟨q5, -⟩ := NA.cell 5 _ rfl; obtain ⟨q6, -⟩ := NA.cell 6 _ rfl; obtain ⟨q7, -⟩ := NA.cell 7 _ rfl; obtain ⟨q8, -⟩ := NA.cell 8 _ rfl; obtain ⟨p0, -⟩ := NB.cell 0 _ rfl; obtain ⟨p1, -⟩ := NB.cell 1 _ rfl; obtain ⟨p2, -⟩ := NB.cell 2 _ rfl; obtain ⟨p3, -⟩ := NB.cell 3 _ rfl; obtain ⟨p4, -⟩ := NB.cell 4 _ rfl; obtain ⟨p5, -⟩ := NB.cell 5 _ rfl; obtain ⟨p6, -⟩ := NB.cell 6 _ rfl; obtain ⟨p7, -⟩ := NB.cell 7 _ rfl; obtain ⟨p8, -⟩ := NB.cell 8 _ rfl; clear NA NB)
    | (go_at_call 32; (with_reducible refine (K2.out _ X2.out).mono ?_); rintro e w3 ⟨rfl, hb⟩; have X3 := Lib.hid (bl_trans X2.out hb); have N1a := Lib.hid (N1.out.below hb); have N2a := Lib.hid (N2.out.below hb); clear N1 N2 hb q0 q1 q2 q3 q4 q5 q6 q7 q8 p0 p1 p2 p3 p4 p5 p6 p7 p8; have N1 := N1a; have N2 := N2a; clear N1a N2a; have NA := N1.out; have NB := N2.out; obtain ⟨q0, -⟩ := NA.cell 0 _ rfl; obtain ⟨q1, -⟩ := NA.cell 1 _ rfl; obtain ⟨q2, -⟩ := NA.cell 2 _ rfl; obtain ⟨q3, -⟩ := NA.cell 3 _ rfl; obtain ⟨q4, -⟩ := NA.cell 4 _ rfl; obtain ⟨q5, -⟩ := NA.cell 5 _ rfl; obtain ⟨q6, -⟩ := NA.cell 6 _ rfl; obtain ⟨q7, -⟩ := NA.cell 7 _ rfl; obtain ⟨q8, -⟩ := NA.cell 8 _ rfl; obtain ⟨p0, -⟩ := NB.cell 0 _ rfl; obtain ⟨p1, -⟩ := NB.cell 1 _ rfl; obtain ⟨p2, -⟩ := NB.cell 2 _ rfl; obtain ⟨p3, -⟩ := NB.cell 3 _ rfl; obtain ⟨p4, -⟩ := NB.cell 4 _ rfl; obtain ⟨p5, -⟩ := NB.cell 5 _ rfl; obtain ⟨p6, -⟩ := NB.cell 6 _ rfl; obtain ⟨p7, -⟩ := NB.cell 7 _ rfl; obtain ⟨p8, -⟩ := NB.cell 8 _ rfl; clear NA NB)
    | (go_at_call 91; (with_reducible refine (K3.out _ X3.out).mono ?_); rintro e w4 ⟨rfl, hb⟩; have X4 := Lib.hid (bl_trans X3.out hb); have N1a := Lib.hid (N1.out.below hb); have N2a := Lib.hid (N2.out.below hb); clear N1 N2 hb q0 q1 q2 q3 q4 q5 q6 q7 q8 p0 p1 p2 p3 p4 p5 p6 p7 p8; have N1 := N1a; have N2 := N2a; clear N1a N2a; have NA := N1.out; have NB := N2.out; obtain ⟨q0, -⟩ := NA.cell 0 _ rfl; obtain ⟨q1, -⟩ := NA.cell 1 _ rfl; obtain ⟨q2, -⟩ := NA.cell 2 _ rfl; obtain ⟨q3, -⟩ := NA.cell 3 _ rfl; obtain ⟨q4, -⟩ := NA.cell 4 _ rfl; obtain ⟨q5, -⟩ := NA.cell 5 _ rfl; obtain ⟨q6, -⟩ := NA.cell 6 _ rfl; obtain ⟨q7, -⟩ := NA.cell 7 _ rfl; obtain ⟨q8, -⟩ := NA.cell 8 _ rfl; obtain ⟨p0, -⟩ := NB.cell 0 _ rfl; obtain ⟨p1, -⟩ := NB.cell 1 _ rfl; obtain ⟨p2, -⟩ := NB.cell 2 _ rfl; obtain ⟨p3, -⟩ := NB.cell 3 _ rfl; obtain ⟨p4, -⟩ := NB.cell 4 _ rfl; obtain ⟨p5, -⟩ := NB.cell 5 _ rfl; obtain ⟨p6, -⟩ := NB.cell 6 _ rfl; obtain ⟨p7, -⟩ := NB.cell 7 _ rfl; obtain ⟨p8, -⟩ := NB.cell 8 _ rfl; clear NA NB)
    | (go_at_call 91; (with_reducible refine (K4.out _ X4.out).mono ?_); rintro e w5 ⟨rfl, hb⟩; have X5 := Lib.hid (bl_trans X4.out hb); have N1a := Lib.hid (N1.out.below hb); have N2a := Lib.hid (N2.out.below hb); clear N1 N2 hb q0 q1 q2 q3 q4 q5 q6 q7 q8 p0 p1 p2 p3 p4 p5 p6 p7 p8; have N1 := N1a; have N2 := N2a; clear N1a N2a; have NA := N1.out; have NB := N2.out; obtain ⟨q0, -⟩ := NA.cell 0 _ rfl; obtain ⟨q1, -⟩ := NA.cell 1 _ rfl; obtain ⟨q2, -⟩ := NA.cell 2 _ rfl; obtain ⟨q3, -⟩ := NA.cell 3 _ rfl; obtain ⟨q4, -⟩ := NA.cell 4 _ rfl; obtain ⟨q5, -⟩ := NA.cell 5 _ rfl; obtain ⟨q6, -⟩ := NA.cell 6 _ rfl; obtain ⟨q7, -⟩ := NA.cell 7 _ rfl; obtain ⟨q8, -⟩ := NA.cell 8 _ rfl; obtain ⟨p0, -⟩ := NB.cell 0 _ rfl; obtain ⟨p1, -⟩ := NB.cell 1 _ rfl; obtain ⟨p2, -⟩ := NB.cell 2 _ rfl; obtain ⟨p3, -⟩ := NB.cell 3 _ rfl; obtain ⟨p4, -⟩ := NB.cell 4 _ rfl; obtain ⟨p5, -⟩ := NB.cell 5 _ rfl; obtain ⟨p6, -⟩ := NB.cell 6 _ rfl; obtain ⟨p7, -⟩ := NB.cell 7 _ rfl; obtain ⟨p8, -⟩ := NB.cell 8 _ rfl; clear NA NB))
  go_ret
  exact ⟨rfl, X5.out⟩
end Go.Proofs.Ytnllndcajdofjaa

namespace Go.Proofs.Ytnllndcajdofjaa
open Go.RowKit
set_option linter.unusedVariables false

/-- The lists of a round behind actions are as long as ahead of them. -/
theorem app_lens (b : Bt) (k x : Int) : (appB b k x).st.length = b.st.length ∧ (appB b k x).bt.length = b.bt.length ∧ (appB b k x).pd.length = b.pd.length ∧ (appB b k x).fo.length = b.fo.length ∧ (appB b k x).ac.length = b.ac.length := by
  unfold appB turnB setAc actB foldB more raiseB
  split <;> (try split) <;> (try split) <;> simp [more] <;> split <;> simp
end Go.Proofs.Ytnllndcajdofjaa
