/-
  Put together, what this law needs of: BetTo, BetOpen, ActHelp, Rows2, GlueB.
-/
import Derived.Test.YtnllndcajdofjaaQbBetAG
import Derived.Test.YtnllndcajdofjaaQbBoolLG
import Derived.Test.YtnllndcajdofjaaQbBaseG
import Derived.Deep.RegionLaw
import Derived.Deep.RegionWith
import Derived.IntWalk
import Derived.Deep.MidRow
namespace Go.Proofs.Ytnllndcajdofjaa
open Go.RowKit
set_option linter.unusedVariables false

set_option maxRecDepth 100000 in
set_option maxHeartbeats 8000000 in
theorem toBettingR_any (L : At5) (b : Bt) (w : World) (hr0 : Rd w L.a1 b.st) (hr1 : Rd w L.a2 b.bt) (hr2 : Rd w L.a3 b.pd) (hr3 : RdB w L.a4 b.fo) (hr4 : RdB w L.a5 b.ac) (hn0 : b.st.length ≤ 1048576) (hn1 : b.bt.length ≤ 1048576) (hn2 : b.pd.length ≤ 1048576) (hn3 : b.fo.length ≤ 1048576) (hn4 : b.ac.length ≤ 1048576) :
    Calls Try.prog 60 #[bV L b] w (NewBt b w) := by
  obtain ⟨w0, rfl⟩ : ∃ w0 : World, w0 = w := ⟨w, rfl⟩
  obtain ⟨W1, e1⟩ : ∃ W1, W1 = w0.alloc (.cells ([.slice L.a1 b.st.length L.c1, .slice L.a2 b.bt.length L.c2, .slice L.a3 b.pd.length L.c3, .slice L.a4 b.fo.length L.c4, .slice L.a5 b.ac.length L.c5, .int .i64 b.tu, .int .i64 b.un, .int .i64 b.ra, .int .i64 b.li] : List Value).toArray 70) := ⟨_, rfl⟩
  obtain ⟨W2, e2⟩ : ∃ W2, W2 = W1.alloc (.cells ([.slice none 0 0, .slice none 0 0, .slice none 0 0, .slice none 0 0, .slice none 0 0, .int .i64 0, .int .i64 0, .int .i64 0, .int .i64 0] : List Value).toArray 27) := ⟨_, rfl⟩
  obtain ⟨W3, e3⟩ : ∃ W3, W3 = W2.alloc (.cells ([.slice none 0 0, .slice none 0 0, .slice none 0 0, .slice none 0 0, .slice none 0 0, .int .i64 0, .int .i64 0, .int .i64 0, .int .i64 0] : List Value).toArray 27) := ⟨_, rfl⟩
  have z1 : W1.heap.size = w0.heap.size + 1 := by rw [e1]; simp
  have z2 : W2.heap.size = w0.heap.size + 1 + 1 := by rw [e2]; simp [z1]
  have z3 : W3.heap.size = w0.heap.size + 1 + 1 + 1 := by rw [e3]; simp [z2]
  have b1 : Below w0.heap.size w0 W1 := by rw [e1]; exact bl_alloc (bl_refl w0) _
  have b2 : Below w0.heap.size w0 W2 := by rw [e2]; exact bl_alloc b1 _
  have b3 : Below w0.heap.size w0 W3 := by rw [e3]; exact bl_alloc b2 _
  have k1 : Blk W1 w0.heap.size 70 [.slice L.a1 b.st.length L.c1, .slice L.a2 b.bt.length L.c2, .slice L.a3 b.pd.length L.c3, .slice L.a4 b.fo.length L.c4, .slice L.a5 b.ac.length L.c5, .int .i64 b.tu, .int .i64 b.un, .int .i64 b.ra, .int .i64 b.li] := by rw [e1]; exact blk_new w0 _ _
  have k2 : Blk W2 (w0.heap.size + 1) 27 [.slice none 0 0, .slice none 0 0, .slice none 0 0, .slice none 0 0, .slice none 0 0, .int .i64 0, .int .i64 0, .int .i64 0, .int .i64 0] := by rw [e2, ← z1]; exact blk_new W1 _ _
  have k3 : Blk W3 (w0.heap.size + 1 + 1) 27 [.slice none 0 0, .slice none 0 0, .slice none 0 0, .slice none 0 0, .slice none 0 0, .int .i64 0, .int .i64 0, .int .i64 0, .int .i64 0] := by rw [e3, ← z2]; exact blk_new W2 _ _
  have k13 : Blk W3 w0.heap.size 70 [.slice L.a1 b.st.length L.c1, .slice L.a2 b.bt.length L.c2, .slice L.a3 b.pd.length L.c3, .slice L.a4 b.fo.length L.c4, .slice L.a5 b.ac.length L.c5, .int .i64 b.tu, .int .i64 b.un, .int .i64 b.ra, .int .i64 b.li] := by
    rw [e3]; refine (?_ : Blk W2 _ _ _).below (bl_alloc (bl_refl W2) _); rw [e2]; exact k1.below (bl_alloc (bl_refl W1) _)
  have k23 : Blk W3 (w0.heap.size + 1) 27 [.slice none 0 0, .slice none 0 0, .slice none 0 0, .slice none 0 0, .slice none 0 0, .int .i64 0, .int .i64 0, .int .i64 0, .int .i64 0] := by rw [e3]; exact k2.below (bl_alloc (bl_refl W2) _)
  have K0 := Lib.hid (fun (W : World) (h : Below w0.heap.size w0 W) => toInts_any L.a1 L.c1 b.st W (hr0.below h) hn0)
  have K1 := Lib.hid (fun (W : World) (h : Below w0.heap.size w0 W) => toInts_any L.a2 L.c2 b.bt W (hr1.below h) hn1)
  have K2 := Lib.hid (fun (W : World) (h : Below w0.heap.size w0 W) => toInts_any L.a3 L.c3 b.pd W (hr2.below h) hn2)
  have K3 := Lib.hid (fun (W : World) (h : Below w0.heap.size w0 W) => toBools_any L.a4 L.c4 b.fo W (hr3.below h) hn3)
  have K4 := Lib.hid (fun (W : World) (h : Below w0.heap.size w0 W) => toBools_any L.a5 L.c5 b.ac W (hr4.below h) hn4)
  have P1 := Lib.hid k13
  have P2 := Lib.hid k23
  have P3 := Lib.hid k3
  have PB := Lib.hid b3
  have PZ := Lib.hid z3
  have PL := Lib.hid (Nat.le_of_eq z3.symm)
  obtain ⟨q, _⟩ := k13.cell 0 _ rfl
  clear hr0 hn0 hr1 hn1 hr2 hn2 hr3 hn3 hr4 hn4 k1 k2 k3 k13 k23 b1 b2 b3 z1 z2 z3
  subst e3 e2 e1
  have uT := Try.underlying27
  have iT : (Try.prog.info? 27).map (·.size) = some 9 := by kernel_rfl
  have i1t : (Try.prog.info? 25).map (·.size) = some 1 := by kernel_rfl
  have i1 : (Try.prog.info? 2).map (·.size) = some 1 := by kernel_rfl
  have i1s : (Try.prog.info? 24).map (·.size) = some 1 := by kernel_rfl
  unfold bV
  go_enter Try.func60, Try.ntmps60
  go_wp2_with (first
    | (go_at_call 115; (with_reducible refine (K0.out _ PB.out).mono ?_); rintro e x0 ⟨A0, c0, rfl, ho, hb⟩; have HO0 := Lib.hid ho; have PO0 : Hid (w0.heap.size + 1 + 1 < _) := Lib.hid (Nat.lt_of_lt_of_le (Nat.lt_succ_self _) PL.out); have P1a := Lib.hid (P1.out.below hb); have P2a := Lib.hid (P2.out.below hb); have P3a := Lib.hid (P3.out.below hb); have PBa := Lib.hid (bl_trans PB.out hb); have PLa := Lib.hid (Nat.le_trans PL.out hb.size); clear ho hb P1 P2 P3 PB PL; have P1 := P1a; have P2 := P2a; have P3 := P3a; have PB := PBa; have PL := PLa; clear P1a P2a P3a PBa PLa)
    | ((with_reducible refine wpList_store_at 24 rfl (.tmp 7) (.tmp 6) rfl i1s (w0.heap.size + 1 + 1) 0 rfl (.slice A0 b.st.length c0) rfl rfl _ _ P3.out ?_ ?_); (exact (by simp)); intro y0 k5 g5; have P1a := hb_grown P1 g5 (by omega); have P2a := hb_grown P2 g5 (by omega); have P3a : Hid (Blk y0 (w0.heap.size + 1 + 1) 27 [.slice A0 b.st.length c0, .slice none 0 0, .slice none 0 0, .slice none 0 0, .slice none 0 0, .int .i64 0, .int .i64 0, .int .i64 0, .int .i64 0]) := Lib.hid k5; have PBa := hbl_grown PB g5 (by omega); have PLa := hle_grown PL g5; have HO0a := ho_grown HO0 g5 PO0.out; clear HO0; have HO0 := HO0a; clear HO0a; clear k5 g5 P1 P2 P3 PB PL; have P1 := P1a; have P2 := P2a; have P3 := P3a; have PB := PBa; have PL := PLa; clear P1a P2a P3a PBa PLa; clear q; obtain ⟨q, _⟩ := P1.out.cell 1 _ rfl)
    | (go_at_call 115; (with_reducible refine (K1.out _ PB.out).mono ?_); rintro e x1 ⟨A1, c1, rfl, ho, hb⟩; have HO1 := Lib.hid ho; have PO1 : Hid (w0.heap.size + 1 + 1 < _) := Lib.hid (Nat.lt_of_lt_of_le (Nat.lt_succ_self _) PL.out); have HL0_1 := Lib.hid (fun a e => (HO0.out.lo_le a e).2); have P1a := Lib.hid (P1.out.below hb); have P2a := Lib.hid (P2.out.below hb); have P3a := Lib.hid (P3.out.below hb); have PBa := Lib.hid (bl_trans PB.out hb); have PLa := Lib.hid (Nat.le_trans PL.out hb.size); have HO0a := Lib.hid (HO0.out.below hb); clear HO0; have HO0 := HO0a; clear HO0a; clear ho hb P1 P2 P3 PB PL; have P1 := P1a; have P2 := P2a; have P3 := P3a; have PB := PBa; have PL := PLa; clear P1a P2a P3a PBa PLa)
    | ((with_reducible refine wpList_store_at 24 rfl (.tmp 11) (.tmp 10) rfl i1s (w0.heap.size + 1 + 1) 1 rfl (.slice A1 b.bt.length c1) rfl rfl _ _ P3.out ?_ ?_); (exact (by simp)); intro y1 k5 g5; have P1a := hb_grown P1 g5 (by omega); have P2a := hb_grown P2 g5 (by omega); have P3a : Hid (Blk y1 (w0.heap.size + 1 + 1) 27 [.slice A0 b.st.length c0, .slice A1 b.bt.length c1, .slice none 0 0, .slice none 0 0, .slice none 0 0, .int .i64 0, .int .i64 0, .int .i64 0, .int .i64 0]) := Lib.hid k5; have PBa := hbl_grown PB g5 (by omega); have PLa := hle_grown PL g5; have HO0a := ho_grown HO0 g5 PO0.out; clear HO0; have HO0 := HO0a; clear HO0a; have HO1a := ho_grown HO1 g5 PO1.out; clear HO1; have HO1 := HO1a; clear HO1a; clear k5 g5 P1 P2 P3 PB PL; have P1 := P1a; have P2 := P2a; have P3 := P3a; have PB := PBa; have PL := PLa; clear P1a P2a P3a PBa PLa; clear q; obtain ⟨q, _⟩ := P1.out.cell 2 _ rfl)
    | (go_at_call 115; (with_reducible refine (K2.out _ PB.out).mono ?_); rintro e x2 ⟨A2, c2, rfl, ho, hb⟩; have HO2 := Lib.hid ho; have PO2 : Hid (w0.heap.size + 1 + 1 < _) := Lib.hid (Nat.lt_of_lt_of_le (Nat.lt_succ_self _) PL.out); have HL0_2 := Lib.hid (fun a e => (HO0.out.lo_le a e).2); have HL1_2 := Lib.hid (fun a e => (HO1.out.lo_le a e).2); have P1a := Lib.hid (P1.out.below hb); have P2a := Lib.hid (P2.out.below hb); have P3a := Lib.hid (P3.out.below hb); have PBa := Lib.hid (bl_trans PB.out hb); have PLa := Lib.hid (Nat.le_trans PL.out hb.size); have HO0a := Lib.hid (HO0.out.below hb); clear HO0; have HO0 := HO0a; clear HO0a; have HO1a := Lib.hid (HO1.out.below hb); clear HO1; have HO1 := HO1a; clear HO1a; clear ho hb P1 P2 P3 PB PL; have P1 := P1a; have P2 := P2a; have P3 := P3a; have PB := PBa; have PL := PLa; clear P1a P2a P3a PBa PLa)
    | ((with_reducible refine wpList_store_at 24 rfl (.tmp 15) (.tmp 14) rfl i1s (w0.heap.size + 1 + 1) 2 rfl (.slice A2 b.pd.length c2) rfl rfl _ _ P3.out ?_ ?_); (exact (by simp)); intro y2 k5 g5; have P1a := hb_grown P1 g5 (by omega); have P2a := hb_grown P2 g5 (by omega); have P3a : Hid (Blk y2 (w0.heap.size + 1 + 1) 27 [.slice A0 b.st.length c0, .slice A1 b.bt.length c1, .slice A2 b.pd.length c2, .slice none 0 0, .slice none 0 0, .int .i64 0, .int .i64 0, .int .i64 0, .int .i64 0]) := Lib.hid k5; have PBa := hbl_grown PB g5 (by omega); have PLa := hle_grown PL g5; have HO0a := ho_grown HO0 g5 PO0.out; clear HO0; have HO0 := HO0a; clear HO0a; have HO1a := ho_grown HO1 g5 PO1.out; clear HO1; have HO1 := HO1a; clear HO1a; have HO2a := ho_grown HO2 g5 PO2.out; clear HO2; have HO2 := HO2a; clear HO2a; clear k5 g5 P1 P2 P3 PB PL; have P1 := P1a; have P2 := P2a; have P3 := P3a; have PB := PBa; have PL := PLa; clear P1a P2a P3a PBa PLa; clear q; obtain ⟨q, _⟩ := P1.out.cell 3 _ rfl)
    | (go_at_call 126; (with_reducible refine (K3.out _ PB.out).mono ?_); rintro e x3 ⟨A3, c3, rfl, ho, hb⟩; have HO3 := Lib.hid ho; have PO3 : Hid (w0.heap.size + 1 + 1 < _) := Lib.hid (Nat.lt_of_lt_of_le (Nat.lt_succ_self _) PL.out); have HL0_3 := Lib.hid (fun a e => (HO0.out.lo_le a e).2); have HL1_3 := Lib.hid (fun a e => (HO1.out.lo_le a e).2); have HL2_3 := Lib.hid (fun a e => (HO2.out.lo_le a e).2); have P1a := Lib.hid (P1.out.below hb); have P2a := Lib.hid (P2.out.below hb); have P3a := Lib.hid (P3.out.below hb); have PBa := Lib.hid (bl_trans PB.out hb); have PLa := Lib.hid (Nat.le_trans PL.out hb.size); have HO0a := Lib.hid (HO0.out.below hb); clear HO0; have HO0 := HO0a; clear HO0a; have HO1a := Lib.hid (HO1.out.below hb); clear HO1; have HO1 := HO1a; clear HO1a; have HO2a := Lib.hid (HO2.out.below hb); clear HO2; have HO2 := HO2a; clear HO2a; clear ho hb P1 P2 P3 PB PL; have P1 := P1a; have P2 := P2a; have P3 := P3a; have PB := PBa; have PL := PLa; clear P1a P2a P3a PBa PLa)
    | ((with_reducible refine wpList_store_at 25 rfl (.tmp 19) (.tmp 18) rfl i1t (w0.heap.size + 1 + 1) 3 rfl (.slice A3 b.fo.length c3) rfl rfl _ _ P3.out ?_ ?_); (exact (by simp)); intro y3 k5 g5; have P1a := hb_grown P1 g5 (by omega); have P2a := hb_grown P2 g5 (by omega); have P3a : Hid (Blk y3 (w0.heap.size + 1 + 1) 27 [.slice A0 b.st.length c0, .slice A1 b.bt.length c1, .slice A2 b.pd.length c2, .slice A3 b.fo.length c3, .slice none 0 0, .int .i64 0, .int .i64 0, .int .i64 0, .int .i64 0]) := Lib.hid k5; have PBa := hbl_grown PB g5 (by omega); have PLa := hle_grown PL g5; have HO0a := ho_grown HO0 g5 PO0.out; clear HO0; have HO0 := HO0a; clear HO0a; have HO1a := ho_grown HO1 g5 PO1.out; clear HO1; have HO1 := HO1a; clear HO1a; have HO2a := ho_grown HO2 g5 PO2.out; clear HO2; have HO2 := HO2a; clear HO2a; have HO3a := hoB_grown HO3 g5 PO3.out; clear HO3; have HO3 := HO3a; clear HO3a; clear k5 g5 P1 P2 P3 PB PL; have P1 := P1a; have P2 := P2a; have P3 := P3a; have PB := PBa; have PL := PLa; clear P1a P2a P3a PBa PLa; clear q; obtain ⟨q, _⟩ := P1.out.cell 4 _ rfl)
    | (go_at_call 126; (with_reducible refine (K4.out _ PB.out).mono ?_); rintro e x4 ⟨A4, c4, rfl, ho, hb⟩; have HO4 := Lib.hid ho; have PO4 : Hid (w0.heap.size + 1 + 1 < _) := Lib.hid (Nat.lt_of_lt_of_le (Nat.lt_succ_self _) PL.out); have HL0_4 := Lib.hid (fun a e => (HO0.out.lo_le a e).2); have HL1_4 := Lib.hid (fun a e => (HO1.out.lo_le a e).2); have HL2_4 := Lib.hid (fun a e => (HO2.out.lo_le a e).2); have HL3_4 := Lib.hid (fun a e => (HO3.out.lo_le a e).2); have P1a := Lib.hid (P1.out.below hb); have P2a := Lib.hid (P2.out.below hb); have P3a := Lib.hid (P3.out.below hb); have PBa := Lib.hid (bl_trans PB.out hb); have PLa := Lib.hid (Nat.le_trans PL.out hb.size); have HO0a := Lib.hid (HO0.out.below hb); clear HO0; have HO0 := HO0a; clear HO0a; have HO1a := Lib.hid (HO1.out.below hb); clear HO1; have HO1 := HO1a; clear HO1a; have HO2a := Lib.hid (HO2.out.below hb); clear HO2; have HO2 := HO2a; clear HO2a; have HO3a := Lib.hid (HO3.out.below hb); clear HO3; have HO3 := HO3a; clear HO3a; clear ho hb P1 P2 P3 PB PL; have P1 := P1a; have P2 := P2a; have P3 := P3a; have PB := PBa; have PL := PLa; clear P1a P2a P3a PBa PLa)
    | ((with_reducible refine wpList_store_at 25 rfl (.tmp 23) (.tmp 22) rfl i1t (w0.heap.size + 1 + 1) 4 rfl (.slice A4 b.ac.length c4) rfl rfl _ _ P3.out ?_ ?_); (exact (by simp)); intro y4 k5 g5; have P1a := hb_grown P1 g5 (by omega); have P2a := hb_grown P2 g5 (by omega); have P3a : Hid (Blk y4 (w0.heap.size + 1 + 1) 27 [.slice A0 b.st.length c0, .slice A1 b.bt.length c1, .slice A2 b.pd.length c2, .slice A3 b.fo.length c3, .slice A4 b.ac.length c4, .int .i64 0, .int .i64 0, .int .i64 0, .int .i64 0]) := Lib.hid k5; have PBa := hbl_grown PB g5 (by omega); have PLa := hle_grown PL g5; have HO0a := ho_grown HO0 g5 PO0.out; clear HO0; have HO0 := HO0a; clear HO0a; have HO1a := ho_grown HO1 g5 PO1.out; clear HO1; have HO1 := HO1a; clear HO1a; have HO2a := ho_grown HO2 g5 PO2.out; clear HO2; have HO2 := HO2a; clear HO2a; have HO3a := hoB_grown HO3 g5 PO3.out; clear HO3; have HO3 := HO3a; clear HO3a; have HO4a := hoB_grown HO4 g5 PO4.out; clear HO4; have HO4 := HO4a; clear HO4a; clear k5 g5 P1 P2 P3 PB PL; have P1 := P1a; have P2 := P2a; have P3 := P3a; have PB := PBa; have PL := PLa; clear P1a P2a P3a PBa PLa; clear q; obtain ⟨q, _⟩ := P1.out.cell 5 _ rfl)
    | ((with_reducible refine wpList_store_at 2 rfl (.tmp 26) (.tmp 25) rfl i1 (w0.heap.size + 1 + 1) 5 rfl (.int .i64 b.tu) rfl rfl _ _ P3.out ?_ ?_); (exact (by simp)); intro y5 k5 g5; have P1a := hb_grown P1 g5 (by omega); have P2a := hb_grown P2 g5 (by omega); have P3a : Hid (Blk y5 (w0.heap.size + 1 + 1) 27 [.slice A0 b.st.length c0, .slice A1 b.bt.length c1, .slice A2 b.pd.length c2, .slice A3 b.fo.length c3, .slice A4 b.ac.length c4, .int .i64 b.tu, .int .i64 0, .int .i64 0, .int .i64 0]) := Lib.hid k5; have PBa := hbl_grown PB g5 (by omega); have PLa := hle_grown PL g5; have HO0a := ho_grown HO0 g5 PO0.out; clear HO0; have HO0 := HO0a; clear HO0a; have HO1a := ho_grown HO1 g5 PO1.out; clear HO1; have HO1 := HO1a; clear HO1a; have HO2a := ho_grown HO2 g5 PO2.out; clear HO2; have HO2 := HO2a; clear HO2a; have HO3a := hoB_grown HO3 g5 PO3.out; clear HO3; have HO3 := HO3a; clear HO3a; have HO4a := hoB_grown HO4 g5 PO4.out; clear HO4; have HO4 := HO4a; clear HO4a; clear k5 g5 P1 P2 P3 PB PL; have P1 := P1a; have P2 := P2a; have P3 := P3a; have PB := PBa; have PL := PLa; clear P1a P2a P3a PBa PLa; clear q; obtain ⟨q, _⟩ := P1.out.cell 6 _ rfl)
    | ((with_reducible refine wpList_store_at 2 rfl (.tmp 29) (.tmp 28) rfl i1 (w0.heap.size + 1 + 1) 6 rfl (.int .i64 b.un) rfl rfl _ _ P3.out ?_ ?_); (exact (by simp)); intro y6 k5 g5; have P1a := hb_grown P1 g5 (by omega); have P2a := hb_grown P2 g5 (by omega); have P3a : Hid (Blk y6 (w0.heap.size + 1 + 1) 27 [.slice A0 b.st.length c0, .slice A1 b.bt.length c1, .slice A2 b.pd.length c2, .slice A3 b.fo.length c3, .slice A4 b.ac.length c4, .int .i64 b.tu, .int .i64 b.un, .int .i64 0, .int .i64 0]) := Lib.hid k5; have PBa := hbl_grown PB g5 (by omega); have PLa := hle_grown PL g5; have HO0a := ho_grown HO0 g5 PO0.out; clear HO0; have HO0 := HO0a; clear HO0a; have HO1a := ho_grown HO1 g5 PO1.out; clear HO1; have HO1 := HO1a; clear HO1a; have HO2a := ho_grown HO2 g5 PO2.out; clear HO2; have HO2 := HO2a; clear HO2a; have HO3a := hoB_grown HO3 g5 PO3.out; clear HO3; have HO3 := HO3a; clear HO3a; have HO4a := hoB_grown HO4 g5 PO4.out; clear HO4; have HO4 := HO4a; clear HO4a; clear k5 g5 P1 P2 P3 PB PL; have P1 := P1a; have P2 := P2a; have P3 := P3a; have PB := PBa; have PL := PLa; clear P1a P2a P3a PBa PLa; clear q; obtain ⟨q, _⟩ := P1.out.cell 7 _ rfl)
    | ((with_reducible refine wpList_store_at 2 rfl (.tmp 32) (.tmp 31) rfl i1 (w0.heap.size + 1 + 1) 7 rfl (.int .i64 b.ra) rfl rfl _ _ P3.out ?_ ?_); (exact (by simp)); intro y7 k5 g5; have P1a := hb_grown P1 g5 (by omega); have P2a := hb_grown P2 g5 (by omega); have P3a : Hid (Blk y7 (w0.heap.size + 1 + 1) 27 [.slice A0 b.st.length c0, .slice A1 b.bt.length c1, .slice A2 b.pd.length c2, .slice A3 b.fo.length c3, .slice A4 b.ac.length c4, .int .i64 b.tu, .int .i64 b.un, .int .i64 b.ra, .int .i64 0]) := Lib.hid k5; have PBa := hbl_grown PB g5 (by omega); have PLa := hle_grown PL g5; have HO0a := ho_grown HO0 g5 PO0.out; clear HO0; have HO0 := HO0a; clear HO0a; have HO1a := ho_grown HO1 g5 PO1.out; clear HO1; have HO1 := HO1a; clear HO1a; have HO2a := ho_grown HO2 g5 PO2.out; clear HO2; have HO2 := HO2a; clear HO2a; have HO3a := hoB_grown HO3 g5 PO3.out; clear HO3; have HO3 := HO3a; clear HO3a; have HO4a := hoB_grown HO4 g5 PO4.out; clear HO4; have HO4 := HO4a; clear HO4a; clear k5 g5 P1 P2 P3 PB PL; have P1 := P1a; have P2 := P2a; have P3 := P3a; have PB := PBa; have PL := PLa; clear P1a P2a P3a PBa PLa; clear q; obtain ⟨q, _⟩ := P1.out.cell 8 _ rfl)
    | ((with_reducible refine wpList_store_at 2 rfl (.tmp 35) (.tmp 34) rfl i1 (w0.heap.size + 1 + 1) 8 rfl (.int .i64 b.li) rfl rfl _ _ P3.out ?_ ?_); (exact (by simp)); intro y8 k5 g5; have P1a := hb_grown P1 g5 (by omega); have P2a := hb_grown P2 g5 (by omega); have P3a : Hid (Blk y8 (w0.heap.size + 1 + 1) 27 [.slice A0 b.st.length c0, .slice A1 b.bt.length c1, .slice A2 b.pd.length c2, .slice A3 b.fo.length c3, .slice A4 b.ac.length c4, .int .i64 b.tu, .int .i64 b.un, .int .i64 b.ra, .int .i64 b.li]) := Lib.hid k5; have PBa := hbl_grown PB g5 (by omega); have PLa := hle_grown PL g5; have HO0a := ho_grown HO0 g5 PO0.out; clear HO0; have HO0 := HO0a; clear HO0a; have HO1a := ho_grown HO1 g5 PO1.out; clear HO1; have HO1 := HO1a; clear HO1a; have HO2a := ho_grown HO2 g5 PO2.out; clear HO2; have HO2 := HO2a; clear HO2a; have HO3a := hoB_grown HO3 g5 PO3.out; clear HO3; have HO3 := HO3a; clear HO3a; have HO4a := hoB_grown HO4 g5 PO4.out; clear HO4; have HO4 := HO4a; clear HO4a; clear k5 g5 P1 P2 P3 PB PL; have P1 := P1a; have P2 := P2a; have P3 := P3a; have PB := PBa; have PL := PLa; clear P1a P2a P3a PBa PLa)
    | (with_reducible refine wpList_load_blk 27 _ 9 rfl (.tmp 3) rfl uT rfl iT (w0.heap.size + 1 + 1) 0 rfl [.slice A0 b.st.length c0, .slice A1 b.bt.length c1, .slice A2 b.pd.length c2, .slice A3 b.fo.length c3, .slice A4 b.ac.length c4, .int .i64 b.tu, .int .i64 b.un, .int .i64 b.ra, .int .i64 b.li] rfl P3.out.range ?_)
    | (refine wpList_store_blk 27 9 rfl (.tmp 2) (.tmp 36) rfl iT (w0.heap.size + 1) rfl [.slice A0 b.st.length c0, .slice A1 b.bt.length c1, .slice A2 b.pd.length c2, .slice A3 b.fo.length c3, .slice A4 b.ac.length c4, .int .i64 b.tu, .int .i64 b.un, .int .i64 b.ra, .int .i64 b.li] rfl rfl (by simp [Value.oneCell']) _ P2.out rfl ?_; intro y9 k9 g9; have HO0a := ho_grown HO0 g9 (Nat.lt_of_succ_lt PO0.out); have HO1a := ho_grown HO1 g9 (Nat.lt_of_succ_lt PO1.out); have HO2a := ho_grown HO2 g9 (Nat.lt_of_succ_lt PO2.out); have HO3a := hoB_grown HO3 g9 (Nat.lt_of_succ_lt PO3.out); have HO4a := hoB_grown HO4 g9 (Nat.lt_of_succ_lt PO4.out); have PBa := hbl_grown PB g9 (by omega); have P2a := Lib.hid k9; clear k9 g9))
  obtain ⟨z0, _⟩ := P2a.out.cell 0 _ rfl
  obtain ⟨z1, _⟩ := P2a.out.cell 1 _ rfl
  obtain ⟨z2, _⟩ := P2a.out.cell 2 _ rfl
  obtain ⟨z3, _⟩ := P2a.out.cell 3 _ rfl
  obtain ⟨z4, _⟩ := P2a.out.cell 4 _ rfl
  obtain ⟨z5, _⟩ := P2a.out.cell 5 _ rfl
  obtain ⟨z6, _⟩ := P2a.out.cell 6 _ rfl
  obtain ⟨z7, _⟩ := P2a.out.cell 7 _ rfl
  obtain ⟨z8, _⟩ := P2a.out.cell 8 _ rfl
  exact bodyPost_ret (v := .agg #[.slice A0 b.st.length c0, .slice A1 b.bt.length c1, .slice A2 b.pd.length c2, .slice A3 b.fo.length c3, .slice A4 b.ac.length c4, .int .i64 b.tu, .int .i64 b.un, .int .i64 b.ra, .int .i64 b.li]) (by simp [results, Try.results60, go_sem, z0, z1, z2, z3, z4, z5, z6, z7, z8]) rfl (⟨⟨A0, A1, A2, A3, A4, c0, c1, c2, c3, c4⟩, rfl, ⟨Row.of_own (HO0a.out.less (by have := PO0.out; omega)), Row.of_own (HO1a.out.less (by have := PO1.out; omega)), Row.of_own (HO2a.out.less (by have := PO2.out; omega)), RowB.of_own (HO3a.out.less (by have := PO3.out; omega)), RowB.of_own (HO4a.out.less (by have := PO4.out; omega)), apt_lt HL0_1.out (fun a e => (HO1a.out.lo_le a e).1), apt_lt HL0_2.out (fun a e => (HO2a.out.lo_le a e).1), apt_lt HL0_3.out (fun a e => (HO3a.out.lo_le a e).1), apt_lt HL0_4.out (fun a e => (HO4a.out.lo_le a e).1), apt_lt HL1_2.out (fun a e => (HO2a.out.lo_le a e).1), apt_lt HL1_3.out (fun a e => (HO3a.out.lo_le a e).1), apt_lt HL1_4.out (fun a e => (HO4a.out.lo_le a e).1), apt_lt HL2_3.out (fun a e => (HO3a.out.lo_le a e).1), apt_lt HL2_4.out (fun a e => (HO4a.out.lo_le a e).1), apt_lt HL3_4.out (fun a e => (HO4a.out.lo_le a e).1)⟩, PBa.out⟩)
theorem toBetting_any (L : At5) (b : Bt) (w : World) (h : Rd5 w L b) (m : Sm b) : Calls Try.prog 60 #[bV L b] w (NewBt b w) :=
  toBettingR_any L b w h.r1 h.r2 h.r3 h.r4 h.r5 m.m1 m.m2 m.m3 m.m4 m.m5
end Go.Proofs.Ytnllndcajdofjaa

namespace Go.Proofs.Ytnllndcajdofjaa
open Go.Joins Go.ChangeShapes Go.WideShapes Go.ChangeAt Go.RowKit Go.Deep
set_option linter.unusedVariables false

/-- The lists are no longer than a list can be. -/
def Mx (b : Bt) : Prop := b.st.length ≤ maxLen ∧ b.bt.length ≤ maxLen ∧ b.pd.length ≤ maxLen ∧ b.fo.length ≤ maxLen ∧ b.ac.length ≤ maxLen
set_option maxRecDepth 100000 in
theorem open_betting {H : Type} {enc : TypeId × Value → H} {W : World} {base : Nat} {v : Value} {d : DataW H} {p : List MemPlace}
    (hv : Value.okWide Try.prog W .any base 70 v) (h : DataW.Trod enc Try.prog W 0 (fun _ => true) true 70 v d p) :
    ∃ (L : At5) (b : Bt), v = bV L b ∧ Rd5 W L b ∧ Mx b ∧ i64T b.tu ∧ i64T b.un ∧ i64T b.ra ∧ i64T b.li := by
  obtain ⟨cs, rfl, hl, hf⟩ := fields_ofT Try.underlying70 (by kernel_rfl) hv h
  rw [show Try.prog.cellsOf 70 = 9 by kernel_rfl] at hl
  match cs, hl with
  | [c0, c1, c2, c3, c4, c5, c6, c7, c8], _ =>
    obtain ⟨_, ⟨d0, p0⟩, h0⟩ := hf 0 _ rfl
    obtain ⟨_, ⟨d1, p1⟩, h1⟩ := hf 1 _ rfl
    obtain ⟨_, ⟨d2, p2⟩, h2⟩ := hf 2 _ rfl
    obtain ⟨_, ⟨d3, p3⟩, h3⟩ := hf 3 _ rfl
    obtain ⟨_, ⟨d4, p4⟩, h4⟩ := hf 4 _ rfl
    obtain ⟨_, _, h5⟩ := hf 5 _ rfl
    obtain ⟨_, _, h6⟩ := hf 6 _ rfl
    obtain ⟨_, _, h7⟩ := hf 7 _ rfl
    obtain ⟨_, _, h8⟩ := hf 8 _ rfl
    obtain ⟨x5, e5, _, w5⟩ := DataW.trod_int Try.underlying2 h5
    obtain ⟨x6, e6, _, w6⟩ := DataW.trod_int Try.underlying2 h6
    obtain ⟨x7, e7, _, w7⟩ := DataW.trod_int Try.underlying2 h7
    obtain ⟨x8, e8, _, w8⟩ := DataW.trod_int Try.underlying2 h8
    simp at e5 e6 e7 e8
    subst e5 e6 e7 e8
    obtain ⟨A0, k0, xs0, rfl, m0, r0⟩ := ints_of rfl h0
    obtain ⟨A1, k1, xs1, rfl, m1, r1⟩ := ints_of rfl h1
    obtain ⟨A2, k2, xs2, rfl, m2, r2⟩ := ints_of rfl h2
    obtain ⟨A3, k3, xs3, rfl, m3, r3⟩ := bools_of rfl h3
    obtain ⟨A4, k4, xs4, rfl, m4, r4⟩ := bools_of rfl h4
    exact ⟨⟨A0, A1, A2, A3, A4, k0, k1, k2, k3, k4⟩, ⟨xs0, xs1, xs2, xs3, xs4, x5, x6, x7, x8⟩, rfl, ⟨r0, r1, r2, r3, r4⟩, ⟨m0, m1, m2, m3, m4⟩, i64T_of_wf w5, i64T_of_wf w6, i64T_of_wf w7, i64T_of_wf w8⟩
end Go.Proofs.Ytnllndcajdofjaa

namespace Go.Proofs.Ytnllndcajdofjaa
open Go.Joins Go.ChangeShapes Go.WideShapes Go.ChangeAt Go.RowKit Go.Deep
set_option linter.unusedVariables false

def acV (k x : Int) : Value := .agg #[.int .i64 k, .int .i64 x]
set_option maxRecDepth 100000 in
set_option maxHeartbeats 1000000 in
theorem toAction_any (k x : Int) (w : World)  :
    Calls Try.prog 127 #[acV k x] w (Fresh (acV k x) w) := by
  obtain ⟨w0, rfl⟩ : ∃ w0 : World, w0 = w := ⟨w, rfl⟩
  obtain ⟨W1, e1⟩ : ∃ W1, W1 = w0.alloc (.cells ([.int .i64 k, .int .i64 x] : List Value).toArray 128) := ⟨_, rfl⟩
  obtain ⟨W2, e2⟩ : ∃ W2, W2 = W1.alloc (.cells ([.int .i64 0, .int .i64 0] : List Value).toArray 34) := ⟨_, rfl⟩
  obtain ⟨W3, e3⟩ : ∃ W3, W3 = W2.alloc (.cells ([.int .i64 0, .int .i64 0] : List Value).toArray 34) := ⟨_, rfl⟩
  have z1 : W1.heap.size = w0.heap.size + 1 := by rw [e1]; simp
  have z2 : W2.heap.size = w0.heap.size + 1 + 1 := by rw [e2]; simp [z1]
  have z3 : W3.heap.size = w0.heap.size + 1 + 1 + 1 := by rw [e3]; simp [z2]
  have b1 : Below w0.heap.size w0 W1 := by rw [e1]; exact bl_alloc (bl_refl w0) _
  have b2 : Below w0.heap.size w0 W2 := by rw [e2]; exact bl_alloc b1 _
  have b3 : Below w0.heap.size w0 W3 := by rw [e3]; exact bl_alloc b2 _
  have k1 : Blk W1 w0.heap.size 128 [.int .i64 k, .int .i64 x] := by rw [e1]; exact blk_new w0 _ _
  have k2 : Blk W2 (w0.heap.size + 1) 34 [.int .i64 0, .int .i64 0] := by rw [e2, ← z1]; exact blk_new W1 _ _
  have k3 : Blk W3 (w0.heap.size + 1 + 1) 34 [.int .i64 0, .int .i64 0] := by rw [e3, ← z2]; exact blk_new W2 _ _
  have k13 : Blk W3 w0.heap.size 128 [.int .i64 k, .int .i64 x] := by
    rw [e3]; refine (?_ : Blk W2 _ _ _).below (bl_alloc (bl_refl W2) _); rw [e2]; exact k1.below (bl_alloc (bl_refl W1) _)
  have k23 : Blk W3 (w0.heap.size + 1) 34 [.int .i64 0, .int .i64 0] := by rw [e3]; exact k2.below (bl_alloc (bl_refl W2) _)
  have P1 := Lib.hid k13
  have P2 := Lib.hid k23
  have P3 := Lib.hid k3
  have PB := Lib.hid b3
  have PZ := Lib.hid z3
  have PL := Lib.hid (Nat.le_of_eq z3.symm)
  obtain ⟨q, _⟩ := k13.cell 0 _ rfl
  clear k1 k2 k3 k13 k23 b1 b2 b3 z1 z2 z3
  subst e3 e2 e1
  have uT := Try.underlying34
  have iT : (Try.prog.info? 34).map (·.size) = some 2 := by kernel_rfl
  have i1 : (Try.prog.info? 2).map (·.size) = some 1 := by kernel_rfl
  unfold acV
  go_enter Try.func127, Try.ntmps127
  go_wp2_with (first
    | ((with_reducible refine wpList_store_at 2 rfl (.tmp 6) (.tmp 5) rfl i1 (w0.heap.size + 1 + 1) 0 rfl (.int .i64 k) rfl rfl _ _ P3.out ?_ ?_); (exact (by simp)); intro y0 k5 g5; have P1a := hb_grown P1 g5 (by omega); have P2a := hb_grown P2 g5 (by omega); have P3a : Hid (Blk y0 (w0.heap.size + 1 + 1) 34 [.int .i64 k, .int .i64 0]) := Lib.hid k5; have PBa := hbl_grown PB g5 (by omega); have PLa := hle_grown PL g5; clear k5 g5 P1 P2 P3 PB PL; have P1 := P1a; have P2 := P2a; have P3 := P3a; have PB := PBa; have PL := PLa; clear P1a P2a P3a PBa PLa; clear q; obtain ⟨q, _⟩ := P1.out.cell 1 _ rfl)
    | ((with_reducible refine wpList_store_at 2 rfl (.tmp 9) (.tmp 8) rfl i1 (w0.heap.size + 1 + 1) 1 rfl (.int .i64 x) rfl rfl _ _ P3.out ?_ ?_); (exact (by simp)); intro y1 k5 g5; have P1a := hb_grown P1 g5 (by omega); have P2a := hb_grown P2 g5 (by omega); have P3a : Hid (Blk y1 (w0.heap.size + 1 + 1) 34 [.int .i64 k, .int .i64 x]) := Lib.hid k5; have PBa := hbl_grown PB g5 (by omega); have PLa := hle_grown PL g5; clear k5 g5 P1 P2 P3 PB PL; have P1 := P1a; have P2 := P2a; have P3 := P3a; have PB := PBa; have PL := PLa; clear P1a P2a P3a PBa PLa)
    | (with_reducible refine wpList_load_blk 34 _ 2 rfl (.tmp 3) rfl uT rfl iT (w0.heap.size + 1 + 1) 0 rfl [.int .i64 k, .int .i64 x] rfl P3.out.range ?_)
    | (refine wpList_store_blk 34 2 rfl (.tmp 2) (.tmp 10) rfl iT (w0.heap.size + 1) rfl [.int .i64 k, .int .i64 x] rfl rfl (by simp [Value.oneCell']) _ P2.out rfl ?_; intro y9 k9 g9; have PBa := hbl_grown PB g9 (by omega); have P2a := Lib.hid k9; clear k9 g9))
  obtain ⟨z0, _⟩ := P2a.out.cell 0 _ rfl
  obtain ⟨z1, _⟩ := P2a.out.cell 1 _ rfl
  exact bodyPost_ret (v := .agg #[.int .i64 k, .int .i64 x]) (by simp [results, Try.results127, go_sem, z0, z1]) rfl (⟨rfl, PBa.out⟩)
end Go.Proofs.Ytnllndcajdofjaa


/-! Rows of the call's own in different blocks. -/
namespace Go.Proofs.Ytnllndcajdofjaa
open Go.RowKit
set_option linter.unusedVariables false

end Go.Proofs.Ytnllndcajdofjaa

/-! Rows of rows: lists of lists of numbers in memory, in rows of the call's own. -/
namespace Go.Proofs.Ytnllndcajdofjaa
open Go.RowKit
set_option linter.unusedVariables false

end Go.Proofs.Ytnllndcajdofjaa

/-! append(list, other...): the list is a row of the call's own, the other one reads however it lies; slices of a slice. -/
namespace Go.Proofs.Ytnllndcajdofjaa
open Go.RowKit
set_option linter.unusedVariables false

theorem run_append_nothing (w : World) (lo : Nat) (ty : TypeId) (v : Value) (n : Nat) (xs : List Value) (c : Nat) (hown : w.ownsRow lo 2 1 v n xs) :
    (Builtin.append_ #[24, 24] ty #[v, .slice none 0 c]).run Try.prog w = .ok v w := by
  obtain ⟨i0, hi, hz0, hz1, hz2⟩ := info_parts infoInt
  rcases hown.2 with ⟨rfl, rfl⟩ | ⟨g, cap, cur, rfl, _, _, hnc, _⟩
  · simp [Builtin.append_, run_underlying Try.underlying24, sizeOf, typeInfo, hi, Builtin.lenOf, Builtin.firstCells]
  · simp [Builtin.append_, run_underlying Try.underlying24, sizeOf, typeInfo, hi, Builtin.lenOf, Builtin.firstCells, hnc, storeCells]
theorem run_glue (w : World) (ty : TypeId) (lo : Nat) (v : Value) (xs ys : List Int) (A : Option Addr) (c : Nat) (hown : Own w lo v xs) (hsrc : Rd w A ys) (hb : xs.length + ys.length ≤ 4000000) (hlo : lo ≤ w.heap.size) :
    ∃ v' w', (Builtin.append_ #[24, 24] ty #[v, .slice A ys.length c]).run Try.prog w = .ok v' w' ∧ Own w' lo v' (xs ++ ys) ∧ w.grownBy w' v.ownBlock ∧ (v'.ownBlock = v.ownBlock ∨ v'.ownBlock = some w.heap.size) := by
  obtain ⟨i0, hi, hz0, hz1, hz2⟩ := info_parts infoInt
  rcases A with _ | ad
  · have hn : ys.length = 0 := by
      by_cases h0 : 0 < ys.length
      · obtain ⟨b, off, e, _⟩ := hsrc h0
        cases e
      · omega
    have hy : ys = [] := List.length_eq_zero_iff.1 hn
    subst hy
    exact ⟨v, w, run_append_nothing w lo ty v xs.length (ints xs) c hown, by rw [List.append_nil]; exact hown, World.grownBy.refl w _, .inl rfl⟩
  · obtain ⟨v', w', hr, h2, h3, _, h5⟩ := run_append_own_at (P := Try.prog) w lo 24 ty 2 i0 (.int .i64 0) 1 8 Try.underlying24 hi hz0 hz1 hz2 rfl (by decide) v xs.length (ints xs) hown ad ys.length c (ints ys) (by rw [ints_length, Nat.mul_one])
      (fun j u hu => by
        have hj : j < ys.length := by have := (List.getElem?_eq_some_iff.1 hu).1; rwa [ints_length] at this
        rw [ints_get _ j hj] at hu
        obtain ⟨b, off, e, hc⟩ := hsrc (by omega)
        obtain rfl := Option.some.inj e
        rw [Addr.add_mid, hc j hj]; exact hu)
      (fun u hu => by unfold ints at hu; obtain ⟨y, _, rfl⟩ := List.mem_map.1 hu; rfl) (by unfold maxLen; omega) (by omega) hlo
    exact ⟨v', w', hr, by unfold Own; rw [ints_append, List.length_append]; exact h2, h3, h5⟩
/-- append of a list as one step of a plain region. -/
theorem wpList_glue {ops : Array Oper} {rest : List Oper} {o : Oper} {a : Go.Act} {w : World} {Q : Exit → Go.Act → World → Prop} (s x : Operand) (hgd : o.guard = none)
    (ho : o.op = .call { callee := .builtin .append, args := #[s, x], argTypes := #[24, 24] })
    (lo : Nat) (v : Value) (xs ys : List Int) (A : Option Addr) (c : Nat) (hs : a.eval s = v) (hown : Own w lo v xs) (hx : a.eval x = .slice A ys.length c) (hsrc : Rd w A ys) (hb : xs.length + ys.length ≤ 4000000) (hlo : lo ≤ w.heap.size)
    (h : ∀ A' c' ws w', Hid (ws = xs ++ ys) → Own w' lo (.slice A' ws.length c') ws → w.grownBy w' v.ownBlock → ((Value.slice A' ws.length c').ownBlock = v.ownBlock ∨ (Value.slice A' ws.length c').ownBlock = some w.heap.size) → wpList Try.prog ops Q rest (a.put o.dst (.slice A' ws.length c')) w') : wpList Try.prog ops Q (o :: rest) a w :=
  wpList_plain hgd fun K hK => by
    obtain ⟨v', w', hr, h4, h3, h6⟩ := run_glue w o.type lo v xs ys A c hown hsrc hb hlo
    obtain ⟨A', c', rfl, h5⟩ := own_form h4
    unfold Oper.wp execOp
    simp only [ho, resolve, invoke, builtin, Sem.run_bind, Sem.run_pure, Result.andThen_ok, List.map_toArray, List.map_cons, List.map_nil, hs, hx, hr]
    exact hK _ _ (h A' c' _ w' (Lib.hid rfl) h5 h3 h6)
theorem own_new (w : World) : Own (w.alloc (.cells #[] 2)) w.heap.size (.slice (some ⟨w.heap.size, 0, none⟩) 0 0) [] := World.ownsRow_made w #[] 0 (Nat.le_refl _) (by unfold maxLen; omega) rfl
theorem bl_glue {a w w1 : World} {o : Obj} {m : Nat} (hb : Below a.heap.size a w) (hg : (w.alloc o).grownBy w1 (Value.slice (some ⟨w.heap.size, 0, none⟩) m m).ownBlock) : Below a.heap.size a w1 :=
  (bl_alloc hb o).grown hg (Nat.le_trans hb.size (by simp)) (fun j hj => by
    have : w.heap.size = j := by injection hj
    have := hb.size
    omega)
/-! Slices of a slice. -/
end Go.Proofs.Ytnllndcajdofjaa

/-! Short rows that a call builds. -/
namespace Go.Proofs.Ytnllndcajdofjaa
open Go.RowKit
set_option linter.unusedVariables false

end Go.Proofs.Ytnllndcajdofjaa

/-! Slices are hung to a row of slices. -/
namespace Go.Proofs.Ytnllndcajdofjaa
open Go.RowKit
set_option linter.unusedVariables false

end Go.Proofs.Ytnllndcajdofjaa

namespace Go.Proofs.Ytnllndcajdofjaa
open Go.RowKit
set_option linter.unusedVariables false

theorem own_formB {w : World} {lo : Nat} {v : Value} {xs : List Bool} (h : OwnB w lo v xs) : ∃ A c, v = .slice A xs.length c ∧ OwnB w lo (.slice A xs.length c) xs := by
  have h' := h
  rcases h.2 with ⟨rfl, hn⟩ | ⟨g, cap, cur, rfl, _⟩
  · exact ⟨none, 0, by rw [hn], by rw [hn]; exact h'⟩
  · exact ⟨_, _, rfl, h'⟩
theorem run_append_nothingB (w : World) (lo : Nat) (ty : TypeId) (v : Value) (n : Nat) (xs : List Value) (c : Nat) (hown : w.ownsRow lo 4 1 v n xs) :
    (Builtin.append_ #[25, 25] ty #[v, .slice none 0 c]).run Try.prog w = .ok v w := by
  obtain ⟨i0, hi, hz0, hz1, hz2⟩ := info_parts infoBoolL
  rcases hown.2 with ⟨rfl, rfl⟩ | ⟨g, cap, cur, rfl, _, _, hnc, _⟩
  · simp [Builtin.append_, run_underlying Try.underlying25, sizeOf, typeInfo, hi, Builtin.lenOf, Builtin.firstCells]
  · simp [Builtin.append_, run_underlying Try.underlying25, sizeOf, typeInfo, hi, Builtin.lenOf, Builtin.firstCells, hnc, storeCells]
theorem run_glueB (w : World) (ty : TypeId) (lo : Nat) (v : Value) (xs ys : List Bool) (A : Option Addr) (c : Nat) (hown : OwnB w lo v xs) (hsrc : RdB w A ys) (hb : xs.length + ys.length ≤ 4000000) (hlo : lo ≤ w.heap.size) :
    ∃ v' w', (Builtin.append_ #[25, 25] ty #[v, .slice A ys.length c]).run Try.prog w = .ok v' w' ∧ OwnB w' lo v' (xs ++ ys) ∧ w.grownBy w' v.ownBlock ∧ (v'.ownBlock = v.ownBlock ∨ v'.ownBlock = some w.heap.size) := by
  obtain ⟨i0, hi, hz0, hz1, hz2⟩ := info_parts infoBoolL
  rcases A with _ | ad
  · have hn : ys.length = 0 := by
      by_cases h0 : 0 < ys.length
      · obtain ⟨b, off, e, _⟩ := hsrc h0
        cases e
      · omega
    have hy : ys = [] := List.length_eq_zero_iff.1 hn
    subst hy
    exact ⟨v, w, run_append_nothingB w lo ty v xs.length (bools xs) c hown, by rw [List.append_nil]; exact hown, World.grownBy.refl w _, .inl rfl⟩
  · obtain ⟨v', w', hr, h2, h3, _, h5⟩ := run_append_own_at (P := Try.prog) w lo 25 ty 4 i0 (.bool false) 1 1 Try.underlying25 hi hz0 hz1 hz2 rfl (by decide) v xs.length (bools xs) hown ad ys.length c (bools ys) (by rw [bools_length, Nat.mul_one])
      (fun j u hu => by
        have hj : j < ys.length := by have := (List.getElem?_eq_some_iff.1 hu).1; rwa [bools_length] at this
        rw [bools_get _ j hj] at hu
        obtain ⟨b, off, e, hc⟩ := hsrc (by omega)
        obtain rfl := Option.some.inj e
        rw [Addr.add_mid, hc j hj]; exact hu)
      (fun u hu => by unfold bools at hu; obtain ⟨y, _, rfl⟩ := List.mem_map.1 hu; rfl) (by unfold maxLen; omega) (by omega) hlo
    exact ⟨v', w', hr, by unfold OwnB; rw [bools_append, List.length_append]; exact h2, h3, h5⟩
/-- append of a list as one step of a plain region. -/
theorem wpList_glueB {ops : Array Oper} {rest : List Oper} {o : Oper} {a : Go.Act} {w : World} {Q : Exit → Go.Act → World → Prop} (s x : Operand) (hgd : o.guard = none)
    (ho : o.op = .call { callee := .builtin .append, args := #[s, x], argTypes := #[25, 25] })
    (lo : Nat) (v : Value) (xs ys : List Bool) (A : Option Addr) (c : Nat) (hs : a.eval s = v) (hown : OwnB w lo v xs) (hx : a.eval x = .slice A ys.length c) (hsrc : RdB w A ys) (hb : xs.length + ys.length ≤ 4000000) (hlo : lo ≤ w.heap.size)
    (h : ∀ A' c' ws w', Hid (ws = xs ++ ys) → OwnB w' lo (.slice A' ws.length c') ws → w.grownBy w' v.ownBlock → ((Value.slice A' ws.length c').ownBlock = v.ownBlock ∨ (Value.slice A' ws.length c').ownBlock = some w.heap.size) → wpList Try.prog ops Q rest (a.put o.dst (.slice A' ws.length c')) w') : wpList Try.prog ops Q (o :: rest) a w :=
  wpList_plain hgd fun K hK => by
    obtain ⟨v', w', hr, h4, h3, h6⟩ := run_glueB w o.type lo v xs ys A c hown hsrc hb hlo
    obtain ⟨A', c', rfl, h5⟩ := own_formB h4
    unfold Oper.wp execOp
    simp only [ho, resolve, invoke, builtin, Sem.run_bind, Sem.run_pure, Result.andThen_ok, List.map_toArray, List.map_cons, List.map_nil, hs, hx, hr]
    exact hK _ _ (h A' c' _ w' (Lib.hid rfl) h5 h3 h6)
theorem own_newB (w : World) : OwnB (w.alloc (.cells #[] 4)) w.heap.size (.slice (some ⟨w.heap.size, 0, none⟩) 0 0) [] := World.ownsRow_made w #[] 0 (Nat.le_refl _) (by unfold maxLen; omega) rfl
set_option maxRecDepth 100000 in
set_option maxHeartbeats 600000 in
theorem cloneI_any (A : Option Addr) (c : Nat) (xs : List Int) (w : World) (hr : Rd w A xs) (hn : xs.length ≤ 4000000) :
    Calls Try.prog 118 #[.slice A xs.length c] w (NewL xs w) := by
  rcases A with _ | ⟨b, off, sp⟩
  · have hz : xs = [] := by
      rcases xs with _ | ⟨y, ys⟩
      · rfl
      · obtain ⟨b, off, e, _⟩ := hr (by simp)
        cases e
    subst hz
    clear hr
    have hnil : ∀ W : World, (binOp .eql 24 (.slice none 0 c) (.slice none 0 0)).run Try.prog W = .ok (.bool true) W := fun W => (Lib.run_eql_slice_nil (w := W) (P := Try.prog) 24 2 none 0 c 0 0 Try.underlying24)
    go_enter Try.func118, Try.ntmps118
    go_wp2_with fail
    go_ret
    exact ⟨none, 0, rfl, Own.nil _ _, bl_refl _⟩
  have hsp : xs.length = 0 ∨ sp = none := by
    by_cases h0 : 0 < xs.length
    · obtain ⟨b', off', e, _⟩ := hr h0
      injection e with e
      injection e with _ _ e
      exact .inr e
    · exact .inl (by omega)
  have HR := Lib.hid (hr.below (bl_alloc (bl_refl w) (.cells #[] 2)))
  have HE := Lib.hid (own_new w)
  have HB : Hid (([] : List Int).length + xs.length ≤ 4000000) := Lib.hid (by simpa using hn)
  have HZ : Hid (w.heap.size ≤ (w.alloc (.cells #[] 2)).heap.size) := Lib.hid (by simp)
  have hnil : ∀ W : World, (binOp .eql 24 (.slice (some ⟨b, off, sp⟩) xs.length c) (.slice none 0 0)).run Try.prog W = .ok (.bool false) W := fun W => (Lib.run_eql_slice_nil (w := W) (P := Try.prog) 24 2 (some ⟨b, off, sp⟩) xs.length c 0 0 Try.underlying24)
  clear hr hsp
  go_enter Try.func118, Try.ntmps118
  go_wp2_with (at_builtin; refine wpList_glue (.tmp 5) (.tmp 6) rfl rfl w.heap.size (.slice (some ⟨w.heap.size, 0, none⟩) 0 0) [] xs (some ⟨b, off, sp⟩) c rfl HE.out rfl HR.out HB.out HZ.out ?_)
  intro A' c' ws w' e ho hg _
  have HO := Lib.hid ho
  have HG := Lib.hid (bl_glue (bl_refl w) hg)
  have HW : Hid (ws = xs) := Lib.hid (by simpa using e.out)
  clear ho hg e
  go_wp2_with fail
  go_ret
  obtain rfl := HW.out
  exact ⟨_, _, rfl, HO.out, HG.out⟩
set_option maxRecDepth 100000 in
set_option maxHeartbeats 600000 in
theorem cloneB_any (A : Option Addr) (c : Nat) (xs : List Bool) (w : World) (hr : RdB w A xs) (hn : xs.length ≤ 4000000) :
    Calls Try.prog 142 #[.slice A xs.length c] w (NewLB xs w) := by
  rcases A with _ | ⟨b, off, sp⟩
  · have hz : xs = [] := by
      rcases xs with _ | ⟨y, ys⟩
      · rfl
      · obtain ⟨b, off, e, _⟩ := hr (by simp)
        cases e
    subst hz
    clear hr
    have hnil : ∀ W : World, (binOp .eql 25 (.slice none 0 c) (.slice none 0 0)).run Try.prog W = .ok (.bool true) W := fun W => (Lib.run_eql_slice_nil (w := W) (P := Try.prog) 25 4 none 0 c 0 0 Try.underlying25)
    go_enter Try.func142, Try.ntmps142
    go_wp2_with fail
    go_ret
    exact ⟨none, 0, rfl, OwnB.nil _ _, bl_refl _⟩
  have hsp : xs.length = 0 ∨ sp = none := by
    by_cases h0 : 0 < xs.length
    · obtain ⟨b', off', e, _⟩ := hr h0
      injection e with e
      injection e with _ _ e
      exact .inr e
    · exact .inl (by omega)
  have HR := Lib.hid (hr.below (bl_alloc (bl_refl w) (.cells #[] 4)))
  have HE := Lib.hid (own_newB w)
  have HB : Hid (([] : List Bool).length + xs.length ≤ 4000000) := Lib.hid (by simpa using hn)
  have HZ : Hid (w.heap.size ≤ (w.alloc (.cells #[] 4)).heap.size) := Lib.hid (by simp)
  have hnil : ∀ W : World, (binOp .eql 25 (.slice (some ⟨b, off, sp⟩) xs.length c) (.slice none 0 0)).run Try.prog W = .ok (.bool false) W := fun W => (Lib.run_eql_slice_nil (w := W) (P := Try.prog) 25 4 (some ⟨b, off, sp⟩) xs.length c 0 0 Try.underlying25)
  clear hr hsp
  go_enter Try.func142, Try.ntmps142
  go_wp2_with (at_builtin; refine wpList_glueB (.tmp 5) (.tmp 6) rfl rfl w.heap.size (.slice (some ⟨w.heap.size, 0, none⟩) 0 0) [] xs (some ⟨b, off, sp⟩) c rfl HE.out rfl HR.out HB.out HZ.out ?_)
  intro A' c' ws w' e ho hg _
  have HO := Lib.hid ho
  have HG := Lib.hid (bl_glue (bl_refl w) hg)
  have HW : Hid (ws = xs) := Lib.hid (by simpa using e.out)
  clear ho hg e
  go_wp2_with fail
  go_ret
  obtain rfl := HW.out
  exact ⟨_, _, rfl, HO.out, HG.out⟩
end Go.Proofs.Ytnllndcajdofjaa
