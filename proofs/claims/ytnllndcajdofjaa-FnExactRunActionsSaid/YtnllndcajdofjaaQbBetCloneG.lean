/-
  Put together, what this law needs of: BetClone, AnyS, AnyR, AnyL, BetB.
-/
import Derived.Test.YtnllndcajdofjaaQbBetToG
import Derived.Test.YtnllndcajdofjaaQbBetAG
import Derived.OrdersIn
import Derived.TacticsIn
import Derived.Orders
namespace Go.Proofs.Ytnllndcajdofjaa
open Go.RowKit
set_option linter.unusedVariables false

/-- What clone leaves: a round in a new box, its lists rows of the call's own behind the box. -/
def Cloned5 (b : Bt) (w : World) (e : Ending) (w' : World) : Prop := ∃ L, e = .returned (.pointer (some ⟨w.heap.size, 0, none⟩)) ∧ Blk w' w.heap.size 27 (btL L b) ∧ Row5 w' (w.heap.size + 1) L b ∧ Below w.heap.size w w'
set_option maxRecDepth 100000 in
set_option maxHeartbeats 4000000 in
theorem cloneBt_any (g : Nat) (L : At5) (b : Bt) (w : World) (h : BtAt w g L b) (m : Sm b) :
    Calls Try.prog 85 #[.pointer (some ⟨g, 0, none⟩)] w (Cloned5 b w) := by
  obtain ⟨w0, rfl⟩ : ∃ w0 : World, w0 = w := ⟨w, rfl⟩
  have hgl := h.blk.lt
  have b1 := bl_alloc (bl_refl w0) (.cells (btL L b).toArray 27)
  have P1 : Hid (Blk (w0.alloc (.cells (btL L b).toArray 27)) g 27 (btL L b)) := Lib.hid (h.blk.below b1)
  have P3 : Hid (Blk (w0.alloc (.cells (btL L b).toArray 27)) w0.heap.size 27 (btL L b)) := Lib.hid (blk_new w0 _ _)
  have PB := Lib.hid b1
  have PL : Hid (w0.heap.size + 1 ≤ (w0.alloc (.cells (btL L b).toArray 27)).heap.size) := Lib.hid (by rw [World.size_alloc]; exact Nat.le_refl _)
  have i1s : (Try.prog.info? 24).map (·.size) = some 1 := by kernel_rfl
  have i1t : (Try.prog.info? 25).map (·.size) = some 1 := by kernel_rfl
  have h0 := h.blk
  have K0 := Lib.hid (fun (W : World) (hb : Below w0.heap.size w0 W) => cloneI_any L.a1 L.c1 b.st W ((h.below hb).rd.r1) (by have := m.m1; omega))
  have K1 := Lib.hid (fun (W : World) (hb : Below w0.heap.size w0 W) => cloneI_any L.a2 L.c2 b.bt W ((h.below hb).rd.r2) (by have := m.m2; omega))
  have K2 := Lib.hid (fun (W : World) (hb : Below w0.heap.size w0 W) => cloneI_any L.a3 L.c3 b.pd W ((h.below hb).rd.r3) (by have := m.m3; omega))
  have K3 := Lib.hid (fun (W : World) (hb : Below w0.heap.size w0 W) => cloneB_any L.a4 L.c4 b.fo W ((h.below hb).rd.r4) (by have := m.m4; omega))
  have K4 := Lib.hid (fun (W : World) (hb : Below w0.heap.size w0 W) => cloneB_any L.a5 L.c5 b.ac W ((h.below hb).rd.r5) (by have := m.m5; omega))
  obtain ⟨z0, -⟩ := h0.cell 0 _ rfl
  obtain ⟨z1, -⟩ := h0.cell 1 _ rfl
  obtain ⟨z2, -⟩ := h0.cell 2 _ rfl
  obtain ⟨z3, -⟩ := h0.cell 3 _ rfl
  obtain ⟨z4, -⟩ := h0.cell 4 _ rfl
  obtain ⟨z5, -⟩ := h0.cell 5 _ rfl
  obtain ⟨z6, -⟩ := h0.cell 6 _ rfl
  obtain ⟨z7, -⟩ := h0.cell 7 _ rfl
  obtain ⟨z8, -⟩ := h0.cell 8 _ rfl
  have P11 := P1.out
  obtain ⟨q, -⟩ := P11.cell 0 _ rfl
  clear h h0 m b1 P11
  go_enter Try.func85, Try.ntmps85
  go_wp2_with (first
    | (go_at_call 118; (with_reducible refine (K0.out _ PB.out).mono ?_); rintro e x0 ⟨A0, c0, rfl, ho, hb⟩; have HO0 := Lib.hid ho; have PO0 : Hid (w0.heap.size < _) := Lib.hid (Nat.lt_of_lt_of_le (Nat.lt_succ_self _) PL.out); have P1a := Lib.hid (P1.out.below hb); have P3a := Lib.hid (P3.out.below hb); have PBa := Lib.hid (bl_trans PB.out hb); have PLa := Lib.hid (Nat.le_trans PL.out hb.size); clear ho hb P1 P3 PB PL; have P1 := P1a; have P3 := P3a; have PB := PBa; have PL := PLa; clear P1a P3a PBa PLa)
    | ((with_reducible refine wpList_store_at 24 rfl (.tmp 12) (.tmp 11) rfl i1s w0.heap.size 0 rfl (.slice A0 b.st.length c0) rfl rfl _ _ P3.out ?_ ?_); (exact (by simp)); intro y0 k5 g5; have P1a := hb_grown P1 g5 (Nat.ne_of_lt hgl); have P3a : Hid (Blk y0 w0.heap.size 27 [.slice A0 b.st.length c0, .slice L.a2 b.bt.length L.c2, .slice L.a3 b.pd.length L.c3, .slice L.a4 b.fo.length L.c4, .slice L.a5 b.ac.length L.c5, .int .i64 b.tu, .int .i64 b.un, .int .i64 b.ra, .int .i64 b.li]) := Lib.hid k5; have PBa := hbl_grown PB g5 (Nat.le_refl _); have PLa := hle_grown PL g5; have HO0a := ho_grown HO0 g5 PO0.out; clear HO0; have HO0 := HO0a; clear HO0a; clear k5 g5 P1 P3 PB PL; have P1 := P1a; have P3 := P3a; have PB := PBa; have PL := PLa; clear P1a P3a PBa PLa; clear q; obtain ⟨q, -⟩ := P1.out.cell 1 _ rfl)
    | (go_at_call 118; (with_reducible refine (K1.out _ PB.out).mono ?_); rintro e x1 ⟨A1, c1, rfl, ho, hb⟩; have HO1 := Lib.hid ho; have PO1 : Hid (w0.heap.size < _) := Lib.hid (Nat.lt_of_lt_of_le (Nat.lt_succ_self _) PL.out); have HL0_1 := Lib.hid (fun a e => (HO0.out.lo_le a e).2); have P1a := Lib.hid (P1.out.below hb); have P3a := Lib.hid (P3.out.below hb); have PBa := Lib.hid (bl_trans PB.out hb); have PLa := Lib.hid (Nat.le_trans PL.out hb.size); have HO0a := Lib.hid (HO0.out.below hb); clear HO0; have HO0 := HO0a; clear HO0a; clear ho hb P1 P3 PB PL; have P1 := P1a; have P3 := P3a; have PB := PBa; have PL := PLa; clear P1a P3a PBa PLa)
    | ((with_reducible refine wpList_store_at 24 rfl (.tmp 18) (.tmp 17) rfl i1s w0.heap.size 1 rfl (.slice A1 b.bt.length c1) rfl rfl _ _ P3.out ?_ ?_); (exact (by simp)); intro y1 k5 g5; have P1a := hb_grown P1 g5 (Nat.ne_of_lt hgl); have P3a : Hid (Blk y1 w0.heap.size 27 [.slice A0 b.st.length c0, .slice A1 b.bt.length c1, .slice L.a3 b.pd.length L.c3, .slice L.a4 b.fo.length L.c4, .slice L.a5 b.ac.length L.c5, .int .i64 b.tu, .int .i64 b.un, .int .i64 b.ra, .int .i64 b.li]) := Lib.hid k5; have PBa := hbl_grown PB g5 (Nat.le_refl _); have PLa := hle_grown PL g5; have HO0a := ho_grown HO0 g5 PO0.out; clear HO0; have HO0 := HO0a; clear HO0a; have HO1a := ho_grown HO1 g5 PO1.out; clear HO1; have HO1 := HO1a; clear HO1a; clear k5 g5 P1 P3 PB PL; have P1 := P1a; have P3 := P3a; have PB := PBa; have PL := PLa; clear P1a P3a PBa PLa; clear q; obtain ⟨q, -⟩ := P1.out.cell 2 _ rfl)
    | (go_at_call 118; (with_reducible refine (K2.out _ PB.out).mono ?_); rintro e x2 ⟨A2, c2, rfl, ho, hb⟩; have HO2 := Lib.hid ho; have PO2 : Hid (w0.heap.size < _) := Lib.hid (Nat.lt_of_lt_of_le (Nat.lt_succ_self _) PL.out); have HL0_2 := Lib.hid (fun a e => (HO0.out.lo_le a e).2); have HL1_2 := Lib.hid (fun a e => (HO1.out.lo_le a e).2); have P1a := Lib.hid (P1.out.below hb); have P3a := Lib.hid (P3.out.below hb); have PBa := Lib.hid (bl_trans PB.out hb); have PLa := Lib.hid (Nat.le_trans PL.out hb.size); have HO0a := Lib.hid (HO0.out.below hb); clear HO0; have HO0 := HO0a; clear HO0a; have HO1a := Lib.hid (HO1.out.below hb); clear HO1; have HO1 := HO1a; clear HO1a; clear ho hb P1 P3 PB PL; have P1 := P1a; have P3 := P3a; have PB := PBa; have PL := PLa; clear P1a P3a PBa PLa)
    | ((with_reducible refine wpList_store_at 24 rfl (.tmp 24) (.tmp 23) rfl i1s w0.heap.size 2 rfl (.slice A2 b.pd.length c2) rfl rfl _ _ P3.out ?_ ?_); (exact (by simp)); intro y2 k5 g5; have P1a := hb_grown P1 g5 (Nat.ne_of_lt hgl); have P3a : Hid (Blk y2 w0.heap.size 27 [.slice A0 b.st.length c0, .slice A1 b.bt.length c1, .slice A2 b.pd.length c2, .slice L.a4 b.fo.length L.c4, .slice L.a5 b.ac.length L.c5, .int .i64 b.tu, .int .i64 b.un, .int .i64 b.ra, .int .i64 b.li]) := Lib.hid k5; have PBa := hbl_grown PB g5 (Nat.le_refl _); have PLa := hle_grown PL g5; have HO0a := ho_grown HO0 g5 PO0.out; clear HO0; have HO0 := HO0a; clear HO0a; have HO1a := ho_grown HO1 g5 PO1.out; clear HO1; have HO1 := HO1a; clear HO1a; have HO2a := ho_grown HO2 g5 PO2.out; clear HO2; have HO2 := HO2a; clear HO2a; clear k5 g5 P1 P3 PB PL; have P1 := P1a; have P3 := P3a; have PB := PBa; have PL := PLa; clear P1a P3a PBa PLa; clear q; obtain ⟨q, -⟩ := P1.out.cell 3 _ rfl)
    | (go_at_call 142; (with_reducible refine (K3.out _ PB.out).mono ?_); rintro e x3 ⟨A3, c3, rfl, ho, hb⟩; have HO3 := Lib.hid ho; have PO3 : Hid (w0.heap.size < _) := Lib.hid (Nat.lt_of_lt_of_le (Nat.lt_succ_self _) PL.out); have HL0_3 := Lib.hid (fun a e => (HO0.out.lo_le a e).2); have HL1_3 := Lib.hid (fun a e => (HO1.out.lo_le a e).2); have HL2_3 := Lib.hid (fun a e => (HO2.out.lo_le a e).2); have P1a := Lib.hid (P1.out.below hb); have P3a := Lib.hid (P3.out.below hb); have PBa := Lib.hid (bl_trans PB.out hb); have PLa := Lib.hid (Nat.le_trans PL.out hb.size); have HO0a := Lib.hid (HO0.out.below hb); clear HO0; have HO0 := HO0a; clear HO0a; have HO1a := Lib.hid (HO1.out.below hb); clear HO1; have HO1 := HO1a; clear HO1a; have HO2a := Lib.hid (HO2.out.below hb); clear HO2; have HO2 := HO2a; clear HO2a; clear ho hb P1 P3 PB PL; have P1 := P1a; have P3 := P3a; have PB := PBa; have PL := PLa; clear P1a P3a PBa PLa)
    | ((with_reducible refine wpList_store_at 25 rfl (.tmp 30) (.tmp 29) rfl i1t w0.heap.size 3 rfl (.slice A3 b.fo.length c3) rfl rfl _ _ P3.out ?_ ?_); (exact (by simp)); intro y3 k5 g5; have P1a := hb_grown P1 g5 (Nat.ne_of_lt hgl); have P3a : Hid (Blk y3 w0.heap.size 27 [.slice A0 b.st.length c0, .slice A1 b.bt.length c1, .slice A2 b.pd.length c2, .slice A3 b.fo.length c3, .slice L.a5 b.ac.length L.c5, .int .i64 b.tu, .int .i64 b.un, .int .i64 b.ra, .int .i64 b.li]) := Lib.hid k5; have PBa := hbl_grown PB g5 (Nat.le_refl _); have PLa := hle_grown PL g5; have HO0a := ho_grown HO0 g5 PO0.out; clear HO0; have HO0 := HO0a; clear HO0a; have HO1a := ho_grown HO1 g5 PO1.out; clear HO1; have HO1 := HO1a; clear HO1a; have HO2a := ho_grown HO2 g5 PO2.out; clear HO2; have HO2 := HO2a; clear HO2a; have HO3a := hoB_grown HO3 g5 PO3.out; clear HO3; have HO3 := HO3a; clear HO3a; clear k5 g5 P1 P3 PB PL; have P1 := P1a; have P3 := P3a; have PB := PBa; have PL := PLa; clear P1a P3a PBa PLa; clear q; obtain ⟨q, -⟩ := P1.out.cell 4 _ rfl)
    | (go_at_call 142; (with_reducible refine (K4.out _ PB.out).mono ?_); rintro e x4 ⟨A4, c4, rfl, ho, hb⟩; have HO4 := Lib.hid ho; have PO4 : Hid (w0.heap.size < _) := Lib.hid (Nat.lt_of_lt_of_le (Nat.lt_succ_self _) PL.out); have HL0_4 := Lib.hid (fun a e => (HO0.out.lo_le a e).2); have HL1_4 := Lib.hid (fun a e => (HO1.out.lo_le a e).2); have HL2_4 := Lib.hid (fun a e => (HO2.out.lo_le a e).2); have HL3_4 := Lib.hid (fun a e => (HO3.out.lo_le a e).2); have P1a := Lib.hid (P1.out.below hb); have P3a := Lib.hid (P3.out.below hb); have PBa := Lib.hid (bl_trans PB.out hb); have PLa := Lib.hid (Nat.le_trans PL.out hb.size); have HO0a := Lib.hid (HO0.out.below hb); clear HO0; have HO0 := HO0a; clear HO0a; have HO1a := Lib.hid (HO1.out.below hb); clear HO1; have HO1 := HO1a; clear HO1a; have HO2a := Lib.hid (HO2.out.below hb); clear HO2; have HO2 := HO2a; clear HO2a; have HO3a := Lib.hid (HO3.out.below hb); clear HO3; have HO3 := HO3a; clear HO3a; clear ho hb P1 P3 PB PL; have P1 := P1a; have P3 := P3a; have PB := PBa; have PL := PLa; clear P1a P3a PBa PLa)
    | ((with_reducible refine wpList_store_at 25 rfl (.tmp 36) (.tmp 35) rfl i1t w0.heap.size 4 rfl (.slice A4 b.ac.length c4) rfl rfl _ _ P3.out ?_ ?_); (exact (by simp)); intro y4 k5 g5; have P1a := hb_grown P1 g5 (Nat.ne_of_lt hgl); have P3a : Hid (Blk y4 w0.heap.size 27 [.slice A0 b.st.length c0, .slice A1 b.bt.length c1, .slice A2 b.pd.length c2, .slice A3 b.fo.length c3, .slice A4 b.ac.length c4, .int .i64 b.tu, .int .i64 b.un, .int .i64 b.ra, .int .i64 b.li]) := Lib.hid k5; have PBa := hbl_grown PB g5 (Nat.le_refl _); have PLa := hle_grown PL g5; have HO0a := ho_grown HO0 g5 PO0.out; clear HO0; have HO0 := HO0a; clear HO0a; have HO1a := ho_grown HO1 g5 PO1.out; clear HO1; have HO1 := HO1a; clear HO1a; have HO2a := ho_grown HO2 g5 PO2.out; clear HO2; have HO2 := HO2a; clear HO2a; have HO3a := hoB_grown HO3 g5 PO3.out; clear HO3; have HO3 := HO3a; clear HO3a; have HO4a := hoB_grown HO4 g5 PO4.out; clear HO4; have HO4 := HO4a; clear HO4a; clear k5 g5 P1 P3 PB PL; have P1 := P1a; have P3 := P3a; have PB := PBa; have PL := PLa; clear P1a P3a PBa PLa; clear q))
  go_ret
  exact ⟨⟨A0, A1, A2, A3, A4, c0, c1, c2, c3, c4⟩, rfl, P3.out, ⟨Row.of_own (HO0.out.less PO0.out), Row.of_own (HO1.out.less PO1.out), Row.of_own (HO2.out.less PO2.out), RowB.of_own (HO3.out.less PO3.out), RowB.of_own (HO4.out.less PO4.out), apt_lt HL0_1.out (fun a e => (HO1.out.lo_le a e).1), apt_lt HL0_2.out (fun a e => (HO2.out.lo_le a e).1), apt_lt HL0_3.out (fun a e => (HO3.out.lo_le a e).1), apt_lt HL0_4.out (fun a e => (HO4.out.lo_le a e).1), apt_lt HL1_2.out (fun a e => (HO2.out.lo_le a e).1), apt_lt HL1_3.out (fun a e => (HO3.out.lo_le a e).1), apt_lt HL1_4.out (fun a e => (HO4.out.lo_le a e).1), apt_lt HL2_3.out (fun a e => (HO3.out.lo_le a e).1), apt_lt HL2_4.out (fun a e => (HO4.out.lo_le a e).1), apt_lt HL3_4.out (fun a e => (HO4.out.lo_le a e).1)⟩, PB.out⟩
end Go.Proofs.Ytnllndcajdofjaa

namespace Go.Proofs.Ytnllndcajdofjaa
open Go
set_option linter.unusedVariables false

variable {F : Fence} {n : Nat} {P : Program} {ops : Array Oper} {md : Region.Mode} {Q : Exit → Go.Act → World → Prop} {S : World → Prop} {last m : Nat}

/-- Does operation x wait for i (through others, k steps at most)? -/
def waitsB (md : Region.Mode) (ops : Array Oper) (i : Nat) : Nat → Nat → Bool
  | 0, _ => false
  | k + 1, x => match ops[x]? with
    | none => false
    | some o => o.after.any fun e => Region.binds md e && (e.on == i || waitsB md ops i k e.on)
/-- What has come up has what it waits for behind it. -/
def closedB (md : Region.Mode) (ops : Array Oper) (listed : Array Bool) : Prop :=
  ∀ x o, ops[x]? = some o → listed.getD x false = true → ∀ e ∈ o.after, Region.binds md e = true → listed.getD e.on false = true

theorem getD_false_true {l : Array Bool} {i : Nat} (h : l.getD i true = false) : l.getD i false = false := by
  by_cases hi : i < l.size
  · simp [hi] at h ⊢; exact h
  · simp [hi] at h
theorem closed_start (k : Nat) : closedB md ops (Array.replicate k false) := fun x o _ h => by
  by_cases hx : x < k
  · simp [hx] at h
  · simp [hx] at h
theorem getD_set (l : Array Bool) (i j : Nat) : (l.setIfInBounds i true).getD j false = true → j = i ∨ l.getD j false = true := by
  intro h
  by_cases e : i = j
  · exact .inl e.symm
  · right
    by_cases hj : j < l.size
    · simp [hj, e] at h ⊢; exact h
    · simp [hj] at h
theorem getD_set_of (l : Array Bool) (i j : Nat) (h : l.getD j false = true) : (l.setIfInBounds i true).getD j false = true := by
  by_cases hj : j < l.size
  · simp [hj, Array.getElem_setIfInBounds] at h ⊢
    exact .inr h
  · simp [hj] at h
theorem closed_set {listed : Array Bool} {j : Nat} (hc : closedB md ops listed) (hj : j ∈ Region.ready md ops listed) : closedB md ops (listed.setIfInBounds j true) := by
  intro x o ho hx e he hb
  rcases getD_set listed j x hx with rfl | h
  · obtain ⟨_, o', ho', hall⟩ := mem_ready.1 hj
    rw [ho] at ho'
    cases ho'
    exact getD_set_of _ _ _ (hall e he hb)
  · exact getD_set_of _ _ _ (hc x o ho h e he hb)
theorem waits_unlisted {listed : Array Bool} {i : Nat} (hc : closedB md ops listed) (hi : listed.getD i false = false) : ∀ (k x : Nat), waitsB md ops i k x = true → listed.getD x false = false
  | 0, _, h => by cases h
  | k + 1, x, h => by
    unfold waitsB at h
    split at h
    · cases h
    · rename_i o ho
      obtain ⟨e, he, hb⟩ := Array.any_eq_true'.1 h
      rw [Bool.and_eq_true] at hb
      cases hx : listed.getD x false
      · rfl
      · have := hc x o ho hx e he hb.1
        rcases Bool.or_eq_true_iff.1 hb.2 with q | q
        · rw [beq_iff_eq.1 q, hi] at this; cases this
        · rw [waits_unlisted hc hi k e.on q] at this; cases this
theorem waits_not_ready {listed : Array Bool} {i : Nat} (hc : closedB md ops listed) (hi : listed.getD i false = false) {k x : Nat} (h : waitsB md ops i k x = true) : x ∉ Region.ready md ops listed := fun hx => by
  obtain ⟨_, o', ho', hall⟩ := mem_ready.1 hx
  cases k with
  | zero => cases h
  | succ k =>
    unfold waitsB at h
    rw [ho'] at h
    obtain ⟨e, he, hb⟩ := Array.any_eq_true'.1 h
    rw [Bool.and_eq_true] at hb
    have := hall e he hb.1
    rcases Bool.or_eq_true_iff.1 hb.2 with q | q
    · rw [beq_iff_eq.1 q, hi] at this; cases this
    · rw [waits_unlisted hc hi k e.on q] at this; cases this

end Go.Proofs.Ytnllndcajdofjaa

namespace Go.Proofs.Ytnllndcajdofjaa
open Go
set_option linter.unusedVariables false

variable {P : Program} {ops : Array Oper} {md : Region.Mode} {Q : Exit → Go.Act → World → Prop} {R : World → World → Prop} {I : World → Prop} {last : Nat}

/-- Whatever order is picked from here on, in every world that has grown by R; all the others come up ahead of 'last'. -/
def wpAnyR (P : Program) (md : Region.Mode) (ops : Array Oper) (R : World → World → Prop) (I : World → Prop) (last : Nat) (Q : Exit → Go.Act → World → Prop) : Nat → Array Bool → Go.Act → World → Prop
  | 0, listed, a, w => ∀ w', R w w' → I w' ∧ (∀ i ∈ Region.ready md ops listed, i = last) ∧ Region.ready md ops listed ≠ [] ∧ wpOp P ops Q last (wpAny P md ops Q 0 (listed.setIfInBounds last true)) a w'
  | fuel + 1, listed, a, w => ∀ w', R w w' → I w' ∧ Region.ready md ops listed ≠ [] ∧ ∀ i ∈ Region.ready md ops listed, wpOp P ops Q i (wpAnyR P md ops R I last Q fuel (listed.setIfInBounds i true)) a w'

theorem wpAny_of_R (hR : ∀ w, R w w) : ∀ (fuel : Nat) (listed : Array Bool) (a : Go.Act) (w : World), wpAnyR P md ops R I last Q fuel listed a w → wpAny P md ops Q (fuel + 1) listed a w
  | 0, listed, a, w, h => by
    obtain ⟨_, h1, h2, h3⟩ := h w (hR w)
    refine ⟨fun h0 => absurd h0 h2, fun i hi => ?_⟩
    have := h1 i hi
    subst this
    exact h3
  | fuel + 1, listed, a, w, h => by
    obtain ⟨_, h2, h3⟩ := h w (hR w)
    exact ⟨fun h0 => absurd h0 h2, fun i hi => wpOp_mono (fun a' w' hh => wpAny_of_R hR fuel _ a' w' hh) (h3 i hi)⟩
theorem wpAnyR_grow (hT : ∀ {a b c : World}, R a b → R b c → R a c) {fuel : Nat} {listed : Array Bool} {a : Go.Act} {w w1 : World} (h : wpAnyR P md ops R I last Q fuel listed a w) (hr : R w w1) : wpAnyR P md ops R I last Q fuel listed a w1 := by
  cases fuel with
  | zero => exact fun w' h' => h w' (hT hr h')
  | succ fuel => exact fun w' h' => h w' (hT hr h')

/-- In state 'a', in every world of the class, operation 'o' yields 'v', by itself or by a call after which the world has grown. -/
def SoftR (P : Program) (ops : Array Oper) (R : World → World → Prop) (I : World → Prop) (o : Oper) (v : Value) (a : Go.Act) : Prop :=
  (Region.wanted o (yielded ops a.tmps) = true ∧ ∀ w, I w → ((execOp a.eval o).run P w = .ok (.value v) w ∨
    ∃ f args, (execOp a.eval o).run P w = .ok (.enter f args) w ∧ Calls P f args w fun e w' => e = .returned v ∧ R w w')) ∨
  (Region.wanted o (yielded ops a.tmps) = false ∧ v = undef)

theorem SoftR.wpOp {i : Nat} {o : Oper} {v : Value} {a : Go.Act} (hR : ∀ w, R w w) (hi : ops[i]? = some o) (hy : SoftR P ops R I o v a)
    {K : Go.Act → World → Prop} {w : World} (hs : I w) (h : ∀ w', R w w' → K (a.put o.dst v) w') : wpOp P ops Q i K a w := by
  unfold Go.wpOp
  simp only [hi]
  rcases hy with ⟨hw, hv⟩ | ⟨hw, rfl⟩
  · simp only [hw, if_true, Oper.wp]
    rcases hv w hs with hv | ⟨f, args, hv, hc⟩
    · rw [hv]; exact .inl (h w (hR w))
    · rw [hv]
      refine .inl (Calls.mono hc fun e w' he => ?_)
      obtain ⟨rfl, hr⟩ := he
      exact h w' hr
  · simp only [hw, Bool.false_eq_true, if_false]; exact h w (hR w)

theorem SoftR.of_same {o : Oper} {v : Value} {a a' : Go.Act} (hy : SoftR P ops R I o v a) (he : execOp a'.eval o = execOp a.eval o)
    (hw : Region.wanted o (yielded ops a'.tmps) = Region.wanted o (yielded ops a.tmps)) : SoftR P ops R I o v a' := by
  unfold SoftR at *
  rw [he, hw]
  exact hy

theorem wpOp_putR {j : Nat} {oi oj : Oper} {v : Value} (hj : ops[j]? = some oj) (hap : oi.apart ops oj = true)
    (hsi : ∀ cs b, oi.op ≠ .select cs b) (hsj : ∀ cs b, oj.op ≠ .select cs b)
    (hQ : ∀ c a w, Q (.panic c) (a.put oi.dst v) w → Q (.panic c) a w) {K : Go.Act → World → Prop} {a : Go.Act} {w : World}
    (hy : SoftR P ops R I oi v a) (h : wpOp P ops Q j K (a.put oi.dst v) w) :
    wpOp P ops Q j (fun a' w' => SoftR P ops R I oi v a' ∧ K (a'.put oi.dst v) w') a w := by
  obtain ⟨h1, h2, h3⟩ := Oper.apart_spec hap
  have keep : ∀ (a : Go.Act), SoftR P ops R I oi v a → ∀ u, SoftR P ops R I oi v (a.put oj.dst u) := fun a hy u =>
    hy.of_same (execOp_put oi hsi a oj.dst u h3) (wanted_put oi a oj.dst u h3)
  have keepD : ∀ d, SoftR P ops R I oi v { a with defers := d :: a.defers } := fun d => hy.of_same rfl rfl
  unfold wpOp at *
  simp only [hj] at *
  rw [wanted_put oj a oi.dst v h1] at h
  split
  · rename_i hw
    simp only [hw, if_true] at h
    rcases h with h | ⟨hasks, hlets⟩
    case inr => exact .inr ⟨by unfold Oper.asks at *; rw [execOp_put oj hsj a oi.dst v h1] at hasks; exact hasks, hlets⟩
    refine .inl ?_
    unfold Oper.wp at *
    rw [execOp_put oj hsj a oi.dst v h1] at h
    generalize (execOp a.eval oj).run P w = r at *
    cases r with
    | ok n w' =>
      cases n <;> simp only [Oper.upon] at h ⊢
      case value u => exact ⟨keep a hy u, by rw [← Act.put_comm a v u h2]; exact h⟩
      case skip => exact ⟨keep a hy _, by rw [← Act.put_comm a v undef h2]; exact h⟩
      case defer d =>
        refine ⟨keep _ (keepD d) _, ?_⟩
        rw [← Act.put_comm _ v undef h2, ← Act.put_defers]
        exact h
      case enter f args =>
        refine Calls.mono h fun e w'' he => ?_
        cases e with
        | returned u => exact ⟨keep a hy u, by rw [← Act.put_comm a v u h2]; exact he⟩
        | panicked c => exact hQ _ _ _ he
        | outgrown => exact he
      case row row args => exact Rows.mono h fun u w'' he => ⟨keep a hy u, by rw [← Act.put_comm a v u h2]; exact he⟩
    | halt x w' =>
      cases x <;> simp only [Oper.upon] at h ⊢
      case panic u => exact hQ _ _ _ h
  · rename_i hw
    simp only [hw] at h
    exact ⟨keep a hy _, by rw [← Act.put_comm a v undef h2]; exact h⟩

theorem wpAnyR_first {i : Nat} {oi : Oper} {v : Value} (hR : ∀ w, R w w) (hT : ∀ {a b c : World}, R a b → R b c → R a c) (hi : ops[i]? = some oi) (hsel : ∀ (j : Nat) (o : Oper) cs b, ops[j]? = some o → o.op ≠ .select cs b)
    (hQ : ∀ c a w, Q (.panic c) (a.put oi.dst v) w → Q (.panic c) a w) {kw : Nat} (hwt : waitsB md ops i kw last = true) :
    ∀ (fuel : Nat) (listed : Array Bool) (a : Go.Act) (w : World), closedB md ops listed →
      (∀ j oj, ops[j]? = some oj → j ≠ i → listed.getD j true = false → (∀ e ∈ oj.after, Region.binds md e = true → e.on ≠ i) → oi.apart ops oj = true) →
      i ∈ Region.ready md ops listed → SoftR P ops R I oi v a →
      wpAnyR P md ops R I last Q fuel (listed.setIfInBounds i true) (a.put oi.dst v) w → wpAnyR P md ops R I last Q (fuel + 1) listed a w := by
  intro fuel
  induction fuel with
  | zero =>
    intro listed a w hcl _ hr hy H w' hw
    have hI := (H w' hw).1
    refine ⟨hI, fun h => (by rw [h] at hr; cases hr), fun j hj => ?_⟩
    by_cases hji : j = i
    · subst hji; exact hy.wpOp (K := wpAnyR P md ops R I last Q 0 (listed.setIfInBounds j true)) hR hi hI (fun w2 h2 => (have h5 : R w w2 := hT hw h2; wpAnyR_grow (R := R) (w := w) (w1 := w2) (fun p q => hT p q) H h5))
    · have hl := (H w' hw).2.1 j (ready_mono hj hji)
      subst hl
      exact absurd hj (waits_not_ready hcl (getD_false_true (mem_ready.1 hr).1) hwt)
  | succ fuel ih =>
    intro listed a w hcl hfree hr hy H w' hw
    have hI := (H w' hw).1
    refine ⟨hI, fun h => (by rw [h] at hr; cases hr), fun j hj => ?_⟩
    by_cases hji : j = i
    · subst hji; exact hy.wpOp (K := wpAnyR P md ops R I last Q (fuel + 1) (listed.setIfInBounds j true)) hR hi hI (fun w2 h2 => (have h5 : R w w2 := hT hw h2; wpAnyR_grow (R := R) (w := w) (w1 := w2) (fun p q => hT p q) H h5))
    · have h1 := (H w' hw).2.2 j (ready_mono hj hji)
      obtain ⟨hjun, oj, hoj, hall⟩ := mem_ready.1 hj
      have hnot : ∀ e ∈ oj.after, Region.binds md e = true → e.on ≠ i := fun e he hb heq => by
        have h1 := hall e he hb
        have h0 := (mem_ready.1 hr).1
        rw [heq] at h1
        rcases Nat.lt_or_ge i listed.size with h' | h'
        · simp [h'] at h0 h1; rw [h0] at h1; cases h1
        · simp [Array.getElem?_eq_none h'] at h1
      have h2 := wpOp_putR hoj (hfree j oj hoj hji hjun hnot) (fun cs b => hsel i oi cs b hi) (fun cs b => hsel j oj cs b hoj) hQ hy h1
      have hfree' : ∀ k ok, ops[k]? = some ok → k ≠ i → (listed.setIfInBounds j true).getD k true = false →
          (∀ e ∈ ok.after, Region.binds md e = true → e.on ≠ i) → oi.apart ops ok = true := fun k ok hk hki hun hno => by
        refine hfree k ok hk hki ?_ hno
        by_cases hjk : j = k
        · subst hjk; exact hjun
        · rw [getD_set_ne true hjk] at hun; exact hun
      refine wpOp_mono (fun a' w2 h3 => ?_) h2
      have hr' := ready_mono hr (Ne.symm hji)
      obtain ⟨hy', h4⟩ := h3
      rw [Array.setIfInBounds_comm _ _ (Ne.symm hji)] at h4
      exact ih (listed.setIfInBounds j true) a' w2 (closed_set hcl hj) hfree' hr' hy' h4

theorem wpAnyR_take {i kw : Nat} {oi : Oper} {v : Value} {fuel : Nat} {listed : Array Bool} {a : Go.Act} {w : World} (hR : ∀ w, R w w) (hT : ∀ {a b c : World}, R a b → R b c → R a c) (hi : ops[i]? = some oi)
    (hs : Region.noSelect ops = true) (hf : Region.free md ops listed i = true) (hr : (Region.ready md ops listed).contains i = true) (hwt : waitsB md ops i kw last = true)
    (hQ : ∀ c a w, Q (.panic c) (a.put oi.dst v) w → Q (.panic c) a w) (hcl : closedB md ops listed) (hy : SoftR P ops R I oi v a)
    (h : closedB md ops (listed.setIfInBounds i true) → wpAnyR P md ops R I last Q fuel (listed.setIfInBounds i true) (a.put oi.dst v) w) : wpAnyR P md ops R I last Q (fuel + 1) listed a w :=
  wpAnyR_first hR hT hi (Region.noSelect_spec hs) hQ hwt fuel listed a w hcl (Region.free_spec hi hf) (by simpa using hr) hy (h (closed_set hcl (by simpa using hr)))
/-- One operation alone may come up. -/
theorem wpAnyR_one {i : Nat} {o : Oper} {fuel : Nat} {listed : Array Bool} {a : Go.Act} {w : World} (hcl : closedB md ops listed) (hr : Region.ready md ops listed = [i]) (ho : ops[i]? = some o) (hwt : Region.wanted o (yielded ops a.tmps) = true)
    (h : ∀ w', R w w' → I w' ∧ ∀ K' : Go.Act → World → Prop, (∀ a w, (closedB md ops (listed.setIfInBounds i true) → wpAnyR P md ops R I last Q fuel (listed.setIfInBounds i true) a w) → K' a w) → Oper.wp P o a w' K' Q) : wpAnyR P md ops R I last Q (fuel + 1) listed a w := by
  have hc : closedB md ops (listed.setIfInBounds i true) := closed_set hcl (by rw [hr]; exact List.mem_singleton.2 rfl)
  intro w' hw
  obtain ⟨hI, hK⟩ := h w' hw
  refine ⟨hI, by rw [hr]; simp, fun j hj => ?_⟩
  rw [hr] at hj
  obtain rfl := List.mem_singleton.1 hj
  unfold wpOp
  simp only [ho, hwt, if_true]
  exact .inl (hK _ (fun a w q => q hc))
/-- The last operation. -/
theorem wpAnyR_last {o : Oper} {listed : Array Bool} {a : Go.Act} {w : World} (hr : Region.ready md ops listed = [last]) (hr' : Region.ready md ops (listed.setIfInBounds last true) = []) (ho : ops[last]? = some o) (hwt : Region.wanted o (yielded ops a.tmps) = true)
    (h : ∀ w', R w w' → I w' ∧ ∀ K' : Go.Act → World → Prop, (∀ a w, Q .normal a w → K' a w) → Oper.wp P o a w' K' Q) : wpAnyR P md ops R I last Q 0 listed a w := by
  intro w' hw
  obtain ⟨hI, hK⟩ := h w' hw
  refine ⟨hI, fun j hj => by rw [hr] at hj; exact List.mem_singleton.1 hj, by rw [hr]; simp, ?_⟩
  unfold wpOp
  simp only [ho, hwt, if_true]
  exact .inl (hK _ (fun a w q => ⟨hr', q⟩))
/-- The whole region. -/
theorem wp_region_R {id k : Nat} {a : Go.Act} {w : World} (hR : ∀ w, R w w) (hm : P.follows .mixedOrders = true) (hk : ops.size = k + 1)
    (h : closedB .any ops (Array.replicate ops.size false) → wpAnyR P .any ops R I last Q k (Array.replicate ops.size false) a w.drew) : (Code.region id ops true).wp P Q a w := by
  refine wp_region_any hm ?_
  have := wpAny_of_R hR k _ a w.drew (h (closed_start _))
  rw [← hk] at this
  exact this
end Go.Proofs.Ytnllndcajdofjaa

namespace Go.Proofs.Ytnllndcajdofjaa
open Go
set_option linter.unusedVariables false

variable {P : Program} {ops : Array Oper} {md : Region.Mode} {Q : Exit → Go.Act → World → Prop} {R : World → World → Prop} {I : World → Prop} {last : Nat}

theorem wpAnyR_takeL {i kw : Nat} {oi : Oper} {d : Option Tmp} {v : Value} {fuel : Nat} {listed : Array Bool} {a : Go.Act} {w : World} (hR : ∀ w, R w w) (hT : ∀ {a b c : World}, R a b → R b c → R a c) (hi : ops.toList[i]? = some oi) (hd : oi.dst = d)
    (hs : Region.noSelect ops = true) (hf : Region.free md ops listed i = true) (hr : (Region.ready md ops listed).contains i = true) (hwt : waitsB md ops i kw last = true)
    (hQ : ∀ c a w, Q (.panic c) (a.put d v) w → Q (.panic c) a w) (hcl : closedB md ops listed) (hy : SoftR P ops R I oi v a)
    (h : closedB md ops (listed.setIfInBounds i true) → wpAnyR P md ops R I last Q fuel (listed.setIfInBounds i true) (a.put d v) w) : wpAnyR P md ops R I last Q (fuel + 1) listed a w := by
  subst hd
  exact wpAnyR_take hR hT (by rw [← Array.getElem?_toList]; exact hi) hs hf hr hwt hQ hcl hy h
theorem wpAnyR_oneL {i : Nat} {o : Oper} {fuel : Nat} {listed : Array Bool} {a : Go.Act} {w : World} (hcl : closedB md ops listed) (hr : Region.ready md ops listed = [i]) (ho : ops.toList[i]? = some o) (hwt : Region.wanted o (yielded ops a.tmps) = true)
    (h : ∀ w', R w w' → I w' ∧ ∀ K' : Go.Act → World → Prop, (∀ a w, (closedB md ops (listed.setIfInBounds i true) → wpAnyR P md ops R I last Q fuel (listed.setIfInBounds i true) a w) → K' a w) → Oper.wp P o a w' K' Q) : wpAnyR P md ops R I last Q (fuel + 1) listed a w :=
  wpAnyR_one hcl hr (by rw [← Array.getElem?_toList]; exact ho) hwt h
theorem wpAnyR_lastL {o : Oper} {listed : Array Bool} {a : Go.Act} {w : World} (hr : Region.ready md ops listed = [last]) (hr' : Region.ready md ops (listed.setIfInBounds last true) = []) (ho : ops.toList[last]? = some o) (hwt : Region.wanted o (yielded ops a.tmps) = true)
    (h : ∀ w', R w w' → I w' ∧ ∀ K' : Go.Act → World → Prop, (∀ a w, Q .normal a w → K' a w) → Oper.wp P o a w' K' Q) : wpAnyR P md ops R I last Q 0 listed a w :=
  wpAnyR_last hr hr' (by rw [← Array.getElem?_toList]; exact ho) hwt h
end Go.Proofs.Ytnllndcajdofjaa

namespace Go.Proofs.Ytnllndcajdofjaa
open Go.RowKit
set_option linter.unusedVariables false

set_option maxRecDepth 100000 in
set_option maxHeartbeats 400000 in
theorem seatCountB_any (g : Nat) (L : At5) (b : Bt) (w : World) (h : BtAt w g L b) :
    Calls Try.prog 89 #[.pointer (some ⟨g, 0, none⟩)] w (Same (.int .i64 b.st.length) w) := by
  obtain ⟨q0, _⟩ := h.blk.cell 0 _ rfl
  clear h
  go_enter Try.func89, Try.ntmps89
  go_wp2_with fail
  go_ret
  exact ⟨rfl, rfl⟩
set_option maxRecDepth 100000 in
set_option maxHeartbeats 1000000 in
theorem canAct_any (g : Nat) (L : At5) (b : Bt) (i : Nat) (w : World) (h : BtAt w g L b) (hn : b.st.length ≤ 6) (hi : i < b.st.length) (l4 : b.fo.length = b.st.length) :
    Calls Try.prog 129 #[.pointer (some ⟨g, 0, none⟩), .int .i64 i] w (Same (.bool (canB b i)) w) := by
  obtain ⟨q0, _⟩ := h.blk.cell 0 _ rfl
  obtain ⟨q3, _⟩ := h.blk.cell 3 _ rfl
  obtain ⟨b1, o1, e1, hc1⟩ := h.rd.r1.at_0 i hi
  obtain ⟨b4, o4, e4, hc4⟩ := h.rd.r4.at_0 i (by omega)
  rw [e1] at q0
  rw [e4] at q3
  have d1 : (i : Int) < b.st.length := by omega
  have d4 : (i : Int) < b.fo.length := by omega
  have H : Hid (canB b i = (!nthB b.fo i && decide (0 < nth b.st i))) := Lib.hid rfl
  clear h e1 e4 l4
  generalize nth b.st i = x at *
  generalize nthB b.fo i = f at *
  cases f
  all_goals
    go_enter Try.func129, Try.ntmps129
    go_wp2_with fail
    go_ret
    exact ⟨ret_bool (by rw [H.out]; simp), rfl⟩
set_option maxRecDepth 100000 in
set_option maxHeartbeats 2000000 in
theorem another_any (g : Nat) (L : At5) (b : Bt) (i : Nat) (w : World) (h : BtAt w g L b) (hn : b.st.length ≤ 6) (l4 : b.fo.length = b.st.length) :
    Calls Try.prog 131 #[.pointer (some ⟨g, 0, none⟩), .int .i64 i] w (Same (.bool (anoB b i)) w) := by
  have KS := Lib.hid (seatCountB_any g L b w h)
  have KC := Lib.hid (fun (k : Nat) (hk : k < b.st.length) => canAct_any g L b k w h hn hk l4)
  have HY := Lib.hid (fun (j : Nat) => ano_yes (b := b) (i := i) j)
  have HZ := Lib.hid (ano_no (b := b) (i := i))
  clear h l4
  generalize anoB b i = r at *
  go_enter Try.func131, Try.ntmps131
  go_wp2_with (go_at_call 89; refine KS.out.mono ?_; rintro e wn ⟨rfl, rfl⟩)
  go_loop [8] (fun q => ∃ k : Nat, k ≤ b.st.length ∧ q = .int .i64 k ∧ Hid (∀ j, j < k → j ≠ i → canB b j = false)) (fun q => b.st.length - (intOf q).toNat)
  case atStart => exact ⟨0, Nat.zero_le _, rfl, Lib.hid (fun j hj => by omega)⟩
  case round =>
    obtain ⟨k, hk, rfl, hs⟩ := hrel
    by_cases hlt : k < b.st.length
    · have hlt' : (k : Int) < b.st.length := by omega
      by_cases hki : k = i
      · have HN : Hid (∀ j, j < k + 1 → j ≠ i → canB b j = false) := Lib.hid (fun j hj hne => hs.out j (by omega) hne)
        have dk : ((k : Int) != (i : Int)) = false := by simp [hki]
        clear hs hki
        go_wp2_with fail
        go_round
        case rel => exact ⟨k + 1, by omega, by go_num, HN⟩
        case measure => simp [intOf]; omega
      · have dk : ((k : Int) != (i : Int)) = true := by simp; omega
        have KK := Lib.hid (KC.out k hlt)
        rcases hc : canB b k with _ | _
        · have HN : Hid (∀ j, j < k + 1 → j ≠ i → canB b j = false) := Lib.hid (fun j hj hne => by
            by_cases e : j = k
            · subst e; exact hc
            · exact hs.out j (by omega) hne)
          rw [hc] at KK
          clear hs hc
          go_wp2_with (go_at_call 129; refine KK.out.mono ?_; rintro e wn ⟨rfl, rfl⟩)
          go_round
          case rel => exact ⟨k + 1, by omega, by go_num, HN⟩
          case measure => simp [intOf]; omega
        · have HF := Lib.hid (HY.out k hlt hki hc)
          rw [hc] at KK
          clear hs hc
          go_wp2_with (go_at_call 129; refine KK.out.mono ?_; rintro e wn ⟨rfl, rfl⟩)
          go_ret
          exact ⟨ret_bool HF.out.symm, rfl⟩
    · obtain rfl : k = b.st.length := by omega
      have HF := Lib.hid (HZ.out hs.out)
      clear hs
      go_wp2_with fail
      go_ret
      exact ⟨ret_bool HF.out.symm, rfl⟩
set_option maxRecDepth 100000 in
set_option maxHeartbeats 400000 in
theorem betToMatch_any (g : Nat) (L : At5) (b : Bt) (w : World) (h : BtAt w g L b) (l0 : 0 < b.bt.length) (l6 : b.bt.length ≤ 6) (s2 : inC b.bt) :
    Calls Try.prog 130 #[.pointer (some ⟨g, 0, none⟩)] w (Same (.int .i64 (topI b)) w) := by
  have K := Lib.hid (slicesMax_any L.a2 L.c2 b.bt w h.rd.r2 (by omega) l0 (s2 0 l0).1)
  obtain ⟨q1, _⟩ := h.blk.cell 1 _ rfl
  clear h
  go_enter Try.func130, Try.ntmps130
  go_wp2_with (go_at_call 166; refine K.out.mono ?_; rintro e wn ⟨rfl, rfl⟩)
  go_ret
  exact ⟨rfl, rfl⟩
set_option maxRecDepth 100000 in
set_option maxHeartbeats 2000000 in
theorem pot_any (g : Nat) (L : At5) (b : Bt) (w : World) (h : BtAt w g L b) (l2 : b.bt.length ≤ 6) (l3 : b.pd.length ≤ 6) (s2 : inC b.bt) (s3 : inC b.pd) :
    Calls Try.prog 93 #[.pointer (some ⟨g, 0, none⟩)] w (Qt (.int .i64 (potI b)) w) := by
  have K2 := Lib.hid (fun n => sumOf_any L.a2 L.c2 b.bt (w.drewN n) (h.drew n).rd.r2 (by omega) s2)
  have K3 := Lib.hid (fun n => sumOf_any L.a3 L.c3 b.pd (w.drewN n) (h.drew n).rd.r3 (by omega) s3)
  have u2 := sumT_bdC b.bt s2 _ (Nat.le_refl _)
  have u3 := sumT_bdC b.pd s3 _ (Nat.le_refl _)
  have H : Hid (potI b = sumT b.bt b.bt.length + sumT b.pd b.pd.length) := Lib.hid rfl
  obtain ⟨q1, _⟩ := h.blk.cell 1 _ rfl
  obtain ⟨q2, _⟩ := h.blk.cell 2 _ rfl
  clear h s2 s3
  generalize sumT b.bt b.bt.length = x2 at *
  generalize sumT b.pd b.pd.length = x3 at *
  go_enter Try.func93, Try.ntmps93
  go_wp2_with fail
  go_quiet ((go_at_call 153; first | (with_reducible exact quiet_left (K2.out _)) | (with_reducible exact quiet_left (K3.out _))))
  go_wp2_with fail
  go_ret
  exact ⟨by rw [H.out]; rfl, _, rfl⟩
set_option maxRecDepth 100000 in
set_option maxHeartbeats 2000000 in
theorem chips_any (g : Nat) (L : At5) (b : Bt) (w : World) (h : BtAt w g L b) (l1 : b.st.length ≤ 6) (l2 : b.bt.length ≤ 6) (l3 : b.pd.length ≤ 6) (s1 : inC b.st) (s2 : inC b.bt) (s3 : inC b.pd) :
    Calls Try.prog 92 #[.pointer (some ⟨g, 0, none⟩)] w (Qt (.int .i64 (allI b)) w) := by
  have K1 := Lib.hid (sumOf_any L.a1 L.c1 b.st w h.rd.r1 (by omega) s1)
  have K2 := Lib.hid (pot_any g L b w h l2 l3 s2 s3)
  have u1 := sumT_bdC b.st s1 _ (Nat.le_refl _)
  have u2 := sumT_bdC b.bt s2 _ (Nat.le_refl _)
  have u3 := sumT_bdC b.pd s3 _ (Nat.le_refl _)
  have H : Hid (allI b = sumT b.st b.st.length + potI b) := Lib.hid rfl
  have u4 : 0 ≤ potI b ∧ potI b ≤ 10000000 := by unfold potI; omega
  obtain ⟨q0, _⟩ := h.blk.cell 0 _ rfl
  clear h s1 s2 s3 u2 u3
  generalize sumT b.st b.st.length = x1 at *
  generalize potI b = x2 at *
  go_enter Try.func92, Try.ntmps92
  go_wp2_with (first
    | (go_at_call 153; refine K1.out.mono ?_; rintro e wn ⟨rfl, rfl⟩)
    | (go_at_call 93; refine K2.out.mono ?_; rintro e wn ⟨rfl, m, rfl⟩))
  go_ret
  exact ⟨by rw [H.out]; rfl, m, rfl⟩
end Go.Proofs.Ytnllndcajdofjaa
