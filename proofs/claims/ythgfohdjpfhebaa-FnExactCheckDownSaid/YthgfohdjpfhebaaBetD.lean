/-
  The program: which rounds are valid.
-/
import Derived.Test.YthgfohdjpfhebaaBetC
namespace Go.Proofs.Ythgfohdjpfhebaa
open Go.RowKit
set_option linter.unusedVariables false

/-- The three lists of chips. -/
def lsB (b : Bt) : Nat → List Int
  | 0 => b.st
  | 1 => b.bt
  | _ => b.pd
def slB (L : At5) (b : Bt) : Nat → Value
  | 0 => .slice L.a1 b.st.length L.c1
  | 1 => .slice L.a2 b.bt.length L.c2
  | _ => .slice L.a3 b.pd.length L.c3
theorem u3s : Try.prog.underlying 136 = some (.array 3 24) := by kernel_rfl
theorem i3s : (Try.prog.info? 24).map (·.size) = some 1 := by kernel_rfl
set_option maxRecDepth 100000 in
theorem run_index3 (L : At5) (b : Bt) (k : Nat) (hk : k < 3) (W : World) : (Instr.index 136 (.agg #[.slice L.a1 b.st.length L.c1, .slice L.a2 b.bt.length L.c2, .slice L.a3 b.pd.length L.c3]) (.int .i64 k)).run Try.prog W = .ok (slB L b k) W := by
  obtain ⟨i0, hi, hz⟩ : ∃ i, Try.prog.info? 24 = some i ∧ i.size = 1 := by
    cases h : Try.prog.info? 24 with
    | none => have := i3s; rw [h] at this; cases this
    | some i => have := i3s; rw [h] at this; exact ⟨i, rfl, Option.some.inj this⟩
  rcases (by omega : k = 0 ∨ k = 1 ∨ k = 2) with rfl | rfl | rfl <;>
    simp [Instr.index, run_underlying u3s, go_sem, sizeOf, typeInfo, hi, hz, part, isAgg, run_underlying Try.underlying24, slB]
def hcB (b : Bt) : Bool := (sumsB (lsB b 0) && sumsB (lsB b 1) && sumsB (lsB b 2)) && inB (allI b) 0 600000
theorem hcB_no {b : Bt} (k : Nat) (hk : k < 3) (h : sumsB (lsB b k) = false) : hcB b = false := by
  unfold hcB
  rcases (by omega : k = 0 ∨ k = 1 ∨ k = 2) with rfl | rfl | rfl <;> simp [h]
theorem hcB_yes {b : Bt} (h : ∀ k, k < 3 → sumsB (lsB b k) = true) : hcB b = inB (allI b) 0 600000 := by
  unfold hcB; rw [h 0 (by omega), h 1 (by omega), h 2 (by omega)]; rfl
set_option maxRecDepth 100000 in
set_option maxHeartbeats 4000000 in
theorem hasChips_any (g : Nat) (L : At5) (b : Bt) (w : World) (h : BtAt w g L b) (l1 : b.st.length ≤ 6) (l2 : b.bt.length ≤ 6) (l3 : b.pd.length ≤ 6) :
    Calls Try.prog 87 #[.pointer (some ⟨g, 0, none⟩)] w (Qt (.bool (hcB b)) w) := by
  have KA := Lib.hid (fun n k (hk : k < 3) => (show Calls Try.prog 146 #[slB L b k, .func (.func 147) #[] #[]] (w.drewN n) (Same (.bool (sumsB (lsB b k))) (w.drewN n)) from by
    rcases (by omega : k = 0 ∨ k = 1 ∨ k = 2) with rfl | rfl | rfl
    · exact areSums_any L.a1 L.c1 b.st _ (h.drew n).rd.r1 (by show b.st.length ≤ _; omega)
    · exact areSums_any L.a2 L.c2 b.bt _ (h.drew n).rd.r2 (by show b.bt.length ≤ _; omega)
    · exact areSums_any L.a3 L.c3 b.pd _ (h.drew n).rd.r3 (by show b.pd.length ≤ _; omega)))
  have KC := Lib.hid (fun n (hs : ∀ k, k < 3 → sumsB (lsB b k) = true) => chips_any g L b (w.drewN n) (h.drew n) l1 l2 l3 (sumsB_iff.1 (hs 0 (by omega))) (sumsB_iff.1 (hs 1 (by omega))) (sumsB_iff.1 (hs 2 (by omega))))
  have KI := Lib.hid (fun W => isChipSum_any (allI b) W)
  have HI := Lib.hid (fun k (hk : k < 3) => run_index3 L b k hk)
  obtain ⟨q0, _⟩ := h.blk.cell 0 _ rfl
  obtain ⟨q1, _⟩ := h.blk.cell 1 _ rfl
  obtain ⟨q2, _⟩ := h.blk.cell 2 _ rfl
  clear h
  have HEF := Lib.hid (hcB_yes (b := b))
  generalize allI b = t at *
  go_enter Try.func87, Try.ntmps87
  go_wp2_with fail
  go_quiet (fail)
  go_wp2_with fail
  go_loop [18] (fun q => ∃ k : Nat, k ≤ 3 ∧ q = .int .i64 k ∧ Hid (∀ j, j < k → sumsB (lsB b j) = true)) (fun q => 3 - (intOf q).toNat)
  case atStart => exact ⟨0, by omega, rfl, Lib.hid (fun j hj => by omega)⟩
  case round =>
    obtain ⟨k, hk, rfl, hs⟩ := hrel
    by_cases hlt : k < 3
    · have hlt' : (k : Int) < 3 := by omega
      have HX := HI.out k hlt
      have KK := Lib.hid (fun n => KA.out n k hlt)
      rcases hb : sumsB (lsB b k) with _ | _
      · have HF := Lib.hid (hcB_no k hlt hb)
        rw [hb] at KK
        clear hs hb
        generalize slB L b k = v at *
        go_wp2_with (go_at_call 146; refine (KK.out _).mono ?_; rintro e wn ⟨rfl, rfl⟩)
        go_ret
        exact ⟨ret_bool HF.out.symm, _, rfl⟩
      · have HN : Hid (∀ j, j < k + 1 → sumsB (lsB b j) = true) := Lib.hid (fun j hj => by
          by_cases e : j = k
          · subst e; exact hb
          · exact hs.out j (by omega))
        rw [hb] at KK
        clear hs hb
        generalize slB L b k = v at *
        go_wp2_with (go_at_call 146; refine (KK.out _).mono ?_; rintro e wn ⟨rfl, rfl⟩)
        go_round
        case rel =>
          first
          | exact ⟨k + 1, by omega, by go_num, HN⟩
          | (refine ⟨_, _, _, ?_, rfl, rfl, rfl⟩; exact ⟨k + 1, by omega, by go_num, HN⟩)
        case measure => simp [intOf]; omega
    · obtain rfl : k = 3 := by omega
      have HE := Lib.hid (HEF.out hs.out)
      have KK := Lib.hid (fun n => KC.out n hs.out)
      clear hs KC KA HI
      go_wp2_with (first
        | (go_at_call 103; refine (KK.out _).mono ?_; rintro e wn ⟨rfl, m, rfl⟩; rw [World.drewN_drewN])
        | (go_at_call 147; refine (KI.out _).mono ?_; rintro e wn ⟨rfl, rfl⟩))
      go_ret
      exact ⟨ret_bool HE.out.symm, _, rfl⟩
/-- Which rounds are valid, in the program's order. -/
theorem okB_parts {b : Bt} : okB b = (seatsB b && hcB b && inB b.un 1 100000 && inB b.ra 0 4 && inB b.li 0 2) := by
  rcases h : (seatsB b && hcB b && inB b.un 1 100000 && inB b.ra 0 4 && inB b.li 0 2) with _ | _
  · refine ok_no fun k => ?_
    have s : seatsB b = true := by
      rw [seatsB_yes ⟨k.n2, k.n6, k.t0, k.t1, k.l2, k.l3, k.l4, k.l5⟩]
      unfold someF
      obtain ⟨i, hi, e⟩ := k.live
      rw [decide_eq_false (fun q => by have := q i (by rw [k.l4]; exact hi); rw [e] at this; cases this)]; rfl
    have c : hcB b = true := by
      rw [hcB_yes (fun j hj => by
        rcases (by omega : j = 0 ∨ j = 1 ∨ j = 2) with rfl | rfl | rfl
        · exact sumsB_iff.2 k.s1
        · exact sumsB_iff.2 k.s2
        · exact sumsB_iff.2 k.s3)]
      have u1 := sumT_bdC b.st k.s1 _ (Nat.le_refl _)
      have u2 := sumT_bdC b.bt k.s2 _ (Nat.le_refl _)
      have u3 := sumT_bdC b.pd k.s3 _ (Nat.le_refl _)
      exact inB_yes _ _ _ (by unfold allI potI; omega) k.sum
    rw [s, c, inB_yes _ _ _ k.u0 k.u1, inB_yes _ _ _ k.r0 k.r1, inB_yes _ _ _ k.i0 k.i1] at h
    cases h
  · simp only [Bool.and_eq_true] at h
    obtain ⟨⟨⟨⟨h1, h2⟩, h3⟩, h4⟩, h5⟩ := h
    unfold seatsB at h1
    rw [Bool.and_eq_true] at h1
    obtain ⟨h1, h6⟩ := h1
    obtain ⟨n2, n6, t0, t1, l2, l3, l4, l5⟩ := of_decide_eq_true h1
    unfold hcB at h2
    rw [Bool.and_eq_true] at h2
    obtain ⟨h2, h7⟩ := h2
    rw [Bool.and_eq_true, Bool.and_eq_true] at h2
    obtain ⟨⟨g0, g1⟩, g2⟩ := h2
    have h3 : 1 ≤ b.un ∧ b.un ≤ 100000 := by unfold inB at h3; exact of_decide_eq_true h3
    have h4 : 0 ≤ b.ra ∧ b.ra ≤ 4 := by unfold inB at h4; exact of_decide_eq_true h4
    have h5 : 0 ≤ b.li ∧ b.li ≤ 2 := by unfold inB at h5; exact of_decide_eq_true h5
    have h7 : 0 ≤ allI b ∧ allI b ≤ 600000 := by unfold inB at h7; exact of_decide_eq_true h7
    refine ok_yes ⟨n2, n6, t0, t1, l2, l3, l4, l5, ?_, sumsB_iff.1 g0, sumsB_iff.1 g1, sumsB_iff.1 g2, h7.2, h3.1, h3.2, h4.1, h4.2, h5.1, h5.2⟩
    refine Classical.byContradiction fun q => ?_
    unfold someF at h6
    rw [decide_eq_true (fun i hi => by
      rcases e : nthB b.fo i with _ | _
      · exact absurd ⟨i, by omega, e⟩ q
      · rfl)] at h6
    cases h6
/-- A new box of a round. -/
theorem btAt_new {w : World} {L : At5} {b : Bt} (h : Rd5 w L b) : BtAt (w.alloc (.cells (btL L b).toArray 27)) w.heap.size L b := ⟨blk_new w _ _, h.below (bl_alloc (bl_refl w) _)⟩
theorem bl_box {w : World} {L : At5} {b : Bt} : Below w.heap.size w (w.alloc (.cells (btL L b).toArray 27)) := bl_alloc (bl_refl w) _
set_option maxRecDepth 100000 in
set_option maxHeartbeats 4000000 in
theorem implIsBetting_any (L : At5) (b : Bt) (w : World) (h : Rd5 w L b) :
    Calls Try.prog 22 #[bV L b] w (Fresh (.bool (okB b)) w) := by
  have BT := btAt_new h
  have B := Lib.hid (bl_box (w := w) (L := L) (b := b))
  have KS := Lib.hid (fun n => hasSeats_any w.heap.size L b _ (BT.drew n))
  have KH := Lib.hid (fun n (k : SeatsP b) => hasChips_any w.heap.size L b _ (BT.drew n) k.2.1 (by have := k.2.2.2.2.1; have := k.2.1; omega) (by have := k.2.2.2.2.2.1; have := k.2.1; omega))
  have KU := Lib.hid (fun W => isStack_any b.un W)
  have KL := Lib.hid (fun W => isLimit_any b.li W)
  have HO := Lib.hid (okB_parts (b := b))
  obtain ⟨q6, _⟩ := BT.blk.cell 6 _ rfl
  obtain ⟨q7, _⟩ := BT.blk.cell 7 _ rfl
  obtain ⟨q8, _⟩ := BT.blk.cell 8 _ rfl
  clear h BT
  unfold bV
  generalize okB b = r at *
  generalize inB b.un 1 100000 = r2 at *
  generalize inB b.li 0 2 = r4 at *
  rcases hs : seatsB b with _ | _
  · rw [hs] at KS HO
    have HV : Hid (r = false) := Lib.hid (by rw [HO.out]; rfl)
    clear hs HO
    go_enter Try.func22, Try.ntmps22
    go_wp2_with (first
        | (go_at_call 86; refine (KS.out 0).mono ?_; rintro e wn ⟨rfl, m1, rfl⟩; rw [World.drewN_drewN]))
    go_ret
    exact ⟨ret_bool HV.out.symm, bl_drewN B.out _⟩
  have kp : SeatsP b := by unfold seatsB at hs; rw [Bool.and_eq_true] at hs; exact of_decide_eq_true hs.1
  have KK := Lib.hid (fun n => KH.out n kp)
  rw [hs] at KS HO
  clear hs kp KH
  generalize hcB b = r1 at *
  rcases r1 with _ | _
  · have HV : Hid (r = false) := Lib.hid (by rw [HO.out]; rfl)
    clear HO
    go_enter Try.func22, Try.ntmps22
    go_wp2_with (first
        | (go_at_call 86; refine (KS.out 0).mono ?_; rintro e wn ⟨rfl, m1, rfl⟩; rw [World.drewN_drewN])
        | (go_at_call 87; refine (KK.out _).mono ?_; rintro e wn ⟨rfl, m2, rfl⟩; rw [World.drewN_drewN]))
    go_ret
    exact ⟨ret_bool HV.out.symm, bl_drewN B.out _⟩
  rcases r2 with _ | _
  · have HV : Hid (r = false) := Lib.hid (by rw [HO.out]; rfl)
    clear HO
    go_enter Try.func22, Try.ntmps22
    go_wp2_with (first
        | (go_at_call 86; refine (KS.out 0).mono ?_; rintro e wn ⟨rfl, m1, rfl⟩; rw [World.drewN_drewN])
        | (go_at_call 87; refine (KK.out _).mono ?_; rintro e wn ⟨rfl, m2, rfl⟩; rw [World.drewN_drewN])
        | (go_at_call 88; refine (KU.out _).mono ?_; rintro e wn ⟨rfl, rfl⟩))
    go_ret
    exact ⟨ret_bool HV.out.symm, bl_drewN B.out _⟩
  by_cases c1 : 0 ≤ b.ra
  rotate_left
  · have HV : Hid (r = false) := Lib.hid (by rw [HO.out, inB_lo b.ra 0 4 (by omega)]; rfl)
    have c2 : decide (0 ≤ b.ra) = false := decide_eq_false c1
    clear HO
    go_enter Try.func22, Try.ntmps22
    go_wp2_with (first
        | (go_at_call 86; refine (KS.out 0).mono ?_; rintro e wn ⟨rfl, m1, rfl⟩; rw [World.drewN_drewN])
        | (go_at_call 87; refine (KK.out _).mono ?_; rintro e wn ⟨rfl, m2, rfl⟩; rw [World.drewN_drewN])
        | (go_at_call 88; refine (KU.out _).mono ?_; rintro e wn ⟨rfl, rfl⟩))
    go_ret
    exact ⟨ret_bool HV.out.symm, bl_drewN B.out _⟩
  have c2 : decide (0 ≤ b.ra) = true := decide_eq_true c1
  by_cases c3 : b.ra ≤ 4
  rotate_left
  · have HV : Hid (r = false) := Lib.hid (by rw [HO.out, show inB b.ra 0 4 = false from decide_eq_false (by omega)]; rfl)
    have c4 : decide (b.ra ≤ 4) = false := decide_eq_false c3
    clear HO
    go_enter Try.func22, Try.ntmps22
    go_wp2_with (first
        | (go_at_call 86; refine (KS.out 0).mono ?_; rintro e wn ⟨rfl, m1, rfl⟩; rw [World.drewN_drewN])
        | (go_at_call 87; refine (KK.out _).mono ?_; rintro e wn ⟨rfl, m2, rfl⟩; rw [World.drewN_drewN])
        | (go_at_call 88; refine (KU.out _).mono ?_; rintro e wn ⟨rfl, rfl⟩))
    go_ret
    exact ⟨ret_bool HV.out.symm, bl_drewN B.out _⟩
  · have HV : Hid (r = r4) := Lib.hid (by rw [HO.out, inB_yes b.ra 0 4 c1 c3]; simp)
    have c4 : decide (b.ra ≤ 4) = true := decide_eq_true c3
    clear HO
    go_enter Try.func22, Try.ntmps22
    go_wp2_with (first
        | (go_at_call 86; refine (KS.out 0).mono ?_; rintro e wn ⟨rfl, m1, rfl⟩; rw [World.drewN_drewN])
        | (go_at_call 87; refine (KK.out _).mono ?_; rintro e wn ⟨rfl, m2, rfl⟩; rw [World.drewN_drewN])
        | (go_at_call 88; refine (KU.out _).mono ?_; rintro e wn ⟨rfl, rfl⟩)
        | (go_at_call 89; refine (KL.out _).mono ?_; rintro e wn ⟨rfl, rfl⟩))
    go_ret
    exact ⟨ret_bool HV.out.symm, bl_drewN B.out _⟩
end Go.Proofs.Ythgfohdjpfhebaa
