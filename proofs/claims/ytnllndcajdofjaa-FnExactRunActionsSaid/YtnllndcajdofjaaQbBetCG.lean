/-
  Put together, what this law needs of: BetC, BetD.
-/
import Derived.Test.YtnllndcajdofjaaQbBetCloneG
namespace Go.Proofs.Ytnllndcajdofjaa
open Go.RowKit
set_option linter.unusedVariables false

/-- The lists have one element for each seat, and the bets are chips. -/
structure Sd (b : Bt) : Prop where
  n2 : 2 ≤ b.st.length
  n6 : b.st.length ≤ 6
  l2 : b.bt.length = b.st.length
  l3 : b.pd.length = b.st.length
  l4 : b.fo.length = b.st.length
  l5 : b.ac.length = b.st.length
  s2 : inC b.bt
theorem Ok.sd {b : Bt} (k : Ok b) : Sd b := ⟨k.n2, k.n6, k.l2, k.l3, k.l4, k.l5, k.s2⟩
theorem top_bd {b : Bt} (k : Sd b) : 0 ≤ topI b ∧ topI b ≤ 600000 := maxK_bd b.bt k.s2 _ (Nat.le_refl _)
theorem top_ge {b : Bt} (i : Nat) (hi : i < b.bt.length) : nth b.bt i ≤ topI b := maxK_ge b.bt _ i hi
theorem betToMatchS_any (g : Nat) (L : At5) (b : Bt) (w : World) (h : BtAt w g L b) (k : Sd b) :
    Calls Try.prog 130 #[.pointer (some ⟨g, 0, none⟩)] w (Same (.int .i64 (topI b)) w) :=
  betToMatch_any g L b w h (by have := k.n2; have := k.l2; omega) (by have := k.n6; have := k.l2; omega) k.s2
set_option maxRecDepth 100000 in
set_option maxHeartbeats 2000000 in
theorem missing_any (g : Nat) (L : At5) (b : Bt) (w : World) (h : BtAt w g L b) (k : Ok b) :
    Calls Try.prog 132 #[.pointer (some ⟨g, 0, none⟩)] w (Qt (.int .i64 (missI b)) w) := by
  obtain ⟨i, hi⟩ := Int.eq_ofNat_of_zero_le k.t0
  have ht := k.t1
  rw [hi] at ht
  have n6 := k.n6
  have l2 := k.l2
  have l3 := k.l3
  have l4 := k.l4
  have l5 := k.l5
  have d1 : (i : Int) < b.st.length := ht
  have d2 : (i : Int) < b.bt.length := by omega
  have d4 : (i : Int) < b.fo.length := by omega
  have d5 : (i : Int) < b.ac.length := by omega
  obtain ⟨q1, _⟩ := h.blk.cell 1 _ rfl
  obtain ⟨q5, _⟩ := h.blk.cell 5 _ rfl
  obtain ⟨b2, o2, e2, hc2⟩ := h.rd.r2.at_0 i (by omega)
  rw [e2] at q1
  rw [hi] at q5
  have H : Hid (missI b = topI b - nth b.bt i) := Lib.hid (by unfold missI; rw [hi]; rfl)
  have u1 := top_bd k.sd
  have u2 := k.s2 i (by omega)
  have KT := Lib.hid (fun n => betToMatchS_any g L b (w.drewN n) (h.drew n) k.sd)
  clear h k e2 hi ht
  generalize topI b = t at *
  generalize nth b.bt i = x at *
  go_enter Try.func132, Try.ntmps132
  go_wp2_with fail
  go_quiet ((go_at_call 130; (with_reducible exact quiet_left (KT.out _))))
  go_wp2_with fail
  go_ret
  exact ⟨by rw [H.out]; rfl, _, rfl⟩
theorem miss_bd {b : Bt} (k : Ok b) : 0 ≤ missI b ∧ missI b ≤ 600000 := by
  have u1 := top_bd k.sd
  have ht := k.t1
  have h0 := k.t0
  have l2 := k.l2
  have u2 := k.s2 b.tu.toNat (by omega)
  have u3 := top_ge (b := b) b.tu.toNat (by omega)
  unfold missI
  omega
set_option maxRecDepth 100000 in
set_option maxHeartbeats 2000000 in
theorem callSize_any (g : Nat) (L : At5) (b : Bt) (w : World) (h : BtAt w g L b) (k : Ok b) :
    Calls Try.prog 133 #[.pointer (some ⟨g, 0, none⟩)] w (Qt (.int .i64 (callI b)) w) := by
  obtain ⟨i, hi⟩ := Int.eq_ofNat_of_zero_le k.t0
  have ht := k.t1
  rw [hi] at ht
  have n6 := k.n6
  have l2 := k.l2
  have l3 := k.l3
  have l4 := k.l4
  have l5 := k.l5
  have d1 : (i : Int) < b.st.length := ht
  have d2 : (i : Int) < b.bt.length := by omega
  have d4 : (i : Int) < b.fo.length := by omega
  have d5 : (i : Int) < b.ac.length := by omega
  obtain ⟨q0, _⟩ := h.blk.cell 0 _ rfl
  obtain ⟨q5, _⟩ := h.blk.cell 5 _ rfl
  obtain ⟨b1, o1, e1, hc1⟩ := h.rd.r1.at_0 i (by omega)
  rw [e1] at q0
  rw [hi] at q5
  have H : Hid (callI b = minT (missI b) (nth b.st i)) := Lib.hid (by unfold callI; rw [hi]; rfl)
  have u1 := miss_bd k
  have KT := Lib.hid (fun n => missing_any g L b (w.drewN n) (h.drew n) k)
  clear h k e1 hi ht
  generalize missI b = t at *
  generalize nth b.st i = x at *
  have KN := Lib.hid (fun n => minT_any t x (w.drewN n))
  go_enter Try.func133, Try.ntmps133
  go_wp2_with fail
  go_quiet (first
    | (go_at_call 132; exact Calls.quiet_of (KT.out _))
    | (go_at_call 136; exact quiet_left (KN.out _)))
  go_wp2_with fail
  go_ret
  exact ⟨by rw [H.out]; rfl, _, rfl⟩
set_option maxRecDepth 100000 in
set_option maxHeartbeats 4000000 in
theorem canRaise_any (g : Nat) (L : At5) (b : Bt) (w : World) (h : BtAt w g L b) (k : Ok b) :
    Calls Try.prog 134 #[.pointer (some ⟨g, 0, none⟩)] w (Qt (.bool (mayB b)) w) := by
  obtain ⟨i, hi⟩ := Int.eq_ofNat_of_zero_le k.t0
  have ht := k.t1
  rw [hi] at ht
  have n6 := k.n6
  have l2 := k.l2
  have l3 := k.l3
  have l4 := k.l4
  have l5 := k.l5
  have d1 : (i : Int) < b.st.length := ht
  have d2 : (i : Int) < b.bt.length := by omega
  have d4 : (i : Int) < b.fo.length := by omega
  have d5 : (i : Int) < b.ac.length := by omega
  obtain ⟨q0, _⟩ := h.blk.cell 0 _ rfl
  obtain ⟨q4, _⟩ := h.blk.cell 4 _ rfl
  obtain ⟨q5, _⟩ := h.blk.cell 5 _ rfl
  obtain ⟨q7, _⟩ := h.blk.cell 7 _ rfl
  obtain ⟨q8, _⟩ := h.blk.cell 8 _ rfl
  obtain ⟨b1, o1, e1, hc1⟩ := h.rd.r1.at_0 i (by omega)
  rw [e1] at q0
  obtain ⟨b5, o5, e5, hc5⟩ := h.rd.r5.at_0 i (by omega)
  rw [e5] at q4
  rw [hi] at q5
  have H : Hid (mayB b = (!nthB b.ac i && decide (missI b < nth b.st i) && anoB b i && (!(b.li == 2) || decide (b.ra < 4)))) := Lib.hid (by unfold mayB; rw [hi]; rfl)
  have u1 := miss_bd k
  have KT := Lib.hid (fun n => missing_any g L b (w.drewN n) (h.drew n) k)
  have KO := Lib.hid (fun n => another_any g L b i (w.drewN n) (h.drew n) k.n6 k.l4)
  clear h k e1 e5 hi ht
  generalize missI b = t at *
  generalize nth b.st i = x at *
  generalize nthB b.ac i = a at *
  generalize anoB b i = o at *
  generalize b.li = l at *
  generalize b.ra = r at *
  rcases a with _ | _
  rotate_left
  · skip
    have HV : Hid (mayB b = false) := Lib.hid (by rw [H.out]; simp)
    clear H
    go_enter Try.func134, Try.ntmps134
    go_wp2_with fail
    go_quiet (first
        | (go_at_call 132; exact Calls.quiet_of (KT.out _))
        | (go_at_call 131; exact quiet_left (KO.out _)))
    go_wp2_with fail
    go_ret
    exact ⟨ret_bool HV.out.symm, _, rfl⟩
  by_cases c1 : x ≤ t
  · have c2 : decide (x ≤ t) = true := decide_eq_true c1
    have c3 : decide (t < x) = false := decide_eq_false (by omega)
    have HV : Hid (mayB b = false) := Lib.hid (by rw [H.out]; simp [c3])
    clear H
    go_enter Try.func134, Try.ntmps134
    go_wp2_with fail
    go_quiet (first
        | (go_at_call 132; exact Calls.quiet_of (KT.out _))
        | (go_at_call 131; exact quiet_left (KO.out _)))
    go_wp2_with fail
    go_ret
    exact ⟨ret_bool HV.out.symm, _, rfl⟩
  have c2 : decide (x ≤ t) = false := decide_eq_false c1
  have c3 : decide (t < x) = true := decide_eq_true (by omega)
  rcases o with _ | _
  · skip
    have HV : Hid (mayB b = false) := Lib.hid (by rw [H.out]; simp)
    clear H
    go_enter Try.func134, Try.ntmps134
    go_wp2_with fail
    go_quiet (first
        | (go_at_call 132; exact Calls.quiet_of (KT.out _))
        | (go_at_call 131; exact quiet_left (KO.out _)))
    go_wp2_with fail
    go_ret
    exact ⟨ret_bool HV.out.symm, _, rfl⟩
  by_cases c4 : l = 2
  rotate_left
  · have c5 : (l == 2) = false := by simpa using c4
    have c6 : (l != 2) = true := by simpa using c4
    have HV : Hid (mayB b = true) := Lib.hid (by rw [H.out]; simp [c3, c5])
    clear H
    go_enter Try.func134, Try.ntmps134
    go_wp2_with fail
    go_quiet (first
        | (go_at_call 132; exact Calls.quiet_of (KT.out _))
        | (go_at_call 131; exact quiet_left (KO.out _)))
    go_wp2_with fail
    go_ret
    exact ⟨ret_bool HV.out.symm, _, rfl⟩
  have c5 : (l == 2) = true := by simpa using c4
  have c6 : (l != 2) = false := by simpa using c4
  clear c4
  by_cases c7 : r < 4
  · have c8 : decide (r < 4) = true := decide_eq_true c7
    have HV : Hid (mayB b = true) := Lib.hid (by rw [H.out]; simp [c3, c5, c8])
    clear H
    go_enter Try.func134, Try.ntmps134
    go_wp2_with fail
    go_quiet (first
        | (go_at_call 132; exact Calls.quiet_of (KT.out _))
        | (go_at_call 131; exact quiet_left (KO.out _)))
    go_wp2_with fail
    go_ret
    exact ⟨ret_bool HV.out.symm, _, rfl⟩
  · have c8 : decide (r < 4) = false := decide_eq_false c7
    have HV : Hid (mayB b = false) := Lib.hid (by rw [H.out]; simp [c3, c5, c8])
    clear H
    go_enter Try.func134, Try.ntmps134
    go_wp2_with fail
    go_quiet (first
        | (go_at_call 132; exact Calls.quiet_of (KT.out _))
        | (go_at_call 131; exact quiet_left (KO.out _)))
    go_wp2_with fail
    go_ret
    exact ⟨ret_bool HV.out.symm, _, rfl⟩
set_option maxRecDepth 100000 in
set_option maxHeartbeats 4000000 in
theorem mostRaise_any (g : Nat) (L : At5) (b : Bt) (w : World) (h : BtAt w g L b) (k : Ok b) :
    Calls Try.prog 135 #[.pointer (some ⟨g, 0, none⟩)] w (Qt (.int .i64 (mostR b)) w) := by
  obtain ⟨i, hi⟩ := Int.eq_ofNat_of_zero_le k.t0
  have ht := k.t1
  rw [hi] at ht
  have n6 := k.n6
  have l2 := k.l2
  have l3 := k.l3
  have l4 := k.l4
  have l5 := k.l5
  have d1 : (i : Int) < b.st.length := ht
  have d2 : (i : Int) < b.bt.length := by omega
  have d4 : (i : Int) < b.fo.length := by omega
  have d5 : (i : Int) < b.ac.length := by omega
  obtain ⟨q0, _⟩ := h.blk.cell 0 _ rfl
  obtain ⟨q1, _⟩ := h.blk.cell 1 _ rfl
  obtain ⟨q5, _⟩ := h.blk.cell 5 _ rfl
  obtain ⟨q6, _⟩ := h.blk.cell 6 _ rfl
  obtain ⟨q8, _⟩ := h.blk.cell 8 _ rfl
  obtain ⟨b1, o1, e1, hc1⟩ := h.rd.r1.at_0 i (by omega)
  rw [e1] at q0
  obtain ⟨b2, o2, e2, hc2⟩ := h.rd.r2.at_0 i (by omega)
  rw [e2] at q1
  rw [hi] at q5
  have HA : Hid (allIn b = nth b.bt i + nth b.st i) := Lib.hid (by unfold allIn; rw [hi]; rfl)
  have H : Hid (mostR b = if b.li = 1 then minT (nth b.bt i + nth b.st i) (topI b + potI b + missI b) else if b.li = 2 then minT (nth b.bt i + nth b.st i) (topI b + b.un) else nth b.bt i + nth b.st i) := Lib.hid (by unfold mostR; rw [HA.out])
  have u1 := miss_bd k
  have u2 := top_bd k.sd
  have u3 := k.s1 i (by omega)
  have u4 := k.s2 i (by omega)
  have u5 : 0 ≤ potI b ∧ potI b ≤ 10000000 := by
    have := sumT_bdC b.bt k.s2 _ (Nat.le_refl _)
    have := sumT_bdC b.pd k.s3 _ (Nat.le_refl _)
    unfold potI; omega
  have u6 := k.u0
  have u7 := k.u1
  have KT := Lib.hid (fun n => betToMatchS_any g L b (w.drewN n) (h.drew n) k.sd)
  have KP := Lib.hid (fun n => pot_any g L b (w.drewN n) (h.drew n) (by omega) (by omega) k.s2 k.s3)
  have KM := Lib.hid (fun n => missing_any g L b (w.drewN n) (h.drew n) k)
  clear h k e1 e2 hi ht HA
  generalize missI b = m at *
  generalize nth b.st i = x at *
  generalize nth b.bt i = y at *
  generalize potI b = p at *
  generalize topI b = t at *
  generalize b.un = u at *
  generalize b.li = l at *
  have KN := Lib.hid (fun W => minT_any (y + x) (t + p + m) W)
  have KN2 := Lib.hid (fun W => minT_any (y + x) (t + u) W)
  by_cases c1 : l = 1
  · have c2 : (l == 1) = true := by simpa using c1
    have HV : Hid (mostR b = minT (y + x) (t + p + m)) := Lib.hid (by rw [H.out, if_pos c1])
    clear H c1
    generalize minT (y + x) (t + p + m) = v at *
    go_enter Try.func135, Try.ntmps135
    go_wp2_with fail
    go_quiet (fail)
    go_wp2_with (first
      | (go_at_call 130; refine (KT.out _).mono ?_; rintro e wn ⟨rfl, rfl⟩)
      | (go_at_call 93; refine (KP.out _).mono ?_; rintro e wn ⟨rfl, m1, rfl⟩; rw [World.drewN_drewN])
      | (go_at_call 132; refine (KM.out _).mono ?_; rintro e wn ⟨rfl, m2, rfl⟩; rw [World.drewN_drewN])
      | (go_at_call 136; refine (KN.out _).mono ?_; rintro e wn ⟨rfl, rfl⟩))
    go_ret
    exact ⟨by rw [HV.out]; rfl, _, rfl⟩
  have c2 : (l == 1) = false := by simpa using c1
  by_cases c3 : l = 2
  · have c4 : (l == 2) = true := by simpa using c3
    have HV : Hid (mostR b = minT (y + x) (t + u)) := Lib.hid (by rw [H.out, if_neg c1, if_pos c3])
    clear H c1 c3
    generalize minT (y + x) (t + u) = v at *
    go_enter Try.func135, Try.ntmps135
    go_wp2_with fail
    go_quiet (fail)
    go_wp2_with fail
    go_quiet (first
      | (go_at_call 130; exact quiet_add_left (KT.out _))
      | (go_at_call 136; exact quiet_add_left (KN2.out _)))
    go_wp2_with fail
    go_ret
    exact ⟨by rw [HV.out]; rfl, _, World.drewN_drewN ..⟩
  · have c4 : (l == 2) = false := by simpa using c3
    have HV : Hid (mostR b = y + x) := Lib.hid (by rw [H.out, if_neg c1, if_neg c3])
    clear H c1 c3
    go_enter Try.func135, Try.ntmps135
    go_wp2_with fail
    go_quiet (fail)
    go_wp2_with fail
    go_ret
    exact ⟨by rw [HV.out]; rfl, _, rfl⟩
/-- What makes a round one of seats. -/
abbrev SeatsP (b : Bt) : Prop := 2 ≤ b.st.length ∧ b.st.length ≤ 6 ∧ 0 ≤ b.tu ∧ b.tu < b.st.length ∧ b.bt.length = b.st.length ∧ b.pd.length = b.st.length ∧ b.fo.length = b.st.length ∧ b.ac.length = b.st.length
def seatsB (b : Bt) : Bool := decide (2 ≤ b.st.length ∧ b.st.length ≤ 6 ∧ 0 ≤ b.tu ∧ b.tu < b.st.length ∧ b.bt.length = b.st.length ∧ b.pd.length = b.st.length ∧ b.fo.length = b.st.length ∧ b.ac.length = b.st.length) && someF b.fo
theorem seatsB_no {b : Bt} (h : ¬ SeatsP b) : seatsB b = false := by unfold seatsB; rw [decide_eq_false h]; rfl
theorem seatsB_yes {b : Bt} (h : SeatsP b) : seatsB b = someF b.fo := by unfold seatsB; rw [decide_eq_true h]; rfl
/-- The four lengths. -/
def lnB (b : Bt) : Nat → Nat
  | 0 => b.bt.length
  | 1 => b.pd.length
  | 2 => b.fo.length
  | _ => b.ac.length
theorem u4i : Try.prog.underlying 132 = some (.array 4 3) := by kernel_rfl
theorem i4i : (Try.prog.info? 3).map (·.size) = some 1 := by kernel_rfl
set_option maxRecDepth 100000 in
theorem run_index4 (b : Bt) (k : Nat) (hk : k < 4) (W : World) : (Instr.index 132 (.agg #[.int .i64 b.bt.length, .int .i64 b.pd.length, .int .i64 b.fo.length, .int .i64 b.ac.length]) (.int .i64 k)).run Try.prog W = .ok (.int .i64 (lnB b k)) W := by
  obtain ⟨i0, hi, hz⟩ : ∃ i, Try.prog.info? 3 = some i ∧ i.size = 1 := by
    cases h : Try.prog.info? 3 with
    | none => have := i4i; rw [h] at this; cases this
    | some i => have := i4i; rw [h] at this; exact ⟨i, rfl, Option.some.inj this⟩
  rcases (by omega : k = 0 ∨ k = 1 ∨ k = 2 ∨ k = 3) with rfl | rfl | rfl | rfl <;>
    simp [Instr.index, run_underlying u4i, go_sem, sizeOf, typeInfo, hi, hz, part, isAgg, run_underlying Try.underlying3, lnB]
set_option maxRecDepth 100000 in
set_option maxHeartbeats 4000000 in
theorem hasToAct_any (g : Nat) (L : At5) (b : Bt) (i : Nat) (w : World) (h : BtAt w g L b) (k : Sd b) (hi : i < b.st.length) :
    Calls Try.prog 67 #[.pointer (some ⟨g, 0, none⟩), .int .i64 i] w (Qt (.bool (mustB b i)) w) := by
  have n6 := k.n6
  have l2 := k.l2
  have l4 := k.l4
  have l5 := k.l5
  have d1 : (i : Int) < b.st.length := by omega
  have d2 : (i : Int) < b.bt.length := by omega
  have d5 : (i : Int) < b.ac.length := by omega
  obtain ⟨q1, _⟩ := h.blk.cell 1 _ rfl
  obtain ⟨q4, _⟩ := h.blk.cell 4 _ rfl
  obtain ⟨b2, o2, e2, hc2⟩ := h.rd.r2.at_0 i (by omega)
  rw [e2] at q1
  obtain ⟨b5, o5, e5, hc5⟩ := h.rd.r5.at_0 i (by omega)
  rw [e5] at q4
  have H : Hid (mustB b i = (canB b i && (decide (nth b.bt i < topI b) || (!nthB b.ac i && anoB b i)))) := Lib.hid rfl
  have KC := Lib.hid (fun W (hW : w = W) => canAct_any g L b i W (hW ▸ h) n6 hi l4)
  have KT := Lib.hid (fun n => betToMatchS_any g L b (w.drewN n) (h.drew n) k)
  have KO := Lib.hid (fun n => another_any g L b i (w.drewN n) (h.drew n) n6 l4)
  clear h k e2 e5
  generalize topI b = t at *
  generalize nth b.bt i = x at *
  generalize nthB b.ac i = a at *
  generalize anoB b i = o at *
  generalize canB b i = c at *
  rcases c with _ | _
  · skip
    have HV : Hid (mustB b i = false) := Lib.hid (by rw [H.out]; simp)
    clear H
    go_enter Try.func67, Try.ntmps67
    go_wp2_with (go_at_call 129; refine (KC.out _ rfl).mono ?_; rintro e wn ⟨rfl, rfl⟩)
    go_ret
    exact ⟨ret_bool HV.out.symm, 0, rfl⟩
  by_cases c1 : x < t
  · skip
    have c2 : decide (x < t) = true := decide_eq_true c1
    have HV : Hid (mustB b i = true) := Lib.hid (by rw [H.out]; simp [c1])
    clear H
    go_enter Try.func67, Try.ntmps67
    go_wp2_with (go_at_call 129; refine (KC.out _ rfl).mono ?_; rintro e wn ⟨rfl, rfl⟩)
    go_quiet (first
        | (go_at_call 130; exact quiet_left (KT.out _))
        | (go_at_call 131; exact quiet_left (KO.out _)))
    go_wp2_with fail
    go_ret
    exact ⟨ret_bool HV.out.symm, _, rfl⟩
  have c2 : decide (x < t) = false := decide_eq_false c1
  rcases a with _ | _
  rotate_left
  · skip
    have HV : Hid (mustB b i = false) := Lib.hid (by rw [H.out]; simp [c2])
    clear H
    go_enter Try.func67, Try.ntmps67
    go_wp2_with (go_at_call 129; refine (KC.out _ rfl).mono ?_; rintro e wn ⟨rfl, rfl⟩)
    go_quiet (first
        | (go_at_call 130; exact quiet_left (KT.out _))
        | (go_at_call 131; exact quiet_left (KO.out _)))
    go_wp2_with fail
    go_ret
    exact ⟨ret_bool HV.out.symm, _, rfl⟩
  rcases o with _ | _
  · skip
    have HV : Hid (mustB b i = false) := Lib.hid (by rw [H.out]; simp [c2])
    clear H
    go_enter Try.func67, Try.ntmps67
    go_wp2_with (go_at_call 129; refine (KC.out _ rfl).mono ?_; rintro e wn ⟨rfl, rfl⟩)
    go_quiet (first
        | (go_at_call 130; exact quiet_left (KT.out _))
        | (go_at_call 131; exact quiet_left (KO.out _)))
    go_wp2_with fail
    go_ret
    exact ⟨ret_bool HV.out.symm, _, rfl⟩
  · skip
    have HV : Hid (mustB b i = true) := Lib.hid (by rw [H.out]; simp [c2])
    clear H
    go_enter Try.func67, Try.ntmps67
    go_wp2_with (go_at_call 129; refine (KC.out _ rfl).mono ?_; rintro e wn ⟨rfl, rfl⟩)
    go_quiet (first
        | (go_at_call 130; exact quiet_left (KT.out _))
        | (go_at_call 131; exact quiet_left (KO.out _)))
    go_wp2_with fail
    go_ret
    exact ⟨ret_bool HV.out.symm, _, rfl⟩
set_option maxRecDepth 100000 in
set_option maxHeartbeats 4000000 in
theorem hasSeats_any (g : Nat) (L : At5) (b : Bt) (w : World) (h : BtAt w g L b) :
    Calls Try.prog 75 #[.pointer (some ⟨g, 0, none⟩)] w (Qt (.bool (seatsB b)) w) := by
  have KS := Lib.hid (fun n => seatCountB_any g L b (w.drewN n) (h.drew n))
  have KC := Lib.hid (fun n => isSeatCount_any b.st.length (w.drewN n))
  obtain ⟨q0, _⟩ := h.blk.cell 0 _ rfl
  obtain ⟨q1, _⟩ := h.blk.cell 1 _ rfl
  obtain ⟨q2, _⟩ := h.blk.cell 2 _ rfl
  obtain ⟨q3, _⟩ := h.blk.cell 3 _ rfl
  obtain ⟨q4, _⟩ := h.blk.cell 4 _ rfl
  obtain ⟨q5, _⟩ := h.blk.cell 5 _ rfl
  by_cases c0 : 2 ≤ (b.st.length : Int) ∧ (b.st.length : Int) ≤ 6
  rotate_left
  · have HV : Hid (seatsB b = false) := Lib.hid (seatsB_no (by unfold SeatsP; omega))
    rw [show inB b.st.length 2 6 = false from decide_eq_false c0] at KC
    clear h
    go_enter Try.func75, Try.ntmps75
    go_wp2_with fail
    go_quiet (first
        | (go_at_call 89; exact quiet_left (KS.out _))
        | (go_at_call 138; exact quiet_left (KC.out _)))
    go_wp2_with fail
    go_ret
    exact ⟨ret_bool HV.out.symm, _, rfl⟩
  rw [show inB b.st.length 2 6 = true from inB_yes _ _ _ c0.1 c0.2] at KC
  by_cases c1 : 0 ≤ b.tu
  rotate_left
  · have HV : Hid (seatsB b = false) := Lib.hid (seatsB_no (by unfold SeatsP; omega))
    have c2 : decide (b.tu < 0) = true := decide_eq_true (by omega)
    clear h
    go_enter Try.func75, Try.ntmps75
    go_wp2_with fail
    go_quiet (first
        | (go_at_call 89; exact quiet_left (KS.out _))
        | (go_at_call 138; exact quiet_left (KC.out _)))
    go_wp2_with fail
    go_ret
    exact ⟨ret_bool HV.out.symm, _, rfl⟩
  have c2 : decide (b.tu < 0) = false := decide_eq_false (by omega)
  by_cases c3 : b.tu < b.st.length
  rotate_left
  · have HV : Hid (seatsB b = false) := Lib.hid (seatsB_no (by unfold SeatsP; omega))
    have c4 : decide ((b.st.length : Int) ≤ b.tu) = true := decide_eq_true (by omega)
    clear h
    go_enter Try.func75, Try.ntmps75
    go_wp2_with fail
    go_quiet (first
        | (go_at_call 89; exact quiet_left (KS.out _))
        | (go_at_call 138; exact quiet_left (KC.out _)))
    go_wp2_with fail
    go_ret
    exact ⟨ret_bool HV.out.symm, _, rfl⟩
  have c4 : decide ((b.st.length : Int) ≤ b.tu) = false := decide_eq_false (by omega)
  have HY : Hid (∀ j, j < 4 → lnB b j ≠ b.st.length → seatsB b = false) := Lib.hid (fun j hj hne => seatsB_no (fun q => hne (by
    obtain ⟨t0, t1, t2, t3, t4, t5, t6, t7⟩ := q
    rcases (by omega : j = 0 ∨ j = 1 ∨ j = 2 ∨ j = 3) with rfl | rfl | rfl | rfl
    · exact t4
    · exact t5
    · exact t6
    · exact t7)))
  have HZ : Hid ((∀ j, j < 4 → lnB b j = b.st.length) → seatsB b = someF b.fo ∧ b.fo.length = b.st.length) := Lib.hid (fun q => ⟨seatsB_yes ⟨by omega, by omega, c1, c3, q 0 (by omega), q 1 (by omega), q 2 (by omega), q 3 (by omega)⟩, q 2 (by omega)⟩)
  have KF := Lib.hid (fun n (hl : b.fo.length = b.st.length) => containsF_any L.a4 L.c4 b.fo (w.drewN n) (h.drew n).rd.r4 (by omega))
  clear h
  go_enter Try.func75, Try.ntmps75
  go_wp2_with fail
  go_quiet (first
      | (go_at_call 89; exact quiet_left (KS.out _))
      | (go_at_call 138; exact quiet_left (KC.out _)))
  go_wp2_with fail
  go_quiet (fail)
  go_wp2_with fail
  go_loop [46] (fun q => ∃ k : Nat, k ≤ 4 ∧ q = .int .i64 k ∧ Hid (∀ j, j < k → lnB b j = b.st.length)) (fun q => 4 - (intOf q).toNat)
  case atStart => exact ⟨0, by omega, rfl, Lib.hid (fun j hj => by omega)⟩
  case round =>
    obtain ⟨k, hk, rfl, hs⟩ := hrel
    by_cases hlt : k < 4
    · have hlt' : (k : Int) < 4 := by omega
      have HF := Lib.hid (HY.out k hlt)
      have HX := run_index4 b k hlt
      by_cases hne : lnB b k = b.st.length
      · have HN : Hid (∀ j, j < k + 1 → lnB b j = b.st.length) := Lib.hid (fun j hj => by
          by_cases e : j = k
          · subst e; exact hne
          · exact hs.out j (by omega))
        clear hs HF
        have dn : ((lnB b k : Int) != (b.st.length : Int)) = false := by simp [hne]
        clear hne
        generalize lnB b k = m at HX dn
        go_wp2_with fail
        go_round
        case rel =>
          refine ⟨_, _, _, ?_, rfl, rfl, rfl⟩
          exact ⟨k + 1, by omega, by go_num, HN⟩
        case measure => simp [intOf]; omega
      · have HG := Lib.hid (HF.out hne)
        have dn : ((lnB b k : Int) != (b.st.length : Int)) = true := by simp; omega
        clear hs HF hne
        generalize lnB b k = m at HX dn
        go_wp2_with fail
        go_ret
        exact ⟨ret_bool HG.out.symm, _, rfl⟩
    · obtain rfl : k = 4 := by omega
      obtain ⟨e1, e2⟩ := HZ.out hs.out
      have HE := Lib.hid e1
      have KK := Lib.hid (fun n => KF.out n e2)
      clear hs e1 e2 HY HZ KF
      go_wp2_with (go_at_call 139; refine (KK.out _).mono ?_; rintro e wn ⟨rfl, rfl⟩)
      go_ret
      exact ⟨ret_bool HE.out.symm, _, rfl⟩
end Go.Proofs.Ytnllndcajdofjaa

namespace Go.Proofs.Ytnllndcajdofjaa
open Go.RowKit
set_option linter.unusedVariables false

/-- The three lists of chips. -/
def lsB (b : Bt) : Nat → List Int
  | 0 => b.st
  | 1 => b.bt
  | _ => b.pd
def slB (L : At5) (b : Bt) : Nat → Value
  | 0 => .slice L.a1 b.st.length L.c1
  | 1 => .slice L.a2 b.bt.length L.c2
  | _ => .slice L.a3 b.pd.length L.c3
theorem u3s : Try.prog.underlying 134 = some (.array 3 24) := by kernel_rfl
theorem i3s : (Try.prog.info? 24).map (·.size) = some 1 := by kernel_rfl
set_option maxRecDepth 100000 in
theorem run_index3 (L : At5) (b : Bt) (k : Nat) (hk : k < 3) (W : World) : (Instr.index 134 (.agg #[.slice L.a1 b.st.length L.c1, .slice L.a2 b.bt.length L.c2, .slice L.a3 b.pd.length L.c3]) (.int .i64 k)).run Try.prog W = .ok (slB L b k) W := by
  obtain ⟨i0, hi, hz⟩ : ∃ i, Try.prog.info? 24 = some i ∧ i.size = 1 := by
    cases h : Try.prog.info? 24 with
    | none => have := i3s; rw [h] at this; cases this
    | some i => have := i3s; rw [h] at this; exact ⟨i, rfl, Option.some.inj this⟩
  rcases (by omega : k = 0 ∨ k = 1 ∨ k = 2) with rfl | rfl | rfl <;>
    simp [Instr.index, run_underlying u3s, go_sem, sizeOf, typeInfo, hi, hz, part, isAgg, run_underlying Try.underlying24, slB]
def hcB (b : Bt) : Bool := (sumsB (lsB b 0) && sumsB (lsB b 1) && sumsB (lsB b 2)) && inB (allI b) 0 600000
theorem hcB_no {b : Bt} (k : Nat) (hk : k < 3) (h : sumsB (lsB b k) = false) : hcB b = false := by
  unfold hcB
  rcases (by omega : k = 0 ∨ k = 1 ∨ k = 2) with rfl | rfl | rfl <;> simp [h]
theorem hcB_yes {b : Bt} (h : ∀ k, k < 3 → sumsB (lsB b k) = true) : hcB b = inB (allI b) 0 600000 := by
  unfold hcB; rw [h 0 (by omega), h 1 (by omega), h 2 (by omega)]; rfl
set_option maxRecDepth 100000 in
set_option maxHeartbeats 4000000 in
theorem hasChips_any (g : Nat) (L : At5) (b : Bt) (w : World) (h : BtAt w g L b) (l1 : b.st.length ≤ 6) (l2 : b.bt.length ≤ 6) (l3 : b.pd.length ≤ 6) :
    Calls Try.prog 76 #[.pointer (some ⟨g, 0, none⟩)] w (Qt (.bool (hcB b)) w) := by
  have KA := Lib.hid (fun n k (hk : k < 3) => (show Calls Try.prog 140 #[slB L b k, .func (.func 141) #[] #[]] (w.drewN n) (Same (.bool (sumsB (lsB b k))) (w.drewN n)) from by
    rcases (by omega : k = 0 ∨ k = 1 ∨ k = 2) with rfl | rfl | rfl
    · exact areSums_any L.a1 L.c1 b.st _ (h.drew n).rd.r1 (by show b.st.length ≤ _; omega)
    · exact areSums_any L.a2 L.c2 b.bt _ (h.drew n).rd.r2 (by show b.bt.length ≤ _; omega)
    · exact areSums_any L.a3 L.c3 b.pd _ (h.drew n).rd.r3 (by show b.pd.length ≤ _; omega)))
  have KC := Lib.hid (fun n (hs : ∀ k, k < 3 → sumsB (lsB b k) = true) => chips_any g L b (w.drewN n) (h.drew n) l1 l2 l3 (sumsB_iff.1 (hs 0 (by omega))) (sumsB_iff.1 (hs 1 (by omega))) (sumsB_iff.1 (hs 2 (by omega))))
  have KI := Lib.hid (fun W => isChipSum_any (allI b) W)
  have HI := Lib.hid (fun k (hk : k < 3) => run_index3 L b k hk)
  obtain ⟨q0, _⟩ := h.blk.cell 0 _ rfl
  obtain ⟨q1, _⟩ := h.blk.cell 1 _ rfl
  obtain ⟨q2, _⟩ := h.blk.cell 2 _ rfl
  clear h
  have HEF := Lib.hid (hcB_yes (b := b))
  generalize allI b = t at *
  go_enter Try.func76, Try.ntmps76
  go_wp2_with fail
  go_quiet (fail)
  go_wp2_with fail
  go_loop [18] (fun q => ∃ k : Nat, k ≤ 3 ∧ q = .int .i64 k ∧ Hid (∀ j, j < k → sumsB (lsB b j) = true)) (fun q => 3 - (intOf q).toNat)
  case atStart => exact ⟨0, by omega, rfl, Lib.hid (fun j hj => by omega)⟩
  case round =>
    obtain ⟨k, hk, rfl, hs⟩ := hrel
    by_cases hlt : k < 3
    · have hlt' : (k : Int) < 3 := by omega
      have HX := HI.out k hlt
      have KK := Lib.hid (fun n => KA.out n k hlt)
      rcases hb : sumsB (lsB b k) with _ | _
      · have HF := Lib.hid (hcB_no k hlt hb)
        rw [hb] at KK
        clear hs hb
        generalize slB L b k = v at *
        go_wp2_with (go_at_call 140; refine (KK.out _).mono ?_; rintro e wn ⟨rfl, rfl⟩)
        go_ret
        exact ⟨ret_bool HF.out.symm, _, rfl⟩
      · have HN : Hid (∀ j, j < k + 1 → sumsB (lsB b j) = true) := Lib.hid (fun j hj => by
          by_cases e : j = k
          · subst e; exact hb
          · exact hs.out j (by omega))
        rw [hb] at KK
        clear hs hb
        generalize slB L b k = v at *
        go_wp2_with (go_at_call 140; refine (KK.out _).mono ?_; rintro e wn ⟨rfl, rfl⟩)
        go_round
        case rel =>
          first
          | exact ⟨k + 1, by omega, by go_num, HN⟩
          | (refine ⟨_, _, _, ?_, rfl, rfl, rfl⟩; exact ⟨k + 1, by omega, by go_num, HN⟩)
        case measure => simp [intOf]; omega
    · obtain rfl : k = 3 := by omega
      have HE := Lib.hid (HEF.out hs.out)
      have KK := Lib.hid (fun n => KC.out n hs.out)
      clear hs KC KA HI
      go_wp2_with (first
        | (go_at_call 92; refine (KK.out _).mono ?_; rintro e wn ⟨rfl, m, rfl⟩; rw [World.drewN_drewN])
        | (go_at_call 141; refine (KI.out _).mono ?_; rintro e wn ⟨rfl, rfl⟩))
      go_ret
      exact ⟨ret_bool HE.out.symm, _, rfl⟩
/-- Which rounds are valid, in the program's order. -/
theorem okB_parts {b : Bt} : okB b = (seatsB b && hcB b && inB b.un 1 100000 && inB b.ra 0 4 && inB b.li 0 2) := by
  rcases h : (seatsB b && hcB b && inB b.un 1 100000 && inB b.ra 0 4 && inB b.li 0 2) with _ | _
  · refine ok_no fun k => ?_
    have s : seatsB b = true := by
      rw [seatsB_yes ⟨k.n2, k.n6, k.t0, k.t1, k.l2, k.l3, k.l4, k.l5⟩]
      unfold someF
      obtain ⟨i, hi, e⟩ := k.live
      rw [decide_eq_false (fun q => by have := q i (by rw [k.l4]; exact hi); rw [e] at this; cases this)]; rfl
    have c : hcB b = true := by
      rw [hcB_yes (fun j hj => by
        rcases (by omega : j = 0 ∨ j = 1 ∨ j = 2) with rfl | rfl | rfl
        · exact sumsB_iff.2 k.s1
        · exact sumsB_iff.2 k.s2
        · exact sumsB_iff.2 k.s3)]
      have u1 := sumT_bdC b.st k.s1 _ (Nat.le_refl _)
      have u2 := sumT_bdC b.bt k.s2 _ (Nat.le_refl _)
      have u3 := sumT_bdC b.pd k.s3 _ (Nat.le_refl _)
      exact inB_yes _ _ _ (by unfold allI potI; omega) k.sum
    rw [s, c, inB_yes _ _ _ k.u0 k.u1, inB_yes _ _ _ k.r0 k.r1, inB_yes _ _ _ k.i0 k.i1] at h
    cases h
  · simp only [Bool.and_eq_true] at h
    obtain ⟨⟨⟨⟨h1, h2⟩, h3⟩, h4⟩, h5⟩ := h
    unfold seatsB at h1
    rw [Bool.and_eq_true] at h1
    obtain ⟨h1, h6⟩ := h1
    obtain ⟨n2, n6, t0, t1, l2, l3, l4, l5⟩ := of_decide_eq_true h1
    unfold hcB at h2
    rw [Bool.and_eq_true] at h2
    obtain ⟨h2, h7⟩ := h2
    rw [Bool.and_eq_true, Bool.and_eq_true] at h2
    obtain ⟨⟨g0, g1⟩, g2⟩ := h2
    have h3 : 1 ≤ b.un ∧ b.un ≤ 100000 := by unfold inB at h3; exact of_decide_eq_true h3
    have h4 : 0 ≤ b.ra ∧ b.ra ≤ 4 := by unfold inB at h4; exact of_decide_eq_true h4
    have h5 : 0 ≤ b.li ∧ b.li ≤ 2 := by unfold inB at h5; exact of_decide_eq_true h5
    have h7 : 0 ≤ allI b ∧ allI b ≤ 600000 := by unfold inB at h7; exact of_decide_eq_true h7
    refine ok_yes ⟨n2, n6, t0, t1, l2, l3, l4, l5, ?_, sumsB_iff.1 g0, sumsB_iff.1 g1, sumsB_iff.1 g2, h7.2, h3.1, h3.2, h4.1, h4.2, h5.1, h5.2⟩
    refine Classical.byContradiction fun q => ?_
    unfold someF at h6
    rw [decide_eq_true (fun i hi => by
      rcases e : nthB b.fo i with _ | _
      · exact absurd ⟨i, by omega, e⟩ q
      · rfl)] at h6
    cases h6
/-- A new box of a round. -/
theorem btAt_new {w : World} {L : At5} {b : Bt} (h : Rd5 w L b) : BtAt (w.alloc (.cells (btL L b).toArray 27)) w.heap.size L b := ⟨blk_new w _ _, h.below (bl_alloc (bl_refl w) _)⟩
theorem bl_box {w : World} {L : At5} {b : Bt} : Below w.heap.size w (w.alloc (.cells (btL L b).toArray 27)) := bl_alloc (bl_refl w) _
set_option maxRecDepth 100000 in
set_option maxHeartbeats 4000000 in
theorem implIsBetting_any (L : At5) (b : Bt) (w : World) (h : Rd5 w L b) :
    Calls Try.prog 17 #[bV L b] w (Fresh (.bool (okB b)) w) := by
  have BT := btAt_new h
  have B := Lib.hid (bl_box (w := w) (L := L) (b := b))
  have KS := Lib.hid (fun n => hasSeats_any w.heap.size L b _ (BT.drew n))
  have KH := Lib.hid (fun n (k : SeatsP b) => hasChips_any w.heap.size L b _ (BT.drew n) k.2.1 (by have := k.2.2.2.2.1; have := k.2.1; omega) (by have := k.2.2.2.2.2.1; have := k.2.1; omega))
  have KU := Lib.hid (fun W => isStack_any b.un W)
  have KL := Lib.hid (fun W => isLimit_any b.li W)
  have HO := Lib.hid (okB_parts (b := b))
  obtain ⟨q6, _⟩ := BT.blk.cell 6 _ rfl
  obtain ⟨q7, _⟩ := BT.blk.cell 7 _ rfl
  obtain ⟨q8, _⟩ := BT.blk.cell 8 _ rfl
  clear h BT
  unfold bV
  generalize okB b = r at *
  generalize inB b.un 1 100000 = r2 at *
  generalize inB b.li 0 2 = r4 at *
  rcases hs : seatsB b with _ | _
  · rw [hs] at KS HO
    have HV : Hid (r = false) := Lib.hid (by rw [HO.out]; rfl)
    clear hs HO
    go_enter Try.func17, Try.ntmps17
    go_wp2_with (first
        | (go_at_call 75; refine (KS.out 0).mono ?_; rintro e wn ⟨rfl, m1, rfl⟩; rw [World.drewN_drewN]))
    go_ret
    exact ⟨ret_bool HV.out.symm, bl_drewN B.out _⟩
  have kp : SeatsP b := by unfold seatsB at hs; rw [Bool.and_eq_true] at hs; exact of_decide_eq_true hs.1
  have KK := Lib.hid (fun n => KH.out n kp)
  rw [hs] at KS HO
  clear hs kp KH
  generalize hcB b = r1 at *
  rcases r1 with _ | _
  · have HV : Hid (r = false) := Lib.hid (by rw [HO.out]; rfl)
    clear HO
    go_enter Try.func17, Try.ntmps17
    go_wp2_with (first
        | (go_at_call 75; refine (KS.out 0).mono ?_; rintro e wn ⟨rfl, m1, rfl⟩; rw [World.drewN_drewN])
        | (go_at_call 76; refine (KK.out _).mono ?_; rintro e wn ⟨rfl, m2, rfl⟩; rw [World.drewN_drewN]))
    go_ret
    exact ⟨ret_bool HV.out.symm, bl_drewN B.out _⟩
  rcases r2 with _ | _
  · have HV : Hid (r = false) := Lib.hid (by rw [HO.out]; rfl)
    clear HO
    go_enter Try.func17, Try.ntmps17
    go_wp2_with (first
        | (go_at_call 75; refine (KS.out 0).mono ?_; rintro e wn ⟨rfl, m1, rfl⟩; rw [World.drewN_drewN])
        | (go_at_call 76; refine (KK.out _).mono ?_; rintro e wn ⟨rfl, m2, rfl⟩; rw [World.drewN_drewN])
        | (go_at_call 77; refine (KU.out _).mono ?_; rintro e wn ⟨rfl, rfl⟩))
    go_ret
    exact ⟨ret_bool HV.out.symm, bl_drewN B.out _⟩
  by_cases c1 : 0 ≤ b.ra
  rotate_left
  · have HV : Hid (r = false) := Lib.hid (by rw [HO.out, inB_lo b.ra 0 4 (by omega)]; rfl)
    have c2 : decide (0 ≤ b.ra) = false := decide_eq_false c1
    clear HO
    go_enter Try.func17, Try.ntmps17
    go_wp2_with (first
        | (go_at_call 75; refine (KS.out 0).mono ?_; rintro e wn ⟨rfl, m1, rfl⟩; rw [World.drewN_drewN])
        | (go_at_call 76; refine (KK.out _).mono ?_; rintro e wn ⟨rfl, m2, rfl⟩; rw [World.drewN_drewN])
        | (go_at_call 77; refine (KU.out _).mono ?_; rintro e wn ⟨rfl, rfl⟩))
    go_ret
    exact ⟨ret_bool HV.out.symm, bl_drewN B.out _⟩
  have c2 : decide (0 ≤ b.ra) = true := decide_eq_true c1
  by_cases c3 : b.ra ≤ 4
  rotate_left
  · have HV : Hid (r = false) := Lib.hid (by rw [HO.out, show inB b.ra 0 4 = false from decide_eq_false (by omega)]; rfl)
    have c4 : decide (b.ra ≤ 4) = false := decide_eq_false c3
    clear HO
    go_enter Try.func17, Try.ntmps17
    go_wp2_with (first
        | (go_at_call 75; refine (KS.out 0).mono ?_; rintro e wn ⟨rfl, m1, rfl⟩; rw [World.drewN_drewN])
        | (go_at_call 76; refine (KK.out _).mono ?_; rintro e wn ⟨rfl, m2, rfl⟩; rw [World.drewN_drewN])
        | (go_at_call 77; refine (KU.out _).mono ?_; rintro e wn ⟨rfl, rfl⟩))
    go_ret
    exact ⟨ret_bool HV.out.symm, bl_drewN B.out _⟩
  · have HV : Hid (r = r4) := Lib.hid (by rw [HO.out, inB_yes b.ra 0 4 c1 c3]; simp)
    have c4 : decide (b.ra ≤ 4) = true := decide_eq_true c3
    clear HO
    go_enter Try.func17, Try.ntmps17
    go_wp2_with (first
        | (go_at_call 75; refine (KS.out 0).mono ?_; rintro e wn ⟨rfl, m1, rfl⟩; rw [World.drewN_drewN])
        | (go_at_call 76; refine (KK.out _).mono ?_; rintro e wn ⟨rfl, m2, rfl⟩; rw [World.drewN_drewN])
        | (go_at_call 77; refine (KU.out _).mono ?_; rintro e wn ⟨rfl, rfl⟩)
        | (go_at_call 78; refine (KL.out _).mono ?_; rintro e wn ⟨rfl, rfl⟩))
    go_ret
    exact ⟨ret_bool HV.out.symm, bl_drewN B.out _⟩
end Go.Proofs.Ytnllndcajdofjaa
