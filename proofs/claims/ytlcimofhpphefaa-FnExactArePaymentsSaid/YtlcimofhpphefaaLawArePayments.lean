/-
  The law FnExactArePayments returns true for every two lists, and leaves them as they were: ArePayments answers as its model.
  No condition.
-/
import Derived.Test.YtlcimofhpphefaaPayA
import Derived.Test.YtlcimofhpphefaaMark
import Derived.Lib.SmallJoins
namespace Go.Proofs.Ytlcimofhpphefaa
open Go.ChangeShapes Go.WideShapes Go.ChangeAt Go.RowKit Go.Joins
set_option linter.unusedVariables false

set_option maxRecDepth 100000 in
set_option maxHeartbeats 1000000 in
theorem walkArePayments (A : Option Addr) (c : Nat) (xs : List Int) (B : Option Addr) (d : Nat) (bs : List Bool) (w : World) (hm : xs.length ≤ maxLen) (hr : Rd w A xs) (hn : bs.length ≤ maxLen) (hb : RdB w B bs) :
    Calls Try.prog 3 #[.slice A xs.length c, .slice B bs.length d] w (Fresh (.bool true) w) := by
  unfold maxLen at hm hn
  by_cases h1 : xs.length ≤ 1048576
  rotate_left
  · have g1 : decide ((xs.length : Int) > 1048576) = true := decide_eq_true (by omega)
    go_enter Try.func3, Try.ntmps3
    go_wp2_with fail
    go_ret
    exact ⟨rfl, bl_refl _⟩
  have g1 : decide ((xs.length : Int) > 1048576) = false := decide_eq_false (by omega)
  by_cases h2 : bs.length ≤ 1048576
  rotate_left
  · have g2 : decide ((bs.length : Int) > 1048576) = true := decide_eq_true (by omega)
    go_enter Try.func3, Try.ntmps3
    go_wp2_with fail
    go_ret
    exact ⟨rfl, bl_refl _⟩
  have g2 : decide ((bs.length : Int) > 1048576) = false := decide_eq_false (by omega)
  have KT := Lib.hid (fun (W : World) (h : Below w.heap.size w W) => toInts_any A c xs W (hr.below h) h1)
  have KU := Lib.hid (fun (W : World) (h : Below w.heap.size w W) => toBools_any B d bs W (hb.below h) h2)
  have KM := Lib.hid (fun (A : Option Addr) (c : Nat) (B : Option Addr) (d : Nat) (W : World) (h : Rd W A xs) (h' : RdB W B bs) => specPay_any A c xs B d bs W h h' (by omega) (by omega))
  have KI := Lib.hid (fun (A : Option Addr) (c : Nat) (B : Option Addr) (d : Nat) (W : World) (h : Rd W A xs) (h' : RdB W B bs) => implPay_any A c xs B d bs W h h' (by omega) (by omega))
  generalize payB xs bs = pv at *
  clear hr hb
  go_enter Try.func3, Try.ntmps3
  go_wp2_with (go_at_call 13; refine (KT.out _ (bl_refl _)).mono ?_; rintro e w1 ⟨A1, c1, rfl, ho, hb⟩; have O1 := Lib.hid ho; have X1 := Lib.hid hb; clear ho hb)
  go_wp2_with (go_at_call 14; refine (KU.out _ X1.out).mono ?_; rintro e w2 ⟨B1, d1, rfl, ho, hb⟩; have P2 := Lib.hid ho; have O2 := Lib.hid (O1.out.below hb); have X2 := Lib.hid (bl_trans X1.out hb); clear ho hb O1)
  go_wp2_with (go_at_call 12; refine (KM.out _ _ _ _ _ O2.out.rd P2.out.rd).mono ?_; rintro e w3 ⟨rfl, rfl⟩)
  go_wp2_with (go_at_call 13; refine (KT.out _ X2.out).mono ?_; rintro e w4 ⟨A4, c4, rfl, ho, hb⟩; have O4 := Lib.hid ho; have X4 := Lib.hid (bl_trans X2.out hb); clear ho hb)
  go_wp2_with (go_at_call 14; refine (KU.out _ X4.out).mono ?_; rintro e w5 ⟨B5, d5, rfl, ho, hb⟩; have P5 := Lib.hid ho; have O5 := Lib.hid (O4.out.below hb); have X5 := Lib.hid (bl_trans X4.out hb); clear ho hb O4)
  have u9 : (pv != pv) = false := by simp
  go_wp2_with (go_at_call 15; refine (KI.out _ _ _ _ _ O5.out.rd P5.out.rd).mono ?_; rintro e w6 ⟨rfl, rfl⟩)
  go_wp2_with (go_at_call 13; refine (KT.out _ X5.out).mono ?_; rintro e w7 ⟨A7, c7, rfl, ho, hb⟩; have O7 := Lib.hid ho; have O6 := Lib.hid (O5.out.below hb); have P7 := Lib.hid (P5.out.below hb); have X7 := Lib.hid (bl_trans X5.out hb); clear ho hb)
  have KE := Lib.hid (eqInts_same A4 A7 c4 c7 xs _ O6.out.rd O7.out.rd (by omega))
  go_wp2_with (go_at_call 16; refine KE.out.mono ?_; rintro e w8 ⟨rfl, hb⟩; have P8 := Lib.hid (P7.out.below hb); have X8 := Lib.hid (bl_trans X7.out hb); clear hb KE)
  go_wp2_with (go_at_call 14; refine (KU.out _ X8.out).mono ?_; rintro e w9 ⟨B9, d9, rfl, ho, hb⟩; have P9 := Lib.hid ho; have P10 := Lib.hid (P8.out.below hb); have X9 := Lib.hid (bl_trans X8.out hb); clear ho hb)
  have KF := Lib.hid (eqBools_same B5 B9 d5 d9 bs _ P10.out.rd P9.out.rd (by omega))
  go_wp2_with (go_at_call 17; refine KF.out.mono ?_; rintro e wa ⟨rfl, hb⟩; have Xa := Lib.hid (bl_trans X9.out hb); clear hb KF)
  go_ret
  exact ⟨rfl, Xa.out⟩

set_option maxRecDepth 100000 in
theorem fnExactArePayments_lifted (os : Go.Os) (started : os.Started) (H : Type) (enc : TypeId × Value → H) :
    ReturnsInHanded {} Try.checked os 3 .any (Rows.fnExactArePaymentsSpec.pre6 enc Try.prog Try.f3 Rows.fnExactArePaymentsRow.domain false) (Rows.fnExactArePaymentsSpec.post enc Try.prog Try.f3 false true false false) := by
  refine law_lifted started (by kernel_rfl) Try.func3 (by kernel_rfl) rfl (fun ds h => ?_) ?_
    (ChangeSpec.witness6 (enc := enc) (C := Try.checked) false ⟨#[], #[.slice none 0 0, .slice none 0 0], []⟩ 8 (by kernel_rfl) (by kernel_rfl) (by kernel_rfl) (by kernel_rfl)) ?_
  · match ds, h with
    | [d0, d1], _ => rfl
  · rw [Try.params3]
    intro t ht
    rcases (show t = 22 ∨ t = 23 by simpa using ht) with rfl | rfl <;> exact ⟨by kernel_rfl, of_decide_eq_true (by kernel_rfl)⟩
  · intro W base args ds ps hval hA
    rw [Try.params3] at hA hval
    obtain ⟨v0, v1, d0, d1, p0, p1, rfl, rfl, rfl, h0, h1⟩ := trodAll_two hA
    obtain ⟨A0, c0, xs0, rfl, m0, r0⟩ := open_list (hval 0 22 v0 rfl rfl) h0
    obtain ⟨B1, d1, bs1, rfl, mb1, rb1⟩ := open_blist (hval 1 23 v1 rfl rfl) h1
    exact walkArePayments A0 c0 xs0 B1 d1 bs1 W m0 r0 mb1 rb1

/-- ArePayments answers as its model, for every two lists. -/
theorem fnExactArePayments_holds : Rows.FnExactArePaymentsSaid :=
  OpenClaim.holds_of_wide 3 Try.f3 rfl rfl rfl rfl rfl rfl rfl ⟨rfl, rfl, rfl, rfl, rfl⟩ rfl rfl rfl rfl rfl (by kernel_rfl) Try.func3 (by kernel_rfl)
    (of_decide_eq_true (by kernel_rfl)) (by unfold Func.isWrapper; first | (rw [if_pos (by decide +kernel)]; kernel_rfl) | (rw [if_neg (by decide +kernel)]; exact ⟨rfl, rfl⟩))
    (fun os started H enc _ => fnExactArePayments_lifted os started H enc)
end Go.Proofs.Ytlcimofhpphefaa
