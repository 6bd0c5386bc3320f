/-
  The model's CanonicalCards.
-/
import Derived.Test.YtilbkgnjgmlhjaaDoorCanonPure
namespace Go.Proofs.YtilbkgnjgmlhjaaDoor
open Go.RowKit
set_option linter.unusedVariables false

theorem leastK_B (F : Nat → List Int) (q : Nat) (h1 : 1 ≤ q) :
    (lexLt (F q) (F (leastK F (q - 1))) = true → leastK F q = q) ∧ (lexLt (F q) (F (leastK F (q - 1))) = false → leastK F q = leastK F (q - 1)) := by
  obtain ⟨n, rfl⟩ : ∃ n, q = n + 1 := ⟨q - 1, by omega⟩
  rw [Nat.add_sub_cancel]
  exact ⟨leastK_yes, leastK_no⟩
/-- What a call leaves that returns a row of its own. -/
def NewR1 (xs : List Int) (w : World) (e : Ending) (w' : World) : Prop := ∃ A c, e = .returned (.slice A xs.length c) ∧ Row w' w.heap.size A xs ∧ Below w.heap.size w w'
set_option maxRecDepth 100000 in
set_option maxHeartbeats 2000000 in
theorem l07Canonical_any (A : Option Addr) (c : Nat) (xs : List Int) (w : World) (hr : Rd w A xs) (hc : cardsB xs = true) :
    Calls Tryd.prog 72 #[.slice A xs.length c] w (NewR1 (imgS xs (leastK (imgS xs) 23)) w) := by
  have KI := Lib.hid (fun (W : World) (h : Below w.heap.size w W) => l07Images_any A c xs W (hr.below h) hc)
  have HL := Lib.hid (imgS_len xs)
  have HN := deck_len xs hc
  have HK := Lib.hid (leastK_B (imgS xs))
  have HLE := Lib.hid (leastK_le (imgS xs))
  have HZ : Hid (leastK (imgS xs) 0 = 0) := Lib.hid rfl
  have KL := Lib.hid l05Less_any
  clear hr hc
  generalize leastK (imgS xs) = K at *
  generalize imgS xs = F at *
  obtain ⟨w0, rfl⟩ : ∃ w0 : World, w0 = w := ⟨w, rfl⟩
  go_enter Tryd.func72, Tryd.ntmps72
  go_wp2_with (go_at_call 101; refine (KI.out _ (bl_refl _)).mono ?_; rintro e w2 ⟨A2, c2, AA, CC, rfl, hf2, hb2⟩
               have HF := Lib.hid hf2; have B2 := Lib.hid hb2
               obtain ⟨g, o, rfl, hc0⟩ := hf2.at_ (bl_refl _) 0 (by omega)
               rw [HL.out, Nat.add_zero] at hc0
               clear hf2 hb2)
  go_loopw [4, 5] (fun v i wr => ∃ q : Nat, 1 ≤ q ∧ q ≤ 24 ∧ i = .int .i64 q ∧ v = .slice (AA (K (q - 1))) xs.length (CC (K (q - 1))) ∧ Hid (Below w2.heap.size w2 wr)) (fun _ i _ => 24 - (intOf i).toNat)
  case atStart => exact ⟨1, by omega, by omega, rfl, by rw [Nat.sub_self, HZ.out], Lib.hid (bl_refl _)⟩
  case round =>
    obtain ⟨q, hq1, hq, rfl, rfl, hb⟩ := hrel
    by_cases hlt : q < 24
    · have hlt' : (q : Int) < 24 := by omega
      have hq1' : (0 : Int) ≤ q := by omega
      have hle := HLE.out (q - 1)
      obtain ⟨g', o', e', hck⟩ := HF.out.at_ hb.out q hlt
      obtain ⟨rfl, rfl⟩ : g = g' ∧ o = o' := by injection e' with e'; injection e' with e1 e2; exact ⟨e1, e2⟩
      rw [HL.out] at hck
      have HCK : Hid (∀ W, Below w2.heap.size w2 W → W.cell? ⟨g, o + q, none⟩ = some (.slice (AA q) xs.length (CC q))) := Lib.hid (fun W hW => by
        obtain ⟨g2, o2, e2, hc2⟩ := HF.out.at_ hW q hlt
        rw [HL.out] at hc2
        obtain ⟨rfl, rfl⟩ : g = g2 ∧ o = o2 := by injection e2 with e2; injection e2 with e3 e4; exact ⟨e3, e4⟩
        exact hc2)
      have K1 : Hid (Calls Tryd.prog 102 #[.slice (AA q) xs.length (CC q), .slice (AA (K (q - 1))) xs.length (CC (K (q - 1)))] wr (Fresh (.bool (lexLt (F q) (F (K (q - 1))))) wr)) := Lib.hid (by
        have := KL.out (AA q) (AA (K (q - 1))) (CC q) (CC (K (q - 1))) (F q) (F (K (q - 1))) wr ((HF.out.row q hlt).rd.below hb.out) ((HF.out.row (K (q - 1)) (by omega)).rd.below hb.out) (by rw [HL.out, HL.out]) (by rw [HL.out]; omega)
        rwa [HL.out, HL.out] at this)
      have HKq := Lib.hid (HK.out q hq1)
      clear e' hle
      cases hx : lexLt (F q) (F (K (q - 1)))
      · have EK := Lib.hid (HKq.out.2 hx)
        rw [hx] at K1
        clear HKq hx
        generalize hkq : K (q - 1) = kq at *
        clear hkq
        go_wp2_with (go_at_call 102; refine (K1.out).mono ?_; rintro e w3 ⟨rfl, hb3⟩; have HB3 := Lib.hid (bl_trans hb.out hb3); have hc3 := HCK.out _ HB3.out; clear hb3)
        go_roundw
        case rel => exact ⟨q + 1, by omega, by omega, by go_num, by rw [Nat.add_sub_cancel, EK.out], HB3⟩
        case measure => simp [intOf]; omega
      · have EK := Lib.hid (HKq.out.1 hx)
        rw [hx] at K1
        clear HKq hx
        generalize hkq : K (q - 1) = kq at *
        clear hkq
        go_wp2_with (go_at_call 102; refine (K1.out).mono ?_; rintro e w3 ⟨rfl, hb3⟩; have HB3 := Lib.hid (bl_trans hb.out hb3); have hc3 := HCK.out _ HB3.out; clear hb3)
        go_roundw
        case rel => exact ⟨q + 1, by omega, by omega, by go_num, by rw [Nat.add_sub_cancel, EK.out], HB3⟩
        case measure => simp [intOf]; omega
    · obtain rfl : q = 24 := by omega
      have hkb := HLE.out 23
      have HROW := Lib.hid ((HF.out.row (K 23) (by omega)).below hb.out)
      have HLB := Lib.hid (HL.out (K 23))
      go_wp2_with fail
      go_ret
      exact ⟨AA (K 23), CC (K 23), by rw [HLB.out]; rfl, HROW.out, bl_trans B2.out hb.out⟩
set_option maxRecDepth 100000 in
set_option maxHeartbeats 1000000 in
theorem specCanon_any (A : Option Addr) (c : Nat) (xs : List Int) (w : World) (hr : Rd w A xs) (hn : xs.length ≤ 4000000) :
    Calls Tryd.prog 39 #[.slice A xs.length c] w (NewRC (canR xs) (codeC xs) w) := by
  have KA := Lib.hid (specAre_any A c xs w hr hn)
  by_cases hd : cardsB xs = true
  · have e1 : canR xs = imgS xs (leastK (imgS xs) 23) := by unfold canR; rw [if_pos hd]
    have e2 : codeC xs = 0 := by unfold codeC; rw [if_pos hd]
    rw [e1, e2]
    rw [hd] at KA
    have KN := Lib.hid (fun (W : World) (h : Below w.heap.size w W) => l07Canonical_any A c xs W (hr.below h) hd)
    clear hr hd e1 e2
    generalize imgS xs (leastK (imgS xs) 23) = ys at *
    go_enter Tryd.func39, Tryd.ntmps39
    go_wp2_with (first
      | (go_at_call 60; refine (KA.out).mono ?_; rintro e w1 ⟨rfl, hb1⟩; have B1 := Lib.hid hb1; clear hb1)
      | (go_at_call 72; refine (KN.out _ B1.out).mono ?_; rintro e w2 ⟨A2, c2, rfl, ho2, hb2⟩; have O2 := Lib.hid (ho2.less B1.out.size); have B2 := Lib.hid (bl_trans B1.out hb2); clear ho2 hb2))
    go_ret2
    exact ⟨_, _, rfl, O2.out, B2.out⟩
  · have hf : cardsB xs = false := by simpa using hd
    have e1 : canR xs = [] := by unfold canR; rw [if_neg hd]
    have e2 : codeC xs = 1 := by unfold codeC; rw [if_neg hd]
    rw [e1, e2]
    rw [hf] at KA
    clear hr hd hf e1 e2
    go_enter Tryd.func39, Tryd.ntmps39
    go_wp2_with (go_at_call 60; refine (KA.out).mono ?_; rintro e w1 ⟨rfl, hb1⟩)
    go_ret2
    exact ⟨none, 0, rfl, Row.nil _ _, hb1⟩
end Go.Proofs.YtilbkgnjgmlhjaaDoor
