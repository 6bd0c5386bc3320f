/-
  HighIn of the model.
-/
import Derived.Test.YtjmfecjgomkofabDoorHighInFns
import Derived.Test.YtjmfecjgomkofabDoorSpecHands6
import Derived.Test.YtjmfecjgomkofabDoorSpecCode6
namespace Go.Proofs.YtjmfecjgomkofabDoor
open Go.RowKit
set_option linter.unusedVariables false

set_option maxRecDepth 100000 in
set_option maxHeartbeats 4000000 in
theorem specHighIn_yes (l m : Nat) (lo : Int) (A : Option Addr) (c : Nat) (hs : List Int) (A2 : Option Addr) (c2 : Nat) (bs : List Int) (w : World) (hcz : codeH (hs.length : Int) l m (bs.length : Int) true lo hs bs = 0) (hr : Rd w A hs) (hr2 : Rd w A2 bs) (hc : hs.length ≤ c) (hc2 : bs.length ≤ c2) :
    Calls Tryd.prog 22 #[vV (hs.length : Int) l m (bs.length : Int) true lo, .slice A hs.length c, .slice A2 bs.length c2] w (Fresh (pairV (hiV l m hs bs) 0) w) := by
  obtain ⟨hvB, _⟩ := code_zero hcz
  have hcc := code_cards hcz
  obtain ⟨⟨f1, f2⟩, ⟨f3, f4⟩, ⟨f5, f6⟩, ⟨f7, f8⟩, f9⟩ := hasCards_iff.1 (isVar_cards hvB)
  have hh : hs.length ≤ 7 := by omega
  have hb7 : bs.length ≤ 7 := by omega
  have hlm : l ≤ m := by omega
  have hm5 : m ≤ 5 := by omega
  have hm64 : i64B (m : Int) := by unfold i64B; omega
  have HR := Lib.hid hr
  have HR2 := Lib.hid hr2
  have KC := Lib.hid (fun (W : World) (hb : Below w.heap.size w W) => specCode_any (hs.length : Int) l m (bs.length : Int) true lo A c hs A2 c2 bs W hm64 (HR.out.below hb) (HR2.out.below hb) (by omega) (by omega))
  rw [hcz] at KC
  have KH := Lib.hid (fun (W : World) (hb : Below w.heap.size w W) => specHands_any l m (hs.length : Int) true lo A c hs A2 c2 bs W hlm hm5 hh hb7 (HR.out.below hb) (HR2.out.below hb) hc hc2)
  have HCC := Lib.hid (hRows_cards_at hs bs l (m + 1 - l) (by omega) hcc)
  have HT := hRows_le hs bs l hh hb7 (m + 1 - l) (by omega)
  have HT2 : (m + 1 - l) * 1225 ≤ 6 * 1225 := Nat.mul_le_mul_right _ (by omega)
  have hH : (hRows hs bs l (m + 1 - l)).length ≤ 4000000 := by omega
  have ev : hiV l m hs bs = topV (fun k => hv ((hRows hs bs l (m + 1 - l)).getD k [])) (hRows hs bs l (m + 1 - l)).length := rfl
  rw [ev]
  have N0 := Lib.hid (blk_new w 40 [.int .i64 (hs.length : Int), .int .i64 (l : Int), .int .i64 (m : Int), .int .i64 (bs.length : Int), .bool true, .int .i64 lo])
  have B0 := Lib.hid (bl_alloc (bl_refl w) (.cells ([.int .i64 (hs.length : Int), .int .i64 (l : Int), .int .i64 (m : Int), .int .i64 (bs.length : Int), .bool true, .int .i64 lo] : List Value).toArray 40))
  obtain ⟨L, eL⟩ : ∃ L, L = hRows hs bs l (m + 1 - l) := ⟨_, rfl⟩
  unfold HandsFam at KH
  rw [← eL] at KH HCC hH ⊢
  have KT : Hid (∀ (A5 : Option Addr) (c5 : Nat) (AA : Nat → Option Addr) (CC : Nat → Nat) (n : Nat) (w2 : World), Fam w2 n A5 L.length (fun h => L.getD h []) AA CC → Calls Tryd.prog 56 #[.slice A5 L.length c5] w2 (Fresh (.tuple #[.int .i64 (topI (fun k => hv (L.getD k [])) L.length : Nat), .int .i64 (topV (fun k => hv (L.getD k [])) L.length)]) w2)) :=
    Lib.hid (fun A5 c5 AA CC n w2 hf => l06High_of A5 c5 n L.length (fun h => L.getD h []) AA CC (fun k => hv (L.getD k [])) w2 hf (fun k hk => (HCC.out k hk).2) hH
      (fun k hk W hb => l04Value_any (AA k) (CC k) (L.getD k []) W ((hf.below hb).row k hk).rd (HCC.out k hk).2 (HCC.out k hk).1))
  generalize topV (fun k => hv (L.getD k [])) L.length = x at *
  generalize topI (fun k => hv (L.getD k [])) L.length = ix at *
  clear hr hr2 hvB hcz hcc f1 f2 f3 f4 f5 f6 f7 f8 f9 hm64 ev HT HT2 eL HCC
  unfold vV at *
  go_enter Tryd.func22, Tryd.ntmps22
  go_wp2_with (first
    | (go_at_call 55; refine (KC.out _ B0.out).mono ?_; rintro e w1 ⟨rfl, hb1⟩; have N1 := N0.out.below hb1; have B1 := Lib.hid (bl_trans B0.out hb1); clear hb1; obtain ⟨q0, _⟩ := N1.cell 0 _ rfl; obtain ⟨q1, _⟩ := N1.cell 1 _ rfl; obtain ⟨q2, _⟩ := N1.cell 2 _ rfl; obtain ⟨q3, _⟩ := N1.cell 3 _ rfl; obtain ⟨q4, _⟩ := N1.cell 4 _ rfl; obtain ⟨q5, _⟩ := N1.cell 5 _ rfl; clear N1)
    | (go_at_call 57; refine (KH.out _ B1.out).mono ?_; rintro e w2 ⟨A5, c5, AA, CC, rfl, hf, hb2⟩; have F2 := Lib.hid hf; have B2 := Lib.hid (bl_trans B1.out hb2); clear hf hb2)
    | (go_at_call 56; refine (KT.out _ _ _ _ _ _ F2.out).mono ?_; rintro e w3 ⟨rfl, hb3⟩; have B3 := Lib.hid (bl_trans B2.out hb3); clear hb3))
  go_ret2
  exact ⟨rfl, B3.out⟩
set_option maxRecDepth 100000 in
set_option maxHeartbeats 4000000 in
theorem specHighIn_any (h l m b : Int) (hi : Bool) (lo : Int) (A : Option Addr) (c : Nat) (hs : List Int) (A2 : Option Addr) (c2 : Nat) (bs : List Int) (w : World) (hm64 : i64B m) (hr : Rd w A hs) (hr2 : Rd w A2 bs) (hn : hs.length ≤ 2000000) (hn2 : bs.length ≤ 2000000) (hc : hs.length ≤ c) (hc2 : bs.length ≤ c2) :
    Calls Tryd.prog 22 #[vV h l m b hi lo, .slice A hs.length c, .slice A2 bs.length c2] w (Fresh (pairV (hiR h l m b hi lo hs bs) (hiC h l m b hi lo hs bs)) w) := by
  by_cases h0 : codeH h l m b hi lo hs bs = 0
  · cases hi with
    | true =>
      obtain ⟨hv, e1, e2⟩ := code_zero h0
      subst e1
      subst e2
      obtain ⟨_, _, ⟨f5, f6⟩, _⟩ := hasCards_iff.1 (isVar_cards hv)
      obtain ⟨l', rfl⟩ := Int.eq_ofNat_of_zero_le f5
      obtain ⟨m', rfl⟩ := Int.eq_ofNat_of_zero_le (Int.le_trans f5 f6)
      have e : hiC (hs.length : Int) l' m' (bs.length : Int) true lo hs bs = 0 := by unfold hiC; rw [if_pos h0]; rfl
      unfold hiR
      rw [if_pos e, e]
      exact specHighIn_yes l' m' lo A c hs A2 c2 bs w h0 hr hr2 hc hc2
    | false =>
      have e : hiC h l m b false lo hs bs = 5 := by unfold hiC; rw [if_pos h0]; rfl
      have e2 : hiR h l m b false lo hs bs = 0 := by unfold hiR; rw [e]; rfl
      rw [e, e2]
      have KC := Lib.hid (fun (W : World) (hb : Below w.heap.size w W) => specCode_any h l m b false lo A c hs A2 c2 bs W hm64 (hr.below hb) (hr2.below hb) hn hn2)
      rw [h0] at KC
      have N0 := Lib.hid (blk_new w 40 [.int .i64 h, .int .i64 l, .int .i64 m, .int .i64 b, .bool false, .int .i64 lo])
      have B0 := Lib.hid (bl_alloc (bl_refl w) (.cells ([.int .i64 h, .int .i64 l, .int .i64 m, .int .i64 b, .bool false, .int .i64 lo] : List Value).toArray 40))
      clear hr hr2 h0 e e2
      unfold vV at *
      go_enter Tryd.func22, Tryd.ntmps22
      go_wp2_with (go_at_call 55; refine (KC.out _ B0.out).mono ?_; rintro e w1 ⟨rfl, hb1⟩; have HN1 := N0.out.below hb1; have B1 := Lib.hid (bl_trans B0.out hb1); clear hb1; obtain ⟨q4, _⟩ := HN1.cell 4 _ rfl; clear HN1)
      go_ret2
      exact ⟨rfl, B1.out⟩
  · have e : hiC h l m b hi lo hs bs = codeH h l m b hi lo hs bs := by unfold hiC; rw [if_neg h0]
    have e2 : hiR h l m b hi lo hs bs = 0 := by unfold hiR; rw [e, if_neg h0]
    rw [e, e2]
    have KC := Lib.hid (fun (W : World) (hb : Below w.heap.size w W) => specCode_any h l m b hi lo A c hs A2 c2 bs W hm64 (hr.below hb) (hr2.below hb) hn hn2)
    have B0 := Lib.hid (bl_alloc (bl_refl w) (.cells ([.int .i64 h, .int .i64 l, .int .i64 m, .int .i64 b, .bool hi, .int .i64 lo] : List Value).toArray 40))
    clear e e2
    generalize codeH h l m b hi lo hs bs = k at *
    have hk : (k == 0) = false := by simp [h0]
    clear hr hr2
    unfold vV at *
    go_enter Tryd.func22, Tryd.ntmps22
    go_wp2_with (go_at_call 55; refine (KC.out _ B0.out).mono ?_; rintro e w1 ⟨rfl, hb1⟩; have B1 := Lib.hid (bl_trans B0.out hb1); clear hb1)
    go_ret2
    exact ⟨rfl, B1.out⟩
end Go.Proofs.YtjmfecjgomkofabDoor
