/-
  HandsIn: what the program's and the model's answer.
-/
import Derived.Test.YtlpkaflmhdgmmaaGreatDoorImplHands
import Derived.Test.YtlpkaflmhdgmmaaGreatDoorSpecCode6
namespace Go.Proofs.YtlpkaflmhdgmmaaGreatDoor
open Go.RowKit
set_option linter.unusedVariables false

/-- The hands, where there is no error. -/
def handsH (l m : Int) (hs bs : List Int) : List (List Int) := hRows hs bs l.toNat (m.toNat + 1 - l.toNat)
def nH (code l m : Int) (hs bs : List Int) : Nat := if code = 0 then (handsH l m hs bs).length else 0
def rH (l m : Int) (hs bs : List Int) : Nat → List Int := fun j => (handsH l m hs bs).getD j []
theorem code_zero {h l m b : Int} {hi : Bool} {lo : Int} {hs bs : List Int} (h0 : codeH h l m b hi lo hs bs = 0) : isVarB h l m b hi lo = true ∧ (hs.length : Int) = h ∧ (bs.length : Int) = b := by
  unfold codeH at h0
  split at h0
  · rename_i hv
    split at h0
    · rename_i hq
      exact ⟨hv, hq.1, hq.2.1⟩
    · omega
  · omega
theorem nH_no {code l m : Int} {hs bs : List Int} (h : ¬ code = 0) : nH code l m hs bs = 0 := by unfold nH; rw [if_neg h]
theorem hRows_mem (hs bs : List Int) (l : Nat) (hh : hs.length ≤ 7) (hb : bs.length ≤ 7) : ∀ M, l + M ≤ 6 → ∀ x ∈ hRows hs bs l M, x.length = 5 := fun M hM x hx => by
  unfold hRows at hx
  obtain ⟨j, hj, h⟩ := List.mem_flatMap.1 hx
  have := List.mem_range.1 hj
  exact hRow_five hs bs (l + j) hh hb (by omega) x h
theorem getD_len5 (L : List (List Int)) (h : ∀ x ∈ L, x.length = 5) (j : Nat) : (L.getD j []).length ≤ 5 := by
  rw [List.getD_eq_getElem?_getD]
  by_cases hj : j < L.length
  · rw [List.getElem?_eq_getElem hj]
    exact Nat.le_of_eq (h _ (List.getElem_mem hj))
  · rw [List.getElem?_eq_none (by omega)]; simp
/-- How many, and how long. -/
theorem hands_bd {h l m b : Int} {hi : Bool} {lo : Int} {hs bs : List Int} : nH (codeH h l m b hi lo hs bs) l m hs bs ≤ 7350 ∧ (codeH h l m b hi lo hs bs = 0 → ∀ j, (rH l m hs bs j).length ≤ 5) := by
  by_cases h0 : codeH h l m b hi lo hs bs = 0
  · obtain ⟨hv, e1, e2⟩ := code_zero h0
    obtain ⟨⟨f1, f2⟩, ⟨f3, f4⟩, ⟨f5, f6⟩, ⟨f7, f8⟩, f9⟩ := hasCards_iff.1 (isVar_cards hv)
    refine ⟨?_, fun _ j => getD_len5 _ (hRows_mem hs bs _ (by omega) (by omega) _ (by omega)) j⟩
    unfold nH
    rw [if_pos h0]
    have := hRows_le hs bs l.toNat (by omega) (by omega) (m.toNat + 1 - l.toNat) (by omega)
    have h2 : (m.toNat + 1 - l.toNat) * 1225 ≤ 6 * 1225 := Nat.mul_le_mul_right _ (by omega)
    unfold handsH
    omega
  · exact ⟨by rw [nH_no h0]; omega, fun q => absurd q h0⟩
set_option maxRecDepth 100000 in
set_option maxHeartbeats 2000000 in
theorem implHandsIn_any (h l m b : Int) (hi : Bool) (lo : Int) (A : Option Addr) (c : Nat) (hs : List Int) (A2 : Option Addr) (c2 : Nat) (bs : List Int) (w : World) (hm64 : i64B m) (hr : Rd w A hs) (hr2 : Rd w A2 bs) (hn : hs.length ≤ 2000000) (hn2 : bs.length ≤ 2000000) :
    Calls Tryz.prog 15 #[vV h l m b hi lo, .slice A hs.length c, .slice A2 bs.length c2] w (NewFam (nH (codeH h l m b hi lo hs bs) l m hs bs) (rH l m hs bs) (codeH h l m b hi lo hs bs) w) := by
  by_cases h0 : codeH h l m b hi lo hs bs = 0
  · obtain ⟨hv, e1, e2⟩ := code_zero h0
    subst e1
    subst e2
    obtain ⟨_, _, ⟨f5, f6⟩, _⟩ := hasCards_iff.1 (isVar_cards hv)
    obtain ⟨l', rfl⟩ := Int.eq_ofNat_of_zero_le f5
    obtain ⟨m', rfl⟩ := Int.eq_ofNat_of_zero_le (Int.le_trans f5 f6)
    have := implHandsIn_yes l' m' hi lo A c hs A2 c2 bs w hv h0 hr hr2
    unfold nH
    rw [if_pos h0, h0]
    exact this
  · rw [nH_no h0]
    have KC := Lib.hid (fun (W : World) (hb : Below w.heap.size w W) => codeFor_any h l m b hi lo A c hs A2 c2 bs W hm64 (hr.below hb) (hr2.below hb) hn hn2)
    have B0 := Lib.hid (bl_alloc (bl_refl w) (.cells ([.int .i64 h, .int .i64 l, .int .i64 m, .int .i64 b, .bool hi, .int .i64 lo] : List Value).toArray 25))
    generalize codeH h l m b hi lo hs bs = k at *
    have hk : (k == 0) = false := by simp [h0]
    clear hr hr2
    unfold vV at *
    go_enter Tryz.func15, Tryz.ntmps15
    go_wp2_with (go_at_call 24; refine (KC.out _ B0.out).mono ?_; rintro e w1 ⟨rfl, hb1⟩; have B1 := Lib.hid (bl_trans B0.out hb1); clear hb1)
    go_ret2
    exact ⟨none, 0, _, _, rfl, Fam.empty _ _ _, B1.out⟩
end Go.Proofs.YtlpkaflmhdgmmaaGreatDoor
