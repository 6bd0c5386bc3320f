/-
  A code as a law's argument, and the laws' test of its length.
-/
import Derived.Test.YtcbfmfkahgfjkaaDoorDrawFrom
import Derived.Test.YtcbfmfkahgfjkaaDoorIn
import Derived.Lib.SmallJoins
import Derived.OpenShut
namespace Go.Proofs.YtcbfmfkahgfjkaaDoor
open Go.ChangeShapes Go.WideShapes Go.ChangeAt Go.RowKit Go.Joins
set_option linter.unusedVariables false

set_option maxHeartbeats 400000 in
theorem big_yes (a : Option Addr) (L c : Nat) (w : World) (h : 4096 < L) (hm : (L : Int) ≤ 9223372036854775807) :
    Calls Tryd.prog 34 #[.slice a L c] w fun e w' => e = .returned (.bool true) ∧ w = w' := by
  have h' : (4096 : Int) < L := by omega
  go_enter Tryd.func34, Tryd.ntmps34
  go_wp2
  go_ret
  exact ⟨rfl, rfl⟩
set_option maxHeartbeats 400000 in
theorem big_no (a : Option Addr) (L c : Nat) (w : World) (h : L ≤ 4096) :
    Calls Tryd.prog 34 #[.slice a L c] w fun e w' => e = .returned (.bool false) ∧ w = w' := by
  have h' : (L : Int) ≤ 4096 := by omega
  go_enter Tryd.func34, Tryd.ntmps34
  go_wp2
  go_ret
  exact ⟨ret_bool (decide_eq_false (by omega)), rfl⟩

set_option maxRecDepth 100000 in
/-- A code as a law's argument: its value, and its bytes in memory. -/
theorem open_code {H : Type} {enc : TypeId × Value → H} {W : World} {base : Nat} {v : Value} {d : DataW H} {p : List MemPlace}
    (hv : Value.okWide Tryd.prog W .any base 35 v) (h : DataW.Trod enc Tryd.prog W 0 (fun _ => true) true 35 v d p) :
    ∃ (a : Option Addr) (L c : Nat) (zs : Nat → Int), v = .slice a L c ∧ L ≤ maxLen ∧ CodeIn W a L zs := by
  obtain ⟨a0, len, cap, rfl⟩ := okWide_slice Tryd.underlying35 hv
  obtain ⟨fuel, hf⟩ := h
  rcases open_ints Tryd.underlying35 Tryd.underlying5 (by kernel_rfl) hf with ⟨hcs, hx⟩ | ⟨a, len', cap', zs, hcs, _, hl, hm, hz, hx, hcell, hwz⟩
  · simp [Value.cells] at hcs
    obtain ⟨rfl, rfl, rfl⟩ := hcs
    exact ⟨none, 0, 0, fun _ => 0, rfl, by unfold maxLen; omega, .inl rfl⟩
  · simp [Value.cells] at hcs
    obtain ⟨rfl, rfl, rfl⟩ := hcs
    refine ⟨some a, len, cap, fun i => zs.getD i 0, rfl, by omega, ?_⟩
    by_cases h0 : len = 0
    · exact .inl h0
    · right
      have hlen : len ≤ zs.length := by rw [hz]; simp; exact hl
      obtain ⟨b, off, rfl, hc⟩ := ints_at hcell (by omega)
      refine ⟨b, off, rfl, fun i hi => ⟨hc i (by omega), ?_⟩⟩
      have hw := hwz (zs.getD i 0) (by rw [List.getD_eq_getElem?_getD, List.getElem?_eq_getElem (by omega)]; simp)
      have := bounds_u8 hw
      omega

theorem codeIn_below {w w' : World} {a : Option Addr} {L : Nat} {zs : Nat → Int} (h : CodeIn w a L zs) (hb : Below w.heap.size w w') : CodeIn w' a L zs := by
  rcases h with h | ⟨b, off, e, h⟩
  · exact .inl h
  · exact .inr ⟨b, off, e, codeAt_below h hb⟩

end Go.Proofs.YtcbfmfkahgfjkaaDoor
