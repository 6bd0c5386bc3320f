/-
  CategoryName, CategorySize: the tables, both texts' walks.
-/
import Derived.Test.YtcbfmfkahgfjkaaDoorMethImpl
import Derived.Test.YtcbfmfkahgfjkaaDoorHandFns
namespace Go.Proofs.YtcbfmfkahgfjkaaDoor
open Go.RowKit
set_option linter.unusedVariables false

def nameB : Nat → ByteArray
  | 0 => ⟨#[104, 105, 103, 104, 32, 99, 97, 114, 100]⟩
  | 1 => ⟨#[112, 97, 105, 114]⟩
  | 2 => ⟨#[116, 119, 111, 32, 112, 97, 105, 114, 115]⟩
  | 3 => ⟨#[116, 104, 114, 101, 101, 32, 111, 102, 32, 97, 32, 107, 105, 110, 100]⟩
  | 4 => ⟨#[115, 116, 114, 97, 105, 103, 104, 116]⟩
  | 5 => ⟨#[102, 108, 117, 115, 104]⟩
  | 6 => ⟨#[102, 117, 108, 108, 32, 104, 111, 117, 115, 101]⟩
  | 7 => ⟨#[102, 111, 117, 114, 32, 111, 102, 32, 97, 32, 107, 105, 110, 100]⟩
  | 8 => ⟨#[115, 116, 114, 97, 105, 103, 104, 116, 32, 102, 108, 117, 115, 104]⟩
  | _ => ⟨#[]⟩
def sizeI : Nat → Int
  | 0 => 1302540
  | 1 => 1098240
  | 2 => 123552
  | 3 => 54912
  | 4 => 10200
  | 5 => 5108
  | 6 => 3744
  | 7 => 624
  | 8 => 40
  | _ => 0
def fnF : Nat → FuncId
  | 0 => 84
  | 1 => 85
  | 2 => 86
  | 3 => 87
  | 4 => 88
  | 5 => 89
  | 6 => 90
  | 7 => 91
  | 8 => 92
  | _ => 0
/-! What the functions answer. -/
def nameR (n : Int) : ByteArray := if inB n 0 8 = true then nameB n.toNat else ⟨#[]⟩
def sizeR (n : Int) : Int := if inB n 0 8 = true then sizeI n.toNat else 0
def codeS (n : Int) : Int := if inB n 0 8 = true then 0 else 2
theorem nameR_yes {n : Int} (h : inB n 0 8 = true) : nameR n = nameB n.toNat := by unfold nameR; rw [if_pos h]
theorem nameR_no {n : Int} (h : inB n 0 8 = false) : nameR n = ⟨#[]⟩ := by unfold nameR; rw [h]; rfl
theorem sizeR_yes {n : Int} (h : inB n 0 8 = true) : sizeR n = sizeI n.toNat := by unfold sizeR; rw [if_pos h]
theorem sizeR_no {n : Int} (h : inB n 0 8 = false) : sizeR n = 0 := by unfold sizeR; rw [h]; rfl
theorem codeS_yes {n : Int} (h : inB n 0 8 = true) : codeS n = 0 := by unfold codeS; rw [if_pos h]
theorem codeS_no {n : Int} (h : inB n 0 8 = false) : codeS n = 2 := by unfold codeS; rw [h]; rfl
theorem u66 : Tryd.prog.underlying 66 = some (.array 9 65) := by kernel_rfl
theorem i65 : (Tryd.prog.info? 65).map (·.size) = some 3 := by kernel_rfl
set_option maxRecDepth 100000 in
set_option maxHeartbeats 2000000 in
theorem run_indexC (k : Nat) (hk : k < 9) (W : World) : (Instr.index 66 (.agg catsL.toArray) (.int .i64 k)).run Tryd.prog W = .ok (.agg #[.string (nameB k), .int .i64 (sizeI k), .func (.func (fnF k)) #[] #[]]) W := by
  obtain ⟨i0, hi, hz⟩ : ∃ i, Tryd.prog.info? 65 = some i ∧ i.size = 3 := by
    cases h : Tryd.prog.info? 65 with
    | none => have := i65; rw [h] at this; cases this
    | some i => have := i65; rw [h] at this; exact ⟨i, rfl, Option.some.inj this⟩
  have h9 : k = 0 ∨ k = 1 ∨ k = 2 ∨ k = 3 ∨ k = 4 ∨ k = 5 ∨ k = 6 ∨ k = 7 ∨ k = 8 := by omega
  rcases h9 with rfl | rfl | rfl | rfl | rfl | rfl | rfl | rfl | rfl <;>
    simp [Instr.index, run_underlying u66, go_sem, sizeOf, typeInfo, hi, hz, part, isAgg, run_underlying Tryd.underlying65, nameB, sizeI, fnF]
set_option maxRecDepth 100000 in
theorem run_fieldC0 (b : ByteArray) (s : Int) (f : FuncId) (W : World) : (Instr.field 65 (.agg #[.string b, .int .i64 s, .func (.func f) #[] #[]]) 0).run Tryd.prog W = .ok (.string b) W := by
  simp [Instr.field, run_underlying Tryd.underlying65, part, isAgg, run_underlying Tryd.underlying9, asAgg]
set_option maxRecDepth 100000 in
theorem run_fieldC1 (b : ByteArray) (s : Int) (f : FuncId) (W : World) : (Instr.field 65 (.agg #[.string b, .int .i64 s, .func (.func f) #[] #[]]) 1).run Tryd.prog W = .ok (.int .i64 s) W := by
  simp [Instr.field, run_underlying Tryd.underlying65, part, isAgg, run_underlying Tryd.underlying2, asAgg]
theorem cats_tab : ∃ V : Value, (∀ w : World, Calls Tryd.prog 62 #[] w (Fresh V w)) ∧ ∀ k : Nat, k < 9 → ∀ W : World, (Instr.index 66 V (.int .i64 k)).run Tryd.prog W = .ok (.agg #[.string (nameB k), .int .i64 (sizeI k), .func (.func (fnF k)) #[] #[]]) W :=
  ⟨_, cats_any, run_indexC⟩
theorem names_cell (k : Nat) (hk : k < 9) (w : World) : (w.alloc (.cells #[.string ⟨#[104, 105, 103, 104, 32, 99, 97, 114, 100]⟩, .string ⟨#[112, 97, 105, 114]⟩, .string ⟨#[116, 119, 111, 32, 112, 97, 105, 114, 115]⟩, .string ⟨#[116, 104, 114, 101, 101, 32, 111, 102, 32, 97, 32, 107, 105, 110, 100]⟩, .string ⟨#[115, 116, 114, 97, 105, 103, 104, 116]⟩, .string ⟨#[102, 108, 117, 115, 104]⟩, .string ⟨#[102, 117, 108, 108, 32, 104, 111, 117, 115, 101]⟩, .string ⟨#[102, 111, 117, 114, 32, 111, 102, 32, 97, 32, 107, 105, 110, 100]⟩, .string ⟨#[115, 116, 114, 97, 105, 103, 104, 116, 32, 102, 108, 117, 115, 104]⟩] 9)).cell? ⟨w.heap.size, k, none⟩ = some (.string (nameB k)) := by
  rw [cell_of_row _ _ _ _ _ _ (heap_alloc_new w _)]
  have h9 : k = 0 ∨ k = 1 ∨ k = 2 ∨ k = 3 ∨ k = 4 ∨ k = 5 ∨ k = 6 ∨ k = 7 ∨ k = 8 := by omega
  rcases h9 with rfl | rfl | rfl | rfl | rfl | rfl | rfl | rfl | rfl <;> rfl
theorem sizes_cell (k : Nat) (hk : k < 9) (w : World) : (w.alloc (.cells #[.int .i64 1302540, .int .i64 1098240, .int .i64 123552, .int .i64 54912, .int .i64 10200, .int .i64 5108, .int .i64 3744, .int .i64 624, .int .i64 40] 2)).cell? ⟨w.heap.size, k, none⟩ = some (.int .i64 (sizeI k)) := by
  rw [cell_of_row _ _ _ _ _ _ (heap_alloc_new w _)]
  have h9 : k = 0 ∨ k = 1 ∨ k = 2 ∨ k = 3 ∨ k = 4 ∨ k = 5 ∨ k = 6 ∨ k = 7 ∨ k = 8 := by omega
  rcases h9 with rfl | rfl | rfl | rfl | rfl | rfl | rfl | rfl | rfl <;> rfl
set_option maxRecDepth 100000 in
set_option maxHeartbeats 400000 in
theorem isCat_any (n : Int) (w : World) : Calls Tryd.prog 61 #[.int .i64 n] w (Same (.bool (inB n 0 8)) w) := by
  by_cases h : 0 ≤ n
  · by_cases h2 : n ≤ 8
    · have H := Lib.hid (inB_yes n 0 8 h h2)
      have h3 : n < 9 := by omega
      go_enter Tryd.func61, Tryd.ntmps61
      go_wp2_with fail
      go_ret
      exact ⟨ret_bool H.out.symm, rfl⟩
    · have H := Lib.hid (inB_hi n 0 8 (by omega))
      have h3 : ¬ n < 9 := by omega
      go_enter Tryd.func61, Tryd.ntmps61
      go_wp2_with fail
      go_ret
      exact ⟨ret_bool H.out.symm, rfl⟩
  · have H := Lib.hid (inB_lo n 0 8 (by omega))
    go_enter Tryd.func61, Tryd.ntmps61
    go_wp2_with fail
    go_ret
    exact ⟨ret_bool H.out.symm, rfl⟩
theorem in8 (n : Int) (w : World) : Calls Tryd.prog 70 #[.int .i64 n, .int .i64 0, .int .i64 8] w (Same (.bool (inB n 0 8)) w) := by
  by_cases h : 0 ≤ n ∧ n ≤ 8
  · rw [inB_yes n 0 8 h.1 h.2]; exact specIn_yes n 0 8 w h.1 h.2
  · have ho : outB n 0 8 := by unfold outB; omega
    rw [outB_inB n 0 8 ho]; exact specIn_no n 0 8 w ho
set_option maxRecDepth 100000 in
set_option maxHeartbeats 400000 in
theorem specIs_any (n : Int) (w : World) : Calls Tryd.prog 60 #[.int .i64 n] w (Same (.bool (inB n 0 8)) w) := by
  have K := Lib.hid (in8 n)
  go_enter Tryd.func60, Tryd.ntmps60
  go_wp2_with (go_at_call 70; refine (K.out _).mono ?_; rintro e w1 ⟨rfl, rfl⟩)
  go_ret
  exact ⟨rfl, rfl⟩
theorem in8_nat {n : Int} (h : inB n 0 8 = true) : ∃ k : Nat, k < 9 ∧ n = (k : Int) := by
  by_cases hh : 0 ≤ n ∧ n ≤ 8
  · exact ⟨n.toNat, by omega, by omega⟩
  · have ho : outB n 0 8 := by unfold outB; omega
    rw [outB_inB n 0 8 ho] at h; cases h
set_option maxRecDepth 100000 in
set_option maxHeartbeats 1000000 in
theorem implCategoryName_any (n : Int) (w : World) : Calls Tryd.prog 31 #[.int .i64 n] w (Fresh (.string (nameR n)) w) := by
  have K := Lib.hid (isCat_any n)
  rcases hd : inB n 0 8 with _ | _
  · rw [nameR_no hd]
    rw [hd] at K
    clear hd
    go_enter Tryd.func31, Tryd.ntmps31
    go_wp2_with (go_at_call 61; refine (K.out _).mono ?_; rintro e w1 ⟨rfl, rfl⟩)
    go_ret
    exact ⟨rfl, bl_refl _⟩
  · rw [nameR_yes hd]
    rw [hd] at K
    obtain ⟨k, hk, rfl⟩ := in8_nat hd
    rw [Int.toNat_natCast]
    have hk9 : (k : Int) < 9 := by omega
    obtain ⟨V, KC, HX⟩ := cats_tab
    have hidx := HX k hk
    have hf0 := fun W => run_fieldC0 (nameB k) (sizeI k) (fnF k) W
    have KC2 := Lib.hid KC
    generalize nameB k = b at *
    generalize sizeI k = s at *
    generalize fnF k = f at *
    clear KC HX
    clear hd
    go_enter Tryd.func31, Tryd.ntmps31
    go_wp2_with (first
      | (go_at_call 61; refine (K.out _).mono ?_; rintro e w1 ⟨rfl, rfl⟩)
      | (go_at_call 62; refine (KC2.out _).mono ?_; rintro e w2 ⟨rfl, hb2⟩; have B2 := Lib.hid hb2; clear hb2))
    go_ret
    exact ⟨rfl, B2.out⟩
set_option maxRecDepth 100000 in
set_option maxHeartbeats 1000000 in
theorem implCategorySize_any (n : Int) (w : World) : Calls Tryd.prog 33 #[.int .i64 n] w (Fresh (pairV (sizeR n) (codeS n)) w) := by
  have K := Lib.hid (isCat_any n)
  rcases hd : inB n 0 8 with _ | _
  · rw [sizeR_no hd, codeS_no hd]
    rw [hd] at K
    clear hd
    go_enter Tryd.func33, Tryd.ntmps33
    go_wp2_with (go_at_call 61; refine (K.out _).mono ?_; rintro e w1 ⟨rfl, rfl⟩)
    go_ret2
    exact ⟨rfl, bl_refl _⟩
  · rw [sizeR_yes hd, codeS_yes hd]
    rw [hd] at K
    obtain ⟨k, hk, rfl⟩ := in8_nat hd
    rw [Int.toNat_natCast]
    have hk9 : (k : Int) < 9 := by omega
    obtain ⟨V, KC, HX⟩ := cats_tab
    have hidx := HX k hk
    have hf0 := fun W => run_fieldC1 (nameB k) (sizeI k) (fnF k) W
    have KC2 := Lib.hid KC
    generalize nameB k = b at *
    generalize sizeI k = s at *
    generalize fnF k = f at *
    clear KC HX
    clear hd
    go_enter Tryd.func33, Tryd.ntmps33
    go_wp2_with (first
      | (go_at_call 61; refine (K.out _).mono ?_; rintro e w1 ⟨rfl, rfl⟩)
      | (go_at_call 62; refine (KC2.out _).mono ?_; rintro e w2 ⟨rfl, hb2⟩; have B2 := Lib.hid hb2; clear hb2))
    go_ret2
    exact ⟨rfl, B2.out⟩
set_option maxRecDepth 100000 in
set_option maxHeartbeats 1000000 in
theorem specCategoryName_any (n : Int) (w : World) : Calls Tryd.prog 30 #[.int .i64 n] w (Fresh (.string (nameR n)) w) := by
  have K := Lib.hid (specIs_any n)
  rcases hd : inB n 0 8 with _ | _
  · rw [nameR_no hd]
    rw [hd] at K
    clear hd
    go_enter Tryd.func30, Tryd.ntmps30
    go_wp2_with (go_at_call 60; refine (K.out _).mono ?_; rintro e w1 ⟨rfl, rfl⟩)
    go_ret
    exact ⟨rfl, bl_refl _⟩
  · rw [nameR_yes hd]
    rw [hd] at K
    obtain ⟨k, hk, rfl⟩ := in8_nat hd
    rw [Int.toNat_natCast]
    have hk9 : (k : Int) < 9 := by omega
    have hc := names_cell k hk w
    generalize nameB k = b at *
    clear hd
    go_enter Tryd.func30, Tryd.ntmps30
    go_wp2_with (first
      | (go_at_call 60; refine (K.out _).mono ?_; rintro e w1 ⟨rfl, rfl⟩))
    go_ret
    exact ⟨rfl, bl_alloc (bl_refl _) _⟩
set_option maxRecDepth 100000 in
set_option maxHeartbeats 1000000 in
theorem specCategorySize_any (n : Int) (w : World) : Calls Tryd.prog 32 #[.int .i64 n] w (Fresh (pairV (sizeR n) (codeS n)) w) := by
  have K := Lib.hid (specIs_any n)
  rcases hd : inB n 0 8 with _ | _
  · rw [sizeR_no hd, codeS_no hd]
    rw [hd] at K
    clear hd
    go_enter Tryd.func32, Tryd.ntmps32
    go_wp2_with (go_at_call 60; refine (K.out _).mono ?_; rintro e w1 ⟨rfl, rfl⟩)
    go_ret2
    exact ⟨rfl, bl_refl _⟩
  · rw [sizeR_yes hd, codeS_yes hd]
    rw [hd] at K
    obtain ⟨k, hk, rfl⟩ := in8_nat hd
    rw [Int.toNat_natCast]
    have hk9 : (k : Int) < 9 := by omega
    have hc := sizes_cell k hk w
    generalize sizeI k = s at *
    clear hd
    go_enter Tryd.func32, Tryd.ntmps32
    go_wp2_with (first
      | (go_at_call 60; refine (K.out _).mono ?_; rintro e w1 ⟨rfl, rfl⟩))
    go_ret2
    exact ⟨rfl, bl_alloc (bl_refl _) _⟩
end Go.Proofs.YtcbfmfkahgfjkaaDoor
