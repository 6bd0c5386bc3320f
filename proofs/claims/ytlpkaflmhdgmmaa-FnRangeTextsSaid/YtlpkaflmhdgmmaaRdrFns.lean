/-
  The reader of range texts: ranks, groups.
-/
import Derived.Test.YtlpkaflmhdgmmaaRdr
import Derived.Deep.RegionWith
namespace Go.Proofs.Ytlpkaflmhdgmmaa
open Go.RowKit
set_option linter.unusedVariables false

theorem idx_rkI (c : UInt8) (W : World) : Calls Try.prog 71 #[.string ⟨#[50, 51, 52, 53, 54, 55, 56, 57, 84, 74, 81, 75, 65]⟩, .int .u8 c.toNat] W (Same (.int .i64 (rkI c)) W) :=
  (Try.strings_IndexByte _ _ W).mono fun e w' ⟨he, hw⟩ => ⟨by
    rw [he]
    have : ((c.toNat : Int)).toNat.toUInt8 = c := by simp
    rw [this]; rfl, hw.symm⟩
theorem cons_pos (c : UInt8) (r : List UInt8) : 0 < (⟨(c :: r).toArray⟩ : ByteArray).size := by show 0 < (c :: r).length; simp
theorem index_cons (c : UInt8) (r : List UInt8) (W : World) : (Instr.index 9 (strV (c :: r)) (.int .i64 0)).run Try.prog W = .ok (.int .u8 c.toNat) W := rfl
theorem slice_cons (c : UInt8) (r : List UInt8) (W : World) : (Instr.slice 9 (strV (c :: r)) (some (.int .i64 1)) none none).run Try.prog W = .ok (strV r) W := by
  have hs : (⟨(c :: r).toArray⟩ : ByteArray).size = r.length + 1 := by show (c :: r).length = _; simp
  have he : (⟨(c :: r).toArray⟩ : ByteArray).extract 1 (r.length + 1) = ⟨r.toArray⟩ := by
    rw [ByteArray.extract_mk]
    simp
  simp [Instr.slice, Instr.sliceBounds, Instr.sliceBound, asIntOf, run_underlying Try.underlying9, hs, he]
  intro hc
  omega
set_option maxRecDepth 100000 in
set_option maxHeartbeats 1000000 in
theorem readRank_nil (g : Nat) (p : Int → Bool) (w : World) (h : Rdr w g [] p) :
    Calls Try.prog 66 #[.pointer (some ⟨g, 0, none⟩)] w (RdrDies g w) := by
  obtain ⟨hc, hf⟩ := h.text
  clear h
  go_enter Try.func66, Try.ntmps66
  go_wp2_with fail
  exact ⟨rfl, dies_of (gr_refl _ _)⟩
set_option maxRecDepth 100000 in
set_option maxHeartbeats 1000000 in
theorem readRank_no (g : Nat) (c : UInt8) (r : List UInt8) (p : Int → Bool) (w : World) (h : Rdr w g (c :: r) p) (hr : rkI c < 0) :
    Calls Try.prog 66 #[.pointer (some ⟨g, 0, none⟩)] w (RdrDies g w) := by
  obtain ⟨hc, hf⟩ := h.text
  have K := Lib.hid (fun W => idx_rkI c W)
  have hx := index_cons c r
  generalize rkI c = k at *
  clear h
  go_enter Try.func66, Try.ntmps66
  go_wp2_with (go_at_call 71; ((with_reducible refine (K.out _).mono ?_); rintro e w1 ⟨rfl, rfl⟩))
  exact ⟨rfl, dies_of (gr_refl _ _)⟩
set_option maxRecDepth 100000 in
set_option maxHeartbeats 1000000 in
theorem readRank_yes (g : Nat) (c : UInt8) (r : List UInt8) (p : Int → Bool) (w : World) (h : Rdr w g (c :: r) p) (hr : 0 ≤ rkI c) :
    Calls Try.prog 66 #[.pointer (some ⟨g, 0, none⟩)] w (RdrTo g r p (.int .i64 (rkI c)) w) := by
  obtain ⟨hc, hf⟩ := h.text
  have K := Lib.hid (fun W => idx_rkI c W)
  have HP := Lib.hid (h.put r)
  have hx := index_cons c r
  have hs := slice_cons c r
  generalize rkI c = k at *
  clear h
  go_enter Try.func66, Try.ntmps66
  go_wp2_with (go_at_call 71; ((with_reducible refine (K.out _).mono ?_); rintro e w1 ⟨rfl, rfl⟩))
  go_ret
  exact ⟨rfl, HP.out.1, HP.out.2⟩

/-! groups by value -/
/-- A third character as a text. -/
def kdT (c : UInt8) : List UInt8 := if c = 32 then [] else [c]
/-- A group as a value. -/
abbrev gV (a b : Int) (t : List UInt8) : Value := .agg #[.int .i64 a, .int .i64 b, strV t]
set_option maxRecDepth 100000 in
set_option maxHeartbeats 1000000 in
theorem isPairG_any (a b : Int) (t : List UInt8) (w : World) : Calls Try.prog 67 #[gV a b t] w (Fresh (.bool (a == b)) w) := by
  go_enter Try.func67, Try.ntmps67
  go_wp2_with fail
  go_ret
  exact ⟨rfl, bl_alloc (bl_refl _) _⟩
/-- The last smaller rank of a row. -/
def topI (a b : Int) : Int := if a = b then 12 else a - 1
set_option maxRecDepth 100000 in
set_option maxHeartbeats 1000000 in
theorem topG_any (a b : Int) (t : List UInt8) (w : World) (h0 : 0 ≤ a) (h1 : a ≤ 12) : Calls Try.prog 59 #[gV a b t] w (Fresh (.int .i64 (topI a b)) w) := by
  have K := Lib.hid (fun W => isPairG_any a b t W)
  have HB := Lib.hid (bl_alloc (bl_refl w) (.cells #[.int .i64 a, .int .i64 b, strV t] 85))
  by_cases e : a = b
  · have q : (a == b) = true := by simpa using e
    have HT := Lib.hid (show topI a b = 12 from if_pos e)
    rw [q] at K
    clear q e
    go_enter Try.func59, Try.ntmps59
    go_wp2_with (go_at_call 67; ((with_reducible refine (K.out _).mono ?_); rintro e w1 ⟨rfl, hb1⟩))
    go_ret
    exact ⟨ret_int HT.out.symm, bl_trans HB.out hb1⟩
  · have q : (a == b) = false := by simpa using e
    have HT := Lib.hid (show topI a b = a - 1 from if_neg e)
    have hv : ∀ w1, Below (w.alloc (.cells #[.int .i64 a, .int .i64 b, strV t] 85)).heap.size (w.alloc (.cells #[.int .i64 a, .int .i64 b, strV t] 85)) w1 → w1.cell? ⟨w.heap.size, 0, none⟩ = some (.int .i64 a) := fun w1 hb => by
      rw [(bcell hb).1 _ _ (by simp)]
      simp [go_sem]
    have HV := Lib.hid hv
    rw [q] at K
    clear q e hv
    go_enter Try.func59, Try.ntmps59
    go_wp2_with (go_at_call 67; ((with_reducible refine (K.out _).mono ?_); rintro e w1 ⟨rfl, hb1⟩; have c0 := HV.out _ hb1))
    go_ret
    exact ⟨ret_int HT.out.symm, bl_trans HB.out hb1⟩
end Go.Proofs.Ytlpkaflmhdgmmaa
