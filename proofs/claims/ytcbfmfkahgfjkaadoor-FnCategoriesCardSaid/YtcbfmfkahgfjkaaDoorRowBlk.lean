/-
  A block known whole as a row; a slice of five made.
-/
import Derived.Test.YtcbfmfkahgfjkaaDoorRow
import Derived.Test.YtcbfmfkahgfjkaaDoorBlk
namespace Go.Proofs.YtcbfmfkahgfjkaaDoor
open Go.RowKit
set_option linter.unusedVariables false

theorem row_blk {w : World} {g lo : Nat} {t : TypeId} {xs : List Int} (h : Blk w g t (ints xs)) (hl : lo ≤ g) : Row w lo (some ⟨g, 0, none⟩) xs := by
  refine ⟨fun a e => ?_, fun h0 => ⟨g, 0, rfl, fun i hi => by rw [Nat.zero_add]; exact h.int i hi⟩⟩
  obtain rfl := Option.some.inj e
  exact ⟨hl, h.lt⟩
theorem run_make5 (t e : TypeId) (i0 : TypeInfo) (hu : Tryd.prog.underlying t = some (.slice e)) (hi : Tryd.prog.info? e = some i0) (hz0 : i0.zero = some (.int .i64 0)) (hz1 : i0.size = 1) (hz2 : i0.bytes = 8) (W : World) :
    (Instr.makeSlice t (.int .i64 5) (.int .i64 5)).run Tryd.prog W = .ok (.slice (some ⟨W.heap.size, 0, none⟩) 5 5) (W.alloc (.cells #[.int .i64 0, .int .i64 0, .int .i64 0, .int .i64 0, .int .i64 0] e)) := by
  have h := run_makeSlice (P := Tryd.prog) W t e i0 (.int .i64 0) hu hi hz0 .i64 .i64 5 5 (by omega) (by omega) (by rw [hz1]; decide) (by rw [hz2]; omega) (by omega)
  rw [hz1] at h
  have em : madeCells (Value.int .i64 0).cells (Int.toNat 5 * 1) = #[.int .i64 0, .int .i64 0, .int .i64 0, .int .i64 0, .int .i64 0] := Array.toList_inj.1 (by
    show (madeCells #[Value.int .i64 0] 5).toList = _
    rw [toList_madeCells_one]; rfl)
  rw [em] at h
  exact h
end Go.Proofs.YtcbfmfkahgfjkaaDoor
