/-
  What the library's variables hold when a call begins, from what a row lists and from the world's shape.
-/
import Derived.Test.YtohhjcnkbifdbaaDoorLaidFrame
import Derived.Test.YtohhjcnkbifdbaaDoorReadImpl
import Derived.LaidLaws
import Derived.Stop.LaidErr
namespace Go.Proofs.YtohhjcnkbifdbaaDoor
open Go.ChangeShapes Go.WideShapes Go.ChangeAt Go.RowKit
set_option linter.unusedVariables false

theorem gPow : Tryd.prog.globalNamed "internal/strconv.uint64pow10" = some 0 := by kernel_rfl
theorem gRange : Tryd.prog.globalNamed "strconv.ErrRange" = some 3 := by kernel_rfl
theorem gSyn : Tryd.prog.globalNamed "strconv.ErrSyntax" = some 2 := by kernel_rfl
theorem gRangeT : (Tryd.prog.globals[3]?).map (·.type) = some 49 := by kernel_rfl
theorem gSynT : (Tryd.prog.globals[2]?).map (·.type) = some 49 := by kernel_rfl
theorem starErr : "*" ++ "errors.errorString" = "*errors.errorString" := by decide
theorem rowErr (u : TypeId) (h : Tryd.prog.typeName? 3 u = some "*errors.errorString") : u = 101 :=
  typeName_ptr_named (nm := "errors.errorString") (by rw [starErr]; kernel_rfl) (by kernel_rfl) (by decide) u (by rw [starErr]; exact h)
theorem cellsErr : Tryd.prog.cellsOf 103 = 1 := by kernel_rfl
theorem cellsStr : Tryd.prog.cellsOf 9 = 1 := by kernel_rfl
theorem pow_data : (Rows.laid_internal_strconv_uint64pow10 : DataW Unit) = Lib.tabData .u64 Lib.pow10Tab := rfl
/-- The table of powers of ten stands third on each row's list. -/
theorem pow10_of {W : World} {a b : String × DataW Unit} {r : List (String × DataW Unit)} (h : laidMet Tryd.prog (a :: b :: ("internal/strconv.uint64pow10", Rows.laid_internal_strconv_uint64pow10) :: r) W) : Pow10 W.heap.size W := by
  have h1 := h.tail.tail
  rw [pow_data] at h1
  exact Lib.tabBelow_of_tabIs (Lib.tabIs_of_head gPow (by kernel_rfl) Tryd.underlying86 Tryd.underlying70 (by kernel_rfl) (by kernel_rfl) h1)
theorem lib_of {W : World} {a b c : String × DataW Unit} {r : List (String × DataW Unit)} (h : laidMet Tryd.prog (a :: b :: c :: ("strconv.ErrRange", Rows.laid_strconv_ErrRange) :: ("strconv.ErrSyntax", Rows.laid_strconv_ErrSyntax) :: r) W) (hs : W.ShapedOpen Tryd.prog) : LibCells W := by
  have h1 := h.tail.tail.tail
  obtain ⟨a1, s1, hv1, _, _, _⟩ := laid_sentinel h1 gRange gRangeT Tryd.underlying49 rowErr Tryd.underlying101 Tryd.underlying103 rfl rfl Tryd.underlying9 cellsErr cellsStr
  obtain ⟨a2, s2, hv2, _, _, _⟩ := laid_sentinel h1.tail gSyn gSynT Tryd.underlying49 rowErr Tryd.underlying101 Tryd.underlying103 rfl rfl Tryd.underlying9 cellsErr cellsStr
  refine ⟨Tryd.laysM145.s1_3 W hs, ⟨_, _, by have h0 := World.var?_cell gSyn hv2 0; simpa using h0⟩, ⟨_, _, by have h0 := World.var?_cell gRange hv1 0; simpa using h0⟩⟩
end Go.Proofs.YtohhjcnkbifdbaaDoor
