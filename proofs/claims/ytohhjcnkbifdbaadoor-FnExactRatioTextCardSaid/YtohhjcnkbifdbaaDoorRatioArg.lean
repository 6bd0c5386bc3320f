/-
  A ratio as an argument of a law, and how a law copies it.
-/
import Derived.Test.YtohhjcnkbifdbaaDoorRatio
import Derived.Test.YtohhjcnkbifdbaaDoorFrame
import Derived.Lib.SmallJoins
namespace Go.Proofs.YtohhjcnkbifdbaaDoor
open Go.ChangeShapes Go.WideShapes Go.ChangeAt Go.RowKit Go.Joins

theorem cellsRatio : Tryd.prog.cellsOf 37 = 2 := by kernel_rfl

set_option maxRecDepth 100000 in
/-- A ratio as an argument: two numbers. -/
theorem open_ratio {H : Type} {enc : TypeId × Value → H} {W : World} {base : Nat} {v : Value} {d : DataW H} {p : List MemPlace}
    (hv : Value.okWide Tryd.prog W .any base 37 v) (h : DataW.Trod enc Tryd.prog W 0 (fun _ => true) true 37 v d p) :
    ∃ n m : Int, v = .agg #[.int .i64 n, .int .i64 m] ∧ (Lit.int .i64 n).wf = true ∧ (Lit.int .i64 m).wf = true := by
  obtain ⟨c0, c1, y0, y1, m, rfl, rfl, rfl, hy0, hy1⟩ := open_agg2 Tryd.underlying37 (by kernel_rfl) cellsRatio hv h
  obtain ⟨a, e0, rfl, wa⟩ := DataW.trod_int Tryd.underlying2 hy0
  obtain ⟨b, e1, rfl, wb⟩ := DataW.trod_int Tryd.underlying2 hy1
  simp at e0 e1
  subst e0 e1
  exact ⟨a, b, rfl, wa, wb⟩

set_option maxRecDepth 100000 in
set_option maxHeartbeats 400000 in
theorem toRatio_any (n d : Int) (w : World) :
    Calls Tryd.prog 20 #[.agg #[.int .i64 n, .int .i64 d]] w (Fresh (.agg #[.int .i64 n, .int .i64 d]) w) := by
  go_enter Tryd.func20, Tryd.ntmps20
  go_wp2
  exact bodyPost_ret (v := .agg #[.int .i64 n, .int .i64 d]) (by simp [results, Tryd.results20, go_sem]) rfl ⟨rfl, bl_alloc (bl_alloc (bl_alloc (bl_refl _) _) _) _⟩

end Go.Proofs.YtohhjcnkbifdbaaDoor
