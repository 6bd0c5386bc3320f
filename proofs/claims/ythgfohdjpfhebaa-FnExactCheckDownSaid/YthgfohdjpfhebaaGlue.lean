/-
  append(nil row, list...): a copy of the call's own.
-/
import Derived.Test.YthgfohdjpfhebaaRows2
namespace Go.Proofs.Ythgfohdjpfhebaa
open Go.RowKit
set_option linter.unusedVariables false

set_option maxRecDepth 100000 in
set_option maxHeartbeats 400000 in
theorem own_any (A : Option Addr) (c : Nat) (xs : List Int) (w : World) (hr : Rd w A xs) (hn : xs.length ≤ 4000000) :
    Calls Try.prog 160 #[.slice A xs.length c] w (NewL xs w) := by
  have HR := Lib.hid (hr.below (bl_alloc (bl_refl w) (.cells #[] 2)))
  have HE := Lib.hid (own_new w)
  have HB : Hid (([] : List Int).length + xs.length ≤ 4000000) := Lib.hid (by simpa using hn)
  have HZ : Hid (w.heap.size ≤ (w.alloc (.cells #[] 2)).heap.size) := Lib.hid (by simp)
  clear hr
  go_enter Try.func160, Try.ntmps160
  go_wp2_with (at_builtin; refine wpList_glue (.tmp 3) (.tmp 4) rfl rfl w.heap.size (.slice (some ⟨w.heap.size, 0, none⟩) 0 0) [] xs A c rfl HE.out rfl HR.out HB.out HZ.out ?_)
  intro A' c' ws w' e ho hg _
  have HO := Lib.hid ho
  have HG := Lib.hid (bl_glue (bl_refl w) hg)
  have HW : Hid (ws = xs) := Lib.hid (by simpa using e.out)
  clear ho hg e
  go_wp2_with fail
  go_ret
  obtain rfl := HW.out
  exact ⟨_, _, rfl, HO.out, HG.out⟩

end Go.Proofs.Ythgfohdjpfhebaa
