/-
  The program: open rounds, sums of chips, the choices.
-/
import Derived.Test.YtlcimofhpphefaaBetD
import Derived.Test.YtlcimofhpphefaaAnyL
import Derived.Test.YtlcimofhpphefaaStoreB
namespace Go.Proofs.Ytlcimofhpphefaa
open Go.RowKit
set_option linter.unusedVariables false

theorem wp_store_at {P : Program} {o : Oper} {a : Act} {w : World} {K : Act → World → Prop} {Q : Exit → Act → World → Prop} (t : TypeId) (x y : Operand) (ho : o.op = .store t x y)
    (hi : (P.info? t).map (·.size) = some 1) (g i : Nat) (hx : a.eval x = .pointer (some ⟨g, i, none⟩)) (v : Value) (hy : a.eval y = v) (h1 : v.oneCell' = true) (T : TypeId) (vs : List Value) (hB : Blk w g T vs) (hl : i < vs.length)
    (h : ∀ w', Blk w' g T (vs.set i v) → w.grownBy w' (some g) → K (a.put o.dst undef) w') : o.wp P a w K Q := by
  obtain ⟨hc, hf⟩ := hB.cell i _ (List.getElem?_eq_getElem hl)
  unfold Oper.wp execOp
  simp only [ho, hx, hy, Instr.storeAt, Instr.sureAddr, Sem.run_bind, Sem.run_pure, Result.andThen_ok, run_store1 w _ t v _ hi h1 hc hf]
  obtain ⟨k1, k2⟩ := blk_set hB i v
  exact h _ k1 k2
theorem wp_region_W {P : Program} {ops : Array Oper} {Q : Exit → Act → World → Prop} {last : Nat} {id k : Nat} {a : Act} {w : World} (hm : P.follows .mixedOrders = true) (hk : ops.size = k + 1)
    (h : closedB .any ops (Array.replicate ops.size false) → wpAnyR P .any ops (fun a b => Below a.heap.size a b) (fun W' => Below w.heap.size w W') last Q k (Array.replicate ops.size false) a w.drew) : (Code.region id ops true).wp P Q a w := wp_region_R (fun _ => bl_refl _) hm hk h
noncomputable def potIR (b : Bt) : Int := if okB b = true then potI b else 0
noncomputable def okC (b : Bt) : Int := if okB b = true then 0 else 1
noncomputable def allIR (b : Bt) : Int := if okB b = true then allI b else 0
end Go.Proofs.Ytlcimofhpphefaa
