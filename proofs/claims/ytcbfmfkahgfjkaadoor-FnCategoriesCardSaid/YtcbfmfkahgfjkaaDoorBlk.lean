/-
  Blocks of cells, known whole: arrays and structs of the program's own.
-/
import Derived.Test.YtcbfmfkahgfjkaaDoorList
import Derived.Deep.MidRow
namespace Go.Proofs.YtcbfmfkahgfjkaaDoor
open Go.RowKit
set_option linter.unusedVariables false

/-- Block g holds these cells, as a variable of type t. -/
def Blk (w : World) (g : Nat) (t : TypeId) (vs : List Value) : Prop := w.heap[g]? = some (.cells vs.toArray t (0, 0))
theorem Blk.lt {w : World} {g : Nat} {t : TypeId} {vs : List Value} (h : Blk w g t vs) : g < w.heap.size := (Array.getElem?_eq_some_iff.1 h).1
theorem Blk.range {w : World} {g : Nat} {t : TypeId} {vs : List Value} (h : Blk w g t vs) : w.rangeAt g 0 vs := fun j v hv => by
  rw [Nat.zero_add, cell_of_row w g j _ _ _ h]; simpa using hv
theorem Blk.cell {w : World} {g : Nat} {t : TypeId} {vs : List Value} (h : Blk w g t vs) (i : Nat) (v : Value) (hv : vs[i]? = some v) : w.cell? ⟨g, i, none⟩ = some v ∧ w.frozen? ⟨g, i, none⟩ = false := by
  refine ⟨?_, frozen_of_row w g i _ _ h⟩
  rw [cell_of_row w g i _ _ _ h]; simpa using hv
theorem Blk.below {w w' : World} {g : Nat} {t : TypeId} {vs : List Value} (h : Blk w g t vs) (hb : Below w.heap.size w w') : Blk w' g t vs := (hb.block g h.lt).trans h
theorem Blk.grown {w w' : World} {g : Nat} {t : TypeId} {vs : List Value} {row : Option Nat} (h : Blk w g t vs) (hg : w.grownBy w' row) (hne : some g ≠ row) : Blk w' g t vs := (hg.block g h.lt hne).trans h
theorem blk_new (w : World) (t : TypeId) (vs : List Value) : Blk (w.alloc (.cells vs.toArray t)) w.heap.size t vs := heap_alloc_new w _
theorem blk_set {w : World} {g : Nat} {t : TypeId} {vs : List Value} (h : Blk w g t vs) (i : Nat) (x : Value) : Blk (w.setCell ⟨g, i, none⟩ x) g t (vs.set i x) ∧ w.grownBy (w.setCell ⟨g, i, none⟩ x) (some g) := by
  constructor
  · unfold Blk at h ⊢
    rw [heap_setCell_same w g i _ _ _ h]
    simp
  · exact ⟨rfl, rfl, rfl, by simp [World.setCell], fun k hk hne => Below.heap_setCell w ⟨g, i, none⟩ _ k (fun e => hne (by rw [e]))⟩
theorem Blk.int {w : World} {g : Nat} {t : TypeId} {xs : List Int} (h : Blk w g t (ints xs)) (i : Nat) (hi : i < xs.length) : w.cell? ⟨g, i, none⟩ = some (.int .i64 (nth xs i)) ∧ w.frozen? ⟨g, i, none⟩ = false :=
  h.cell i _ (ints_get xs i hi)
theorem blk_setI {w : World} {g : Nat} {t : TypeId} {xs : List Int} (h : Blk w g t (ints xs)) (i : Nat) (x : Int) : Blk (w.setCell ⟨g, i, none⟩ (.int .i64 x)) g t (ints (xs.set i x)) ∧ w.grownBy (w.setCell ⟨g, i, none⟩ (.int .i64 x)) (some g) := by
  rw [← ints_set]; exact blk_set h i _
theorem bl_blk {a w w' : World} {g : Nat} (hb : Below a.heap.size a w) (hg : w.grownBy w' (some g)) (hl : a.heap.size ≤ g) : Below a.heap.size a w' :=
  hb.grown hg hb.size (fun j hj => by injection hj with hj; omega)
/-- A whole variable is loaded. -/
theorem wpList_load_blk {ops : Array Oper} {rest : List Oper} {o : Oper} {a : Act} {w : World} {Q : Exit → Act → World → Prop} (t : TypeId) (d : TypeDesc) (n : Nat) (hgd : o.guard = none) (x : Operand) (ho : o.op = .load t x)
    (hu : Tryd.prog.underlying t = some d) (hd : d.isRow = true) (hi : (Tryd.prog.info? t).map (·.size) = some n)
    (b off : Nat) (hx : a.eval x = .pointer (some ⟨b, off, none⟩)) (vs : List Value) (hl : vs.length = n) (hc : w.rangeAt b off vs)
    (h : wpList Tryd.prog ops Q rest (a.put o.dst (.agg vs.toArray)) w) : wpList Tryd.prog ops Q (o :: rest) a w :=
  wpList_load_mid hgd t x ho b off hx vs d hc hu hd (by rw [hl]; exact hi) h
/-- A whole variable is stored. -/
theorem wpList_store_blk {ops : Array Oper} {rest : List Oper} {o : Oper} {a : Act} {w : World} {Q : Exit → Act → World → Prop} (t : TypeId) (n : Nat) (hgd : o.guard = none) (x y : Operand) (ho : o.op = .store t x y)
    (hi : (Tryd.prog.info? t).map (·.size) = some n)
    (g : Nat) (hx : a.eval x = .pointer (some ⟨g, 0, none⟩)) (vs : List Value) (hy : a.eval y = .agg vs.toArray) (hl : vs.length = n) (h1 : ∀ v ∈ vs, v.oneCell' = true) (old : Array Value) (hg : w.heap[g]? = some (.cells old t (0, 0))) (hs : old.size = n)
    (h : ∀ w', Blk w' g t vs → w.grownBy w' (some g) → wpList Tryd.prog ops Q rest (a.put o.dst undef) w') : wpList Tryd.prog ops Q (o :: rest) a w :=
  wpList_plain hgd fun _ hK => by
    have hr := run_storeVar_row (P := Tryd.prog) w g t t old vs.toArray hg (by rw [List.size_toArray, hl]; exact hi) (by simp [hl, hs]) (all_oneCell_toArray h1)
    unfold Oper.wp execOp
    simp only [ho, hx, hy, Instr.storeAt, Instr.sureAddr, Sem.run_bind, Sem.run_pure, Result.andThen_ok, hr]
    exact hK _ _ (h _ (setRow_heap w g old _ _ _ hg) ⟨rfl, rfl, rfl, by simp, fun k hk hne => setRow_other w g k _ (fun e => hne (by rw [e]))⟩)
theorem ints_one (xs : List Int) : ∀ v ∈ ints xs, v.oneCell' = true := fun v hv => by
  unfold ints at hv; obtain ⟨z, _, rfl⟩ := List.mem_map.1 hv; rfl
end Go.Proofs.YtcbfmfkahgfjkaaDoor
