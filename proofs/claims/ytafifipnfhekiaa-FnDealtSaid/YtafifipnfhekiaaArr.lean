/-
  Decks as arrays: cardDeck.list; what lies in a block as a whole array.
-/
import Derived.Test.YtafifipnfhekiaaList
import Derived.Test.YtafifipnfhekiaaDeckPure
import Derived.Deep.MidRow
namespace Go.Proofs.Ytafifipnfhekiaa
open Go.RowKit
set_option linter.unusedVariables false

/-- A deck as an array. -/
def arrV (xs : List Int) : Value := .agg (ints xs).toArray
theorem uArr : Try.prog.underlying 52 = some (.array 52 2) := by kernel_rfl
theorem iArr : (Try.prog.info? 52).map (·.size) = some 52 := by kernel_rfl
/-- Block g is an array. -/
def Arr (w : World) (g : Nat) (xs : List Int) : Prop := w.heap[g]? = some (.cells (ints xs).toArray 52 (0, 0))
theorem Arr.range {w : World} {g : Nat} {xs : List Int} (h : Arr w g xs) : w.rangeAt g 0 (ints xs) := fun j v hv => by
  rw [Nat.zero_add, cell_of_row w g j _ _ _ h]; simpa using hv
theorem Arr.lt {w : World} {g : Nat} {xs : List Int} (h : Arr w g xs) : g < w.heap.size := (Array.getElem?_eq_some_iff.1 h).1
theorem Arr.cell {w : World} {g : Nat} {xs : List Int} (h : Arr w g xs) (i : Nat) (hi : i < xs.length) : w.cell? ⟨g, i, none⟩ = some (.int .i64 (nth xs i)) ∧ w.frozen? ⟨g, i, none⟩ = false := by
  refine ⟨?_, frozen_of_row w g i _ _ h⟩
  rw [cell_of_row w g i _ _ _ h]
  have := ints_get xs i hi
  simpa using this
theorem Arr.below {w w' : World} {g : Nat} {xs : List Int} (h : Arr w g xs) (hb : Below w.heap.size w w') : Arr w' g xs := (hb.block g h.lt).trans h
theorem Arr.grown {w w' : World} {g : Nat} {xs : List Int} {row : Option Nat} (h : Arr w g xs) (hg : w.grownBy w' row) (hne : some g ≠ row) : Arr w' g xs := (hg.block g h.lt hne).trans h
theorem Arr.drewN {w : World} {g : Nat} {xs : List Int} (h : Arr w g xs) (n : Nat) : Arr (w.drewN n) g xs := h
theorem arr_new (w : World) (xs : List Int) : Arr (w.alloc (.cells (ints xs).toArray 52)) w.heap.size xs := heap_alloc_new w _
theorem arr_set {w : World} {g : Nat} {xs : List Int} (h : Arr w g xs) (i : Nat) (x : Int) (hi : i < xs.length) : Arr (w.setCell ⟨g, i, none⟩ (.int .i64 x)) g (xs.set i x) ∧ w.grownBy (w.setCell ⟨g, i, none⟩ (.int .i64 x)) (some g) := by
  constructor
  · unfold Arr at h ⊢
    rw [heap_setCell_same w g i _ _ _ h]
    have e : (ints xs).toArray.setIfInBounds i (Value.int .i64 x) = (ints (xs.set i x)).toArray := by
      rw [← ints_set]; simp
    rw [e]
  · exact ⟨rfl, rfl, rfl, by simp [World.setCell], fun k hk hne => Below.heap_setCell w ⟨g, i, none⟩ _ k (fun e => hne (by rw [e]))⟩
/-- A whole array is loaded. -/
theorem wpList_load_arr {ops : Array Oper} {rest : List Oper} {o : Oper} {a : Act} {w : World} {Q : Exit → Act → World → Prop} (hgd : o.guard = none) (x : Operand) (ho : o.op = .load 52 x)
    (b off : Nat) (hx : a.eval x = .pointer (some ⟨b, off, none⟩)) (xs : List Int) (hl : xs.length = 52) (hc : w.rangeAt b off (ints xs))
    (h : wpList Try.prog ops Q rest (a.put o.dst (arrV xs)) w) : wpList Try.prog ops Q (o :: rest) a w := by
  exact wpList_load_mid hgd _ x ho b off hx (ints xs) _ hc uArr rfl (by rw [ints_length, hl]; exact iArr) h
/-- A whole array is stored. -/
theorem wpList_store_arr {ops : Array Oper} {rest : List Oper} {o : Oper} {a : Act} {w : World} {Q : Exit → Act → World → Prop} (hgd : o.guard = none) (x y : Operand) (ho : o.op = .store 52 x y)
    (g : Nat) (hx : a.eval x = .pointer (some ⟨g, 0, none⟩)) (xs : List Int) (hy : a.eval y = arrV xs) (hl : xs.length = 52) (old : Array Value) (hg : w.heap[g]? = some (.cells old 52 (0, 0))) (hs : old.size = 52)
    (h : ∀ w', Arr w' g xs → w.grownBy w' (some g) → wpList Try.prog ops Q rest (a.put o.dst undef) w') : wpList Try.prog ops Q (o :: rest) a w :=
  wpList_plain hgd fun _ hK => by
    have hr := run_storeVar_row (P := Try.prog) w g 52 52 old (ints xs).toArray hg (by rw [List.size_toArray, ints_length, hl]; exact iArr) (by simp [ints_length, hl, hs])
      (all_oneCell_toArray (fun v hv => by unfold ints at hv; obtain ⟨z, _, rfl⟩ := List.mem_map.1 hv; rfl))
    unfold Oper.wp execOp
    unfold arrV at hy
    simp only [ho, hx, hy, Instr.storeAt, Instr.sureAddr, Sem.run_bind, Sem.run_pure, Result.andThen_ok, hr]
    exact hK _ _ (h _ (setRow_heap w g old _ _ _ hg) ⟨rfl, rfl, rfl, by simp, fun k hk hne => setRow_other w g k _ (fun e => hne (by rw [e]))⟩)
/-- A slice of 52 numbers as the address of an array. -/
theorem run_arrayAt (b off c : Nat) (w : World) : (Instr.arrayAt 52 (.slice (some ⟨b, off, none⟩) 52 c)).run Try.prog w = .ok (.pointer (some ⟨b, off, none⟩)) w := by
  simp [Instr.arrayAt, run_underlying uArr]

/-- What list leaves. -/
def ListOf (xs : List Int) (w : World) (e : Ending) (w' : World) : Prop := e = .returned (.slice (some ⟨w.heap.size, 0, none⟩) 52 52) ∧ w' = w.alloc (.cells (ints xs).toArray 52)
set_option maxRecDepth 100000 in
set_option maxHeartbeats 400000 in
theorem deckList_any (xs : List Int) (w : World) :
    Calls Try.prog 48 #[arrV xs] w (ListOf xs w) := by
  unfold arrV
  go_enter Try.func48, Try.ntmps48
  go_wp2_with fail
  go_ret
  exact ⟨rfl, rfl⟩
end Go.Proofs.Ytafifipnfhekiaa
