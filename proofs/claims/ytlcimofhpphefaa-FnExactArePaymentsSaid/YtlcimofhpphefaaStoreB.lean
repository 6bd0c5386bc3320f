/-
  A value of one cell is stored into a block that is known whole; what a chain of such stores leaves of other blocks.
-/
import Derived.Test.YtlcimofhpphefaaBase
namespace Go.Proofs.Ytlcimofhpphefaa
open Go.RowKit
set_option linter.unusedVariables false

variable {P : Program}
theorem run_store1 (w : World) (ad : Addr) (t : TypeId) (v old : Value) (hi : (P.info? t).map (·.size) = some 1) (h1 : v.oneCell' = true) (hc : w.cell? ad = some old) (hf : w.frozen? ad = false) :
    (storeVar t ad v).run P w = .ok () (w.setCell ad v) := by
  have hcs : v.cells = #[v] := by cases v <;> first | rfl | cases h1
  have ha : ad.add 0 = ad := by cases ad; rfl
  cases hq : P.info? t with
  | none => simp [hq] at hi
  | some i =>
    have hs : i.size = 1 := by simpa [hq] using hi
    simp [storeVar, sizeOf, typeInfo, hq, hcs, hs, storeCells, run_store P w ad v _ h1, hc, hf, ha]
/-- A value of one cell goes into a place of a block that is known whole. -/
theorem wpList_store_at {ops : Array Oper} {rest : List Oper} {o : Oper} {a : Act} {w : World} {Q : Exit → Act → World → Prop} (t : TypeId) (hgd : o.guard = none) (x y : Operand) (ho : o.op = .store t x y)
    (hi : (P.info? t).map (·.size) = some 1) (g i : Nat) (hx : a.eval x = .pointer (some ⟨g, i, none⟩)) (v : Value) (hy : a.eval y = v) (h1 : v.oneCell' = true) (T : TypeId) (vs : List Value) (hB : Blk w g T vs) (hl : i < vs.length)
    (h : ∀ w', Blk w' g T (vs.set i v) → w.grownBy w' (some g) → wpList P ops Q rest (a.put o.dst undef) w') : wpList P ops Q (o :: rest) a w :=
  wpList_plain hgd fun _ hK => by
    obtain ⟨hc, hf⟩ := hB.cell i _ (List.getElem?_eq_getElem hl)
    unfold Oper.wp execOp
    simp only [ho, hx, hy, Instr.storeAt, Instr.sureAddr, Sem.run_bind, Sem.run_pure, Result.andThen_ok, run_store1 w _ t v _ hi h1 hc hf]
    obtain ⟨k1, k2⟩ := blk_set hB i v
    exact hK _ _ (h _ k1 k2)
/-- A whole variable is stored, in a region that draws. -/
theorem wp_store_blk {o : Oper} {a : Act} {w : World} {K : Act → World → Prop} {Q : Exit → Act → World → Prop} (t : TypeId) (n : Nat) (x y : Operand) (ho : o.op = .store t x y)
    (hi : (P.info? t).map (·.size) = some n)
    (g : Nat) (hx : a.eval x = .pointer (some ⟨g, 0, none⟩)) (vs : List Value) (hy : a.eval y = .agg vs.toArray) (hl : vs.length = n) (h1 : ∀ v ∈ vs, v.oneCell' = true) (old : List Value) (hg : Blk w g t old) (hs : old.length = n)
    (h : ∀ w', Blk w' g t vs → w.grownBy w' (some g) → K (a.put o.dst undef) w') : o.wp P a w K Q := by
  have hr := run_storeVar_row (P := P) w g t t old.toArray vs.toArray hg (by rw [List.size_toArray, hl]; exact hi) (by simp [hl, hs]) (all_oneCell_toArray h1)
  unfold Oper.wp execOp
  simp only [ho, hx, hy, Instr.storeAt, Instr.sureAddr, Sem.run_bind, Sem.run_pure, Result.andThen_ok, hr]
  exact h _ (setRow_heap w g old.toArray _ _ _ hg) ⟨rfl, rfl, rfl, by simp, fun k hk hne => setRow_other w g k _ (fun e => hne (by rw [e]))⟩
theorem own_block {w : World} {lo g : Nat} {A : Option Addr} {n c : Nat} {xs : List Int} (h : Own w lo (.slice A n c) xs) (hg : g < lo) : (Value.slice A n c).ownBlock = none ∨ (Value.slice A n c).ownBlock ≠ some g := by
  rcases A with _ | a
  · exact .inl rfl
  · right
    intro e
    have k1 := World.ownsRow.lt h a.block rfl
    have : a.block = g := by injection e
    omega
/-- A variable of one value of several cells is loaded whole, by its type. -/
theorem below_grown1 {a w w' : World} {g : Nat} (hb : Below a.heap.size a w) (hg : w.grownBy w' (some g)) (hl : a.heap.size ≤ g) : Below a.heap.size a w' :=
  hb.grown hg hb.size (fun j hj => by injection hj with hj; omega)
theorem hb_grown {w w' : World} {g g' : Nat} {t : TypeId} {vs : List Value} (h : Hid (Blk w g t vs)) (hg : w.grownBy w' (some g')) (hne : g ≠ g') : Hid (Blk w' g t vs) := Lib.hid (h.out.grown hg (fun e => hne (Option.some.inj e)))
theorem ho_grown {w w' : World} {lo g : Nat} {A : Option Addr} {n c : Nat} {xs : List Int} (h : Hid (Own w lo (.slice A n c) xs)) (hg : w.grownBy w' (some g)) (hl : g < lo) : Hid (Own w' lo (.slice A n c) xs) := Lib.hid (h.out.grown hg (own_block h.out hl))
theorem hbl_grown {a w w' : World} {g : Nat} (hb : Hid (Below a.heap.size a w)) (hg : w.grownBy w' (some g)) (hl : a.heap.size ≤ g) : Hid (Below a.heap.size a w') := Lib.hid (below_grown1 hb.out hg hl)
theorem hle_grown {w w' : World} {r : Option Nat} {k : Nat} (h : Hid (k ≤ w.heap.size)) (hg : w.grownBy w' r) : Hid (k ≤ w'.heap.size) := Lib.hid (Nat.le_trans h.out hg.size)
theorem bl_drewT {a b : World} (h : Below a.drew.heap.size a.drew b) : Below a.heap.size a b := bl_trans (bl_drew (bl_refl a)) h
end Go.Proofs.Ytlcimofhpphefaa
