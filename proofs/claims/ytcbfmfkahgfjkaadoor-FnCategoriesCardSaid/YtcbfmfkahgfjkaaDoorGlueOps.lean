/-
  append(list, other...): the list is a row of the call's own, the other one reads however it lies; slices of a slice.
-/
import Derived.Test.YtcbfmfkahgfjkaaDoorApart
import Derived.Test.YtcbfmfkahgfjkaaDoorRow
import Derived.Deep.RegionLaw
import Derived.Deep.RegionWith
import Derived.IntWalk
import Derived.Deep.MidRow
namespace Go.Proofs.YtcbfmfkahgfjkaaDoor
open Go.RowKit
set_option linter.unusedVariables false

theorem run_append_nothing (w : World) (lo : Nat) (ty : TypeId) (v : Value) (n : Nat) (xs : List Value) (c : Nat) (hown : w.ownsRow lo 2 1 v n xs) :
    (Builtin.append_ #[22, 22] ty #[v, .slice none 0 c]).run Tryd.prog w = .ok v w := by
  obtain ⟨i0, hi, hz0, hz1, hz2⟩ := info_parts infoInt
  rcases hown.2 with ⟨rfl, rfl⟩ | ⟨g, cap, cur, rfl, _, _, hnc, _⟩
  · simp [Builtin.append_, run_underlying Tryd.underlying22, sizeOf, typeInfo, hi, Builtin.lenOf, Builtin.firstCells]
  · simp [Builtin.append_, run_underlying Tryd.underlying22, sizeOf, typeInfo, hi, Builtin.lenOf, Builtin.firstCells, hnc, storeCells]
theorem run_glue (w : World) (ty : TypeId) (lo : Nat) (v : Value) (xs ys : List Int) (A : Option Addr) (c : Nat) (hown : Own w lo v xs) (hsrc : Rd w A ys) (hb : xs.length + ys.length ≤ 4000000) (hlo : lo ≤ w.heap.size) :
    ∃ v' w', (Builtin.append_ #[22, 22] ty #[v, .slice A ys.length c]).run Tryd.prog w = .ok v' w' ∧ Own w' lo v' (xs ++ ys) ∧ w.grownBy w' v.ownBlock ∧ (v'.ownBlock = v.ownBlock ∨ v'.ownBlock = some w.heap.size) := by
  obtain ⟨i0, hi, hz0, hz1, hz2⟩ := info_parts infoInt
  rcases A with _ | ad
  · have hn : ys.length = 0 := by
      by_cases h0 : 0 < ys.length
      · obtain ⟨b, off, e, _⟩ := hsrc h0
        cases e
      · omega
    have hy : ys = [] := List.length_eq_zero_iff.1 hn
    subst hy
    exact ⟨v, w, run_append_nothing w lo ty v xs.length (ints xs) c hown, by rw [List.append_nil]; exact hown, World.grownBy.refl w _, .inl rfl⟩
  · obtain ⟨v', w', hr, h2, h3, _, h5⟩ := run_append_own_at (P := Tryd.prog) w lo 22 ty 2 i0 (.int .i64 0) 1 8 Tryd.underlying22 hi hz0 hz1 hz2 rfl (by decide) v xs.length (ints xs) hown ad ys.length c (ints ys) (by rw [ints_length, Nat.mul_one])
      (fun j u hu => by
        have hj : j < ys.length := by have := (List.getElem?_eq_some_iff.1 hu).1; rwa [ints_length] at this
        rw [ints_get _ j hj] at hu
        obtain ⟨b, off, e, hc⟩ := hsrc (by omega)
        obtain rfl := Option.some.inj e
        rw [Addr.add_mid, hc j hj]; exact hu)
      (fun u hu => by unfold ints at hu; obtain ⟨y, _, rfl⟩ := List.mem_map.1 hu; rfl) (by unfold maxLen; omega) (by omega) hlo
    exact ⟨v', w', hr, by unfold Own; rw [ints_append, List.length_append]; exact h2, h3, h5⟩
/-- append of a list as one step of a plain region. -/
theorem wpList_glue {ops : Array Oper} {rest : List Oper} {o : Oper} {a : Act} {w : World} {Q : Exit → Act → World → Prop} (s x : Operand) (hgd : o.guard = none)
    (ho : o.op = .call { callee := .builtin .append, args := #[s, x], argTypes := #[22, 22] })
    (lo : Nat) (v : Value) (xs ys : List Int) (A : Option Addr) (c : Nat) (hs : a.eval s = v) (hown : Own w lo v xs) (hx : a.eval x = .slice A ys.length c) (hsrc : Rd w A ys) (hb : xs.length + ys.length ≤ 4000000) (hlo : lo ≤ w.heap.size)
    (h : ∀ A' c' ws w', Hid (ws = xs ++ ys) → Own w' lo (.slice A' ws.length c') ws → w.grownBy w' v.ownBlock → ((Value.slice A' ws.length c').ownBlock = v.ownBlock ∨ (Value.slice A' ws.length c').ownBlock = some w.heap.size) → wpList Tryd.prog ops Q rest (a.put o.dst (.slice A' ws.length c')) w') : wpList Tryd.prog ops Q (o :: rest) a w :=
  wpList_plain hgd fun K hK => by
    obtain ⟨v', w', hr, h4, h3, h6⟩ := run_glue w o.type lo v xs ys A c hown hsrc hb hlo
    obtain ⟨A', c', rfl, h5⟩ := own_form h4
    unfold Oper.wp execOp
    simp only [ho, resolve, invoke, builtin, Sem.run_bind, Sem.run_pure, Result.andThen_ok, List.map_toArray, List.map_cons, List.map_nil, hs, hx, hr]
    exact hK _ _ (h A' c' _ w' (Lib.hid rfl) h5 h3 h6)
/-- .. of a region that draws. -/
theorem step_glue {ops : Array Oper} {o : Oper} {a : Act} {w : World} {K : Act → World → Prop} {Q : Exit → Act → World → Prop} {E : Prop} (hgd : o.guard = none) (s x : Operand)
    (ho : o.op = .call { callee := .builtin .append, args := #[s, x], argTypes := #[22, 22] })
    (lo : Nat) (v : Value) (xs ys : List Int) (A : Option Addr) (c : Nat) (hs : a.eval s = v) (hown : Own w lo v xs) (hx : a.eval x = .slice A ys.length c) (hsrc : Rd w A ys) (hb : xs.length + ys.length ≤ 4000000) (hlo : lo ≤ w.heap.size)
    (h : ∀ A' c' ws w', Hid (ws = xs ++ ys) → Own w' lo (.slice A' ws.length c') ws → w.grownBy w' v.ownBlock → ((Value.slice A' ws.length c').ownBlock = v.ownBlock ∨ (Value.slice A' ws.length c').ownBlock = some w.heap.size) → K (a.put o.dst (.slice A' ws.length c')) w') :
    if Region.wanted o (yielded ops a.tmps) = true then Oper.wp Tryd.prog o a w K Q else E := by
  have hw : Region.wanted o (yielded ops a.tmps) = true := by simp [Region.wanted, hgd]
  rw [if_pos hw]
  obtain ⟨v', w', hr, h4, h3, h6⟩ := run_glue w o.type lo v xs ys A c hown hsrc hb hlo
  obtain ⟨A', c', rfl, h5⟩ := own_form h4
  unfold Oper.wp execOp
  simp only [ho, resolve, invoke, builtin, Sem.run_bind, Sem.run_pure, Result.andThen_ok, List.map_toArray, List.map_cons, List.map_nil, hs, hx, hr]
  exact h A' c' _ w' (Lib.hid rfl) h5 h3 h6
theorem own_new (w : World) : Own (w.alloc (.cells #[] 2)) w.heap.size (.slice (some ⟨w.heap.size, 0, none⟩) 0 0) [] := World.ownsRow_made w #[] 0 (Nat.le_refl _) (by unfold maxLen; omega) rfl
theorem bl_glue {a w w1 : World} {o : Obj} {m : Nat} (hb : Below a.heap.size a w) (hg : (w.alloc o).grownBy w1 (Value.slice (some ⟨w.heap.size, 0, none⟩) m m).ownBlock) : Below a.heap.size a w1 :=
  (bl_alloc hb o).grown hg (Nat.le_trans hb.size (by simp)) (fun j hj => by
    have : w.heap.size = j := by injection hj
    have := hb.size
    omega)
theorem bl_app {a w w1 : World} {v : Value} {xs : List Int} {lo : Nat} (hb : Below a.heap.size a w) (ho : Own w lo v xs) (hl : a.heap.size ≤ lo) (hg : w.grownBy w1 v.ownBlock) : Below a.heap.size a w1 :=
  hb.grown hg hb.size (fun j hj => Nat.le_trans hl (World.ownsRow.lt ho j hj).1)

/-! Slices of a slice. -/
/-- Where a slice from n on begins: at the end of the row the model keeps the row's own address. -/
def fromAt (b off c n : Nat) : Option Addr := if c = n then some ⟨b, off, none⟩ else some ⟨b, off + n, none⟩
theorem run_sliceFrom (b off len c n : Nat) (h : n ≤ len) (w : World) :
    (Instr.slice 22 (.slice (some ⟨b, off, none⟩) len c) (some (.int .i64 (n : Int))) none none).run Tryd.prog w = .ok (.slice (fromAt b off c n) (len - n) (c - n)) w := by
  obtain ⟨i0, hi, hz0, hz1, hz2⟩ := info_parts infoInt
  have h0 : (0 : Int) ≤ n := by omega
  have h1 : ¬ len < n := by omega
  unfold fromAt
  by_cases hc : c = n
  · simp [Instr.slice, run_underlying Tryd.underlying22, Instr.sliceBounds, Instr.sliceBound, sizeOf, typeInfo, hi, asIntOf, h0, h1, hc]
  · simp [Instr.slice, run_underlying Tryd.underlying22, Instr.sliceBounds, Instr.sliceBound, sizeOf, typeInfo, hi, hz1, asIntOf, h0, h1, hc, Addr.add_mid]
theorem run_sliceTo (b off len c n : Nat) (h : n ≤ c) (w : World) :
    (Instr.slice 22 (.slice (some ⟨b, off, none⟩) len c) none (some (.int .i64 (n : Int))) none).run Tryd.prog w = .ok (.slice (some ⟨b, off, none⟩) n c) w := by
  obtain ⟨i0, hi, hz0, hz1, hz2⟩ := info_parts infoInt
  have h0 : (0 : Int) ≤ n := by omega
  have h1 : ¬ c < n := by omega
  simp [Instr.slice, run_underlying Tryd.underlying22, Instr.sliceBounds, Instr.sliceBound, sizeOf, typeInfo, hi, asIntOf, h0, h1, Addr.add]
theorem rd_from {w : World} {b off c n : Nat} {xs : List Int} (h : Rd w (some ⟨b, off, none⟩) xs) (hc : xs.length ≤ c ∨ c ≠ n) : Rd w (fromAt b off c n) (xs.drop n) := by
  intro h0
  rw [List.length_drop] at h0
  have hne : ¬ c = n := by omega
  obtain ⟨b', off', e, hx⟩ := h (by omega)
  injection e with e
  injection e with e1 e2
  subst e1 e2
  refine ⟨b, off + n, by unfold fromAt; rw [if_neg hne], fun i hi => ?_⟩
  rw [List.length_drop] at hi
  rw [show nth (xs.drop n) i = nth xs (n + i) from ix_drop xs n i, Nat.add_assoc]
  exact hx (n + i) (by omega)
theorem rd_to {w : World} {b off n : Nat} {xs : List Int} (h : Rd w (some ⟨b, off, none⟩) xs) : Rd w (some ⟨b, off, none⟩) (xs.take n) := by
  intro h0
  rw [List.length_take] at h0
  obtain ⟨b', off', e, hx⟩ := h (by omega)
  refine ⟨b', off', e, fun i hi => ?_⟩
  rw [List.length_take] at hi
  rw [show nth (xs.take n) i = nth xs i from ix_take xs n i (by omega)]
  exact hx i (by omega)
end Go.Proofs.YtcbfmfkahgfjkaaDoor
