/-
  append(list, other...) where the operation is guarded: both lists lie in rows of the call's own.
-/
import Derived.Test.YtoidchkgibngiaaDoorDeal
namespace Go.Proofs.YtoidchkgibngiaaDoor
open Go.RowKit
set_option linter.unusedVariables false

theorem run_cat (w : World) (ty : TypeId) (lo lo' : Nat) (v : Value) (xs ys : List Int) (A : Option Addr) (c : Nat) (hown : Own w lo v xs) (hsrc : Own w lo' (.slice A ys.length c) ys) (hb : xs.length + ys.length ≤ 4000000) (hlo : lo ≤ w.heap.size) :
    ∃ v' w', (Builtin.append_ #[24, 24] ty #[v, .slice A ys.length c]).run Tryd.prog w = .ok v' w' ∧ Own w' lo v' (xs ++ ys) ∧ w.grownBy w' v.ownBlock := by
  obtain ⟨i0, hi, hz0, hz1, hz2⟩ := info_parts infoInt
  rcases A with _ | ad
  · rcases hsrc.2 with ⟨e, hn⟩ | ⟨g, cap, cur, hv, _⟩
    · have hy : ys = [] := List.length_eq_zero_iff.1 hn
      subst hy
      injection e with _ _ hc
      subst hc
      refine ⟨v, w, run_append_owned_none w lo 24 ty 2 i0 1 Tryd.underlying24 hi v xs.length (ints xs) hown, ?_, World.grownBy.refl w _⟩
      rw [List.append_nil]; exact hown
    · cases hv
  · obtain ⟨g, hg, hc⟩ : ∃ g, ad = ⟨g, 0, none⟩ ∧ ∀ i, i < ys.length → w.cell? ⟨g, i, none⟩ = some (.int .i64 (nth ys i)) := by
      rcases hsrc.2 with ⟨e, hn⟩ | ⟨g, cap, cur, hv, _⟩
      · cases e
      · injection hv with hA _ _
        injection hA with hA
        subst hA
        exact ⟨g, rfl, fun i hi => own_cell hsrc i hi⟩
    subst hg
    obtain ⟨v', w', hr, h2, h3, _, _⟩ := run_append_own_at (P := Tryd.prog) w lo 24 ty 2 i0 (.int .i64 0) 1 8 Tryd.underlying24 hi hz0 hz1 hz2 rfl (by decide) v xs.length (ints xs) hown ⟨g, 0, none⟩ ys.length c (ints ys) (by rw [ints_length, Nat.mul_one])
      (fun j u hu => by
        have hj : j < ys.length := by have := (List.getElem?_eq_some_iff.1 hu).1; rwa [ints_length] at this
        rw [ints_get _ j hj] at hu
        rw [add_at, Nat.zero_add, hc j hj]; exact hu)
      (fun u hu => by unfold ints at hu; obtain ⟨y, _, rfl⟩ := List.mem_map.1 hu; rfl) (by unfold maxLen; omega) (by omega) hlo
    exact ⟨v', w', hr, by unfold Own; rw [ints_append, List.length_append]; exact h2, h3⟩

/-- The guarded append in a plain region. -/
theorem wpList_cat {ops : Array Oper} {rest : List Oper} {o : Oper} {a : Act} {w : World} {Q : Exit → Act → World → Prop} (s x : Operand) (hw : Region.wanted o (yielded ops a.tmps) = true)
    (ho : o.op = .call { callee := .builtin .append, args := #[s, x], argTypes := #[24, 24] })
    (lo lo' : Nat) (v : Value) (xs ys : List Int) (A : Option Addr) (c : Nat) (hs : a.eval s = v) (hown : Own w lo v xs) (hx : a.eval x = .slice A ys.length c) (hsrc : Own w lo' (.slice A ys.length c) ys) (hb : xs.length + ys.length ≤ 4000000) (hlo : lo ≤ w.heap.size)
    (h : ∀ A' c' ws w', Hid (ws = xs ++ ys) → Own w' lo (.slice A' ws.length c') ws → w.grownBy w' v.ownBlock → wpList Tryd.prog ops Q rest (a.put o.dst (.slice A' ws.length c')) w') : wpList Tryd.prog ops Q (o :: rest) a w :=
  wpList_step fun K hK => by
    rw [if_pos hw]
    obtain ⟨v', w', hr, h4, h3⟩ := run_cat w o.type lo lo' v xs ys A c hown hsrc hb hlo
    obtain ⟨A', c', rfl, h5⟩ := own_form h4
    unfold Oper.wp execOp
    simp only [ho, resolve, invoke, builtin, Sem.run_bind, Sem.run_pure, Result.andThen_ok, List.map_toArray, List.map_cons, List.map_nil, hs, hx, hr]
    exact hK _ _ (h A' c' _ w' (Lib.hid rfl) h5 h3)
theorem own_made (w : World) : Own (w.alloc (.cells #[] 2)) w.heap.size (.slice (some ⟨w.heap.size, 0, none⟩) 0 0) [] := World.ownsRow_made w #[] 0 (Nat.le_refl _) (by unfold maxLen; omega) rfl
/-- What lay there before a new row was begun is kept when this one is written. -/
theorem own_kept_cat {w w1 : World} {lo n c m : Nat} {A : Option Addr} {ys : List Int} {o : Obj} (h : Own w lo (.slice A n c) ys) (hg : (w.alloc o).grownBy w1 (Value.slice (some ⟨w.heap.size, 0, none⟩) m m).ownBlock) : Own w1 lo (.slice A n c) ys :=
  Own.grown (h.below (bl_alloc (bl_refl _) _)) hg (by
    rcases A with _ | a
    · exact .inl rfl
    · right
      intro e
      have k := World.ownsRow.lt h a.block rfl
      have e' : a.block = w.heap.size := by injection e
      omega)
theorem bl_cat {a w w1 w2 : World} {o : Obj} {m n c : Nat} {A : Option Addr} {xs : List Int} (hb : Below a.heap.size a w) (hg : (w.alloc o).grownBy w1 (Value.slice (some ⟨w.heap.size, 0, none⟩) m m).ownBlock) (ho : Own w1 w.heap.size (.slice A n c) xs) (hg2 : w1.grownBy w2 (Value.slice A n c).ownBlock) : Below a.heap.size a w2 := by
  have h1 : Below a.heap.size a w1 := (bl_alloc hb o).grown hg (Nat.le_trans hb.size (by simp)) (fun j hj => by
    have : w.heap.size = j := by injection hj
    have := hb.size
    omega)
  exact h1.grown hg2 h1.size (fun j hj => Nat.le_trans hb.size (World.ownsRow.lt ho j hj).1)
end Go.Proofs.YtoidchkgibngiaaDoor
