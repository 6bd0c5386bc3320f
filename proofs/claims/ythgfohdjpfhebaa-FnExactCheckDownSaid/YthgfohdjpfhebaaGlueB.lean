/-
  append(row of bools, list...); slices.Clone of numbers and of bools.
-/
import Derived.Test.YthgfohdjpfhebaaBoolL
import Derived.Test.YthgfohdjpfhebaaRows2
import Derived.Test.YthgfohdjpfhebaaSpecH
namespace Go.Proofs.Ythgfohdjpfhebaa
open Go.RowKit
set_option linter.unusedVariables false

theorem own_formB {w : World} {lo : Nat} {v : Value} {xs : List Bool} (h : OwnB w lo v xs) : ∃ A c, v = .slice A xs.length c ∧ OwnB w lo (.slice A xs.length c) xs := by
  have h' := h
  rcases h.2 with ⟨rfl, hn⟩ | ⟨g, cap, cur, rfl, _⟩
  · exact ⟨none, 0, by rw [hn], by rw [hn]; exact h'⟩
  · exact ⟨_, _, rfl, h'⟩
theorem run_append_nothingB (w : World) (lo : Nat) (ty : TypeId) (v : Value) (n : Nat) (xs : List Value) (c : Nat) (hown : w.ownsRow lo 4 1 v n xs) :
    (Builtin.append_ #[25, 25] ty #[v, .slice none 0 c]).run Try.prog w = .ok v w := by
  obtain ⟨i0, hi, hz0, hz1, hz2⟩ := info_parts infoBoolL
  rcases hown.2 with ⟨rfl, rfl⟩ | ⟨g, cap, cur, rfl, _, _, hnc, _⟩
  · simp [Builtin.append_, run_underlying Try.underlying25, sizeOf, typeInfo, hi, Builtin.lenOf, Builtin.firstCells]
  · simp [Builtin.append_, run_underlying Try.underlying25, sizeOf, typeInfo, hi, Builtin.lenOf, Builtin.firstCells, hnc, storeCells]
theorem run_glueB (w : World) (ty : TypeId) (lo : Nat) (v : Value) (xs ys : List Bool) (A : Option Addr) (c : Nat) (hown : OwnB w lo v xs) (hsrc : RdB w A ys) (hb : xs.length + ys.length ≤ 4000000) (hlo : lo ≤ w.heap.size) :
    ∃ v' w', (Builtin.append_ #[25, 25] ty #[v, .slice A ys.length c]).run Try.prog w = .ok v' w' ∧ OwnB w' lo v' (xs ++ ys) ∧ w.grownBy w' v.ownBlock ∧ (v'.ownBlock = v.ownBlock ∨ v'.ownBlock = some w.heap.size) := by
  obtain ⟨i0, hi, hz0, hz1, hz2⟩ := info_parts infoBoolL
  rcases A with _ | ad
  · have hn : ys.length = 0 := by
      by_cases h0 : 0 < ys.length
      · obtain ⟨b, off, e, _⟩ := hsrc h0
        cases e
      · omega
    have hy : ys = [] := List.length_eq_zero_iff.1 hn
    subst hy
    exact ⟨v, w, run_append_nothingB w lo ty v xs.length (bools xs) c hown, by rw [List.append_nil]; exact hown, World.grownBy.refl w _, .inl rfl⟩
  · obtain ⟨v', w', hr, h2, h3, _, h5⟩ := run_append_own_at (P := Try.prog) w lo 25 ty 4 i0 (.bool false) 1 1 Try.underlying25 hi hz0 hz1 hz2 rfl (by decide) v xs.length (bools xs) hown ad ys.length c (bools ys) (by rw [bools_length, Nat.mul_one])
      (fun j u hu => by
        have hj : j < ys.length := by have := (List.getElem?_eq_some_iff.1 hu).1; rwa [bools_length] at this
        rw [bools_get _ j hj] at hu
        obtain ⟨b, off, e, hc⟩ := hsrc (by omega)
        obtain rfl := Option.some.inj e
        rw [Addr.add_mid, hc j hj]; exact hu)
      (fun u hu => by unfold bools at hu; obtain ⟨y, _, rfl⟩ := List.mem_map.1 hu; rfl) (by unfold maxLen; omega) (by omega) hlo
    exact ⟨v', w', hr, by unfold OwnB; rw [bools_append, List.length_append]; exact h2, h3, h5⟩
/-- append of a list as one step of a plain region. -/
theorem wpList_glueB {ops : Array Oper} {rest : List Oper} {o : Oper} {a : Act} {w : World} {Q : Exit → Act → World → Prop} (s x : Operand) (hgd : o.guard = none)
    (ho : o.op = .call { callee := .builtin .append, args := #[s, x], argTypes := #[25, 25] })
    (lo : Nat) (v : Value) (xs ys : List Bool) (A : Option Addr) (c : Nat) (hs : a.eval s = v) (hown : OwnB w lo v xs) (hx : a.eval x = .slice A ys.length c) (hsrc : RdB w A ys) (hb : xs.length + ys.length ≤ 4000000) (hlo : lo ≤ w.heap.size)
    (h : ∀ A' c' ws w', Hid (ws = xs ++ ys) → OwnB w' lo (.slice A' ws.length c') ws → w.grownBy w' v.ownBlock → ((Value.slice A' ws.length c').ownBlock = v.ownBlock ∨ (Value.slice A' ws.length c').ownBlock = some w.heap.size) → wpList Try.prog ops Q rest (a.put o.dst (.slice A' ws.length c')) w') : wpList Try.prog ops Q (o :: rest) a w :=
  wpList_plain hgd fun K hK => by
    obtain ⟨v', w', hr, h4, h3, h6⟩ := run_glueB w o.type lo v xs ys A c hown hsrc hb hlo
    obtain ⟨A', c', rfl, h5⟩ := own_formB h4
    unfold Oper.wp execOp
    simp only [ho, resolve, invoke, builtin, Sem.run_bind, Sem.run_pure, Result.andThen_ok, List.map_toArray, List.map_cons, List.map_nil, hs, hx, hr]
    exact hK _ _ (h A' c' _ w' (Lib.hid rfl) h5 h3 h6)
theorem own_newB (w : World) : OwnB (w.alloc (.cells #[] 4)) w.heap.size (.slice (some ⟨w.heap.size, 0, none⟩) 0 0) [] := World.ownsRow_made w #[] 0 (Nat.le_refl _) (by unfold maxLen; omega) rfl
set_option maxRecDepth 100000 in
set_option maxHeartbeats 600000 in
theorem cloneI_any (A : Option Addr) (c : Nat) (xs : List Int) (w : World) (hr : Rd w A xs) (hn : xs.length ≤ 4000000) :
    Calls Try.prog 133 #[.slice A xs.length c] w (NewL xs w) := by
  rcases A with _ | ⟨b, off, sp⟩
  · have hz : xs = [] := by
      rcases xs with _ | ⟨y, ys⟩
      · rfl
      · obtain ⟨b, off, e, _⟩ := hr (by simp)
        cases e
    subst hz
    clear hr
    have hnil : ∀ W : World, (binOp .eql 24 (.slice none 0 c) (.slice none 0 0)).run Try.prog W = .ok (.bool true) W := fun W => (Lib.run_eql_slice_nil (w := W) (P := Try.prog) 24 2 none 0 c 0 0 Try.underlying24)
    go_enter Try.func133, Try.ntmps133
    go_wp2_with fail
    go_ret
    exact ⟨none, 0, rfl, Own.nil _ _, bl_refl _⟩
  have hsp : xs.length = 0 ∨ sp = none := by
    by_cases h0 : 0 < xs.length
    · obtain ⟨b', off', e, _⟩ := hr h0
      injection e with e
      injection e with _ _ e
      exact .inr e
    · exact .inl (by omega)
  have HR := Lib.hid (hr.below (bl_alloc (bl_refl w) (.cells #[] 2)))
  have HE := Lib.hid (own_new w)
  have HB : Hid (([] : List Int).length + xs.length ≤ 4000000) := Lib.hid (by simpa using hn)
  have HZ : Hid (w.heap.size ≤ (w.alloc (.cells #[] 2)).heap.size) := Lib.hid (by simp)
  have hnil : ∀ W : World, (binOp .eql 24 (.slice (some ⟨b, off, sp⟩) xs.length c) (.slice none 0 0)).run Try.prog W = .ok (.bool false) W := fun W => (Lib.run_eql_slice_nil (w := W) (P := Try.prog) 24 2 (some ⟨b, off, sp⟩) xs.length c 0 0 Try.underlying24)
  clear hr hsp
  go_enter Try.func133, Try.ntmps133
  go_wp2_with (at_builtin; refine wpList_glue (.tmp 5) (.tmp 6) rfl rfl w.heap.size (.slice (some ⟨w.heap.size, 0, none⟩) 0 0) [] xs (some ⟨b, off, sp⟩) c rfl HE.out rfl HR.out HB.out HZ.out ?_)
  intro A' c' ws w' e ho hg _
  have HO := Lib.hid ho
  have HG := Lib.hid (bl_glue (bl_refl w) hg)
  have HW : Hid (ws = xs) := Lib.hid (by simpa using e.out)
  clear ho hg e
  go_wp2_with fail
  go_ret
  obtain rfl := HW.out
  exact ⟨_, _, rfl, HO.out, HG.out⟩
set_option maxRecDepth 100000 in
set_option maxHeartbeats 600000 in
theorem cloneB_any (A : Option Addr) (c : Nat) (xs : List Bool) (w : World) (hr : RdB w A xs) (hn : xs.length ≤ 4000000) :
    Calls Try.prog 148 #[.slice A xs.length c] w (NewLB xs w) := by
  rcases A with _ | ⟨b, off, sp⟩
  · have hz : xs = [] := by
      rcases xs with _ | ⟨y, ys⟩
      · rfl
      · obtain ⟨b, off, e, _⟩ := hr (by simp)
        cases e
    subst hz
    clear hr
    have hnil : ∀ W : World, (binOp .eql 25 (.slice none 0 c) (.slice none 0 0)).run Try.prog W = .ok (.bool true) W := fun W => (Lib.run_eql_slice_nil (w := W) (P := Try.prog) 25 4 none 0 c 0 0 Try.underlying25)
    go_enter Try.func148, Try.ntmps148
    go_wp2_with fail
    go_ret
    exact ⟨none, 0, rfl, OwnB.nil _ _, bl_refl _⟩
  have hsp : xs.length = 0 ∨ sp = none := by
    by_cases h0 : 0 < xs.length
    · obtain ⟨b', off', e, _⟩ := hr h0
      injection e with e
      injection e with _ _ e
      exact .inr e
    · exact .inl (by omega)
  have HR := Lib.hid (hr.below (bl_alloc (bl_refl w) (.cells #[] 4)))
  have HE := Lib.hid (own_newB w)
  have HB : Hid (([] : List Bool).length + xs.length ≤ 4000000) := Lib.hid (by simpa using hn)
  have HZ : Hid (w.heap.size ≤ (w.alloc (.cells #[] 4)).heap.size) := Lib.hid (by simp)
  have hnil : ∀ W : World, (binOp .eql 25 (.slice (some ⟨b, off, sp⟩) xs.length c) (.slice none 0 0)).run Try.prog W = .ok (.bool false) W := fun W => (Lib.run_eql_slice_nil (w := W) (P := Try.prog) 25 4 (some ⟨b, off, sp⟩) xs.length c 0 0 Try.underlying25)
  clear hr hsp
  go_enter Try.func148, Try.ntmps148
  go_wp2_with (at_builtin; refine wpList_glueB (.tmp 5) (.tmp 6) rfl rfl w.heap.size (.slice (some ⟨w.heap.size, 0, none⟩) 0 0) [] xs (some ⟨b, off, sp⟩) c rfl HE.out rfl HR.out HB.out HZ.out ?_)
  intro A' c' ws w' e ho hg _
  have HO := Lib.hid ho
  have HG := Lib.hid (bl_glue (bl_refl w) hg)
  have HW : Hid (ws = xs) := Lib.hid (by simpa using e.out)
  clear ho hg e
  go_wp2_with fail
  go_ret
  obtain rfl := HW.out
  exact ⟨_, _, rfl, HO.out, HG.out⟩
end Go.Proofs.Ythgfohdjpfhebaa
