/-
  Put together, what this law needs of: BetHelp, Rows2, GlueB, BetClone, BetMark, BetSet.
-/
import Derived.Test.YtnllndcajdofjaaQaBetAG
import Derived.Test.YtnllndcajdofjaaQaBetDG
import Derived.Test.YtnllndcajdofjaaQaBoolLG
import Derived.BigQuiet
import Derived.Test.YtnllndcajdofjaaQaAnySG
import Derived.Deep.RegionLaw
import Derived.Deep.RegionWith
import Derived.IntWalk
import Derived.Deep.MidRow
namespace Go.Proofs.Ytnllndcajdofjaa
open Go.Joins Go.ChangeShapes Go.WideShapes Go.ChangeAt Go.RowKit Go.Deep
set_option linter.unusedVariables false

theorem ownB_block {w : World} {lo g : Nat} {A : Option Addr} {n c : Nat} {xs : List Bool} (h : OwnB w lo (.slice A n c) xs) (hg : g < lo) : (Value.slice A n c).ownBlock = none ∨ (Value.slice A n c).ownBlock ≠ some g := by
  rcases A with _ | a
  · exact .inl rfl
  · right
    intro e
    have k1 := World.ownsRow.lt h a.block rfl
    have : a.block = g := by injection e
    omega
theorem hoB_grown {w w' : World} {lo g : Nat} {A : Option Addr} {n c : Nat} {xs : List Bool} (h : Hid (OwnB w lo (.slice A n c) xs)) (hg : w.grownBy w' (some g)) (hl : g < lo) : Hid (OwnB w' lo (.slice A n c) xs) := Lib.hid (h.out.grown hg (ownB_block h.out hl))
/-- Two lists lie in different blocks. -/
def Apt (A B : Option Addr) : Prop := ∀ a b, A = some a → B = some b → a.block ≠ b.block
/-- A round whose lists are rows of the call's own, apart. -/
structure Row5 (w : World) (lo : Nat) (L : At5) (b : Bt) : Prop where
  r1 : Row w lo L.a1 b.st
  r2 : Row w lo L.a2 b.bt
  r3 : Row w lo L.a3 b.pd
  r4 : RowB w lo L.a4 b.fo
  r5 : RowB w lo L.a5 b.ac
  p12 : Apt L.a1 L.a2
  p13 : Apt L.a1 L.a3
  p14 : Apt L.a1 L.a4
  p15 : Apt L.a1 L.a5
  p23 : Apt L.a2 L.a3
  p24 : Apt L.a2 L.a4
  p25 : Apt L.a2 L.a5
  p34 : Apt L.a3 L.a4
  p35 : Apt L.a3 L.a5
  p45 : Apt L.a4 L.a5
theorem Row5.rd {w : World} {lo : Nat} {L : At5} {b : Bt} (h : Row5 w lo L b) : Rd5 w L b := ⟨h.r1.rd, h.r2.rd, h.r3.rd, h.r4.rd, h.r5.rd⟩
theorem Row5.below {w w' : World} {lo : Nat} {L : At5} {b : Bt} (h : Row5 w lo L b) (hb : Below w.heap.size w w') : Row5 w' lo L b := ⟨h.r1.below hb, h.r2.below hb, h.r3.below hb, h.r4.below hb, h.r5.below hb, h.p12, h.p13, h.p14, h.p15, h.p23, h.p24, h.p25, h.p34, h.p35, h.p45⟩
theorem Row5.less {w : World} {lo lo' : Nat} {L : At5} {b : Bt} (h : Row5 w lo L b) (hl : lo' ≤ lo) : Row5 w lo' L b := ⟨h.r1.less hl, h.r2.less hl, h.r3.less hl, h.r4.less hl, h.r5.less hl, h.p12, h.p13, h.p14, h.p15, h.p23, h.p24, h.p25, h.p34, h.p35, h.p45⟩
/-- What a call leaves that returns a new round. -/
def NewBt (b : Bt) (w : World) (e : Ending) (w' : World) : Prop := ∃ L, e = .returned (bV L b) ∧ Row5 w' w.heap.size L b ∧ Below w.heap.size w w'
theorem apt_lt {A B : Option Addr} {n : Nat} (h1 : ∀ a, A = some a → a.block < n) (h2 : ∀ b, B = some b → n ≤ b.block) : Apt A B := fun a b ea eb => by have := h1 a ea; have := h2 b eb; omega
/-- The lists of a round are not too long. -/
structure Sm (b : Bt) : Prop where
  m1 : b.st.length ≤ 1048576
  m2 : b.bt.length ≤ 1048576
  m3 : b.pd.length ≤ 1048576
  m4 : b.fo.length ≤ 1048576
  m5 : b.ac.length ≤ 1048576
end Go.Proofs.Ytnllndcajdofjaa


/-! Rows of the call's own in different blocks. -/
namespace Go.Proofs.Ytnllndcajdofjaa
open Go.RowKit
set_option linter.unusedVariables false

end Go.Proofs.Ytnllndcajdofjaa

/-! Rows of rows: lists of lists of numbers in memory, in rows of the call's own. -/
namespace Go.Proofs.Ytnllndcajdofjaa
open Go.RowKit
set_option linter.unusedVariables false

end Go.Proofs.Ytnllndcajdofjaa

/-! append(list, other...): the list is a row of the call's own, the other one reads however it lies; slices of a slice. -/
namespace Go.Proofs.Ytnllndcajdofjaa
open Go.RowKit
set_option linter.unusedVariables false

theorem run_append_nothing (w : World) (lo : Nat) (ty : TypeId) (v : Value) (n : Nat) (xs : List Value) (c : Nat) (hown : w.ownsRow lo 2 1 v n xs) :
    (Builtin.append_ #[24, 24] ty #[v, .slice none 0 c]).run Try.prog w = .ok v w := by
  obtain ⟨i0, hi, hz0, hz1, hz2⟩ := info_parts infoInt
  rcases hown.2 with ⟨rfl, rfl⟩ | ⟨g, cap, cur, rfl, _, _, hnc, _⟩
  · simp [Builtin.append_, run_underlying Try.underlying24, sizeOf, typeInfo, hi, Builtin.lenOf, Builtin.firstCells]
  · simp [Builtin.append_, run_underlying Try.underlying24, sizeOf, typeInfo, hi, Builtin.lenOf, Builtin.firstCells, hnc, storeCells]
theorem run_glue (w : World) (ty : TypeId) (lo : Nat) (v : Value) (xs ys : List Int) (A : Option Addr) (c : Nat) (hown : Own w lo v xs) (hsrc : Rd w A ys) (hb : xs.length + ys.length ≤ 4000000) (hlo : lo ≤ w.heap.size) :
    ∃ v' w', (Builtin.append_ #[24, 24] ty #[v, .slice A ys.length c]).run Try.prog w = .ok v' w' ∧ Own w' lo v' (xs ++ ys) ∧ w.grownBy w' v.ownBlock ∧ (v'.ownBlock = v.ownBlock ∨ v'.ownBlock = some w.heap.size) := by
  obtain ⟨i0, hi, hz0, hz1, hz2⟩ := info_parts infoInt
  rcases A with _ | ad
  · have hn : ys.length = 0 := by
      by_cases h0 : 0 < ys.length
      · obtain ⟨b, off, e, _⟩ := hsrc h0
        cases e
      · omega
    have hy : ys = [] := List.length_eq_zero_iff.1 hn
    subst hy
    exact ⟨v, w, run_append_nothing w lo ty v xs.length (ints xs) c hown, by rw [List.append_nil]; exact hown, World.grownBy.refl w _, .inl rfl⟩
  · obtain ⟨v', w', hr, h2, h3, _, h5⟩ := run_append_own_at (P := Try.prog) w lo 24 ty 2 i0 (.int .i64 0) 1 8 Try.underlying24 hi hz0 hz1 hz2 rfl (by decide) v xs.length (ints xs) hown ad ys.length c (ints ys) (by rw [ints_length, Nat.mul_one])
      (fun j u hu => by
        have hj : j < ys.length := by have := (List.getElem?_eq_some_iff.1 hu).1; rwa [ints_length] at this
        rw [ints_get _ j hj] at hu
        obtain ⟨b, off, e, hc⟩ := hsrc (by omega)
        obtain rfl := Option.some.inj e
        rw [Addr.add_mid, hc j hj]; exact hu)
      (fun u hu => by unfold ints at hu; obtain ⟨y, _, rfl⟩ := List.mem_map.1 hu; rfl) (by unfold maxLen; omega) (by omega) hlo
    exact ⟨v', w', hr, by unfold Own; rw [ints_append, List.length_append]; exact h2, h3, h5⟩
/-- append of a list as one step of a plain region. -/
theorem wpList_glue {ops : Array Oper} {rest : List Oper} {o : Oper} {a : Go.Act} {w : World} {Q : Exit → Go.Act → World → Prop} (s x : Operand) (hgd : o.guard = none)
    (ho : o.op = .call { callee := .builtin .append, args := #[s, x], argTypes := #[24, 24] })
    (lo : Nat) (v : Value) (xs ys : List Int) (A : Option Addr) (c : Nat) (hs : a.eval s = v) (hown : Own w lo v xs) (hx : a.eval x = .slice A ys.length c) (hsrc : Rd w A ys) (hb : xs.length + ys.length ≤ 4000000) (hlo : lo ≤ w.heap.size)
    (h : ∀ A' c' ws w', Hid (ws = xs ++ ys) → Own w' lo (.slice A' ws.length c') ws → w.grownBy w' v.ownBlock → ((Value.slice A' ws.length c').ownBlock = v.ownBlock ∨ (Value.slice A' ws.length c').ownBlock = some w.heap.size) → wpList Try.prog ops Q rest (a.put o.dst (.slice A' ws.length c')) w') : wpList Try.prog ops Q (o :: rest) a w :=
  wpList_plain hgd fun K hK => by
    obtain ⟨v', w', hr, h4, h3, h6⟩ := run_glue w o.type lo v xs ys A c hown hsrc hb hlo
    obtain ⟨A', c', rfl, h5⟩ := own_form h4
    unfold Oper.wp execOp
    simp only [ho, resolve, invoke, builtin, Sem.run_bind, Sem.run_pure, Result.andThen_ok, List.map_toArray, List.map_cons, List.map_nil, hs, hx, hr]
    exact hK _ _ (h A' c' _ w' (Lib.hid rfl) h5 h3 h6)
theorem own_new (w : World) : Own (w.alloc (.cells #[] 2)) w.heap.size (.slice (some ⟨w.heap.size, 0, none⟩) 0 0) [] := World.ownsRow_made w #[] 0 (Nat.le_refl _) (by unfold maxLen; omega) rfl
theorem bl_glue {a w w1 : World} {o : Obj} {m : Nat} (hb : Below a.heap.size a w) (hg : (w.alloc o).grownBy w1 (Value.slice (some ⟨w.heap.size, 0, none⟩) m m).ownBlock) : Below a.heap.size a w1 :=
  (bl_alloc hb o).grown hg (Nat.le_trans hb.size (by simp)) (fun j hj => by
    have : w.heap.size = j := by injection hj
    have := hb.size
    omega)
/-! Slices of a slice. -/
/-- Where a slice from n on begins: at the end of the row the model keeps the row's own address. -/
def fromAt (b off c n : Nat) : Option Addr := if c = n then some ⟨b, off, none⟩ else some ⟨b, off + n, none⟩
theorem run_sliceFrom (b off len c n : Nat) (h : n ≤ len) (w : World) :
    (Instr.slice 24 (.slice (some ⟨b, off, none⟩) len c) (some (.int .i64 (n : Int))) none none).run Try.prog w = .ok (.slice (fromAt b off c n) (len - n) (c - n)) w := by
  obtain ⟨i0, hi, hz0, hz1, hz2⟩ := info_parts infoInt
  have h0 : (0 : Int) ≤ n := by omega
  have h1 : ¬ len < n := by omega
  unfold fromAt
  by_cases hc : c = n
  · simp [Instr.slice, run_underlying Try.underlying24, Instr.sliceBounds, Instr.sliceBound, sizeOf, typeInfo, hi, asIntOf, h0, h1, hc]
  · simp [Instr.slice, run_underlying Try.underlying24, Instr.sliceBounds, Instr.sliceBound, sizeOf, typeInfo, hi, hz1, asIntOf, h0, h1, hc, Addr.add_mid]
end Go.Proofs.Ytnllndcajdofjaa

/-! Short rows that a call builds. -/
namespace Go.Proofs.Ytnllndcajdofjaa
open Go.RowKit
set_option linter.unusedVariables false

end Go.Proofs.Ytnllndcajdofjaa

/-! Slices are hung to a row of slices. -/
namespace Go.Proofs.Ytnllndcajdofjaa
open Go.RowKit
set_option linter.unusedVariables false

end Go.Proofs.Ytnllndcajdofjaa

namespace Go.Proofs.Ytnllndcajdofjaa
open Go.RowKit
set_option linter.unusedVariables false

theorem own_formB {w : World} {lo : Nat} {v : Value} {xs : List Bool} (h : OwnB w lo v xs) : ∃ A c, v = .slice A xs.length c ∧ OwnB w lo (.slice A xs.length c) xs := by
  have h' := h
  rcases h.2 with ⟨rfl, hn⟩ | ⟨g, cap, cur, rfl, _⟩
  · exact ⟨none, 0, by rw [hn], by rw [hn]; exact h'⟩
  · exact ⟨_, _, rfl, h'⟩
theorem run_append_nothingB (w : World) (lo : Nat) (ty : TypeId) (v : Value) (n : Nat) (xs : List Value) (c : Nat) (hown : w.ownsRow lo 4 1 v n xs) :
    (Builtin.append_ #[25, 25] ty #[v, .slice none 0 c]).run Try.prog w = .ok v w := by
  obtain ⟨i0, hi, hz0, hz1, hz2⟩ := info_parts infoBoolL
  rcases hown.2 with ⟨rfl, rfl⟩ | ⟨g, cap, cur, rfl, _, _, hnc, _⟩
  · simp [Builtin.append_, run_underlying Try.underlying25, sizeOf, typeInfo, hi, Builtin.lenOf, Builtin.firstCells]
  · simp [Builtin.append_, run_underlying Try.underlying25, sizeOf, typeInfo, hi, Builtin.lenOf, Builtin.firstCells, hnc, storeCells]
theorem run_glueB (w : World) (ty : TypeId) (lo : Nat) (v : Value) (xs ys : List Bool) (A : Option Addr) (c : Nat) (hown : OwnB w lo v xs) (hsrc : RdB w A ys) (hb : xs.length + ys.length ≤ 4000000) (hlo : lo ≤ w.heap.size) :
    ∃ v' w', (Builtin.append_ #[25, 25] ty #[v, .slice A ys.length c]).run Try.prog w = .ok v' w' ∧ OwnB w' lo v' (xs ++ ys) ∧ w.grownBy w' v.ownBlock ∧ (v'.ownBlock = v.ownBlock ∨ v'.ownBlock = some w.heap.size) := by
  obtain ⟨i0, hi, hz0, hz1, hz2⟩ := info_parts infoBoolL
  rcases A with _ | ad
  · have hn : ys.length = 0 := by
      by_cases h0 : 0 < ys.length
      · obtain ⟨b, off, e, _⟩ := hsrc h0
        cases e
      · omega
    have hy : ys = [] := List.length_eq_zero_iff.1 hn
    subst hy
    exact ⟨v, w, run_append_nothingB w lo ty v xs.length (bools xs) c hown, by rw [List.append_nil]; exact hown, World.grownBy.refl w _, .inl rfl⟩
  · obtain ⟨v', w', hr, h2, h3, _, h5⟩ := run_append_own_at (P := Try.prog) w lo 25 ty 4 i0 (.bool false) 1 1 Try.underlying25 hi hz0 hz1 hz2 rfl (by decide) v xs.length (bools xs) hown ad ys.length c (bools ys) (by rw [bools_length, Nat.mul_one])
      (fun j u hu => by
        have hj : j < ys.length := by have := (List.getElem?_eq_some_iff.1 hu).1; rwa [bools_length] at this
        rw [bools_get _ j hj] at hu
        obtain ⟨b, off, e, hc⟩ := hsrc (by omega)
        obtain rfl := Option.some.inj e
        rw [Addr.add_mid, hc j hj]; exact hu)
      (fun u hu => by unfold bools at hu; obtain ⟨y, _, rfl⟩ := List.mem_map.1 hu; rfl) (by unfold maxLen; omega) (by omega) hlo
    exact ⟨v', w', hr, by unfold OwnB; rw [bools_append, List.length_append]; exact h2, h3, h5⟩
/-- append of a list as one step of a plain region. -/
theorem wpList_glueB {ops : Array Oper} {rest : List Oper} {o : Oper} {a : Go.Act} {w : World} {Q : Exit → Go.Act → World → Prop} (s x : Operand) (hgd : o.guard = none)
    (ho : o.op = .call { callee := .builtin .append, args := #[s, x], argTypes := #[25, 25] })
    (lo : Nat) (v : Value) (xs ys : List Bool) (A : Option Addr) (c : Nat) (hs : a.eval s = v) (hown : OwnB w lo v xs) (hx : a.eval x = .slice A ys.length c) (hsrc : RdB w A ys) (hb : xs.length + ys.length ≤ 4000000) (hlo : lo ≤ w.heap.size)
    (h : ∀ A' c' ws w', Hid (ws = xs ++ ys) → OwnB w' lo (.slice A' ws.length c') ws → w.grownBy w' v.ownBlock → ((Value.slice A' ws.length c').ownBlock = v.ownBlock ∨ (Value.slice A' ws.length c').ownBlock = some w.heap.size) → wpList Try.prog ops Q rest (a.put o.dst (.slice A' ws.length c')) w') : wpList Try.prog ops Q (o :: rest) a w :=
  wpList_plain hgd fun K hK => by
    obtain ⟨v', w', hr, h4, h3, h6⟩ := run_glueB w o.type lo v xs ys A c hown hsrc hb hlo
    obtain ⟨A', c', rfl, h5⟩ := own_formB h4
    unfold Oper.wp execOp
    simp only [ho, resolve, invoke, builtin, Sem.run_bind, Sem.run_pure, Result.andThen_ok, List.map_toArray, List.map_cons, List.map_nil, hs, hx, hr]
    exact hK _ _ (h A' c' _ w' (Lib.hid rfl) h5 h3 h6)
theorem own_newB (w : World) : OwnB (w.alloc (.cells #[] 4)) w.heap.size (.slice (some ⟨w.heap.size, 0, none⟩) 0 0) [] := World.ownsRow_made w #[] 0 (Nat.le_refl _) (by unfold maxLen; omega) rfl
set_option maxRecDepth 100000 in
set_option maxHeartbeats 600000 in
theorem cloneI_any (A : Option Addr) (c : Nat) (xs : List Int) (w : World) (hr : Rd w A xs) (hn : xs.length ≤ 4000000) :
    Calls Try.prog 118 #[.slice A xs.length c] w (NewL xs w) := by
  rcases A with _ | ⟨b, off, sp⟩
  · have hz : xs = [] := by
      rcases xs with _ | ⟨y, ys⟩
      · rfl
      · obtain ⟨b, off, e, _⟩ := hr (by simp)
        cases e
    subst hz
    clear hr
    have hnil : ∀ W : World, (binOp .eql 24 (.slice none 0 c) (.slice none 0 0)).run Try.prog W = .ok (.bool true) W := fun W => (Lib.run_eql_slice_nil (w := W) (P := Try.prog) 24 2 none 0 c 0 0 Try.underlying24)
    go_enter Try.func118, Try.ntmps118
    go_wp2_with fail
    go_ret
    exact ⟨none, 0, rfl, Own.nil _ _, bl_refl _⟩
  have hsp : xs.length = 0 ∨ sp = none := by
    by_cases h0 : 0 < xs.length
    · obtain ⟨b', off', e, _⟩ := hr h0
      injection e with e
      injection e with _ _ e
      exact .inr e
    · exact .inl (by omega)
  have HR := Lib.hid (hr.below (bl_alloc (bl_refl w) (.cells #[] 2)))
  have HE := Lib.hid (own_new w)
  have HB : Hid (([] : List Int).length + xs.length ≤ 4000000) := Lib.hid (by simpa using hn)
  have HZ : Hid (w.heap.size ≤ (w.alloc (.cells #[] 2)).heap.size) := Lib.hid (by simp)
  have hnil : ∀ W : World, (binOp .eql 24 (.slice (some ⟨b, off, sp⟩) xs.length c) (.slice none 0 0)).run Try.prog W = .ok (.bool false) W := fun W => (Lib.run_eql_slice_nil (w := W) (P := Try.prog) 24 2 (some ⟨b, off, sp⟩) xs.length c 0 0 Try.underlying24)
  clear hr hsp
  go_enter Try.func118, Try.ntmps118
  go_wp2_with (at_builtin; refine wpList_glue (.tmp 5) (.tmp 6) rfl rfl w.heap.size (.slice (some ⟨w.heap.size, 0, none⟩) 0 0) [] xs (some ⟨b, off, sp⟩) c rfl HE.out rfl HR.out HB.out HZ.out ?_)
  intro A' c' ws w' e ho hg _
  have HO := Lib.hid ho
  have HG := Lib.hid (bl_glue (bl_refl w) hg)
  have HW : Hid (ws = xs) := Lib.hid (by simpa using e.out)
  clear ho hg e
  go_wp2_with fail
  go_ret
  obtain rfl := HW.out
  exact ⟨_, _, rfl, HO.out, HG.out⟩
set_option maxRecDepth 100000 in
set_option maxHeartbeats 600000 in
theorem cloneB_any (A : Option Addr) (c : Nat) (xs : List Bool) (w : World) (hr : RdB w A xs) (hn : xs.length ≤ 4000000) :
    Calls Try.prog 142 #[.slice A xs.length c] w (NewLB xs w) := by
  rcases A with _ | ⟨b, off, sp⟩
  · have hz : xs = [] := by
      rcases xs with _ | ⟨y, ys⟩
      · rfl
      · obtain ⟨b, off, e, _⟩ := hr (by simp)
        cases e
    subst hz
    clear hr
    have hnil : ∀ W : World, (binOp .eql 25 (.slice none 0 c) (.slice none 0 0)).run Try.prog W = .ok (.bool true) W := fun W => (Lib.run_eql_slice_nil (w := W) (P := Try.prog) 25 4 none 0 c 0 0 Try.underlying25)
    go_enter Try.func142, Try.ntmps142
    go_wp2_with fail
    go_ret
    exact ⟨none, 0, rfl, OwnB.nil _ _, bl_refl _⟩
  have hsp : xs.length = 0 ∨ sp = none := by
    by_cases h0 : 0 < xs.length
    · obtain ⟨b', off', e, _⟩ := hr h0
      injection e with e
      injection e with _ _ e
      exact .inr e
    · exact .inl (by omega)
  have HR := Lib.hid (hr.below (bl_alloc (bl_refl w) (.cells #[] 4)))
  have HE := Lib.hid (own_newB w)
  have HB : Hid (([] : List Bool).length + xs.length ≤ 4000000) := Lib.hid (by simpa using hn)
  have HZ : Hid (w.heap.size ≤ (w.alloc (.cells #[] 4)).heap.size) := Lib.hid (by simp)
  have hnil : ∀ W : World, (binOp .eql 25 (.slice (some ⟨b, off, sp⟩) xs.length c) (.slice none 0 0)).run Try.prog W = .ok (.bool false) W := fun W => (Lib.run_eql_slice_nil (w := W) (P := Try.prog) 25 4 (some ⟨b, off, sp⟩) xs.length c 0 0 Try.underlying25)
  clear hr hsp
  go_enter Try.func142, Try.ntmps142
  go_wp2_with (at_builtin; refine wpList_glueB (.tmp 5) (.tmp 6) rfl rfl w.heap.size (.slice (some ⟨w.heap.size, 0, none⟩) 0 0) [] xs (some ⟨b, off, sp⟩) c rfl HE.out rfl HR.out HB.out HZ.out ?_)
  intro A' c' ws w' e ho hg _
  have HO := Lib.hid ho
  have HG := Lib.hid (bl_glue (bl_refl w) hg)
  have HW : Hid (ws = xs) := Lib.hid (by simpa using e.out)
  clear ho hg e
  go_wp2_with fail
  go_ret
  obtain rfl := HW.out
  exact ⟨_, _, rfl, HO.out, HG.out⟩
end Go.Proofs.Ytnllndcajdofjaa

namespace Go.Proofs.Ytnllndcajdofjaa
open Go.RowKit
set_option linter.unusedVariables false

/-- What clone leaves: a round in a new box, its lists rows of the call's own behind the box. -/
def Cloned5 (b : Bt) (w : World) (e : Ending) (w' : World) : Prop := ∃ L, e = .returned (.pointer (some ⟨w.heap.size, 0, none⟩)) ∧ Blk w' w.heap.size 27 (btL L b) ∧ Row5 w' (w.heap.size + 1) L b ∧ Below w.heap.size w w'
set_option maxRecDepth 100000 in
set_option maxHeartbeats 4000000 in
theorem cloneBt_any (g : Nat) (L : At5) (b : Bt) (w : World) (h : BtAt w g L b) (m : Sm b) :
    Calls Try.prog 85 #[.pointer (some ⟨g, 0, none⟩)] w (Cloned5 b w) := by
  obtain ⟨w0, rfl⟩ : ∃ w0 : World, w0 = w := ⟨w, rfl⟩
  have hgl := h.blk.lt
  have b1 := bl_alloc (bl_refl w0) (.cells (btL L b).toArray 27)
  have P1 : Hid (Blk (w0.alloc (.cells (btL L b).toArray 27)) g 27 (btL L b)) := Lib.hid (h.blk.below b1)
  have P3 : Hid (Blk (w0.alloc (.cells (btL L b).toArray 27)) w0.heap.size 27 (btL L b)) := Lib.hid (blk_new w0 _ _)
  have PB := Lib.hid b1
  have PL : Hid (w0.heap.size + 1 ≤ (w0.alloc (.cells (btL L b).toArray 27)).heap.size) := Lib.hid (by rw [World.size_alloc]; exact Nat.le_refl _)
  have i1s : (Try.prog.info? 24).map (·.size) = some 1 := by kernel_rfl
  have i1t : (Try.prog.info? 25).map (·.size) = some 1 := by kernel_rfl
  have h0 := h.blk
  have K0 := Lib.hid (fun (W : World) (hb : Below w0.heap.size w0 W) => cloneI_any L.a1 L.c1 b.st W ((h.below hb).rd.r1) (by have := m.m1; omega))
  have K1 := Lib.hid (fun (W : World) (hb : Below w0.heap.size w0 W) => cloneI_any L.a2 L.c2 b.bt W ((h.below hb).rd.r2) (by have := m.m2; omega))
  have K2 := Lib.hid (fun (W : World) (hb : Below w0.heap.size w0 W) => cloneI_any L.a3 L.c3 b.pd W ((h.below hb).rd.r3) (by have := m.m3; omega))
  have K3 := Lib.hid (fun (W : World) (hb : Below w0.heap.size w0 W) => cloneB_any L.a4 L.c4 b.fo W ((h.below hb).rd.r4) (by have := m.m4; omega))
  have K4 := Lib.hid (fun (W : World) (hb : Below w0.heap.size w0 W) => cloneB_any L.a5 L.c5 b.ac W ((h.below hb).rd.r5) (by have := m.m5; omega))
  obtain ⟨z0, -⟩ := h0.cell 0 _ rfl
  obtain ⟨z1, -⟩ := h0.cell 1 _ rfl
  obtain ⟨z2, -⟩ := h0.cell 2 _ rfl
  obtain ⟨z3, -⟩ := h0.cell 3 _ rfl
  obtain ⟨z4, -⟩ := h0.cell 4 _ rfl
  obtain ⟨z5, -⟩ := h0.cell 5 _ rfl
  obtain ⟨z6, -⟩ := h0.cell 6 _ rfl
  obtain ⟨z7, -⟩ := h0.cell 7 _ rfl
  obtain ⟨z8, -⟩ := h0.cell 8 _ rfl
  have P11 := P1.out
  obtain ⟨q, -⟩ := P11.cell 0 _ rfl
  clear h h0 m b1 P11
  go_enter Try.func85, Try.ntmps85
  go_wp2_with (first
    | (go_at_call 118; (with_reducible refine (K0.out _ PB.out).mono ?_); rintro e x0 ⟨A0, c0, rfl, ho, hb⟩; have HO0 := Lib.hid ho; have PO0 : Hid (w0.heap.size < _) := Lib.hid (Nat.lt_of_lt_of_le (Nat.lt_succ_self _) PL.out); have P1a := Lib.hid (P1.out.below hb); have P3a := Lib.hid (P3.out.below hb); have PBa := Lib.hid (bl_trans PB.out hb); have PLa := Lib.hid (Nat.le_trans PL.out hb.size); clear ho hb P1 P3 PB PL; have P1 := P1a; have P3 := P3a; have PB := PBa; have PL := PLa; clear P1a P3a PBa PLa)
    | ((with_reducible refine wpList_store_at 24 rfl (.tmp 12) (.tmp 11) rfl i1s w0.heap.size 0 rfl (.slice A0 b.st.length c0) rfl rfl _ _ P3.out ?_ ?_); (exact (by simp)); intro y0 k5 g5; have P1a := hb_grown P1 g5 (Nat.ne_of_lt hgl); have P3a : Hid (Blk y0 w0.heap.size 27 [.slice A0 b.st.length c0, .slice L.a2 b.bt.length L.c2, .slice L.a3 b.pd.length L.c3, .slice L.a4 b.fo.length L.c4, .slice L.a5 b.ac.length L.c5, .int .i64 b.tu, .int .i64 b.un, .int .i64 b.ra, .int .i64 b.li]) := Lib.hid k5; have PBa := hbl_grown PB g5 (Nat.le_refl _); have PLa := hle_grown PL g5; have HO0a := ho_grown HO0 g5 PO0.out; clear HO0; have HO0 := HO0a; clear HO0a; clear k5 g5 P1 P3 PB PL; have P1 := P1a; have P3 := P3a; have PB := PBa; have PL := PLa; clear P1a P3a PBa PLa; clear q; obtain ⟨q, -⟩ := P1.out.cell 1 _ rfl)
    | (go_at_call 118; (with_reducible refine (K1.out _ PB.out).mono ?_); rintro e x1 ⟨A1, c1, rfl, ho, hb⟩; have HO1 := Lib.hid ho; have PO1 : Hid (w0.heap.size < _) := Lib.hid (Nat.lt_of_lt_of_le (Nat.lt_succ_self _) PL.out); have HL0_1 := Lib.hid (fun a e => (HO0.out.lo_le a e).2); have P1a := Lib.hid (P1.out.below hb); have P3a := Lib.hid (P3.out.below hb); have PBa := Lib.hid (bl_trans PB.out hb); have PLa := Lib.hid (Nat.le_trans PL.out hb.size); have HO0a := Lib.hid (HO0.out.below hb); clear HO0; have HO0 := HO0a; clear HO0a; clear ho hb P1 P3 PB PL; have P1 := P1a; have P3 := P3a; have PB := PBa; have PL := PLa; clear P1a P3a PBa PLa)
    | ((with_reducible refine wpList_store_at 24 rfl (.tmp 18) (.tmp 17) rfl i1s w0.heap.size 1 rfl (.slice A1 b.bt.length c1) rfl rfl _ _ P3.out ?_ ?_); (exact (by simp)); intro y1 k5 g5; have P1a := hb_grown P1 g5 (Nat.ne_of_lt hgl); have P3a : Hid (Blk y1 w0.heap.size 27 [.slice A0 b.st.length c0, .slice A1 b.bt.length c1, .slice L.a3 b.pd.length L.c3, .slice L.a4 b.fo.length L.c4, .slice L.a5 b.ac.length L.c5, .int .i64 b.tu, .int .i64 b.un, .int .i64 b.ra, .int .i64 b.li]) := Lib.hid k5; have PBa := hbl_grown PB g5 (Nat.le_refl _); have PLa := hle_grown PL g5; have HO0a := ho_grown HO0 g5 PO0.out; clear HO0; have HO0 := HO0a; clear HO0a; have HO1a := ho_grown HO1 g5 PO1.out; clear HO1; have HO1 := HO1a; clear HO1a; clear k5 g5 P1 P3 PB PL; have P1 := P1a; have P3 := P3a; have PB := PBa; have PL := PLa; clear P1a P3a PBa PLa; clear q; obtain ⟨q, -⟩ := P1.out.cell 2 _ rfl)
    | (go_at_call 118; (with_reducible refine (K2.out _ PB.out).mono ?_); rintro e x2 ⟨A2, c2, rfl, ho, hb⟩; have HO2 := Lib.hid ho; have PO2 : Hid (w0.heap.size < _) := Lib.hid (Nat.lt_of_lt_of_le (Nat.lt_succ_self _) PL.out); have HL0_2 := Lib.hid (fun a e => (HO0.out.lo_le a e).2); have HL1_2 := Lib.hid (fun a e => (HO1.out.lo_le a e).2); have P1a := Lib.hid (P1.out.below hb); have P3a := Lib.hid (P3.out.below hb); have PBa := Lib.hid (bl_trans PB.out hb); have PLa := Lib.hid (Nat.le_trans PL.out hb.size); have HO0a := Lib.hid (HO0.out.below hb); clear HO0; have HO0 := HO0a; clear HO0a; have HO1a := Lib.hid (HO1.out.below hb); clear HO1; have HO1 := HO1a; clear HO1a; clear ho hb P1 P3 PB PL; have P1 := P1a; have P3 := P3a; have PB := PBa; have PL := PLa; clear P1a P3a PBa PLa)
    | ((with_reducible refine wpList_store_at 24 rfl (.tmp 24) (.tmp 23) rfl i1s w0.heap.size 2 rfl (.slice A2 b.pd.length c2) rfl rfl _ _ P3.out ?_ ?_); (exact (by simp)); intro y2 k5 g5; have P1a := hb_grown P1 g5 (Nat.ne_of_lt hgl); have P3a : Hid (Blk y2 w0.heap.size 27 [.slice A0 b.st.length c0, .slice A1 b.bt.length c1, .slice A2 b.pd.length c2, .slice L.a4 b.fo.length L.c4, .slice L.a5 b.ac.length L.c5, .int .i64 b.tu, .int .i64 b.un, .int .i64 b.ra, .int .i64 b.li]) := Lib.hid k5; have PBa := hbl_grown PB g5 (Nat.le_refl _); have PLa := hle_grown PL g5; have HO0a := ho_grown HO0 g5 PO0.out; clear HO0; have HO0 := HO0a; clear HO0a; have HO1a := ho_grown HO1 g5 PO1.out; clear HO1; have HO1 := HO1a; clear HO1a; have HO2a := ho_grown HO2 g5 PO2.out; clear HO2; have HO2 := HO2a; clear HO2a; clear k5 g5 P1 P3 PB PL; have P1 := P1a; have P3 := P3a; have PB := PBa; have PL := PLa; clear P1a P3a PBa PLa; clear q; obtain ⟨q, -⟩ := P1.out.cell 3 _ rfl)
    | (go_at_call 142; (with_reducible refine (K3.out _ PB.out).mono ?_); rintro e x3 ⟨A3, c3, rfl, ho, hb⟩; have HO3 := Lib.hid ho; have PO3 : Hid (w0.heap.size < _) := Lib.hid (Nat.lt_of_lt_of_le (Nat.lt_succ_self _) PL.out); have HL0_3 := Lib.hid (fun a e => (HO0.out.lo_le a e).2); have HL1_3 := Lib.hid (fun a e => (HO1.out.lo_le a e).2); have HL2_3 := Lib.hid (fun a e => (HO2.out.lo_le a e).2); have P1a := Lib.hid (P1.out.below hb); have P3a := Lib.hid (P3.out.below hb); have PBa := Lib.hid (bl_trans PB.out hb); have PLa := Lib.hid (Nat.le_trans PL.out hb.size); have HO0a := Lib.hid (HO0.out.below hb); clear HO0; have HO0 := HO0a; clear HO0a; have HO1a := Lib.hid (HO1.out.below hb); clear HO1; have HO1 := HO1a; clear HO1a; have HO2a := Lib.hid (HO2.out.below hb); clear HO2; have HO2 := HO2a; clear HO2a; clear ho hb P1 P3 PB PL; have P1 := P1a; have P3 := P3a; have PB := PBa; have PL := PLa; clear P1a P3a PBa PLa)
    | ((with_reducible refine wpList_store_at 25 rfl (.tmp 30) (.tmp 29) rfl i1t w0.heap.size 3 rfl (.slice A3 b.fo.length c3) rfl rfl _ _ P3.out ?_ ?_); (exact (by simp)); intro y3 k5 g5; have P1a := hb_grown P1 g5 (Nat.ne_of_lt hgl); have P3a : Hid (Blk y3 w0.heap.size 27 [.slice A0 b.st.length c0, .slice A1 b.bt.length c1, .slice A2 b.pd.length c2, .slice A3 b.fo.length c3, .slice L.a5 b.ac.length L.c5, .int .i64 b.tu, .int .i64 b.un, .int .i64 b.ra, .int .i64 b.li]) := Lib.hid k5; have PBa := hbl_grown PB g5 (Nat.le_refl _); have PLa := hle_grown PL g5; have HO0a := ho_grown HO0 g5 PO0.out; clear HO0; have HO0 := HO0a; clear HO0a; have HO1a := ho_grown HO1 g5 PO1.out; clear HO1; have HO1 := HO1a; clear HO1a; have HO2a := ho_grown HO2 g5 PO2.out; clear HO2; have HO2 := HO2a; clear HO2a; have HO3a := hoB_grown HO3 g5 PO3.out; clear HO3; have HO3 := HO3a; clear HO3a; clear k5 g5 P1 P3 PB PL; have P1 := P1a; have P3 := P3a; have PB := PBa; have PL := PLa; clear P1a P3a PBa PLa; clear q; obtain ⟨q, -⟩ := P1.out.cell 4 _ rfl)
    | (go_at_call 142; (with_reducible refine (K4.out _ PB.out).mono ?_); rintro e x4 ⟨A4, c4, rfl, ho, hb⟩; have HO4 := Lib.hid ho; have PO4 : Hid (w0.heap.size < _) := Lib.hid (Nat.lt_of_lt_of_le (Nat.lt_succ_self _) PL.out); have HL0_4 := Lib.hid (fun a e => (HO0.out.lo_le a e).2); have HL1_4 := Lib.hid (fun a e => (HO1.out.lo_le a e).2); have HL2_4 := Lib.hid (fun a e => (HO2.out.lo_le a e).2); have HL3_4 := Lib.hid (fun a e => (HO3.out.lo_le a e).2); have P1a := Lib.hid (P1.out.below hb); have P3a := Lib.hid (P3.out.below hb); have PBa := Lib.hid (bl_trans PB.out hb); have PLa := Lib.hid (Nat.le_trans PL.out hb.size); have HO0a := Lib.hid (HO0.out.below hb); clear HO0; have HO0 := HO0a; clear HO0a; have HO1a := Lib.hid (HO1.out.below hb); clear HO1; have HO1 := HO1a; clear HO1a; have HO2a := Lib.hid (HO2.out.below hb); clear HO2; have HO2 := HO2a; clear HO2a; have HO3a := Lib.hid (HO3.out.below hb); clear HO3; have HO3 := HO3a; clear HO3a; clear ho hb P1 P3 PB PL; have P1 := P1a; have P3 := P3a; have PB := PBa; have PL := PLa; clear P1a P3a PBa PLa)
    | ((with_reducible refine wpList_store_at 25 rfl (.tmp 36) (.tmp 35) rfl i1t w0.heap.size 4 rfl (.slice A4 b.ac.length c4) rfl rfl _ _ P3.out ?_ ?_); (exact (by simp)); intro y4 k5 g5; have P1a := hb_grown P1 g5 (Nat.ne_of_lt hgl); have P3a : Hid (Blk y4 w0.heap.size 27 [.slice A0 b.st.length c0, .slice A1 b.bt.length c1, .slice A2 b.pd.length c2, .slice A3 b.fo.length c3, .slice A4 b.ac.length c4, .int .i64 b.tu, .int .i64 b.un, .int .i64 b.ra, .int .i64 b.li]) := Lib.hid k5; have PBa := hbl_grown PB g5 (Nat.le_refl _); have PLa := hle_grown PL g5; have HO0a := ho_grown HO0 g5 PO0.out; clear HO0; have HO0 := HO0a; clear HO0a; have HO1a := ho_grown HO1 g5 PO1.out; clear HO1; have HO1 := HO1a; clear HO1a; have HO2a := ho_grown HO2 g5 PO2.out; clear HO2; have HO2 := HO2a; clear HO2a; have HO3a := hoB_grown HO3 g5 PO3.out; clear HO3; have HO3 := HO3a; clear HO3a; have HO4a := hoB_grown HO4 g5 PO4.out; clear HO4; have HO4 := HO4a; clear HO4a; clear k5 g5 P1 P3 PB PL; have P1 := P1a; have P3 := P3a; have PB := PBa; have PL := PLa; clear P1a P3a PBa PLa; clear q))
  go_ret
  exact ⟨⟨A0, A1, A2, A3, A4, c0, c1, c2, c3, c4⟩, rfl, P3.out, ⟨Row.of_own (HO0.out.less PO0.out), Row.of_own (HO1.out.less PO1.out), Row.of_own (HO2.out.less PO2.out), RowB.of_own (HO3.out.less PO3.out), RowB.of_own (HO4.out.less PO4.out), apt_lt HL0_1.out (fun a e => (HO1.out.lo_le a e).1), apt_lt HL0_2.out (fun a e => (HO2.out.lo_le a e).1), apt_lt HL0_3.out (fun a e => (HO3.out.lo_le a e).1), apt_lt HL0_4.out (fun a e => (HO4.out.lo_le a e).1), apt_lt HL1_2.out (fun a e => (HO2.out.lo_le a e).1), apt_lt HL1_3.out (fun a e => (HO3.out.lo_le a e).1), apt_lt HL1_4.out (fun a e => (HO4.out.lo_le a e).1), apt_lt HL2_3.out (fun a e => (HO3.out.lo_le a e).1), apt_lt HL2_4.out (fun a e => (HO4.out.lo_le a e).1), apt_lt HL3_4.out (fun a e => (HO4.out.lo_le a e).1)⟩, PB.out⟩
end Go.Proofs.Ytnllndcajdofjaa

namespace Go.Proofs.Ytnllndcajdofjaa
open Go.RowKit
set_option linter.unusedVariables false

/-- Nothing has been written but between two blocks. -/
structure Span (w w' : World) (lo hi : Nat) : Prop where
  os : w'.os = w.os
  tape : w'.tape = w.tape
  output : w'.output = w.output
  size : w.heap.size ≤ w'.heap.size
  block : ∀ k, k < w.heap.size → ¬ (lo ≤ k ∧ k < hi) → w'.heap[k]? = w.heap[k]?
theorem Span.refl (w : World) (lo hi : Nat) : Span w w lo hi := ⟨rfl, rfl, rfl, Nat.le_refl _, fun _ _ _ => rfl⟩
theorem Span.below {w w' : World} {lo hi : Nat} (h : Below w.heap.size w w') : Span w w' lo hi := ⟨h.os, h.tape, h.output, h.size, fun k hk _ => h.block k hk⟩
theorem Span.grown {w w1 w2 : World} {lo hi : Nat} {row : Option Nat} (h : Span w w1 lo hi) (hg : w1.grownBy w2 row) (hr : ∀ j, row = some j → lo ≤ j ∧ j < hi) : Span w w2 lo hi :=
  ⟨hg.os.trans h.os, hg.tape.trans h.tape, hg.output.trans h.output, Nat.le_trans h.size hg.size, fun k hk hne =>
    (hg.block k (Nat.lt_of_lt_of_le hk h.size) (fun e => hne (hr k e.symm))).trans (h.block k hk hne)⟩
theorem Row.span {w w' : World} {lo a c : Nat} {A : Option Addr} {xs : List Int} (h : Row w lo A xs) (hs : Span w w' a c) (hne : ∀ x, A = some x → x.block < a ∨ c ≤ x.block) : Row w' lo A xs := by
  refine ⟨fun x e => ⟨(h.1 x e).1, Nat.lt_of_lt_of_le (h.1 x e).2 hs.size⟩, fun h0 => ?_⟩
  obtain ⟨g, off, rfl, hc⟩ := h.2 h0
  have hb := hs.block g (h.1 _ rfl).2 (fun q => by have := hne _ rfl; simp only at this; omega)
  exact ⟨g, off, rfl, fun i hi => ⟨(World.cell?_of_block (a := ⟨g, off + i, none⟩) hb).trans (hc i hi).1, (World.frozen?_of_block (a := ⟨g, off + i, none⟩) hb).trans (hc i hi).2⟩⟩
theorem Blk.span {w w' : World} {g a c : Nat} {t : TypeId} {vs : List Value} (h : Blk w g t vs) (hs : Span w w' a c) (hne : g < a ∨ c ≤ g) : Blk w' g t vs := (hs.block g h.lt (fun q => by omega)).trans h
theorem bl_span {a0 w w' : World} {a c : Nat} (hb : Below a0.heap.size a0 w) (hs : Span w w' a c) (hl : a0.heap.size ≤ a) : Below a0.heap.size a0 w' :=
  ⟨hs.os.trans hb.os, hs.tape.trans hb.tape, hs.output.trans hb.output, Nat.le_trans hb.size hs.size, fun k hk => (hs.block k (Nat.lt_of_lt_of_le hk hb.size) (fun q => by omega)).trans (hb.block k hk)⟩
/-- The lists lie below a block. -/
structure Hi5 (L : At5) (n : Nat) : Prop where
  h1 : ∀ a, L.a1 = some a → a.block < n
  h2 : ∀ a, L.a2 = some a → a.block < n
  h3 : ∀ a, L.a3 = some a → a.block < n
  h4 : ∀ a, L.a4 = some a → a.block < n
  h5 : ∀ a, L.a5 = some a → a.block < n
theorem Row5.span {w w' : World} {lo a c : Nat} {L : At5} {b : Bt} (h : Row5 w lo L b) (hs : Span w w' a c) (hne : Hi5 L a ∨ c ≤ lo) : Row5 w' lo L b := by
  have f : ∀ (x : Addr), (lo ≤ x.block) → (Hi5 L a → x.block < a) → x.block < a ∨ c ≤ x.block := fun x q1 q2 => by
    rcases hne with h | h
    · exact .inl (q2 h)
    · exact .inr (by omega)
  have rB : ∀ {A : Option Addr} {xs : List Bool}, RowB w lo A xs → (∀ x, A = some x → x.block < a ∨ c ≤ x.block) → RowB w' lo A xs := fun {A xs} h hne => by
    refine ⟨fun x e => ⟨(h.1 x e).1, Nat.lt_of_lt_of_le (h.1 x e).2 hs.size⟩, fun h0 => ?_⟩
    obtain ⟨g, off, rfl, hc⟩ := h.2 h0
    have hb := hs.block g (h.1 _ rfl).2 (fun q => by have := hne _ rfl; simp only at this; omega)
    exact ⟨g, off, rfl, fun i hi => ⟨(World.cell?_of_block (a := ⟨g, off + i, none⟩) hb).trans (hc i hi).1, (World.frozen?_of_block (a := ⟨g, off + i, none⟩) hb).trans (hc i hi).2⟩⟩
  exact ⟨h.r1.span hs (fun x e => f x (h.r1.1 x e).1 (fun q => q.h1 x e)), h.r2.span hs (fun x e => f x (h.r2.1 x e).1 (fun q => q.h2 x e)), h.r3.span hs (fun x e => f x (h.r3.1 x e).1 (fun q => q.h3 x e)),
    rB h.r4 (fun x e => f x (h.r4.1 x e).1 (fun q => q.h4 x e)), rB h.r5 (fun x e => f x (h.r5.1 x e).1 (fun q => q.h5 x e)), h.p12, h.p13, h.p14, h.p15, h.p23, h.p24, h.p25, h.p34, h.p35, h.p45⟩
end Go.Proofs.Ytnllndcajdofjaa

namespace Go.Proofs.Ytnllndcajdofjaa
open Go.RowKit
set_option linter.unusedVariables false

theorem Row.setAt {w : World} {lo g off : Nat} {xs : List Int} (h : Row w lo (some ⟨g, off, none⟩) xs) (k : Nat) (hk : k < xs.length) (v : Int) :
    Row (w.setCell ⟨g, off + k, none⟩ (.int .i64 v)) lo (some ⟨g, off, none⟩) (xs.set k v) ∧ w.grownBy (w.setCell ⟨g, off + k, none⟩ (.int .i64 v)) (some g) := by
  refine ⟨⟨fun a e => ?_, fun h0 => ⟨g, off, rfl, fun i hi => ?_⟩⟩, ⟨rfl, rfl, rfl, by simp [World.setCell], fun j hj hne => Below.heap_setCell w ⟨g, off + k, none⟩ _ j (fun e => hne (by rw [e]))⟩⟩
  · obtain ⟨h1, h2⟩ := h.1 a e
    exact ⟨h1, by simpa [World.setCell] using h2⟩
  · rw [List.length_set] at hi
    obtain ⟨g', off', e, hc⟩ := h.2 (by omega)
    injection e with e
    injection e with e1 e2
    subst e1 e2
    have hci := hc i hi
    have hck := hc k hk
    refine ⟨?_, by simp [go_sem, hci.2]⟩
    by_cases e : k = i
    · subst e
      rw [nth_set_same _ _ _ hk]
      exact World.cell?_setCell_same w _ _ hck.1
    · rw [nth_set_other _ _ _ _ e, World.cell?_setCell_other w _ _ _ (by intro q; injection q with _ q; omega)]
      exact hci.1
theorem RowB.setAt {w : World} {lo g off : Nat} {xs : List Bool} (h : RowB w lo (some ⟨g, off, none⟩) xs) (k : Nat) (hk : k < xs.length) (v : Bool) :
    RowB (w.setCell ⟨g, off + k, none⟩ (.bool v)) lo (some ⟨g, off, none⟩) (xs.set k v) ∧ w.grownBy (w.setCell ⟨g, off + k, none⟩ (.bool v)) (some g) := by
  refine ⟨⟨fun a e => ?_, fun h0 => ⟨g, off, rfl, fun i hi => ?_⟩⟩, ⟨rfl, rfl, rfl, by simp [World.setCell], fun j hj hne => Below.heap_setCell w ⟨g, off + k, none⟩ _ j (fun e => hne (by rw [e]))⟩⟩
  · obtain ⟨h1, h2⟩ := h.1 a e
    exact ⟨h1, by simpa [World.setCell] using h2⟩
  · rw [List.length_set] at hi
    obtain ⟨g', off', e, hc⟩ := h.2 (by omega)
    injection e with e
    injection e with e1 e2
    subst e1 e2
    have hci := hc i hi
    have hck := hc k hk
    refine ⟨?_, by simp [go_sem, hci.2]⟩
    by_cases e : k = i
    · subst e
      rw [nthB_set_same _ _ _ hk]
      exact World.cell?_setCell_same w _ _ hck.1
    · rw [nthB_set_other _ _ _ _ e, World.cell?_setCell_other w _ _ _ (by intro q; injection q with _ q; omega)]
      exact hci.1
/-- A round of the call's own: its box, and its lists behind the box. -/
structure NB (w : World) (g : Nat) (L : At5) (b : Bt) : Prop where
  blk : Blk w g 27 (btL L b)
  rows : Row5 w (g + 1) L b
theorem NB.at_ {w : World} {g : Nat} {L : At5} {b : Bt} (h : NB w g L b) : BtAt w g L b := ⟨h.blk, h.rows.rd⟩
theorem NB.below {w w' : World} {g : Nat} {L : At5} {b : Bt} (h : NB w g L b) (hb : Below w.heap.size w w') : NB w' g L b := ⟨h.blk.below hb, h.rows.below hb⟩
/-- Nothing below block g has been written. -/
def Frm (g : Nat) (w w' : World) : Prop := Span w w' g w.heap.size
theorem Frm.refl (g : Nat) (w : World) : Frm g w w := Span.refl w _ _
theorem Frm.trans {g : Nat} {a b c : World} (h : Frm g a b) (k : Frm g b c) : Frm g a c :=
  ⟨k.os.trans h.os, k.tape.trans h.tape, k.output.trans h.output, Nat.le_trans h.size k.size, fun i hi hne => (k.block i (Nat.lt_of_lt_of_le hi h.size) (fun q => hne ⟨q.1, hi⟩)).trans (h.block i hi hne)⟩
theorem Frm.of_below {g : Nat} {w w' : World} (h : Below w.heap.size w w') : Frm g w w' := Span.below h
theorem Frm.of_grown {g : Nat} {w w' : World} {j : Nat} (h : w.grownBy w' (some j)) (hj : g ≤ j) : Frm g w w' :=
  ⟨h.os, h.tape, h.output, h.size, fun i hi hne => h.block i hi (fun e => hne ⟨by have := Option.some.inj e; omega, hi⟩)⟩
theorem bl_frm {a w w' : World} {g : Nat} (hb : Below a.heap.size a w) (h : Frm g w w') (hl : a.heap.size ≤ g) : Below a.heap.size a w' := bl_span hb h hl
theorem NB.setSt {w : World} {g : Nat} {L : At5} {b : Bt} (h : NB w g L b) {gf off : Nat} (e : L.a1 = some ⟨gf, off, none⟩) (k : Nat) (hk : k < b.st.length) (v : Int) :
    NB (w.setCell ⟨gf, off + k, none⟩ (.int .i64 v)) g L { b with st := b.st.set k v } ∧ Frm g w (w.setCell ⟨gf, off + k, none⟩ (.int .i64 v)) := by
  have rj := h.rows.r1
  rw [e] at rj
  obtain ⟨s1, s2⟩ := rj.setAt k hk v
  have hlo := (h.rows.r1.1 _ e).1
  simp only at hlo
  refine ⟨⟨?_, ?_⟩, Frm.of_grown s2 (by omega)⟩
  · have := h.blk.grown s2 (fun q => by have := Option.some.inj q; omega)
    unfold btL at *
    simpa using this
  · exact ⟨by rw [e]; exact s1, h.rows.r2.grown s2 (fun a ea q => h.rows.p12 _ a e ea (by simpa using q.symm)), h.rows.r3.grown s2 (fun a ea q => h.rows.p13 _ a e ea (by simpa using q.symm)), h.rows.r4.grown s2 (fun a ea q => h.rows.p14 _ a e ea (by simpa using q.symm)), h.rows.r5.grown s2 (fun a ea q => h.rows.p15 _ a e ea (by simpa using q.symm)), h.rows.p12, h.rows.p13, h.rows.p14, h.rows.p15, h.rows.p23, h.rows.p24, h.rows.p25, h.rows.p34, h.rows.p35, h.rows.p45⟩
theorem NB.setBt {w : World} {g : Nat} {L : At5} {b : Bt} (h : NB w g L b) {gf off : Nat} (e : L.a2 = some ⟨gf, off, none⟩) (k : Nat) (hk : k < b.bt.length) (v : Int) :
    NB (w.setCell ⟨gf, off + k, none⟩ (.int .i64 v)) g L { b with bt := b.bt.set k v } ∧ Frm g w (w.setCell ⟨gf, off + k, none⟩ (.int .i64 v)) := by
  have rj := h.rows.r2
  rw [e] at rj
  obtain ⟨s1, s2⟩ := rj.setAt k hk v
  have hlo := (h.rows.r2.1 _ e).1
  simp only at hlo
  refine ⟨⟨?_, ?_⟩, Frm.of_grown s2 (by omega)⟩
  · have := h.blk.grown s2 (fun q => by have := Option.some.inj q; omega)
    unfold btL at *
    simpa using this
  · exact ⟨h.rows.r1.grown s2 (fun a ea q => h.rows.p12 a _ ea e (by simpa using q)), by rw [e]; exact s1, h.rows.r3.grown s2 (fun a ea q => h.rows.p23 _ a e ea (by simpa using q.symm)), h.rows.r4.grown s2 (fun a ea q => h.rows.p24 _ a e ea (by simpa using q.symm)), h.rows.r5.grown s2 (fun a ea q => h.rows.p25 _ a e ea (by simpa using q.symm)), h.rows.p12, h.rows.p13, h.rows.p14, h.rows.p15, h.rows.p23, h.rows.p24, h.rows.p25, h.rows.p34, h.rows.p35, h.rows.p45⟩
theorem NB.setFo {w : World} {g : Nat} {L : At5} {b : Bt} (h : NB w g L b) {gf off : Nat} (e : L.a4 = some ⟨gf, off, none⟩) (k : Nat) (hk : k < b.fo.length) (v : Bool) :
    NB (w.setCell ⟨gf, off + k, none⟩ (.bool v)) g L { b with fo := b.fo.set k v } ∧ Frm g w (w.setCell ⟨gf, off + k, none⟩ (.bool v)) := by
  have rj := h.rows.r4
  rw [e] at rj
  obtain ⟨s1, s2⟩ := rj.setAt k hk v
  have hlo := (h.rows.r4.1 _ e).1
  simp only at hlo
  refine ⟨⟨?_, ?_⟩, Frm.of_grown s2 (by omega)⟩
  · have := h.blk.grown s2 (fun q => by have := Option.some.inj q; omega)
    unfold btL at *
    simpa using this
  · exact ⟨h.rows.r1.grown s2 (fun a ea q => h.rows.p14 a _ ea e (by simpa using q)), h.rows.r2.grown s2 (fun a ea q => h.rows.p24 a _ ea e (by simpa using q)), h.rows.r3.grown s2 (fun a ea q => h.rows.p34 a _ ea e (by simpa using q)), by rw [e]; exact s1, h.rows.r5.grown s2 (fun a ea q => h.rows.p45 _ a e ea (by simpa using q.symm)), h.rows.p12, h.rows.p13, h.rows.p14, h.rows.p15, h.rows.p23, h.rows.p24, h.rows.p25, h.rows.p34, h.rows.p35, h.rows.p45⟩
theorem NB.setAc {w : World} {g : Nat} {L : At5} {b : Bt} (h : NB w g L b) {gf off : Nat} (e : L.a5 = some ⟨gf, off, none⟩) (k : Nat) (hk : k < b.ac.length) (v : Bool) :
    NB (w.setCell ⟨gf, off + k, none⟩ (.bool v)) g L { b with ac := b.ac.set k v } ∧ Frm g w (w.setCell ⟨gf, off + k, none⟩ (.bool v)) := by
  have rj := h.rows.r5
  rw [e] at rj
  obtain ⟨s1, s2⟩ := rj.setAt k hk v
  have hlo := (h.rows.r5.1 _ e).1
  simp only at hlo
  refine ⟨⟨?_, ?_⟩, Frm.of_grown s2 (by omega)⟩
  · have := h.blk.grown s2 (fun q => by have := Option.some.inj q; omega)
    unfold btL at *
    simpa using this
  · exact ⟨h.rows.r1.grown s2 (fun a ea q => h.rows.p15 a _ ea e (by simpa using q)), h.rows.r2.grown s2 (fun a ea q => h.rows.p25 a _ ea e (by simpa using q)), h.rows.r3.grown s2 (fun a ea q => h.rows.p35 a _ ea e (by simpa using q)), h.rows.r4.grown s2 (fun a ea q => h.rows.p45 a _ ea e (by simpa using q)), by rw [e]; exact s1, h.rows.p12, h.rows.p13, h.rows.p14, h.rows.p15, h.rows.p23, h.rows.p24, h.rows.p25, h.rows.p34, h.rows.p35, h.rows.p45⟩
theorem NB.setTu {w w' : World} {g : Nat} {L : At5} {b : Bt} (h : NB w g L b) (v : Int) (hB : Blk w' g 27 ((btL L b).set 5 (.int .i64 v))) (hg : w.grownBy w' (some g)) : NB w' g L { b with tu := v } ∧ Frm g w w' := by
  have ne : ∀ {A : Option Addr}, (∀ a, A = some a → g + 1 ≤ a.block ∧ a.block < w.heap.size) → ∀ a, A = some a → some a.block ≠ some g := fun q a ea r => by
    have := (q a ea).1
    have := Option.some.inj r
    omega
  exact ⟨⟨hB, ⟨h.rows.r1.grown hg (ne h.rows.r1.1), h.rows.r2.grown hg (ne h.rows.r2.1), h.rows.r3.grown hg (ne h.rows.r3.1), h.rows.r4.grown hg (ne h.rows.r4.1), h.rows.r5.grown hg (ne h.rows.r5.1), h.rows.p12, h.rows.p13, h.rows.p14, h.rows.p15, h.rows.p23, h.rows.p24, h.rows.p25, h.rows.p34, h.rows.p35, h.rows.p45⟩⟩, Frm.of_grown hg (Nat.le_refl _)⟩
theorem NB.setUn {w w' : World} {g : Nat} {L : At5} {b : Bt} (h : NB w g L b) (v : Int) (hB : Blk w' g 27 ((btL L b).set 6 (.int .i64 v))) (hg : w.grownBy w' (some g)) : NB w' g L { b with un := v } ∧ Frm g w w' := by
  have ne : ∀ {A : Option Addr}, (∀ a, A = some a → g + 1 ≤ a.block ∧ a.block < w.heap.size) → ∀ a, A = some a → some a.block ≠ some g := fun q a ea r => by
    have := (q a ea).1
    have := Option.some.inj r
    omega
  exact ⟨⟨hB, ⟨h.rows.r1.grown hg (ne h.rows.r1.1), h.rows.r2.grown hg (ne h.rows.r2.1), h.rows.r3.grown hg (ne h.rows.r3.1), h.rows.r4.grown hg (ne h.rows.r4.1), h.rows.r5.grown hg (ne h.rows.r5.1), h.rows.p12, h.rows.p13, h.rows.p14, h.rows.p15, h.rows.p23, h.rows.p24, h.rows.p25, h.rows.p34, h.rows.p35, h.rows.p45⟩⟩, Frm.of_grown hg (Nat.le_refl _)⟩
theorem NB.setRa {w w' : World} {g : Nat} {L : At5} {b : Bt} (h : NB w g L b) (v : Int) (hB : Blk w' g 27 ((btL L b).set 7 (.int .i64 v))) (hg : w.grownBy w' (some g)) : NB w' g L { b with ra := v } ∧ Frm g w w' := by
  have ne : ∀ {A : Option Addr}, (∀ a, A = some a → g + 1 ≤ a.block ∧ a.block < w.heap.size) → ∀ a, A = some a → some a.block ≠ some g := fun q a ea r => by
    have := (q a ea).1
    have := Option.some.inj r
    omega
  exact ⟨⟨hB, ⟨h.rows.r1.grown hg (ne h.rows.r1.1), h.rows.r2.grown hg (ne h.rows.r2.1), h.rows.r3.grown hg (ne h.rows.r3.1), h.rows.r4.grown hg (ne h.rows.r4.1), h.rows.r5.grown hg (ne h.rows.r5.1), h.rows.p12, h.rows.p13, h.rows.p14, h.rows.p15, h.rows.p23, h.rows.p24, h.rows.p25, h.rows.p34, h.rows.p35, h.rows.p45⟩⟩, Frm.of_grown hg (Nat.le_refl _)⟩
end Go.Proofs.Ytnllndcajdofjaa
