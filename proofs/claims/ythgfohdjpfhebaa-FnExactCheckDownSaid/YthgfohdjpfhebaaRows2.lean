/-
  Put together: Apart, Fam, GlueOps, NewRows, Hang
-/
import Derived.Test.YthgfohdjpfhebaaSpecH
import Derived.Test.YthgfohdjpfhebaaBase
import Derived.Deep.RegionLaw
import Derived.Deep.RegionWith
import Derived.IntWalk
import Derived.Deep.MidRow

/-! Rows of the call's own in different blocks. -/
namespace Go.Proofs.Ythgfohdjpfhebaa
open Go.RowKit
set_option linter.unusedVariables false

/-- Two rows lie in different blocks. -/
def Apart (v u : Value) : Prop := ∀ k, v.ownBlock = some k → u.ownBlock ≠ some k
theorem Apart.symm {v u : Value} (h : Apart v u) : Apart u v := fun k hk hv => h k hv hk
theorem Apart.ne {v u : Value} (h : Apart v u) : v.ownBlock = none ∨ v.ownBlock ≠ u.ownBlock := by
  rcases hv : v.ownBlock with _ | k
  · exact .inl rfl
  · exact .inr (fun e => h k hv e.symm)
theorem apart_new {W1 W2 : World} {lo1 lo2 : Nat} {v u : Value} {xs ys : List Int} (h1 : Own W1 lo1 v xs) (h2 : Own W2 lo2 u ys) (h : W1.heap.size ≤ lo2) : Apart v u := fun k hk hu => by
  have k1 := World.ownsRow.lt h1 k hk
  have k2 := World.ownsRow.lt h2 k hu
  omega
/-- What becomes of a row's place when it is appended to. -/
theorem Apart.app {v v' u : Value} {W : World} {lo : Nat} {ys : List Int} (h : Apart v u) (hv : v'.ownBlock = v.ownBlock ∨ v'.ownBlock = some W.heap.size) (hu : Own W lo u ys) : Apart v' u := fun k hk hku => by
  rcases hv with e | e
  · exact h k (by rw [← e]; exact hk) hku
  · have := World.ownsRow.lt hu k hku
    rw [e] at hk
    injection hk with hk
    omega
end Go.Proofs.Ythgfohdjpfhebaa

/-! Rows of rows: lists of lists of numbers in memory, in rows of the call's own. -/
namespace Go.Proofs.Ythgfohdjpfhebaa
open Go.RowKit
set_option linter.unusedVariables false

/-- A family of H rows of the call's own: the slice at A holds their slices; no two of them share a block. -/
structure Fam (w : World) (lo : Nat) (A : Option Addr) (H : Nat) (R : Nat → List Int) (AA : Nat → Option Addr) (CC : Nat → Nat) : Prop where
  outer : 0 < H → ∃ g off, A = some ⟨g, off, none⟩ ∧ g < w.heap.size ∧ ∀ h, h < H → w.cell? ⟨g, off + h, none⟩ = some (.slice (AA h) (R h).length (CC h))
  row : ∀ h, h < H → Row w lo (AA h) (R h)
  lo : ∀ a, A = some a → lo ≤ a.block ∧ a.block < w.heap.size
  off : ∀ h, h < H → ∀ a, AA h = some a → ∀ b, A = some b → a.block ≠ b.block
  apart : ∀ h, h < H → ∀ k, k < H → h ≠ k → ∀ a, AA h = some a → ∀ b, AA k = some b → a.block ≠ b.block
theorem Fam.at_ {w w' : World} {lo : Nat} {A : Option Addr} {H : Nat} {R : Nat → List Int} {AA : Nat → Option Addr} {CC : Nat → Nat} (h : Fam w lo A H R AA CC) (hb : Below w.heap.size w w') (k : Nat) (hk : k < H) :
    ∃ g off, A = some ⟨g, off, none⟩ ∧ w'.cell? ⟨g, off + k, none⟩ = some (.slice (AA k) (R k).length (CC k)) := by
  obtain ⟨g, off, e, hg, hc⟩ := h.outer (by omega)
  exact ⟨g, off, e, (hb.cell (p := ⟨g, off + k, none⟩) hg).trans (hc k hk)⟩
theorem Fam.grown {w w' : World} {lo : Nat} {A : Option Addr} {H : Nat} {R : Nat → List Int} {AA : Nat → Option Addr} {CC : Nat → Nat} {row : Option Nat} (h : Fam w lo A H R AA CC) (hg : w.grownBy w' row) (h1 : ∀ a, A = some a → some a.block ≠ row) (h2 : ∀ k, k < H → ∀ a, AA k = some a → some a.block ≠ row) : Fam w' lo A H R AA CC := by
  refine ⟨fun h0 => ?_, fun k hk => (h.row k hk).grown hg (h2 k hk), fun a e => ⟨(h.lo a e).1, Nat.lt_of_lt_of_le (h.lo a e).2 hg.size⟩, h.off, h.apart⟩
  obtain ⟨g, off, rfl, hgl, hc⟩ := h.outer h0
  exact ⟨g, off, rfl, Nat.lt_of_lt_of_le hgl hg.size, fun k hk => (World.cell?_of_block (a := ⟨g, off + k, none⟩) (hg.block g hgl (h1 _ rfl))).trans (hc k hk)⟩
theorem Fam.below {w w' : World} {lo : Nat} {A : Option Addr} {H : Nat} {R : Nat → List Int} {AA : Nat → Option Addr} {CC : Nat → Nat} (h : Fam w lo A H R AA CC) (hb : Below w.heap.size w w') : Fam w' lo A H R AA CC :=
  Fam.grown (row := none) h ⟨hb.os, hb.tape, hb.output, hb.size, fun k hk _ => hb.block k hk⟩ (fun _ _ => by simp) (fun _ _ _ _ => by simp)
theorem Fam.less {w : World} {lo lo' : Nat} {A : Option Addr} {H : Nat} {R : Nat → List Int} {AA : Nat → Option Addr} {CC : Nat → Nat} (h : Fam w lo A H R AA CC) (hl : lo' ≤ lo) : Fam w lo' A H R AA CC :=
  ⟨h.outer, fun k hk => (h.row k hk).less hl, fun a e => ⟨Nat.le_trans hl (h.lo a e).1, (h.lo a e).2⟩, h.off, h.apart⟩
theorem Fam.empty (w : World) (lo : Nat) (R : Nat → List Int) : Fam w lo none 0 R (fun _ => none) (fun _ => 0) :=
  ⟨(fun h => by omega), (fun _ h => by omega), (fun a e => by cases e), (fun _ h => by omega), (fun _ h => by omega)⟩
/-- What a call leaves that returns a list of lists and a code. -/
def NewFam (H : Nat) (R : Nat → List Int) (code : Int) (w : World) (e : Ending) (w' : World) : Prop :=
  ∃ A c AA CC, e = .returned (.tuple #[.slice A H c, .int .i64 code]) ∧ Fam w' w.heap.size A H R AA CC ∧ Below w.heap.size w w'

end Go.Proofs.Ythgfohdjpfhebaa

/-! append(list, other...): the list is a row of the call's own, the other one reads however it lies; slices of a slice. -/
namespace Go.Proofs.Ythgfohdjpfhebaa
open Go.RowKit
set_option linter.unusedVariables false

theorem run_append_nothing (w : World) (lo : Nat) (ty : TypeId) (v : Value) (n : Nat) (xs : List Value) (c : Nat) (hown : w.ownsRow lo 2 1 v n xs) :
    (Builtin.append_ #[24, 24] ty #[v, .slice none 0 c]).run Try.prog w = .ok v w := by
  obtain ⟨i0, hi, hz0, hz1, hz2⟩ := info_parts infoInt
  rcases hown.2 with ⟨rfl, rfl⟩ | ⟨g, cap, cur, rfl, _, _, hnc, _⟩
  · simp [Builtin.append_, run_underlying Try.underlying24, sizeOf, typeInfo, hi, Builtin.lenOf, Builtin.firstCells]
  · simp [Builtin.append_, run_underlying Try.underlying24, sizeOf, typeInfo, hi, Builtin.lenOf, Builtin.firstCells, hnc, storeCells]
theorem run_glue (w : World) (ty : TypeId) (lo : Nat) (v : Value) (xs ys : List Int) (A : Option Addr) (c : Nat) (hown : Own w lo v xs) (hsrc : Rd w A ys) (hb : xs.length + ys.length ≤ 4000000) (hlo : lo ≤ w.heap.size) :
    ∃ v' w', (Builtin.append_ #[24, 24] ty #[v, .slice A ys.length c]).run Try.prog w = .ok v' w' ∧ Own w' lo v' (xs ++ ys) ∧ w.grownBy w' v.ownBlock ∧ (v'.ownBlock = v.ownBlock ∨ v'.ownBlock = some w.heap.size) := by
  obtain ⟨i0, hi, hz0, hz1, hz2⟩ := info_parts infoInt
  rcases A with _ | ad
  · have hn : ys.length = 0 := by
      by_cases h0 : 0 < ys.length
      · obtain ⟨b, off, e, _⟩ := hsrc h0
        cases e
      · omega
    have hy : ys = [] := List.length_eq_zero_iff.1 hn
    subst hy
    exact ⟨v, w, run_append_nothing w lo ty v xs.length (ints xs) c hown, by rw [List.append_nil]; exact hown, World.grownBy.refl w _, .inl rfl⟩
  · obtain ⟨v', w', hr, h2, h3, _, h5⟩ := run_append_own_at (P := Try.prog) w lo 24 ty 2 i0 (.int .i64 0) 1 8 Try.underlying24 hi hz0 hz1 hz2 rfl (by decide) v xs.length (ints xs) hown ad ys.length c (ints ys) (by rw [ints_length, Nat.mul_one])
      (fun j u hu => by
        have hj : j < ys.length := by have := (List.getElem?_eq_some_iff.1 hu).1; rwa [ints_length] at this
        rw [ints_get _ j hj] at hu
        obtain ⟨b, off, e, hc⟩ := hsrc (by omega)
        obtain rfl := Option.some.inj e
        rw [Addr.add_mid, hc j hj]; exact hu)
      (fun u hu => by unfold ints at hu; obtain ⟨y, _, rfl⟩ := List.mem_map.1 hu; rfl) (by unfold maxLen; omega) (by omega) hlo
    exact ⟨v', w', hr, by unfold Own; rw [ints_append, List.length_append]; exact h2, h3, h5⟩
/-- append of a list as one step of a plain region. -/
theorem wpList_glue {ops : Array Oper} {rest : List Oper} {o : Oper} {a : Act} {w : World} {Q : Exit → Act → World → Prop} (s x : Operand) (hgd : o.guard = none)
    (ho : o.op = .call { callee := .builtin .append, args := #[s, x], argTypes := #[24, 24] })
    (lo : Nat) (v : Value) (xs ys : List Int) (A : Option Addr) (c : Nat) (hs : a.eval s = v) (hown : Own w lo v xs) (hx : a.eval x = .slice A ys.length c) (hsrc : Rd w A ys) (hb : xs.length + ys.length ≤ 4000000) (hlo : lo ≤ w.heap.size)
    (h : ∀ A' c' ws w', Hid (ws = xs ++ ys) → Own w' lo (.slice A' ws.length c') ws → w.grownBy w' v.ownBlock → ((Value.slice A' ws.length c').ownBlock = v.ownBlock ∨ (Value.slice A' ws.length c').ownBlock = some w.heap.size) → wpList Try.prog ops Q rest (a.put o.dst (.slice A' ws.length c')) w') : wpList Try.prog ops Q (o :: rest) a w :=
  wpList_plain hgd fun K hK => by
    obtain ⟨v', w', hr, h4, h3, h6⟩ := run_glue w o.type lo v xs ys A c hown hsrc hb hlo
    obtain ⟨A', c', rfl, h5⟩ := own_form h4
    unfold Oper.wp execOp
    simp only [ho, resolve, invoke, builtin, Sem.run_bind, Sem.run_pure, Result.andThen_ok, List.map_toArray, List.map_cons, List.map_nil, hs, hx, hr]
    exact hK _ _ (h A' c' _ w' (Lib.hid rfl) h5 h3 h6)
/-- .. of a region that draws. -/
theorem step_glue {ops : Array Oper} {o : Oper} {a : Act} {w : World} {K : Act → World → Prop} {Q : Exit → Act → World → Prop} {E : Prop} (hgd : o.guard = none) (s x : Operand)
    (ho : o.op = .call { callee := .builtin .append, args := #[s, x], argTypes := #[24, 24] })
    (lo : Nat) (v : Value) (xs ys : List Int) (A : Option Addr) (c : Nat) (hs : a.eval s = v) (hown : Own w lo v xs) (hx : a.eval x = .slice A ys.length c) (hsrc : Rd w A ys) (hb : xs.length + ys.length ≤ 4000000) (hlo : lo ≤ w.heap.size)
    (h : ∀ A' c' ws w', Hid (ws = xs ++ ys) → Own w' lo (.slice A' ws.length c') ws → w.grownBy w' v.ownBlock → ((Value.slice A' ws.length c').ownBlock = v.ownBlock ∨ (Value.slice A' ws.length c').ownBlock = some w.heap.size) → K (a.put o.dst (.slice A' ws.length c')) w') :
    if Region.wanted o (yielded ops a.tmps) = true then Oper.wp Try.prog o a w K Q else E := by
  have hw : Region.wanted o (yielded ops a.tmps) = true := by simp [Region.wanted, hgd]
  rw [if_pos hw]
  obtain ⟨v', w', hr, h4, h3, h6⟩ := run_glue w o.type lo v xs ys A c hown hsrc hb hlo
  obtain ⟨A', c', rfl, h5⟩ := own_form h4
  unfold Oper.wp execOp
  simp only [ho, resolve, invoke, builtin, Sem.run_bind, Sem.run_pure, Result.andThen_ok, List.map_toArray, List.map_cons, List.map_nil, hs, hx, hr]
  exact h A' c' _ w' (Lib.hid rfl) h5 h3 h6
theorem own_new (w : World) : Own (w.alloc (.cells #[] 2)) w.heap.size (.slice (some ⟨w.heap.size, 0, none⟩) 0 0) [] := World.ownsRow_made w #[] 0 (Nat.le_refl _) (by unfold maxLen; omega) rfl
theorem bl_glue {a w w1 : World} {o : Obj} {m : Nat} (hb : Below a.heap.size a w) (hg : (w.alloc o).grownBy w1 (Value.slice (some ⟨w.heap.size, 0, none⟩) m m).ownBlock) : Below a.heap.size a w1 :=
  (bl_alloc hb o).grown hg (Nat.le_trans hb.size (by simp)) (fun j hj => by
    have : w.heap.size = j := by injection hj
    have := hb.size
    omega)
theorem bl_app {a w w1 : World} {v : Value} {xs : List Int} {lo : Nat} (hb : Below a.heap.size a w) (ho : Own w lo v xs) (hl : a.heap.size ≤ lo) (hg : w.grownBy w1 v.ownBlock) : Below a.heap.size a w1 :=
  hb.grown hg hb.size (fun j hj => Nat.le_trans hl (World.ownsRow.lt ho j hj).1)

/-! Slices of a slice. -/
/-- Where a slice from n on begins: at the end of the row the model keeps the row's own address. -/
def fromAt (b off c n : Nat) : Option Addr := if c = n then some ⟨b, off, none⟩ else some ⟨b, off + n, none⟩
theorem run_sliceFrom (b off len c n : Nat) (h : n ≤ len) (w : World) :
    (Instr.slice 24 (.slice (some ⟨b, off, none⟩) len c) (some (.int .i64 (n : Int))) none none).run Try.prog w = .ok (.slice (fromAt b off c n) (len - n) (c - n)) w := by
  obtain ⟨i0, hi, hz0, hz1, hz2⟩ := info_parts infoInt
  have h0 : (0 : Int) ≤ n := by omega
  have h1 : ¬ len < n := by omega
  unfold fromAt
  by_cases hc : c = n
  · simp [Instr.slice, run_underlying Try.underlying24, Instr.sliceBounds, Instr.sliceBound, sizeOf, typeInfo, hi, asIntOf, h0, h1, hc]
  · simp [Instr.slice, run_underlying Try.underlying24, Instr.sliceBounds, Instr.sliceBound, sizeOf, typeInfo, hi, hz1, asIntOf, h0, h1, hc, Addr.add_mid]
theorem run_sliceTo (b off len c n : Nat) (h : n ≤ c) (w : World) :
    (Instr.slice 24 (.slice (some ⟨b, off, none⟩) len c) none (some (.int .i64 (n : Int))) none).run Try.prog w = .ok (.slice (some ⟨b, off, none⟩) n c) w := by
  obtain ⟨i0, hi, hz0, hz1, hz2⟩ := info_parts infoInt
  have h0 : (0 : Int) ≤ n := by omega
  have h1 : ¬ c < n := by omega
  simp [Instr.slice, run_underlying Try.underlying24, Instr.sliceBounds, Instr.sliceBound, sizeOf, typeInfo, hi, asIntOf, h0, h1, Addr.add]
theorem rd_from {w : World} {b off c n : Nat} {xs : List Int} (h : Rd w (some ⟨b, off, none⟩) xs) (hc : xs.length ≤ c ∨ c ≠ n) : Rd w (fromAt b off c n) (xs.drop n) := by
  intro h0
  rw [List.length_drop] at h0
  have hne : ¬ c = n := by omega
  obtain ⟨b', off', e, hx⟩ := h (by omega)
  injection e with e
  injection e with e1 e2
  subst e1 e2
  refine ⟨b, off + n, by unfold fromAt; rw [if_neg hne], fun i hi => ?_⟩
  rw [List.length_drop] at hi
  rw [show nth (xs.drop n) i = nth xs (n + i) from ix_drop xs n i, Nat.add_assoc]
  exact hx (n + i) (by omega)
theorem rd_to {w : World} {b off n : Nat} {xs : List Int} (h : Rd w (some ⟨b, off, none⟩) xs) : Rd w (some ⟨b, off, none⟩) (xs.take n) := by
  intro h0
  rw [List.length_take] at h0
  obtain ⟨b', off', e, hx⟩ := h (by omega)
  refine ⟨b', off', e, fun i hi => ?_⟩
  rw [List.length_take] at hi
  rw [show nth (xs.take n) i = nth xs i from ix_take xs n i (by omega)]
  exact hx i (by omega)
end Go.Proofs.Ythgfohdjpfhebaa

/-! Short rows that a call builds. -/
namespace Go.Proofs.Ythgfohdjpfhebaa
open Go.RowKit
set_option linter.unusedVariables false

theorem rd_new2 (w : World) (x y : Int) : Rd (w.alloc (.cells #[.int .i64 x, .int .i64 y] 2)) (some ⟨w.heap.size, 0, none⟩) [x, y] := fun _ => by
  refine ⟨w.heap.size, 0, rfl, fun i hi => ?_⟩
  have h : (w.alloc (.cells #[.int .i64 x, .int .i64 y] 2)).heap[w.heap.size]? = some (.cells #[.int .i64 x, .int .i64 y] 2) := heap_alloc_new w _
  match i, hi with
  | 0, _ => rw [cell_of_row _ _ _ _ _ _ h]; rfl
  | 1, _ => rw [cell_of_row _ _ _ _ _ _ h]; rfl
theorem grow_glue {ys zs : List Int} {w wr W w1 : World} {v : Value} {A : Option Addr} {c : Nat} (h : Grow w ys v wr) (hb : Below wr.heap.size wr W) (ho : Own w1 w.heap.size (.slice A zs.length c) zs) (hg : W.grownBy w1 v.ownBlock) : Grow w zs (.slice A zs.length c) w1 :=
  ⟨ho, bl_app (bl_trans h.2 hb) (h.1.below hb) (Nat.le_refl _) hg⟩
theorem rd_new1 (w : World) (x : Int) : Rd (w.alloc (.cells #[.int .i64 x] 2)) (some ⟨w.heap.size, 0, none⟩) [x] := fun _ => by
  refine ⟨w.heap.size, 0, rfl, fun i hi => ?_⟩
  have h : (w.alloc (.cells #[.int .i64 x] 2)).heap[w.heap.size]? = some (.cells #[.int .i64 x] 2) := heap_alloc_new w _
  match i, hi with
  | 0, _ => rw [cell_of_row _ _ _ _ _ _ h]; rfl
end Go.Proofs.Ythgfohdjpfhebaa

/-! Slices are hung to a row of slices. -/
namespace Go.Proofs.Ythgfohdjpfhebaa
open Go.RowKit
set_option linter.unusedVariables false

theorem infoSlice : (Try.prog.info? 24).map (fun i => (i.zero, i.size, i.bytes)) = some (some (.slice none 0 0), 1, 24) := by kernel_rfl
def updA (AA : Nat → Option Addr) (k : Nat) (a : Option Addr) : Nat → Option Addr := fun h => if h = k then a else AA h
/-- The slices of the first K rows. -/
def cellsS (K : Nat) (AA : Nat → Option Addr) (CC : Nat → Nat) (n : Nat) : List Value := (List.range K).map (fun h => .slice (AA h) n (CC h))
def updC (CC : Nat → Nat) (k c : Nat) : Nat → Nat := fun h => if h = k then c else CC h
theorem cellsS_snoc (K : Nat) (AA : Nat → Option Addr) (CC : Nat → Nat) (n : Nat) (a : Option Addr) (c : Nat) : cellsS K AA CC n ++ [.slice a n c] = cellsS (K + 1) (updA AA K a) (updC CC K c) n := by
  unfold cellsS
  rw [List.range_succ, List.map_append]
  congr 1
  · apply List.map_congr_left
    intro h hh
    have : ¬ h = K := by have := List.mem_range.1 hh; omega
    simp [updA, updC, this]
  · simp [updA, updC]
theorem cellsS_get (K : Nat) (AA : Nat → Option Addr) (CC : Nat → Nat) (n h : Nat) (hh : h < K) : (cellsS K AA CC n)[h]? = some (.slice (AA h) n (CC h)) := by simp [cellsS, hh]
/-- What the model's dealing loop keeps. -/
structure Hang (w : World) (K n : Nat) (R : Nat → List Int) (AA : Nat → Option Addr) (CC : Nat → Nat) (v : Value) (wr : World) : Prop where
  out : wr.ownsRow w.heap.size 24 1 v K (cellsS K AA CC n)
  row : ∀ h, h < K → Row wr w.heap.size (AA h) (R h)
  len : ∀ h, h < K → (R h).length = n
  off : ∀ h, h < K → ∀ a, AA h = some a → some a.block ≠ v.ownBlock
  apart : ∀ h, h < K → ∀ k, k < K → h ≠ k → ∀ a, AA h = some a → ∀ b, AA k = some b → a.block ≠ b.block
  below : Below w.heap.size w wr
theorem Hang.next {w wr w' : World} {K n : Nat} {R : Nat → List Int} {AA : Nat → Option Addr} {CC : Nat → Nat} {v : Value} (h : Hang w K n R AA CC v wr) (hb : Below wr.heap.size wr w') : Hang w K n R AA CC v w' :=
  ⟨World.ownsRow.kept h.out ⟨hb.os, hb.tape, hb.output, hb.size, fun k hk _ => hb.block k hk⟩ (row := none) (by
    rcases hv : v.ownBlock with _ | k
    · exact .inl rfl
    · exact .inr (by simp)), fun j hj => (h.row j hj).below hb, h.len, h.off, h.apart, bl_trans h.below hb⟩
theorem hang_start (w : World) (n : Nat) (R : Nat → List Int) (AA : Nat → Option Addr) (CC : Nat → Nat) : Hang w 0 n R AA CC (.slice (some ⟨w.heap.size, 0, none⟩) 0 0) (w.alloc (.cells #[] 24)) :=
  ⟨World.ownsRow_made w #[] 0 (Nat.le_refl _) (by unfold maxLen; omega) rfl, (fun _ h => by omega), (fun _ h => by omega), (fun _ h => by omega), (fun _ h => by omega), bl_alloc (bl_refl _) _⟩
/-- A finished hand is hung to the others: wr: the world as the hand was begun; w3: as it was finished. -/
theorem hang_add {w wr w3 w4 : World} {K n c : Nat} {R : Nat → List Int} {AA : Nat → Option Addr} {CC : Nat → Nat} {v v' : Value} {A : Option Addr} {o : Obj} (h : Hang w K n R AA CC v wr) (hb : Below wr.heap.size wr w3) (ho : Own w3 wr.heap.size (.slice A (R K).length c) (R K)) (hl : (R K).length = n)
    (hown : w4.ownsRow w.heap.size 24 1 v' (K + 1) (cellsS K AA CC n ++ [.slice A n c])) (hg : (w3.alloc o).grownBy w4 v.ownBlock) (hv : v'.ownBlock = v.ownBlock ∨ v'.ownBlock = some (w3.heap.size + 1)) :
    Hang w (K + 1) n R (updA AA K A) (updC CC K c) v' w4 := by
  have h3 := (h.next hb).next (bl_alloc (bl_refl w3) o)
  have hlo : ∀ j, v.ownBlock = some j → w.heap.size ≤ j ∧ j < wr.heap.size := fun j hj => World.ownsRow.lt h.out j hj
  have hold : ∀ j, j < K → ∀ a, AA j = some a → a.block < wr.heap.size := fun j hj a e => ((h.row j hj).1 a e).2
  have hnew : ∀ a, A = some a → wr.heap.size ≤ a.block ∧ a.block < w3.heap.size := fun a e => ho.lo_le a e
  have hrow := ((Row.of_own ho).less (lo' := w.heap.size) h.below.size).below (bl_alloc (bl_refl w3) o)
  refine ⟨by rw [← cellsS_snoc]; exact hown, fun j hj => ?_, fun j hj => ?_, fun j hj a e => ?_, fun i hi j hj hne a e b e' => ?_, ?_⟩
  · by_cases q : j = K
    · subst q
      have := hrow.grown hg (fun a ha q => by
        have := hnew a ha
        have := hlo _ q.symm
        omega)
      simpa [updA] using this
    · have := (h3.row j (by omega)).grown hg (fun a ha => h.off j (by omega) a ha)
      simpa [updA, q] using this
  · by_cases q : j = K
    · subst q; exact hl
    · exact h.len j (by omega)
  · intro q
    by_cases p : j = K
    · subst p
      simp [updA] at e
      have := hnew a e
      rcases hv with hv | hv
      · rw [hv] at q
        have := hlo _ q.symm
        omega
      · rw [hv] at q; injection q with q; omega
    · simp [updA, p] at e
      have := hold j (by omega) a e
      rcases hv with hv | hv
      · rw [hv] at q; exact h.off j (by omega) a e q
      · rw [hv] at q; injection q with q
        have := hb.size
        omega
  · by_cases p : i = K
    · subst p
      simp [updA] at e
      have p2 : ¬ j = i := fun q => hne q.symm
      simp [updA, p2] at e'
      have := hnew a e
      have := hold j (by omega) b e'
      omega
    · simp [updA, p] at e
      by_cases p2 : j = K
      · subst p2
        simp [updA] at e'
        have := hnew b e'
        have := hold i (by omega) a e
        omega
      · simp [updA, p2] at e'
        exact h.apart i (by omega) j (by omega) hne a e b e'
  · exact (bl_alloc (bl_trans h.below hb) o).grown hg (by have := h.below.size; have := hb.size; simp; omega) (fun j hj => (hlo j hj).1)
theorem Hang.fam {w wr : World} {H n c : Nat} {R : Nat → List Int} {AA : Nat → Option Addr} {CC : Nat → Nat} {A : Option Addr} (h : Hang w H n R AA CC (.slice A H c) wr) (h0 : 0 < H) : Fam wr w.heap.size A H R AA CC := by
  rcases h.out.2 with ⟨_, hn⟩ | ⟨g, cap, cur, hv, _⟩
  · omega
  · injection hv with hA _ hc
    subst hA hc
    have hlt := World.ownsRow.lt h.out g rfl
    refine ⟨fun _ => ⟨g, 0, rfl, hlt.2, fun k hk => ?_⟩, h.row, fun a e => ?_, fun k hk a e b e' => ?_, h.apart⟩
    · rw [Nat.zero_add, World.ownsRow.cellAt h.out k (by omega), cellsS_get _ _ _ _ _ hk, h.len k hk]
    · obtain rfl := Option.some.inj e; exact hlt
    · obtain rfl := Option.some.inj e'
      intro q
      exact h.off k hk a e (by simp [Value.ownBlock, q])

end Go.Proofs.Ythgfohdjpfhebaa
