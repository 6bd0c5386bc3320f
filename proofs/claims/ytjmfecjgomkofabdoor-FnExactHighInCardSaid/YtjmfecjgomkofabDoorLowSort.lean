/-
  The program's low ranks of cards, sorted; cards sorted by low ranks.
-/
import Derived.Test.YtjmfecjgomkofabDoorLowPure
import Derived.Test.YtjmfecjgomkofabDoorCmpS
import Derived.Test.YtjmfecjgomkofabDoorBase
namespace Go.Proofs.YtjmfecjgomkofabDoor
open Go.RowKit Go.Sort Go.Lib Go.Shelf
set_option linter.unusedVariables false

/-- A slice of some length is made. -/
theorem run_makeN (t e : TypeId) (i0 : TypeInfo) (hu : Tryd.prog.underlying t = some (.slice e)) (hi : Tryd.prog.info? e = some i0) (hz0 : i0.zero = some (.int .i64 0)) (hz1 : i0.size = 1) (hz2 : i0.bytes = 8) (n : Nat) (hn : n ≤ 100) (W : World) :
    (Instr.makeSlice t (.int .i64 n) (.int .i64 n)).run Tryd.prog W = .ok (.slice (some ⟨W.heap.size, 0, none⟩) n n) (W.alloc (.cells (ints (List.replicate n 0)).toArray e)) := by
  have h := run_makeSlice (P := Tryd.prog) W t e i0 (.int .i64 0) hu hi hz0 .i64 .i64 n n (by omega) (by omega) (by rw [hz1]; omega) (by rw [hz2]; omega) (by omega)
  rw [hz1] at h
  have em : madeCells (Value.int .i64 0).cells (Int.toNat n * 1) = (ints (List.replicate n 0)).toArray := Array.toList_inj.1 (by
    show (madeCells #[Value.int .i64 0] ((Int.toNat n) * 1)).toList = _
    rw [toList_madeCells_one, Nat.mul_one, ← ints_zeros]; simp)
  rw [em] at h
  exact h

/-! The sorts. -/
theorem sortWorld_blkG {α : Type} [Inhabited α] (enc : α → Value) (v : α → Int) (he : ∀ x, enc x = .int .i64 (v x)) (w : World) (blk n : Nat) (t : TypeId) (xs : List Int) (d : List α) (os : Array Obj) (h : Blk w blk t (ints xs)) (hl : d.length = xs.length) : Blk (sortWorld enc w blk 0 n d.toArray os) blk t (ints (d.map v)) := by
  have hlt := h.lt
  unfold Blk at h ⊢
  unfold sortWorld grow putRow mapBlock Sort.ahead
  simp only
  rw [Array.getElem?_append_left (by simpa using hlt), Array.getElem?_modify, if_pos rfl, h, Option.map_some]
  unfold onCells
  simp only
  congr 2
  apply Array.ext_getElem?
  intro i
  unfold putCells
  rw [Array.getElem?_mapIdx]
  by_cases hi : i < xs.length
  · rw [List.getElem?_toArray, ints_get xs i hi]
    simp only [Option.map_some, List.size_toArray, Nat.zero_add, Nat.zero_le, true_and, hl, hi, if_true, Nat.sub_zero]
    rw [List.getElem?_toArray]
    unfold ints
    simp only [List.map_map, List.getElem?_map]
    rw [List.getElem?_eq_getElem (by omega)]
    simp [he, hl, hi]
  · rw [List.getElem?_toArray, List.getElem?_toArray, List.getElem?_eq_none (by rw [ints_length]; omega), List.getElem?_eq_none (by rw [ints_length, List.length_map]; omega)]
    rfl
theorem holdsG {α : Type} [Inhabited α] (enc : α → Value) (v : α → Int) (he : ∀ x, enc x = .int .i64 (v x)) {w : World} {g : Nat} {t : TypeId} {xs : List Int} (hg : Blk w g t (ints xs)) (d : List α) (hd : d.map v = xs) : Holds enc w g 0 d.toArray := by
  intro j hj
  have hj2 : j < d.length := by simpa using hj
  have hl : d.length = xs.length := by rw [← hd, List.length_map]
  have hj' : j < xs.length := by omega
  rw [Nat.zero_add]
  refine ⟨?_, (hg.int j hj').2⟩
  rw [(hg.int j hj').1]
  have e1 : d.toArray[j]! = d[j] := by simp [hj2]
  rw [e1, he, nth_eq xs j hj']
  congr 2
  have : (d.map v)[j]'(by simpa using hj2) = v d[j] := by simp
  rw [← this]
  simp only [hd]
/-- What a sort leaves: a block with other numbers. -/
def SortedB (g : Nat) (t : TypeId) (w : World) (p : List Int → Prop) (e : Ending) (w' : World) : Prop := e = .returned (.tuple #[]) ∧ (∃ K, p K ∧ Blk w' g t (ints K)) ∧ w.grownBy w' (some g)

/-- By decreasing numbers. -/
def descR (rs : List Int) : List Int := rs.mergeSort (fun x y => decide (y ≤ x))
theorem descR_perm (rs : List Int) : (descR rs).Perm rs := List.mergeSort_perm ..
theorem descR_sorted (rs : List Int) : (descR rs).Pairwise (fun a b => b ≤ a) := by
  have := List.pairwise_mergeSort (le := fun x y : Int => decide (y ≤ x)) (fun a b c h1 h2 => by simp only [decide_eq_true_eq] at *; omega) (fun a b => by simp only [Bool.or_eq_true, decide_eq_true_eq]; omega) rs
  exact this.imp (fun h => by simpa using h)
theorem descR_of {rs L : List Int} (hp : L.Perm rs) (hs : L.Pairwise (fun a b => b ≤ a)) : L = descR rs :=
  List.Perm.eq_of_pairwise (fun a b _ _ h1 h2 => by omega) hs (descR_sorted rs) (hp.trans (descR_perm rs).symm)
theorem descR_len (rs : List Int) : (descR rs).length = rs.length := (descR_perm rs).length_eq
def cfD (x y : Int) : Int := cmpI y x
theorem ltD (x y : Int) : ltOf cfD x y = decide (y < x) := by
  unfold ltOf cfD cmpI
  rw [decide_eq_decide]
  repeat' split
  all_goals omega
theorem swoD : SWO (ltOf cfD) where
  irrefl x := by rw [ltD]; simp
  trans x y z h1 h2 := by rw [ltD] at *; simp only [decide_eq_true_eq] at *; omega
  ntrans x y z h1 h2 := by rw [ltD] at *; simp only [decide_eq_false_iff_not] at *; omega
theorem totD (x y : Int) (h1 : ltOf cfD x y = false) (h2 : ltOf cfD y x = false) : x = y := by
  rw [ltD] at *; simp only [decide_eq_false_iff_not] at *; omega
/-- The low ranks of the first k cards, and zeros. -/
def lr0 (xs : List Int) (k : Nat) : List Int := lrs (xs.take k) ++ List.replicate (xs.length - k) 0
theorem lr0_zero (xs : List Int) : lr0 xs 0 = List.replicate xs.length 0 := by unfold lr0 lrs; simp
theorem lr0_len (xs : List Int) (k : Nat) (hk : k ≤ xs.length) : (lr0 xs k).length = xs.length := by
  unfold lr0; rw [List.length_append, lrs_len, List.length_take, List.length_replicate]; omega
theorem lr0_step (xs : List Int) (k : Nat) (hk : k < xs.length) : (lr0 xs k).set k (lr (nth xs k)) = lr0 xs (k + 1) := by
  unfold lr0
  have hl : (lrs (xs.take k)).length = k := by rw [lrs_len, List.length_take]; omega
  rw [List.set_append_right _ _ (by omega), hl, Nat.sub_self, take_nth xs k hk]
  have e : List.replicate (xs.length - k) (0 : Int) = 0 :: List.replicate (xs.length - (k + 1)) 0 := by
    rw [← List.replicate_succ]; congr 1; omega
  rw [e, List.set_cons_zero]
  unfold lrs
  rw [List.map_append, List.append_assoc]
  rfl
theorem lr0_all (xs : List Int) : lr0 xs xs.length = lrs xs := by unfold lr0; rw [take_len]; simp
/-- A new block of numbers, as a slice. -/
def NewB (ys : List Int) (w : World) (e : Ending) (w' : World) : Prop := e = .returned (.slice (some ⟨w.heap.size, 0, none⟩) ys.length ys.length) ∧ Blk w' w.heap.size 2 (ints ys) ∧ Below w.heap.size w w'
end Go.Proofs.YtjmfecjgomkofabDoor
