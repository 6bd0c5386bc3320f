/-
  Five numbers by value, compared.
-/
import Derived.Test.YtcbfmfkahgfjkaaDoorShapeImpl
import Derived.DeepKeys
namespace Go.Proofs.YtcbfmfkahgfjkaaDoor
open Go.RowKit
set_option linter.unusedVariables false

theorem part_int (xs : List Int) (i : Nat) (hi : i < xs.length) (W : World) : (part 2 (ints xs).toArray i).run Tryd.prog W = .ok (.int .i64 (nth xs i)) W := by
  have hg : (ints xs)[i]? = some (.int .i64 (nth xs i)) := ints_get xs i hi
  simp [part, isAgg, run_underlying Tryd.underlying2, hg]
theorem items_int (d : Nat) (xs ys : List Int) (W : World) : ∀ is : List Nat, (∀ i ∈ is, i < xs.length ∧ i < ys.length) →
    (Op.eqItems (d + 1) 2 1 (ints xs).toArray (ints ys).toArray is).run Tryd.prog W = .ok (is.all (fun i => nth xs i == nth ys i)) W
  | [], _ => by simp [Op.eqItems]
  | i :: is, h => by
    have h1 := h i (List.mem_cons_self ..)
    have ih := items_int d xs ys W is (fun j hj => h j (List.mem_cons_of_mem _ hj))
    have e := run_equalIn_int (P := Tryd.prog) W d 2 .i64 .i64 (nth xs i) (nth ys i) Tryd.underlying2
    simp only [Op.eqItems, Sem.run_bind, Nat.mul_one, part_int xs i h1.1, part_int ys i h1.2, Result.andThen_ok, e, List.all_cons]
    by_cases hq : nth xs i = nth ys i
    · simp [hq, ih]
    · have hq' : (nth xs i == nth ys i) = false := by simpa using hq
      rw [hq']
      simp
set_option maxRecDepth 100000 in
theorem run_eq53 (a0 a1 a2 a3 a4 b0 b1 b2 b3 b4 : Int) (W : World) :
    (Op.equalIn 10000 53 (.agg #[.int .i64 a0, .int .i64 a1, .int .i64 a2, .int .i64 a3, .int .i64 a4]) (.agg #[.int .i64 b0, .int .i64 b1, .int .i64 b2, .int .i64 b3, .int .i64 b4])).run Tryd.prog W =
      .ok (decide ([a0, a1, a2, a3, a4] = [b0, b1, b2, b3, b4])) W := by
  obtain ⟨i0, hi, hz0, hz1, hz2⟩ := info_parts infoInt
  have h := run_equalIn_array (P := Tryd.prog) W 9999 (ints [a0, a1, a2, a3, a4]).toArray (ints [b0, b1, b2, b3, b4]).toArray u53 hi
  have hc : Tryd.prog.cellsOf 2 = 1 := by kernel_rfl
  rw [hc, items_int 9998 [a0, a1, a2, a3, a4] [b0, b1, b2, b3, b4] W (List.range 5) (by intro i hi; have := List.mem_range.1 hi; simp; omega)] at h
  refine Eq.trans h ?_
  congr 1
  rw [Bool.eq_iff_iff, decide_eq_true_eq]
  have hr : List.range 5 = [0, 1, 2, 3, 4] := by decide
  rw [hr]
  simp [nth]
end Go.Proofs.YtcbfmfkahgfjkaaDoor
