/-
  Two groups by value, compared.
-/
import Derived.Test.YtlpkaflmhdgmmaaRdrAdd
import Derived.Laws.StructEq
namespace Go.Proofs.Ytlpkaflmhdgmmaa
open Go.RowKit
set_option linter.unusedVariables false

theorem eqG_any (a b : Int) (t : List UInt8) (a' b' : Int) (t' : List UInt8) (W : World) : (Op.equal 85 (gV a b t) (gV a' b' t')).run Try.prog W = .ok (a == a' && b == b' && t == t') W := by
  have ht : Try.prog.underlying 85 = some (.struct (Try.prog.fieldsOf 85)) := by kernel_rfl
  have hp : Try.prog.stoodInHeld 85 = false := by kernel_rfl
  have h := run_equalIn_struct (P := Try.prog) W 9999 85 #[.int .i64 a, .int .i64 b, strV t] #[.int .i64 a', .int .i64 b', strV t'] ht hp
  refine Eq.trans h ?_
  simp [go_sem]
  by_cases h1 : a = a'
  · by_cases h2 : b = b'
    · by_cases h3 : t = t'
      · simp [h1, h2, h3]
      · simp [h1, h2, h3]
    · simp [h1, h2]
  · simp [h1]
theorem neG_any (a b : Int) (t : List UInt8) (a' b' : Int) (t' : List UInt8) (W : World) : (binOp BinOp.neq 85 (gV a b t) (gV a' b' t')).run Try.prog W = .ok (.bool (!(a == a' && b == b' && t == t'))) W := by
  have h := eqG_any a b t a' b' t' W
  simp only [binOp, Sem.run_bind, h, Result.andThen_ok, Sem.run_pure]
/-- Whether a group comes behind another one in its row, as the program asks. -/
theorem kdT_inj {c d : UInt8} (hc : c = 32 ∨ c = 115 ∨ c = 111) (hd : d = 32 ∨ d = 115 ∨ d = 111) (h : kdT c = kdT d) : c = d := by
  rcases hc with rfl | rfl | rfl <;> rcases hd with rfl | rfl | rfl <;> first | rfl | (exact absurd h (by decide))
theorem fol_eq {g g2 : Grp} (h : OkG g) (h2 : OkG g2) (hlt : g2.2.1 < g.2.1) : (wthI g.1 g.2.1 g2.2.1 == g2.1 && g2.2.1 == g2.2.1 && kdT g.2.2 == kdT g2.2.2) = folG g g2 := by
  rw [Bool.eq_iff_iff, fol_iff]
  obtain ⟨a, b, k⟩ := g
  obtain ⟨a2, b2, k2⟩ := g2
  unfold withG wthI
  simp only [Bool.and_eq_true, beq_iff_eq, Prod.mk.injEq, true_and, and_true]
  constructor
  · rintro ⟨e1, e2⟩
    exact ⟨hlt, e1, kdT_inj h.2.2.2.2 h2.2.2.2.2 e2⟩
  · rintro ⟨_, e1, e2⟩
    exact ⟨e1, by rw [e2]⟩
end Go.Proofs.Ytlpkaflmhdgmmaa
