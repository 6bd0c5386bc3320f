/-
  The reader of range texts: a third character; a group.
-/
import Derived.Test.YtlpkaflmhdgmmaaRdrGrp
namespace Go.Proofs.Ytlpkaflmhdgmmaa
open Go.RowKit
set_option linter.unusedVariables false

theorem index_p0 (W : World) : (Instr.index 99 (.agg #[.string ⟨#[115]⟩, .string ⟨#[111]⟩]) (.int .i64 0)).run Try.prog W = .ok (.string ⟨#[115]⟩) W := by kernel_rfl
theorem index_p1 (W : World) : (Instr.index 99 (.agg #[.string ⟨#[115]⟩, .string ⟨#[111]⟩]) (.int .i64 1)).run Try.prog W = .ok (.string ⟨#[111]⟩) W := by kernel_rfl
theorem noHead_cons {c e : UInt8} {r : List UInt8} (h : e ≠ c) : NoHead c (e :: r) := fun r' q => h (by injection q)
theorem noHead_nil (c : UInt8) : NoHead c [] := fun r' q => by cases q
theorem third_s {r : List UInt8} : thirdR (115 :: r) = (115, r) := rfl
theorem third_o {r : List UInt8} : thirdR (111 :: r) = (111, r) := rfl
theorem third_no {l : List UInt8} (h1 : NoHead 115 l) (h2 : NoHead 111 l) : thirdR l = (32, l) := by
  cases l with
  | nil => rfl
  | cons e r => rw [thirdR_cons, if_neg (fun q => h1 r (by rw [q])), if_neg (fun q => h2 r (by rw [q]))]
theorem third_cases (l : List UInt8) : (∃ r, l = 115 :: r) ∨ (∃ r, l = 111 :: r) ∨ (NoHead 115 l ∧ NoHead 111 l) := by
  cases l with
  | nil => exact .inr (.inr ⟨noHead_nil _, noHead_nil _⟩)
  | cons e r =>
    by_cases h1 : e = 115
    · exact .inl ⟨r, by rw [h1]⟩
    · by_cases h2 : e = 111
      · exact .inr (.inl ⟨r, by rw [h2]⟩)
      · exact .inr (.inr ⟨noHead_cons h1, noHead_cons h2⟩)
set_option maxRecDepth 100000 in
set_option maxHeartbeats 1000000 in
theorem readThird_any (g : Nat) (l : List UInt8) (p : Int → Bool) (w : World) (h : Rdr w g l p) :
    Calls Try.prog 68 #[.pointer (some ⟨g, 0, none⟩)] w (RdrTo g (thirdR l).2 p (strV (kdT (thirdR l).1)) w) := by
  have i0 := index_p0
  have i1 := index_p1
  rcases third_cases l with ⟨r, rfl⟩ | ⟨r, rfl⟩ | ⟨h1, h2⟩
  · have K := Lib.hid (skip_yes g 115 r p w h)
    rw [third_s]
    clear h
    go_enter Try.func68, Try.ntmps68
    go_wp2_with fail
    refine wp_loop_rounds 3 ?_
    rw [rounds_succ]
    go_wp2_with (go_at_call 50; ((with_reducible refine K.out.mono ?_); rintro e w1 ⟨rfl, hr1, hg1⟩))
    go_ret
    exact ⟨rfl, hr1, hg1⟩
  · have K := Lib.hid (skip_no g 115 (111 :: r) p w h (noHead_cons (by decide)))
    rw [third_o]
    clear h
    go_enter Try.func68, Try.ntmps68
    go_wp2_with fail
    refine wp_loop_rounds 3 ?_
    repeat (first | (rw [rounds_succ]; go_wp2_with (first | (go_at_call 50; ((with_reducible refine K.out.mono ?_); rintro e w1 ⟨rfl, hr1, hg1⟩; have K2 := Lib.hid (skip_yes g 111 r p w1 hr1); clear K hr1)) | (go_at_call 50; ((with_reducible refine K2.out.mono ?_); rintro e w2 ⟨rfl, hr2, hg2⟩)))))
    go_ret
    exact ⟨rfl, hr2, hg1.trans hg2⟩
  · have K := Lib.hid (skip_no g 115 l p w h h1)
    rw [third_no h1 h2]
    have H2 := Lib.hid h2
    clear h h1 h2
    go_enter Try.func68, Try.ntmps68
    go_wp2_with fail
    refine wp_loop_rounds 3 ?_
    repeat (first | (rw [rounds_succ]; go_wp2_with (first | (go_at_call 50; ((with_reducible refine K.out.mono ?_); rintro e w1 ⟨rfl, hr1, hg1⟩; have K2 := Lib.hid (skip_no g 111 l p w1 hr1 H2.out); clear K hr1)) | (go_at_call 50; ((with_reducible refine K2.out.mono ?_); rintro e w2 ⟨rfl, hr2, hg2⟩)))))
    go_ret
    exact ⟨rfl, hr2, hg1.trans hg2⟩
end Go.Proofs.Ytlpkaflmhdgmmaa
