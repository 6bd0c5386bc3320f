/-
  The model's comparisons of lists, and the test that cards are apart.
-/
import Derived.Test.YtilbkgnjgmlhjaaDoorBadPure
import Derived.Test.YtilbkgnjgmlhjaaDoorBase
import Derived.BigQuiet
namespace Go.Proofs.YtilbkgnjgmlhjaaDoor
open Go.RowKit
set_option linter.unusedVariables false

theorem drop_nth (xs : List Int) (k : Nat) (h : k < xs.length) : xs.drop k = nth xs k :: xs.drop (k + 1) := by rw [nth_eq xs k h]; exact List.drop_eq_getElem_cons h
theorem lex_step (a b : List Int) (k : Nat) (h : k < a.length) (h' : k < b.length) : lexLt (a.drop k) (b.drop k) = if nth a k = nth b k then lexLt (a.drop (k + 1)) (b.drop (k + 1)) else decide (nth a k < nth b k) := by
  rw [drop_nth a k h, drop_nth b k h']; rfl
set_option maxRecDepth 100000 in
set_option maxHeartbeats 1000000 in
theorem l05Less_any (A B : Option Addr) (c d : Nat) (a b : List Int) (w : World) (hr : Rd w A a) (hq : Rd w B b) (hl : a.length = b.length) (hn : a.length ≤ 100) :
    Calls Tryd.prog 102 #[.slice A a.length c, .slice B b.length d] w (Fresh (.bool (lexLt a b)) w) := by
  have HR := Lib.hid hr
  have HQ := Lib.hid hq
  have HL := Lib.hid hl
  clear hr hq
  obtain ⟨w0, rfl⟩ : ∃ w0 : World, w0 = w := ⟨w, rfl⟩
  obtain ⟨r, er⟩ : ∃ r, r = lexLt a b := ⟨_, rfl⟩
  have ER := Lib.hid er
  rw [← er]
  clear er
  go_enter Tryd.func102, Tryd.ntmps102
  go_wp2_with fail
  go_loopw [5] (fun i wr => ∃ k : Nat, k ≤ a.length ∧ i = .int .i64 k ∧ Hid (r = lexLt (a.drop k) (b.drop k)) ∧ Hid (Below w0.heap.size w0 wr)) (fun i _ => a.length - (intOf i).toNat)
  case atStart => exact ⟨0, by omega, rfl, ER, Lib.hid (bl_refl _)⟩
  case round =>
    obtain ⟨k, hk, rfl, hs, hb⟩ := hrel
    by_cases hlt : k < a.length
    · have hlt' : (k : Int) < a.length := by omega
      have hlb : k < b.length := by omega
      have hlb' : (k : Int) < b.length := by omega
      obtain ⟨b1, o1, rfl, c1⟩ := HR.out.at_ hb.out k hlt
      obtain ⟨b2, o2, rfl, c2⟩ := HQ.out.at_ hb.out k hlb
      have HS := Lib.hid (lex_step a b k hlt hlb)
      by_cases hx : nth a k = nth b k
      · have E2 : Hid (r = lexLt (a.drop (k + 1)) (b.drop (k + 1))) := Lib.hid (by rw [hs.out, HS.out, if_pos hx])
        rw [hx] at c1
        generalize nth b k = y at *
        clear hx
        go_wp2_with fail
        go_quiet (fail)
        go_wp2_with fail
        go_roundw
        case rel => exact ⟨k + 1, by omega, by go_num, E2, Lib.hid (bl_drewN hb.out _)⟩
        case measure => simp [intOf]; omega
      · have E2 : Hid (r = decide (nth a k < nth b k)) := Lib.hid (by rw [hs.out, HS.out, if_neg hx])
        have hxy : (nth a k != nth b k) = true := by simpa using hx
        generalize nth a k = x at *
        generalize nth b k = y at *
        clear hx
        go_wp2_with fail
        go_quiet (fail)
        go_wp2_with fail
        go_quiet (fail)
        go_wp2_with fail
        go_ret
        exact ⟨ret_bool E2.out.symm, bl_drewN (bl_drewN hb.out _) _⟩
    · obtain rfl : k = a.length := by omega
      have E2 : Hid (r = false) := Lib.hid (by
        have h2 := HL.out
        rw [hs.out, List.drop_length, h2, List.drop_length]; rfl)
      go_wp2_with fail
      go_ret
      exact ⟨ret_bool E2.out.symm, hb.out⟩
theorem ltB_or (a b : List Int) : ltB a b = (lexLt (lrs a) (lrs b) || (decide (lrs a = lrs b) && lexLt a b)) := by
  unfold ltB
  by_cases e : lrs a = lrs b
  · rw [if_pos e, e, lex_irr, decide_eq_true rfl]; rfl
  · rw [if_neg e, decide_eq_false e]; simp

/-! Cards are apart. -/
/-- Those before place i are apart, and the one at i from the first k. -/
def apartN (xs : List Int) (i k : Nat) : Prop := ∀ p q, p < q → q < xs.length → (q < i ∨ (q = i ∧ p < k)) → apart2 (nth xs p) (nth xs q)
theorem apartN_next {xs : List Int} {i : Nat} (h : apartN xs i i) : apartN xs (i + 1) 0 := fun p q h1 h2 h3 => h p q h1 h2 (by omega)
theorem apartN_step {xs : List Int} {i k : Nat} (h : apartN xs i k) (ha : apart2 (nth xs k) (nth xs i)) : apartN xs i (k + 1) := fun p q h1 h2 h3 => by
  by_cases e : q = i ∧ p = k
  · rw [e.1, e.2]; exact ha
  · exact h p q h1 h2 (by omega)
theorem apartN_all {xs : List Int} (h : apartN xs xs.length 0) : apartB xs = true := by
  rw [apartB_iff, List.pairwise_iff_getElem]
  intro p q hp hq hpq
  have := h p q hpq hq (by omega)
  rwa [nth_eq xs p hp, nth_eq xs q hq] at this
theorem apart_bad {xs : List Int} {p q : Nat} (h : p < q) (hq : q < xs.length) (hn : ¬ apart2 (nth xs p) (nth xs q)) : apartB xs = false := by
  rcases e : apartB xs with _ | _
  · rfl
  · exfalso
    have h2 := List.pairwise_iff_getElem.1 (apartB_iff.1 e) p q (by omega) hq h
    rw [← nth_eq xs p (by omega), ← nth_eq xs q hq] at h2
    exact hn h2
end Go.Proofs.YtilbkgnjgmlhjaaDoor
