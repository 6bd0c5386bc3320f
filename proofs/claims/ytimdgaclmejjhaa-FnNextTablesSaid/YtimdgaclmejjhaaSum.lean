/-
  The laws' likeInts and sum; all counts together are the length.
-/
import Derived.Test.YtimdgaclmejjhaaLike
import Derived.Test.YtimdgaclmejjhaaCounts
namespace Go.Proofs.Ytimdgaclmejjhaa
open Go.RowKit
set_option linter.unusedVariables false

/-- The sum of the first k numbers. -/
def sumI (xs : List Int) : Nat → Int
  | 0 => 0
  | k + 1 => sumI xs k + nth xs k
theorem sumI_bd (xs : List Int) (h : ∀ i, i < xs.length → 0 ≤ nth xs i ∧ nth xs i ≤ 4000000) : ∀ k, k ≤ xs.length → 0 ≤ sumI xs k ∧ sumI xs k ≤ k * 4000000
  | 0, _ => ⟨Int.le_refl _, by simp [sumI]⟩
  | k + 1, hk => by
    have ih := sumI_bd xs h k (by omega)
    have hb := h k (by omega)
    unfold sumI
    omega
set_option maxRecDepth 100000 in
set_option maxHeartbeats 1000000 in
theorem sum_any (A : Option Addr) (c : Nat) (xs : List Int) (w : World) (hr : Rd w A xs) (hn : xs.length ≤ 4000000) (hb : ∀ i, i < xs.length → 0 ≤ nth xs i ∧ nth xs i ≤ 4000000) :
    Calls Try.prog 12 #[.slice A xs.length c] w (Same (.int .i64 (sumI xs xs.length)) w) := by
  have HR := Lib.hid hr
  have HB := Lib.hid (sumI_bd xs hb)
  have HE := Lib.hid hb
  clear hr hb
  go_enter Try.func12, Try.ntmps12
  go_wp2_with fail
  go_loop [3, 4] (fun s i => ∃ k : Nat, k ≤ xs.length ∧ i = .int .i64 k ∧ s = .int .i64 (sumI xs k)) (fun _ i => xs.length - (intOf i).toNat)
  case atStart => exact ⟨0, Nat.zero_le _, rfl, rfl⟩
  case round =>
    obtain ⟨k, hk, rfl, rfl⟩ := hrel
    by_cases hlt : k < xs.length
    · obtain ⟨b, off, rfl, hc⟩ := HR.out.at_ (bl_refl _) k hlt
      have hlt' : (k : Int) < xs.length := by omega
      have h1 := HB.out k hk
      have h2 := HE.out k hlt
      have HS : Hid (sumI xs (k + 1) = sumI xs k + nth xs k) := Lib.hid rfl
      obtain ⟨q, eq⟩ : ∃ q, q = sumI xs k := ⟨_, rfl⟩
      rw [← eq] at h1 HS ⊢
      clear eq
      go_wp2_with fail
      go_round
      case rel => exact ⟨k + 1, by omega, by go_num, by rw [HS.out]⟩
      case measure => simp [intOf]; omega
    · obtain rfl : k = xs.length := by omega
      go_wp2_with fail
      go_ret
      exact ⟨rfl, rfl⟩

theorem cnt_cons (p : Int → Bool) (x : Int) (xs : List Int) : cnt p (x :: xs) = (if p x = true then 1 else 0) + cnt p xs := by
  unfold cnt
  rw [List.filter_cons]
  by_cases h : p x = true
  · rw [if_pos h, if_pos h, List.length_cons]; omega
  · rw [if_neg h, if_neg h]; omega
theorem cnt_or (p q r : Int → Bool) : ∀ (xs : List Int), (∀ x ∈ xs, (if r x = true then 1 else 0) = (if p x = true then 1 else 0) + (if q x = true then 1 else 0)) → cnt r xs = cnt p xs + cnt q xs
  | [], _ => rfl
  | x :: xs, h => by
    have h1 := h x (List.mem_cons_self ..)
    have ih := cnt_or p q r xs (fun y hy => h y (List.mem_cons_of_mem _ hy))
    rw [cnt_cons, cnt_cons, cnt_cons, ih]
    omega
theorem cnt_all (p : Int → Bool) : ∀ (xs : List Int), (∀ x ∈ xs, p x = true) → cnt p xs = xs.length
  | [], _ => rfl
  | x :: xs, h => by
    rw [cnt_cons, cnt_all p xs (fun y hy => h y (List.mem_cons_of_mem _ hy)), if_pos (h x (List.mem_cons_self ..)), List.length_cons]; omega
theorem cnt_none (p : Int → Bool) : ∀ (xs : List Int), (∀ x ∈ xs, p x = false) → cnt p xs = 0
  | [], _ => rfl
  | x :: xs, h => by
    rw [cnt_cons, cnt_none p xs (fun y hy => h y (List.mem_cons_of_mem _ hy)), if_neg (by rw [h x (List.mem_cons_self ..)]; decide)]
theorem sum_counts (n : Nat) (key : Int → Int) (xs : List Int) (h0 : ∀ x ∈ xs, 0 ≤ key x) : ∀ k, k ≤ n → sumI (cntL n key xs) k = (cnt (fun x => decide (key x < (k : Int))) xs : Int)
  | 0, _ => by
    rw [cnt_none _ xs (fun x hx => by have := h0 x hx; simp; omega)]; rfl
  | k + 1, hk => by
    have ih := sum_counts n key xs h0 k (by omega)
    rw [sumI, ih, cntL_nth n key xs k (by omega)]
    rw [cnt_or (fun x => decide (key x < (k : Int))) (fun x => key x == (k : Int)) (fun x => decide (key x < ((k + 1 : Nat) : Int))) xs]
    · omega
    · intro x hx
      by_cases a : key x < (k : Int)
      · rw [if_pos (by simp; omega), if_pos (by simpa using a), if_neg (by simp; omega)]
      · by_cases b : key x = (k : Int)
        · rw [if_pos (by simp; omega), if_neg (by simpa using a), if_pos (by simpa using b)]
        · rw [if_neg (by simp; omega), if_neg (by simpa using a), if_neg (by simpa using b)]
theorem sum_all (n : Nat) (key : Int → Int) (xs : List Int) (h : ∀ x ∈ xs, 0 ≤ key x ∧ key x < n) : sumI (cntL n key xs) (cntL n key xs).length = (xs.length : Int) := by
  rw [cntL_length, sum_counts n key xs (fun x hx => (h x hx).1) n (Nat.le_refl _), cnt_all _ xs (fun x hx => by simpa using (h x hx).2)]
theorem cntL_bd (n : Nat) (key : Int → Int) (xs : List Int) (hl : xs.length ≤ 4000000) : ∀ i, i < (cntL n key xs).length → 0 ≤ nth (cntL n key xs) i ∧ nth (cntL n key xs) i ≤ 4000000 := by
  intro i hi
  rw [cntL_length] at hi
  rw [cntL_nth n key xs i hi]
  have := cnt_le (fun x => key x == (i : Int)) xs
  omega
end Go.Proofs.Ytimdgaclmejjhaa
