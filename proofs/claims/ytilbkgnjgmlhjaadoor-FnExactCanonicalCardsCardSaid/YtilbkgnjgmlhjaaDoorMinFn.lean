/-
  slices.Compare; slices.MinFunc by it: the least of a list of lists.
-/
import Derived.Test.YtilbkgnjgmlhjaaDoorCanonPure
namespace Go.Proofs.YtilbkgnjgmlhjaaDoor
open Go.RowKit
set_option linter.unusedVariables false

/-- How lists of one length compare. -/
def lexC : List Int → List Int → Int
  | a :: us, b :: vs => if a = b then lexC us vs else cmpI a b
  | _, _ => 0
theorem lexC_lt : ∀ (a b : List Int), a.length = b.length → (lexC a b < 0 ↔ lexLt a b = true) ∧ (lexC a b = 0 ↔ a = b)
  | [], [], _ => ⟨by simp [lexC, lexLt], by simp [lexC]⟩
  | a :: us, b :: vs, h => by
    have ih := lexC_lt us vs (by simpa using h)
    unfold lexC lexLt
    by_cases e : a = b
    · subst e
      rw [if_pos rfl, if_pos rfl]
      exact ⟨ih.1, by rw [ih.2]; simp⟩
    · rw [if_neg e, if_neg e, decide_eq_true_eq]
      unfold cmpI
      refine ⟨?_, ?_⟩
      · repeat' split
        all_goals omega
      · constructor
        · intro q; exfalso; revert q
          repeat' split
          all_goals omega
        · intro q; injection q with q _; exact absurd q e
  | [], _ :: _, h => by simp at h
  | _ :: _, [], h => by simp at h
theorem lexC_step (a b : List Int) (k : Nat) (h : k < a.length) (h' : k < b.length) : lexC (a.drop k) (b.drop k) = if nth a k = nth b k then lexC (a.drop (k + 1)) (b.drop (k + 1)) else cmpI (nth a k) (nth b k) := by
  rw [drop_nth a k h, drop_nth b k h']; rfl
set_option maxRecDepth 100000 in
set_option maxHeartbeats 1000000 in
theorem slicesCompare_any (A B : Option Addr) (c d : Nat) (a b : List Int) (w : World) (hr : Rd w A a) (hq : Rd w B b) (hl : a.length = b.length) (hn : a.length ≤ 100) :
    Calls Tryd.prog 77 #[.slice A a.length c, .slice B b.length d] w (Same (.int .i64 (lexC a b)) w) := by
  have HR := Lib.hid hr
  have HQ := Lib.hid hq
  have HL := Lib.hid hl
  have KC := Lib.hid compare_any
  have hll : (b.length : Int) = (a.length : Int) := by omega
  rw [← hl]
  clear hr hq hl hll
  obtain ⟨r, er⟩ : ∃ r, r = lexC a b := ⟨_, rfl⟩
  have ER : Hid (r = lexC (a.drop 0) (b.drop 0)) := Lib.hid er
  rw [← er]
  clear er
  go_enter Tryd.func77, Tryd.ntmps77
  go_wp2_with fail
  go_loop [11] (fun i => ∃ k : Nat, k ≤ a.length ∧ i = .int .i64 k ∧ Hid (r = lexC (a.drop k) (b.drop k))) (fun i => a.length - (intOf i).toNat)
  case atStart => exact ⟨0, by omega, rfl, ER⟩
  case round =>
    obtain ⟨k, hk, rfl, hs⟩ := hrel
    by_cases hlt : k < a.length
    · have hlt' : (k : Int) < a.length := by omega
      have hlb : k < b.length := by have := HL.out; omega
      obtain ⟨b1, o1, rfl, c1⟩ := HR.out.at_ (bl_refl _) k hlt
      obtain ⟨b2, o2, rfl, c2⟩ := HQ.out.at_ (bl_refl _) k hlb
      have HS := Lib.hid (lexC_step a b k hlt hlb)
      by_cases hx : nth a k = nth b k
      · have E2 : Hid (r = lexC (a.drop (k + 1)) (b.drop (k + 1))) := Lib.hid (by rw [hs.out, HS.out, if_pos hx])
        rw [hx] at c1
        generalize nth b k = y at *
        have EC := cmpI_eq y
        clear hx
        go_wp2_with (go_at_call 108; refine (KC.out _ _ _).mono ?_; rintro e w1 ⟨rfl, rfl⟩)
        go_round
        case rel => exact ⟨k + 1, by omega, by go_num, E2⟩
        case measure => simp [intOf]; omega
      · have E2 : Hid (r = cmpI (nth a k) (nth b k)) := Lib.hid (by rw [hs.out, HS.out, if_neg hx])
        have hcn : (cmpI (nth a k) (nth b k) != 0) = true := by
          rw [bne_iff_ne]; unfold cmpI
          repeat' split
          all_goals omega
        generalize nth a k = x at *
        generalize nth b k = y at *
        generalize hq : cmpI x y = q at *
        have EQ := Lib.hid hq
        clear hx hq
        go_wp2_with (go_at_call 108; refine (KC.out _ _ _).mono ?_; rintro e w1 ⟨rfl, rfl⟩; rw [EQ.out])
        go_ret
        exact ⟨ret_int E2.out.symm, rfl⟩
    · obtain rfl : k = a.length := by omega
      have E2 : Hid (r = 0) := Lib.hid (by
        have h2 := HL.out
        rw [hs.out, List.drop_length, h2, List.drop_length]; rfl)
      go_wp2_with fail
      go_ret
      exact ⟨ret_int E2.out.symm, rfl⟩

/-- The first n + 1 rows of a family, the least of them. -/
theorem leastK_C {F : Nat → List Int} {L : Nat} (hF : ∀ k, (F k).length = L) (q : Nat) (h1 : 1 ≤ q) :
    (lexC (F q) (F (leastK F (q - 1))) < 0 → leastK F q = q) ∧ (0 ≤ lexC (F q) (F (leastK F (q - 1))) → leastK F q = leastK F (q - 1)) := by
  obtain ⟨n, rfl⟩ : ∃ n, q = n + 1 := ⟨q - 1, by omega⟩
  rw [Nat.add_sub_cancel]
  have h := (lexC_lt (F (n + 1)) (F (leastK F n)) (by rw [hF, hF])).1
  exact ⟨fun q => leastK_yes (h.1 q), fun q => leastK_no (by
    have : ¬ lexLt (F (n + 1)) (F (leastK F n)) = true := fun e => by have := h.2 e; omega
    simpa using this)⟩
theorem leastK_zero (F : Nat → List Int) : leastK F 0 = 0 := rfl

set_option maxRecDepth 100000 in
set_option maxHeartbeats 2000000 in
theorem minFunc_any (A : Option Addr) (c lo H L : Nat) (F : Nat → List Int) (AA : Nat → Option Addr) (CC : Nat → Nat) (w : World) (hf : Fam w lo A H F AA CC) (h0 : 1 ≤ H) (hH : H ≤ 100) (hF : ∀ k, (F k).length = L) (hL : L ≤ 100) :
    Calls Tryd.prog 76 #[.slice A H c, .func (.func 77) #[] #[]] w (Same (.slice (AA (leastK F (H - 1))) L (CC (leastK F (H - 1)))) w) := by
  have HF := Lib.hid hf
  have HLn := Lib.hid hF
  have KC : Hid (∀ i j, i < H → j < H → Calls Tryd.prog 77 #[.slice (AA i) L (CC i), .slice (AA j) L (CC j)] w (Same (.int .i64 (lexC (F i) (F j))) w)) := Lib.hid (fun i j hi hj => by
    have := slicesCompare_any (AA i) (AA j) (CC i) (CC j) (F i) (F j) w (hf.row i hi).rd (hf.row j hj).rd (by rw [hF, hF]) (by rw [hF]; exact hL)
    rwa [hF, hF] at this)
  have HK := Lib.hid (leastK_C hF)
  have HLE := Lib.hid (leastK_le F)
  have HZ := Lib.hid (leastK_zero F)
  clear hf hF
  generalize leastK F = K at *
  go_enter Tryd.func76, Tryd.ntmps76
  obtain ⟨g, o, rfl, hc0⟩ := HF.out.at_ (bl_refl _) 0 (by omega)
  rw [HLn.out, Nat.add_zero] at hc0
  have hH1 : (1 : Int) ≤ H := by omega
  go_wp2_with fail
  go_loop [5, 6] (fun v i => ∃ q : Nat, 1 ≤ q ∧ q ≤ H ∧ i = .int .i64 q ∧ v = .slice (AA (K (q - 1))) L (CC (K (q - 1)))) (fun _ i => H - (intOf i).toNat)
  case atStart => exact ⟨1, by omega, h0, rfl, by rw [Nat.sub_self, HZ.out]⟩
  case round =>
    obtain ⟨q, hq1, hq, rfl, rfl⟩ := hrel
    by_cases hlt : q < H
    · have hlt' : (q : Int) < H := by omega
      have hq1' : (0 : Int) ≤ q := by omega
      have hle := HLE.out (q - 1)
      obtain ⟨g', o', e', hck⟩ := HF.out.at_ (bl_refl _) q hlt
      obtain ⟨rfl, rfl⟩ : g = g' ∧ o = o' := by injection e' with e'; injection e' with e1 e2; exact ⟨e1, e2⟩
      rw [HLn.out] at hck
      have K1 := Lib.hid (KC.out q (K (q - 1)) hlt (by omega))
      have HKq := Lib.hid (HK.out q hq1)
      clear e' hle
      by_cases hx : lexC (F q) (F (K (q - 1))) < 0
      · have EK := Lib.hid (HKq.out.1 hx)
        clear HKq
        generalize lexC (F q) (F (K (q - 1))) = r at *
        generalize K (q - 1) = kq at *
        go_wp2_with (go_at_call 77; refine (K1.out).mono ?_; rintro e w1 ⟨rfl, rfl⟩)
        go_round
        case rel => exact ⟨q + 1, by omega, by omega, by go_num, by rw [Nat.add_sub_cancel, EK.out]⟩
        case measure => simp [intOf]; omega
      · have hx' : 0 ≤ lexC (F q) (F (K (q - 1))) := by omega
        have EK := Lib.hid (HKq.out.2 hx')
        clear HKq hx
        generalize lexC (F q) (F (K (q - 1))) = r at *
        generalize hkq : K (q - 1) = kq at *
        clear hkq
        go_wp2_with (go_at_call 77; refine (K1.out).mono ?_; rintro e w1 ⟨rfl, rfl⟩)
        go_round
        case rel => exact ⟨q + 1, by omega, by omega, by go_num, by rw [Nat.add_sub_cancel, EK.out]⟩
        case measure => simp [intOf]; omega
    · obtain rfl : q = H := by omega
      go_wp2_with fail
      go_ret
      exact ⟨rfl, rfl⟩
end Go.Proofs.YtilbkgnjgmlhjaaDoor
