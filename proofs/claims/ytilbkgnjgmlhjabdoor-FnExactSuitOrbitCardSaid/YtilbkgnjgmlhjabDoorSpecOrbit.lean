/-
  The model's SuitOrbit; both count the same.
-/
import Derived.Test.YtilbkgnjgmlhjabDoorImages
import Derived.Test.YtilbkgnjgmlhjabDoorCmpLists
import Derived.Test.YtilbkgnjgmlhjabDoorDealRows
namespace Go.Proofs.YtilbkgnjgmlhjabDoor
open Go.RowKit
set_option linter.unusedVariables false

set_option maxRecDepth 100000 in
set_option maxHeartbeats 1000000 in
theorem l01Same_reads (A B : Option Addr) (c d : Nat) (a b : List Int) (w : World) (hr : Rd w A a) (hq : Rd w B b) (hl : a.length = b.length) (hn : a.length ≤ 100) :
    Calls Tryd.prog 10 #[.slice A a.length c, .slice B b.length d] w (Reads (.bool (decide (a = b))) w) := by
  have HR := Lib.hid hr
  have HQ := Lib.hid hq
  have HL := Lib.hid hl
  have hll : (a.length : Int) = (b.length : Int) := by omega
  clear hr hq
  obtain ⟨w0, rfl⟩ : ∃ w0 : World, w0 = w := ⟨w, rfl⟩
  obtain ⟨r, er⟩ : ∃ r, r = decide (a = b) := ⟨_, rfl⟩
  have ER := Lib.hid er
  rw [← er]
  clear er
  have E0 : Hid (r = decide (a.drop 0 = b.drop 0)) := Lib.hid (by rw [ER.out]; rfl)
  have hbl : b.length = a.length := hl.symm
  rw [hbl] at hll ⊢
  clear hl hbl hll
  go_enter Tryd.func10, Tryd.ntmps10
  go_wp2_with fail
  go_loopw [5] (fun i wr => ∃ k : Nat, k ≤ a.length ∧ i = .int .i64 k ∧ Hid (r = decide (a.drop k = b.drop k)) ∧ Hid (∃ n, wr = w0.drewN n)) (fun i _ => a.length - (intOf i).toNat)
  case atStart => exact ⟨0, by omega, rfl, E0, Lib.hid ⟨0, rfl⟩⟩
  case round =>
    obtain ⟨k, hk, rfl, hs, hb'⟩ := hrel
    have hb : Hid (Below w0.heap.size w0 wr) := Lib.hid (by obtain ⟨n, rfl⟩ := hb'.out; exact bl_drewN (bl_refl _) n)
    have DN : Hid (∀ m, ∃ n, wr.drewN m = w0.drewN n) := Lib.hid (fun m => by obtain ⟨n, rfl⟩ := hb'.out; exact ⟨n + m, World.drewN_drewN _ _ _⟩)
    by_cases hlt : k < a.length
    · have hlt' : (k : Int) < a.length := by omega
      have hlb : k < b.length := by have := HL.out; omega
      obtain ⟨b1, o1, rfl, c1⟩ := HR.out.at_ hb.out k hlt
      obtain ⟨b2, o2, rfl, c2⟩ := HQ.out.at_ hb.out k hlb
      have HS : Hid (r = decide (nth a k = nth b k ∧ a.drop (k + 1) = b.drop (k + 1))) := Lib.hid (by
        rw [hs.out, drop_nth a k hlt, drop_nth b k hlb, decide_eq_decide, List.cons.injEq])
      by_cases hx : nth a k = nth b k
      · have E2 : Hid (r = decide (a.drop (k + 1) = b.drop (k + 1))) := Lib.hid (by rw [HS.out, decide_eq_decide]; exact ⟨fun h => h.2, fun h => ⟨hx, h⟩⟩)
        rw [hx] at c1
        generalize nth b k = y at *
        clear hx
        go_wp2_with fail
        go_quiet (fail)
        go_wp2_with fail
        go_roundw
        case rel => exact ⟨k + 1, by omega, by go_num, E2, Lib.hid (DN.out _)⟩
        case measure => simp [intOf]; omega
      · have E2 : Hid (r = false) := Lib.hid (by rw [HS.out, decide_eq_false_iff_not]; exact fun h => hx h.1)
        have hxy : (nth a k != nth b k) = true := by simpa using hx
        generalize nth a k = x at *
        generalize nth b k = y at *
        clear hx
        go_wp2_with fail
        go_quiet (fail)
        go_wp2_with fail
        go_ret
        exact ⟨ret_bool E2.out.symm, DN.out _⟩
    · obtain rfl : k = a.length := by omega
      have E2 : Hid (r = true) := Lib.hid (by
        have h2 := HL.out
        rw [hs.out, List.drop_length, h2, List.drop_length]; rfl)
      go_wp2_with fail
      go_ret
      exact ⟨ret_bool E2.out.symm, hb'.out⟩
/-- Whether what stands at i stands among the first k too. -/
def knows {α : Type} [DecidableEq α] (f : Nat → α) (i k : Nat) : Bool := (List.range k).any (fun j => f j == f i)
theorem knows_succ {α : Type} [DecidableEq α] (f : Nat → α) (i k : Nat) : knows f i (k + 1) = (knows f i k || decide (f k = f i)) := by
  unfold knows
  rw [List.range_succ, List.any_append]; simp; rfl
theorem distN_succ {α : Type} [DecidableEq α] (f : Nat → α) (i : Nat) : distN f (i + 1) = distN f i + if knows f i i = true then 0 else 1 := rfl
def orbS (xs : List Int) : Int := if cardsB xs = true then (distN (imgS xs) 24 : Nat) else 0
set_option maxRecDepth 100000 in
set_option maxHeartbeats 4000000 in
theorem specOrbit_yes (A : Option Addr) (c : Nat) (xs : List Int) (w : World) (hr : Rd w A xs) (hn : xs.length ≤ 4000000) (hc : cardsB xs = true) :
    Calls Tryd.prog 4 #[.slice A xs.length c] w (Fresh (.tuple #[.int .i64 (distN (imgS xs) 24 : Nat), .int .i64 0]) w) := by
  have KA := Lib.hid (specAre_any A c xs w hr hn)
  rw [hc] at KA
  have KI := Lib.hid (fun (W : World) (h : Below w.heap.size w W) => l07Images_any A c xs W (hr.below h) hc)
  have KM := Lib.hid l01Same_reads
  have HL := Lib.hid (imgS_len xs)
  have HN := deck_len xs hc
  have HAS := Lib.hid (fun i k => knows_succ (imgS xs) i k)
  have HDS := Lib.hid (fun i => distN_succ (imgS xs) i)
  have HDL := Lib.hid (fun i => distN_le (imgS xs) i)
  have HA0 : Hid (∀ i, knows (imgS xs) i 0 = false) := Lib.hid (fun i => rfl)
  have HD0 : Hid (distN (imgS xs) 0 = 0) := Lib.hid rfl
  clear hr hc
  generalize imgS xs = f at *
  obtain ⟨w0, rfl⟩ : ∃ w0 : World, w0 = w := ⟨w, rfl⟩
  generalize hD : distN f = D at *
  clear hD
  generalize hK : knows f = Kn at *
  clear hK
  go_enter Tryd.func4, Tryd.ntmps4
  go_wp2_with (first
    | (go_at_call 8; refine (KA.out).mono ?_; rintro e w1 ⟨rfl, hb1⟩; have B1 := Lib.hid hb1; clear hb1)
    | (go_at_call 9; refine (KI.out _ B1.out).mono ?_; rintro e w2 ⟨A2, c2, AA, CC, rfl, hf2, hb2⟩; have HF := Lib.hid hf2; have B2 := Lib.hid (bl_trans B1.out hb2); clear hf2 hb2))
  go_loopw [5, 6] (fun n i wr => ∃ m : Nat, m ≤ 24 ∧ i = .int .i64 m ∧ n = .int .i64 (D m : Nat) ∧ Hid (Below w2.heap.size w2 wr)) (fun _ i _ => 24 - (intOf i).toNat)
  case atStart => exact ⟨0, Nat.zero_le _, rfl, by rw [HD0.out]; rfl, Lib.hid (bl_refl _)⟩
  case round =>
    obtain ⟨m, hm, rfl, rfl, hb⟩ := hrel
    by_cases hlt : m < 24
    · have hlt' : (m : Int) < 24 := by omega
      have hdm := HDL.out m
      go_wp2_with fail
      go_loopw [7, 8] (fun kn i wx => ∃ k : Nat, k ≤ m ∧ i = .int .i64 k ∧ kn = .bool (Kn m k) ∧ Hid (Below w2.heap.size w2 wx)) (fun _ i _ => m - (intOf i).toNat)
      case atStart => exact ⟨0, Nat.zero_le _, rfl, by rw [HA0.out], hb⟩
      case round =>
        obtain ⟨k, hk, rfl, rfl, hb2⟩ := hrel
        by_cases hkm : k < m
        · have hkm' : (k : Int) < m := by omega
          obtain ⟨g, o, rfl, hck⟩ := HF.out.at_ hb2.out k (by omega)
          obtain ⟨g', o', e', hcm⟩ := HF.out.at_ hb2.out m hlt
          obtain ⟨rfl, rfl⟩ : g = g' ∧ o = o' := by injection e' with e'; injection e' with e1 e2; exact ⟨e1, e2⟩
          rw [HL.out] at hck hcm
          have HA1 : Hid (Kn m (k + 1) = (Kn m k || decide (f k = f m))) := Lib.hid (HAS.out m k)
          have K2 : Hid (∀ n, Calls Tryd.prog 10 #[.slice (AA k) xs.length (CC k), .slice (AA m) xs.length (CC m)] (wr.drewN n) (Reads (.bool (decide (f k = f m))) (wr.drewN n))) := Lib.hid (fun n => by
            have := KM.out (AA k) (AA m) (CC k) (CC m) (f k) (f m) (wr.drewN n) ((HF.out.row k (by omega)).rd.below (bl_drewN hb2.out n)) ((HF.out.row m hlt).rd.below (bl_drewN hb2.out n)) (by rw [HL.out, HL.out]) (by rw [HL.out]; omega)
            rwa [HL.out, HL.out] at this)
          generalize decide (f k = f m) = r at *
          generalize AA k = Ak at *
          generalize AA m = Am at *
          generalize CC k = ck at *
          generalize CC m = cm at *
          clear e'
          generalize Kn m k = b at *
          cases b
          · go_wp2_with fail
            go_quiet ((go_at_call 10; exact Calls.quiet_of (K2.out _)))
            go_wp2_with fail
            go_roundw
            case rel => exact ⟨k + 1, by omega, by go_num, by rw [HA1.out]; rfl, Lib.hid (bl_drewN hb2.out _)⟩
            case measure => simp [intOf]; omega
          · go_wp2_with fail
            go_quiet (fail)
            go_wp2_with fail
            go_roundw
            case rel => exact ⟨k + 1, by omega, by go_num, by rw [HA1.out]; rfl, Lib.hid (bl_drewN hb2.out _)⟩
            case measure => simp [intOf]; omega
        · obtain rfl : k = m := by omega
          have HD1 : Hid (D (k + 1) = D k + if Kn k k = true then 0 else 1) := Lib.hid (HDS.out k)
          have hdm1 := HDL.out k
          generalize Kn k k = b at *
          cases b
          · go_wp2_with fail
            go_roundw
            case rel => exact ⟨k + 1, by omega, by go_num, by rw [HD1.out]; simp, hb2⟩
            case measure => simp [intOf]; omega
          · go_wp2_with fail
            go_roundw
            case rel => exact ⟨k + 1, by omega, by go_num, by rw [HD1.out]; simp, hb2⟩
            case measure => simp [intOf]; omega
    · obtain rfl : m = 24 := by omega
      go_wp2_with fail
      go_ret2
      exact ⟨rfl, bl_trans B2.out hb.out⟩
set_option maxRecDepth 100000 in
set_option maxHeartbeats 1000000 in
theorem specOrbit_any (A : Option Addr) (c : Nat) (xs : List Int) (w : World) (hr : Rd w A xs) (hn : xs.length ≤ 4000000) :
    Calls Tryd.prog 4 #[.slice A xs.length c] w (Fresh (.tuple #[.int .i64 (orbS xs), .int .i64 (codeC xs)]) w) := by
  by_cases hd : cardsB xs = true
  · have e1 : orbS xs = (distN (imgS xs) 24 : Nat) := by unfold orbS; rw [if_pos hd]
    have e2 : codeC xs = 0 := by unfold codeC; rw [if_pos hd]
    rw [e1, e2]
    exact specOrbit_yes A c xs w hr hn hd
  · have hf : cardsB xs = false := by simpa using hd
    have e1 : orbS xs = 0 := by unfold orbS; rw [if_neg hd]
    have e2 : codeC xs = 1 := by unfold codeC; rw [if_neg hd]
    rw [e1, e2]
    have KA := Lib.hid (specAre_any A c xs w hr hn)
    rw [hf] at KA
    clear hr hd hf e1 e2
    go_enter Tryd.func4, Tryd.ntmps4
    go_wp2_with (go_at_call 8; refine (KA.out).mono ?_; rintro e w1 ⟨rfl, hb1⟩)
    go_ret2
    exact ⟨rfl, hb1⟩
end Go.Proofs.YtilbkgnjgmlhjabDoor
