/-
  Payments: which are valid (plain, the program, the model); a list of bools among a law's arguments.
-/
import Derived.Test.YtlcimofhpphefaaBetA
import Derived.Test.YtlcimofhpphefaaSpecBet
import Derived.Test.YtlcimofhpphefaaMark
namespace Go.Proofs.Ytlcimofhpphefaa
open Go.ChangeShapes Go.WideShapes Go.ChangeAt Go.RowKit Go.Joins
set_option linter.unusedVariables false

/-- A seat that has not folded has paid. -/
def someP (xs : List Int) (bs : List Bool) : Bool := !decide (∀ i, i < xs.length → 0 < nth xs i → nthB bs i = true)
/-- Payments. -/
def payB (xs : List Int) (bs : List Bool) : Bool := inB xs.length 2 6 && (decide (bs.length = xs.length) && (sumsB xs && someP xs bs))
theorem someP_yes {xs : List Int} {bs : List Bool} (k : Nat) (hk : k < xs.length) (h : 0 < nth xs k) (hb : nthB bs k = false) : someP xs bs = true := by
  unfold someP
  rw [decide_eq_false (fun q => by have := q k hk h; rw [hb] at this; cases this)]
  rfl
theorem someP_no {xs : List Int} {bs : List Bool} (h : ∀ i, i < xs.length → 0 < nth xs i → nthB bs i = true) : someP xs bs = false := by
  unfold someP
  rw [decide_eq_true h]
  rfl
set_option maxRecDepth 100000 in
theorem open_blist {H : Type} {enc : TypeId × Value → H} {W : World} {base : Nat} {v : Value} {d : DataW H} {p : List MemPlace}
    (hv : Value.okWide Try.prog W .any base 23 v) (h : DataW.Trod enc Try.prog W 0 (fun _ => true) true 23 v d p) :
    ∃ (A : Option Addr) (c : Nat) (xs : List Bool), v = .slice A xs.length c ∧ xs.length ≤ maxLen ∧ RdB W A xs := by
  obtain ⟨a0, len, cap, rfl⟩ := okWide_slice Try.underlying23 hv
  obtain ⟨fuel, hf⟩ := h
  exact bools_of (by simp [Value.cells]) hf
set_option maxRecDepth 100000 in
set_option maxHeartbeats 2000000 in
theorem implPay_any (A : Option Addr) (c : Nat) (xs : List Int) (B : Option Addr) (d : Nat) (bs : List Bool) (w : World) (hr : Rd w A xs) (hb : RdB w B bs) (hn : xs.length ≤ 4000000) (hm : bs.length ≤ 4000000) :
    Calls Try.prog 15 #[.slice A xs.length c, .slice B bs.length d] w (Same (.bool (payB xs bs)) w) := by
  have HR := Lib.hid hr
  have HB := Lib.hid hb
  have KC := Lib.hid (fun W : World => isSeatCount_any (xs.length : Int) W)
  have KS := Lib.hid (areSums_any A c xs w hr hn)
  have HS : Hid (payB xs bs = (inB xs.length 2 6 && (decide (bs.length = xs.length) && (sumsB xs && someP xs bs)))) := Lib.hid rfl
  clear hr hb
  rcases h1 : inB (xs.length : Int) 2 6 with _ | _
  · have E : Hid (payB xs bs = false) := Lib.hid (by rw [HS.out, h1]; rfl)
    rw [h1] at KC
    clear h1
    go_enter Try.func15, Try.ntmps15
    go_wp2_with (go_at_call 46; refine (KC.out _).mono ?_; rintro e wa ⟨rfl, rfl⟩)
    go_ret
    exact ⟨ret_bool E.out.symm, rfl⟩
  by_cases h2 : bs.length = xs.length
  rotate_left
  · have E : Hid (payB xs bs = false) := Lib.hid (by rw [HS.out, h1, decide_eq_false h2]; rfl)
    have u : ((bs.length : Int) != (xs.length : Int)) = true := by simp; omega
    rw [h1] at KC
    clear h1
    go_enter Try.func15, Try.ntmps15
    go_wp2_with (go_at_call 46; refine (KC.out _).mono ?_; rintro e wa ⟨rfl, rfl⟩)
    go_ret
    exact ⟨ret_bool E.out.symm, rfl⟩
  have u : ((bs.length : Int) != (xs.length : Int)) = false := by simp; omega
  rcases h3 : sumsB xs with _ | _
  · have E : Hid (payB xs bs = false) := Lib.hid (by rw [HS.out, h1, decide_eq_true h2, h3]; rfl)
    rw [h1] at KC
    rw [h3] at KS
    clear h1 h2 h3
    go_enter Try.func15, Try.ntmps15
    go_wp2_with (first
      | (go_at_call 46; refine (KC.out _).mono ?_; rintro e wa ⟨rfl, rfl⟩)
      | (go_at_call 47; refine (KS.out).mono ?_; rintro e wb ⟨rfl, rfl⟩))
    go_ret
    exact ⟨ret_bool E.out.symm, rfl⟩
  have E : Hid (payB xs bs = someP xs bs) := Lib.hid (by rw [HS.out, h1, decide_eq_true h2, h3]; rfl)
  have HL := Lib.hid h2
  rw [h1] at KC
  rw [h3] at KS
  clear h1 h2 h3
  go_enter Try.func15, Try.ntmps15
  go_wp2_with (first
    | (go_at_call 46; refine (KC.out _).mono ?_; rintro e wa ⟨rfl, rfl⟩)
    | (go_at_call 47; refine (KS.out).mono ?_; rintro e wb ⟨rfl, rfl⟩))
  go_loop [25] (fun i => ∃ k : Nat, k ≤ xs.length ∧ i = .int .i64 k ∧ Hid (∀ j, j < k → 0 < nth xs j → nthB bs j = true)) (fun i => xs.length - (intOf i).toNat)
  case atStart => exact ⟨0, Nat.zero_le _, rfl, Lib.hid (fun j hj => by omega)⟩
  case round =>
    obtain ⟨k, hk, rfl, hs⟩ := hrel
    by_cases hlt : k < xs.length
    · obtain ⟨bA, oA, rfl, hc⟩ := HR.out.at_ (bl_refl _) k hlt
      obtain ⟨bB, oB, rfl, hc2⟩ := HB.out.at_ (bl_refl _) k (by rw [HL.out]; exact hlt)
      have hlt' : (k : Int) < xs.length := by omega
      have hlt2 : (k : Int) < bs.length := by rw [HL.out]; omega
      have HY := Lib.hid (fun (h : 0 < nth xs k) (hb : nthB bs k = false) => someP_yes (bs := bs) k hlt h hb)
      have HN : Hid ((0 < nth xs k → nthB bs k = true) → ∀ j, j < k + 1 → 0 < nth xs j → nthB bs j = true) := Lib.hid (fun q j hj => by
        by_cases e : j = k
        · subst e; exact q
        · exact hs.out j (by omega))
      clear hs
      generalize nth xs k = x at *
      generalize nthB bs k = y at *
      by_cases hx : 0 < x
      · have gx : decide (x > 0) = true := decide_eq_true hx
        rcases y with _ | _
        · have hV := Lib.hid (HY.out hx rfl)
          clear HY HN hx
          go_wp2_with fail
          go_ret
          exact ⟨ret_bool (by rw [E.out, hV.out]), rfl⟩
        · have hV := Lib.hid (HN.out (fun _ => rfl))
          clear HY HN hx
          go_wp2_with fail
          go_round
          case rel => exact ⟨k + 1, by omega, by go_num, hV⟩
          case measure => simp [intOf]; omega
      · have gx : decide (x > 0) = false := decide_eq_false hx
        have hV := Lib.hid (HN.out (fun q => absurd q hx))
        clear HY HN hx
        go_wp2_with fail
        go_round
        case rel => exact ⟨k + 1, by omega, by go_num, hV⟩
        case measure => simp [intOf]; omega
    · obtain rfl : k = xs.length := by omega
      have hV := Lib.hid (someP_no hs.out)
      clear hs
      go_wp2_with fail
      go_ret
      exact ⟨ret_bool (by rw [E.out, hV.out]), rfl⟩
set_option maxRecDepth 100000 in
set_option maxHeartbeats 2000000 in
theorem specPay_any (A : Option Addr) (c : Nat) (xs : List Int) (B : Option Addr) (d : Nat) (bs : List Bool) (w : World) (hr : Rd w A xs) (hb : RdB w B bs) (hn : xs.length ≤ 4000000) (hm : bs.length ≤ 4000000) :
    Calls Try.prog 12 #[.slice A xs.length c, .slice B bs.length d] w (Same (.bool (payB xs bs)) w) := by
  have HR := Lib.hid hr
  have HB := Lib.hid hb
  have KC := Lib.hid (fun W : World => specIn_any (xs.length : Int) 2 6 W)
  have KS := Lib.hid (l10Chips_any A c xs bs.length w hr hn)
  have HS : Hid (payB xs bs = (inB xs.length 2 6 && (decide (bs.length = xs.length) && (sumsB xs && someP xs bs)))) := Lib.hid rfl
  clear hr hb
  rcases h1 : inB (xs.length : Int) 2 6 with _ | _
  · have E : Hid (payB xs bs = false) := Lib.hid (by rw [HS.out, h1]; rfl)
    rw [h1] at KC
    clear h1
    go_enter Try.func12, Try.ntmps12
    go_wp2_with (go_at_call 44; refine (KC.out _).mono ?_; rintro e wa ⟨rfl, rfl⟩)
    go_ret
    exact ⟨ret_bool E.out.symm, rfl⟩
  rcases h3 : sumsB xs && ((xs.length : Int) == (bs.length : Int)) with _ | _
  · have E : Hid (payB xs bs = false) := Lib.hid (by
      rw [HS.out, h1]
      rcases q : sumsB xs with _ | _
      · simp
      · rw [q, Bool.true_and] at h3
        have : ¬ bs.length = xs.length := fun e => by rw [e] at h3; simp at h3
        rw [decide_eq_false this]; rfl)
    rw [h1] at KC
    rw [h3] at KS
    clear h1 h3
    go_enter Try.func12, Try.ntmps12
    go_wp2_with (first
      | (go_at_call 44; refine (KC.out _).mono ?_; rintro e wa ⟨rfl, rfl⟩)
      | (go_at_call 45; refine (KS.out).mono ?_; rintro e wb ⟨rfl, rfl⟩))
    go_ret
    exact ⟨ret_bool E.out.symm, rfl⟩
  have h2 : bs.length = xs.length := by
    rw [Bool.and_eq_true] at h3
    have := h3.2
    simp at this
    omega
  have E : Hid (payB xs bs = someP xs bs) := Lib.hid (by
    rw [Bool.and_eq_true] at h3
    rw [HS.out, h1, decide_eq_true h2, h3.1]; rfl)
  have HL := Lib.hid h2
  rw [h1] at KC
  rw [h3] at KS
  clear h1 h2 h3
  go_enter Try.func12, Try.ntmps12
  go_wp2_with (first
    | (go_at_call 44; refine (KC.out _).mono ?_; rintro e wa ⟨rfl, rfl⟩)
    | (go_at_call 45; refine (KS.out).mono ?_; rintro e wb ⟨rfl, rfl⟩))
  go_loop [5] (fun i => ∃ k : Nat, k ≤ xs.length ∧ i = .int .i64 k ∧ Hid (∀ j, j < k → 0 < nth xs j → nthB bs j = true)) (fun i => xs.length - (intOf i).toNat)
  case atStart => exact ⟨0, Nat.zero_le _, rfl, Lib.hid (fun j hj => by omega)⟩
  case round =>
    obtain ⟨k, hk, rfl, hs⟩ := hrel
    by_cases hlt : k < xs.length
    · obtain ⟨bA, oA, rfl, hc⟩ := HR.out.at_ (bl_refl _) k hlt
      obtain ⟨bB, oB, rfl, hc2⟩ := HB.out.at_ (bl_refl _) k (by rw [HL.out]; exact hlt)
      have hlt' : (k : Int) < xs.length := by omega
      have hlt2 : (k : Int) < bs.length := by rw [HL.out]; omega
      have HY := Lib.hid (fun (h : 0 < nth xs k) (hb : nthB bs k = false) => someP_yes (bs := bs) k hlt h hb)
      have HN : Hid ((0 < nth xs k → nthB bs k = true) → ∀ j, j < k + 1 → 0 < nth xs j → nthB bs j = true) := Lib.hid (fun q j hj => by
        by_cases e : j = k
        · subst e; exact q
        · exact hs.out j (by omega))
      clear hs
      generalize nth xs k = x at *
      generalize nthB bs k = y at *
      rcases y with _ | _
      · by_cases hx : 0 < x
        · have gx : decide (x > 0) = true := decide_eq_true hx
          have hV := Lib.hid (HY.out hx rfl)
          clear HY HN hx
          go_wp2_with fail
          go_ret
          exact ⟨ret_bool (by rw [E.out, hV.out]), rfl⟩
        · have gx : decide (x > 0) = false := decide_eq_false hx
          have hV := Lib.hid (HN.out (fun q => absurd q hx))
          clear HY HN hx
          go_wp2_with fail
          go_round
          case rel => exact ⟨k + 1, by omega, by go_num, hV⟩
          case measure => simp [intOf]; omega
      · have hV := Lib.hid (HN.out (fun _ => rfl))
        clear HY HN
        go_wp2_with fail
        go_round
        case rel => exact ⟨k + 1, by omega, by go_num, hV⟩
        case measure => simp [intOf]; omega
    · obtain rfl : k = xs.length := by omega
      have hV := Lib.hid (someP_no hs.out)
      clear hs
      go_wp2_with fail
      go_ret
      exact ⟨ret_bool (by rw [E.out, hV.out]), rfl⟩
end Go.Proofs.Ytlcimofhpphefaa
