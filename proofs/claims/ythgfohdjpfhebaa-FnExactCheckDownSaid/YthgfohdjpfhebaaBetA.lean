/-
  Small functions of the program on lists of chips and of bools: sums, ranges, the greatest, whether one is false.
-/
import Derived.Test.YthgfohdjpfhebaaBetPure
import Derived.Test.YthgfohdjpfhebaaImplTab
namespace Go.Proofs.Ythgfohdjpfhebaa
open Go.RowKit
set_option linter.unusedVariables false

/-- What a call leaves that only reads (it may draw). -/
def Qt (v : Value) (w : World) (e : Ending) (w' : World) : Prop := e = .returned v ∧ ∃ m, w' = w.drewN m
theorem qt_of_same {P : Program} {f : FuncId} {args : Array Value} {w : World} {v : Value} (h : Calls P f args w (Same v w)) : Calls P f args w (Qt v w) := h.mono fun _ _ ⟨he, hw⟩ => ⟨he, 0, by rw [← hw]; rfl⟩
theorem fresh_of_qt {P : Program} {f : FuncId} {args : Array Value} {w : World} {v : Value} (h : Calls P f args w (Qt v w)) : Calls P f args w (Fresh v w) := h.mono fun _ _ ⟨he, m, hw⟩ => ⟨he, by rw [hw]; exact bl_drewN (bl_refl _) m⟩
/-- A round in a block of its own. -/
structure BtAt (w : World) (g : Nat) (L : At5) (b : Bt) : Prop where
  blk : Blk w g 27 (btL L b)
  rd : Rd5 w L b
theorem BtAt.below {w w' : World} {g : Nat} {L : At5} {b : Bt} (h : BtAt w g L b) (hb : Below w.heap.size w w') : BtAt w' g L b := ⟨h.blk.below hb, h.rd.below hb⟩
theorem BtAt.drew {w : World} {g : Nat} {L : At5} {b : Bt} (h : BtAt w g L b) (n : Nat) : BtAt (w.drewN n) g L b := h.below (bl_drewN (bl_refl _) n)
theorem RdB.at_0 {w : World} {A : Option Addr} {xs : List Bool} (h : RdB w A xs) (k : Nat) (hk : k < xs.length) : ∃ b off, A = some ⟨b, off, none⟩ ∧ w.cell? ⟨b, off + k, none⟩ = some (.bool (nthB xs k)) := h.at_ (bl_refl _) k hk
theorem Rd.at_0 {w : World} {A : Option Addr} {xs : List Int} (h : Rd w A xs) (k : Nat) (hk : k < xs.length) : ∃ b off, A = some ⟨b, off, none⟩ ∧ w.cell? ⟨b, off + k, none⟩ = some (.int .i64 (nth xs k)) := h.at_ (bl_refl _) k hk

set_option maxRecDepth 100000 in
set_option maxHeartbeats 400000 in
theorem isChipSum_any (x : Int) (w : World) : Calls Try.prog 147 #[.int .i64 x] w (Same (.bool (inB x 0 600000)) w) := by
  by_cases h : x < 0
  · have H := Lib.hid (inB_lo x 0 600000 h)
    go_enter Try.func147, Try.ntmps147
    go_wp2
    go_ret
    exact ⟨ret_bool (by rw [H.out]), rfl⟩
  · by_cases h2 : 600000 < x
    · have H := Lib.hid (inB_hi x 0 600000 h2)
      go_enter Try.func147, Try.ntmps147
      go_wp2
      go_ret
      exact ⟨ret_bool (by rw [H.out]; exact decide_eq_false (by omega)), rfl⟩
    · have H := Lib.hid (inB_yes x 0 600000 (by omega) (by omega))
      go_enter Try.func147, Try.ntmps147
      go_wp2
      go_ret
      exact ⟨ret_bool (by rw [H.out]), rfl⟩
/-- All numbers of a list are chips of a round. -/
def sumsB (xs : List Int) : Bool := decide (∀ i, i < xs.length → 0 ≤ nth xs i ∧ nth xs i ≤ 600000)
theorem sumsB_iff {xs : List Int} : sumsB xs = true ↔ inC xs := by unfold sumsB inC; exact decide_eq_true_iff
theorem sumsB_no {xs : List Int} (k : Nat) (hk : k < xs.length) (h : ¬ (0 ≤ nth xs k ∧ nth xs k ≤ 600000)) : sumsB xs = false := by
  unfold sumsB; exact decide_eq_false fun hh => h (hh k hk)
set_option maxRecDepth 100000 in
set_option maxHeartbeats 1000000 in
theorem areSums_any (A : Option Addr) (c : Nat) (xs : List Int) (w : World) (hr : Rd w A xs) (hn : xs.length ≤ 4000000) :
    Calls Try.prog 146 #[.slice A xs.length c, .func (.func 147) #[] #[]] w (Same (.bool (sumsB xs)) w) := by
  have HR := Lib.hid hr
  have KS := Lib.hid (fun (x : Int) (W : World) => isChipSum_any x W)
  have HT : Hid (∀ k, k < xs.length → inB (nth xs k) 0 600000 = false → sumsB xs = false) := Lib.hid (fun k hk h => sumsB_no k hk (fun q => by rw [inB_yes _ _ _ q.1 q.2] at h; cases h))
  clear hr
  go_enter Try.func146, Try.ntmps146
  go_wp2_with fail
  go_loop [9] (fun i => ∃ k : Nat, k ≤ xs.length ∧ i = .int .i64 k ∧ Hid (∀ j, j < k → 0 ≤ nth xs j ∧ nth xs j ≤ 600000)) (fun i => xs.length - (intOf i).toNat)
  case atStart => exact ⟨0, Nat.zero_le _, rfl, Lib.hid (fun j hj => by omega)⟩
  case round =>
    obtain ⟨k, hk, rfl, hs⟩ := hrel
    by_cases hlt : k < xs.length
    · obtain ⟨bA, oA, rfl, hc⟩ := HR.out.at_ (bl_refl _) k hlt
      have hlt' : (k : Int) < xs.length := by omega
      have KX := Lib.hid (fun W => KS.out (nth xs k) W)
      rcases hb : inB (nth xs k) 0 600000 with _ | _
      · have HF := Lib.hid (HT.out k hlt hb)
        rw [hb] at KX
        clear hs hb
        generalize nth xs k = x at *
        go_wp2_with (go_at_call 147; refine (KX.out _).mono ?_; rintro e wn ⟨rfl, rfl⟩)
        go_ret
        exact ⟨ret_bool HF.out.symm, rfl⟩
      · have HN : Hid (∀ j, j < k + 1 → 0 ≤ nth xs j ∧ nth xs j ≤ 600000) := Lib.hid (fun j hj => by
          by_cases e : j = k
          · subst e; unfold inB at hb; exact of_decide_eq_true hb
          · exact hs.out j (by omega))
        rw [hb] at KX
        clear hs hb
        generalize nth xs k = x at KX hc
        go_wp2_with (go_at_call 147; refine (KX.out _).mono ?_; rintro e wn ⟨rfl, rfl⟩)
        go_round
        case rel => exact ⟨k + 1, by omega, by go_num, HN⟩
        case measure => simp [intOf]; omega
    · obtain rfl : k = xs.length := by omega
      have HF := Lib.hid (sumsB_iff.2 hs.out)
      clear hs
      go_wp2_with fail
      go_ret
      exact ⟨ret_bool HF.out.symm, rfl⟩
set_option maxRecDepth 100000 in
set_option maxHeartbeats 1000000 in
theorem sumOf_any (A : Option Addr) (c : Nat) (xs : List Int) (w : World) (hr : Rd w A xs) (hn : xs.length ≤ 4000000) (hb : inC xs) :
    Calls Try.prog 159 #[.slice A xs.length c] w (Same (.int .i64 (sumT xs xs.length)) w) := by
  have HR := Lib.hid hr
  have HB := Lib.hid (sumT_bdC xs hb)
  have HE := Lib.hid hb
  clear hr hb
  go_enter Try.func159, Try.ntmps159
  go_wp2_with fail
  go_loop [3, 8] (fun s i => ∃ k : Nat, k ≤ xs.length ∧ i = .int .i64 k ∧ s = .int .i64 (sumT xs k)) (fun _ i => xs.length - (intOf i).toNat)
  case atStart => exact ⟨0, Nat.zero_le _, rfl, rfl⟩
  case round =>
    obtain ⟨k, hk, rfl, rfl⟩ := hrel
    by_cases hlt : k < xs.length
    · obtain ⟨b, off, rfl, hc⟩ := HR.out.at_ (bl_refl _) k hlt
      have hlt' : (k : Int) < xs.length := by omega
      have h1 := HB.out k hk
      have h2 := HE.out k hlt
      have HS : Hid (sumT xs (k + 1) = sumT xs k + nth xs k) := Lib.hid rfl
      obtain ⟨q, eq⟩ : ∃ q, q = sumT xs k := ⟨_, rfl⟩
      rw [← eq] at h1 HS ⊢
      clear eq
      generalize nth xs k = x at *
      go_wp2_with fail
      go_round
      case rel => exact ⟨k + 1, by omega, by go_num, by rw [HS.out]⟩
      case measure => simp [intOf]; omega
    · obtain rfl : k = xs.length := by omega
      go_wp2_with fail
      go_ret
      exact ⟨rfl, rfl⟩
/-- The greatest of the first k + 1, from the first on. -/
def maxF (xs : List Int) : Nat → Int
  | 0 => nth xs 0
  | k + 1 => if maxF xs k < nth xs (k + 1) then nth xs (k + 1) else maxF xs k
theorem maxF_K (xs : List Int) (h : 0 ≤ nth xs 0) : ∀ k, maxF xs k = maxK xs (k + 1)
  | 0 => by
    show nth xs 0 = if 0 < nth xs 0 then nth xs 0 else 0
    by_cases hp : 0 < nth xs 0
    · rw [if_pos hp]
    · rw [if_neg hp]; omega
  | k + 1 => by
    have ih := maxF_K xs h k
    show (if maxF xs k < nth xs (k + 1) then nth xs (k + 1) else maxF xs k) = if maxK xs (k + 1) < nth xs (k + 1) then nth xs (k + 1) else maxK xs (k + 1)
    rw [ih]
set_option maxRecDepth 100000 in
set_option maxHeartbeats 1000000 in
theorem slicesMax_any (A : Option Addr) (c : Nat) (xs : List Int) (w : World) (hr : Rd w A xs) (hn : xs.length ≤ 4000000) (h0 : 0 < xs.length) (hb : 0 ≤ nth xs 0) :
    Calls Try.prog 172 #[.slice A xs.length c] w (Same (.int .i64 (maxK xs xs.length)) w) := by
  have HR := Lib.hid hr
  have HF := Lib.hid (maxF_K xs hb)
  obtain ⟨b0, off0, e0, hc0⟩ := hr.at_ (bl_refl _) 0 h0
  clear hr hb
  have h0' : (0 : Int) < xs.length := by omega
  have d1 : decide ((xs.length : Int) < 1) = false := decide_eq_false (by omega)
  subst e0
  obtain ⟨x0, e0⟩ : ∃ x0, x0 = nth xs 0 := ⟨_, rfl⟩
  rw [← e0, Nat.add_zero] at hc0
  have H0 : Hid (maxF xs 0 = x0) := Lib.hid e0.symm
  clear e0
  go_enter Try.func172, Try.ntmps172
  go_wp2_with fail
  go_loop [3, 4] (fun s i => ∃ k : Nat, k + 1 ≤ xs.length ∧ i = .int .i64 (k + 1 : Nat) ∧ s = .int .i64 (maxF xs k)) (fun _ i => xs.length - (intOf i).toNat)
  case atStart => exact ⟨0, by omega, rfl, by rw [H0.out]⟩
  case round =>
    obtain ⟨k, hk, rfl, rfl⟩ := hrel
    obtain ⟨q, eq⟩ : ∃ q : Nat, q = k + 1 := ⟨_, rfl⟩
    rw [← eq] at hk ⊢
    by_cases hlt : q < xs.length
    · obtain ⟨b, off, eA, hc⟩ := HR.out.at_ (bl_refl _) q hlt
      obtain ⟨rfl, rfl⟩ : b = b0 ∧ off = off0 := by simpa using eA.symm
      have hlt' : (q : Int) < xs.length := by omega
      have HS : Hid (maxF xs (k + 1) = if maxF xs k < nth xs q then nth xs q else maxF xs k) := Lib.hid (by rw [eq]; rfl)
      clear eA
      have HQ := Lib.hid eq
      clear eq
      generalize maxF xs k = m at *
      generalize nth xs q = x at *
      by_cases hmx : m < x
      · have d2 : (if x > m then Value.int .i64 x else Value.int .i64 m) = Value.int .i64 x := if_pos hmx
        go_wp2_with fail
        go_round
        case rel => exact ⟨k + 1, by have := HQ.out; omega, by have := HQ.out; rw [← this]; go_num, by rw [HS.out, if_pos hmx]⟩
        case measure => simp [intOf]; omega
      · have d2 : (if x > m then Value.int .i64 x else Value.int .i64 m) = Value.int .i64 m := if_neg hmx
        go_wp2_with fail
        go_round
        case rel => exact ⟨k + 1, by have := HQ.out; omega, by have := HQ.out; rw [← this]; go_num, by rw [HS.out, if_neg hmx]⟩
        case measure => simp [intOf]; omega
    · have HX : Hid (maxF xs k = maxK xs xs.length) := Lib.hid (by rw [HF.out k]; congr 1; omega)
      generalize maxF xs k = m at *
      clear eq
      have d3 : decide ((q : Int) < xs.length) = false := decide_eq_false (by omega)
      go_wp2_with fail
      go_ret
      exact ⟨by rw [HX.out]; rfl, rfl⟩
/-- Whether one of a list is false. -/
def someF (xs : List Bool) : Bool := !decide (∀ i, i < xs.length → nthB xs i = true)
set_option maxRecDepth 100000 in
set_option maxHeartbeats 1000000 in
theorem indexF_any (A : Option Addr) (c : Nat) (xs : List Bool) (w : World) (hr : RdB w A xs) (hn : xs.length ≤ 4000000) :
    Calls Try.prog 173 #[.slice A xs.length c, .bool false] w (fun e w' => ∃ i : Int, e = .returned (.int .i64 i) ∧ decide (0 ≤ i) = someF xs ∧ w = w') := by
  have HR := Lib.hid hr
  clear hr
  go_enter Try.func173, Try.ntmps173
  go_wp2_with fail
  go_loop [8] (fun i => ∃ k : Nat, k ≤ xs.length ∧ i = .int .i64 k ∧ Hid (∀ j, j < k → nthB xs j = true)) (fun i => xs.length - (intOf i).toNat)
  case atStart => exact ⟨0, Nat.zero_le _, rfl, Lib.hid (fun j hj => by omega)⟩
  case round =>
    obtain ⟨k, hk, rfl, hs⟩ := hrel
    by_cases hlt : k < xs.length
    · obtain ⟨bA, oA, rfl, hc⟩ := HR.out.at_ (bl_refl _) k hlt
      have hlt' : (k : Int) < xs.length := by omega
      rcases hb : nthB xs k with _ | _
      · have HF : Hid (someF xs = true) := Lib.hid (by unfold someF; rw [decide_eq_false (fun q => by have := q k hlt; rw [hb] at this; cases this)]; rfl)
        rw [hb] at hc
        clear hs hb
        go_wp2_with fail
        go_ret
        exact ⟨k, rfl, by rw [HF.out]; exact decide_eq_true (by omega), rfl⟩
      · have HN : Hid (∀ j, j < k + 1 → nthB xs j = true) := Lib.hid (fun j hj => by
          by_cases e : j = k
          · subst e; exact hb
          · exact hs.out j (by omega))
        rw [hb] at hc
        clear hs hb
        go_wp2_with fail
        go_round
        case rel => exact ⟨k + 1, by omega, by go_num, HN⟩
        case measure => simp [intOf]; omega
    · obtain rfl : k = xs.length := by omega
      have HF : Hid (someF xs = false) := Lib.hid (by unfold someF; rw [decide_eq_true hs.out]; rfl)
      clear hs
      go_wp2_with fail
      go_ret
      exact ⟨-1, rfl, by rw [HF.out]; rfl, rfl⟩
set_option maxRecDepth 100000 in
set_option maxHeartbeats 1000000 in
theorem containsF_any (A : Option Addr) (c : Nat) (xs : List Bool) (w : World) (hr : RdB w A xs) (hn : xs.length ≤ 4000000) :
    Calls Try.prog 145 #[.slice A xs.length c, .bool false] w (Same (.bool (someF xs)) w) := by
  have K := Lib.hid (fun (W : World) (h : w = W) => indexF_any A c xs W (h ▸ hr) hn)
  clear hr
  obtain ⟨w0, rfl⟩ : ∃ w0 : World, w0 = w := ⟨w, rfl⟩
  go_enter Try.func145, Try.ntmps145
  go_wp2_with (go_at_call 173; refine (K.out _ rfl).mono ?_; rintro e wn ⟨i, rfl, hi, rfl⟩; have HI := Lib.hid hi; clear hi)
  go_ret
  exact ⟨ret_bool HI.out, rfl⟩
end Go.Proofs.Ythgfohdjpfhebaa
