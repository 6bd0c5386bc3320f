/-
  Put together, what this law needs of: BetA, BetB, BetC.
-/
import Derived.Test.YtnllndcajdofjaaQaBoolLG
namespace Go.Proofs.Ytnllndcajdofjaa
open Go.RowKit
set_option linter.unusedVariables false

/-- What a call leaves that only reads (it may draw). -/
def Qt (v : Value) (w : World) (e : Ending) (w' : World) : Prop := e = .returned v ∧ ∃ m, w' = w.drewN m
theorem qt_of_same {P : Program} {f : FuncId} {args : Array Value} {w : World} {v : Value} (h : Calls P f args w (Same v w)) : Calls P f args w (Qt v w) := h.mono fun _ _ ⟨he, hw⟩ => ⟨he, 0, by rw [← hw]; rfl⟩
theorem fresh_of_qt {P : Program} {f : FuncId} {args : Array Value} {w : World} {v : Value} (h : Calls P f args w (Qt v w)) : Calls P f args w (Fresh v w) := h.mono fun _ _ ⟨he, m, hw⟩ => ⟨he, by rw [hw]; exact bl_drewN (bl_refl _) m⟩
/-- A round in a block of its own. -/
structure BtAt (w : World) (g : Nat) (L : At5) (b : Bt) : Prop where
  blk : Blk w g 27 (btL L b)
  rd : Rd5 w L b
theorem BtAt.below {w w' : World} {g : Nat} {L : At5} {b : Bt} (h : BtAt w g L b) (hb : Below w.heap.size w w') : BtAt w' g L b := ⟨h.blk.below hb, h.rd.below hb⟩
theorem BtAt.drew {w : World} {g : Nat} {L : At5} {b : Bt} (h : BtAt w g L b) (n : Nat) : BtAt (w.drewN n) g L b := h.below (bl_drewN (bl_refl _) n)
theorem RdB.at_0 {w : World} {A : Option Addr} {xs : List Bool} (h : RdB w A xs) (k : Nat) (hk : k < xs.length) : ∃ b off, A = some ⟨b, off, none⟩ ∧ w.cell? ⟨b, off + k, none⟩ = some (.bool (nthB xs k)) := h.at_ (bl_refl _) k hk
theorem Rd.at_0 {w : World} {A : Option Addr} {xs : List Int} (h : Rd w A xs) (k : Nat) (hk : k < xs.length) : ∃ b off, A = some ⟨b, off, none⟩ ∧ w.cell? ⟨b, off + k, none⟩ = some (.int .i64 (nth xs k)) := h.at_ (bl_refl _) k hk

set_option maxRecDepth 100000 in
set_option maxHeartbeats 400000 in
theorem isChipSum_any (x : Int) (w : World) : Calls Try.prog 141 #[.int .i64 x] w (Same (.bool (inB x 0 600000)) w) := by
  by_cases h : x < 0
  · have H := Lib.hid (inB_lo x 0 600000 h)
    go_enter Try.func141, Try.ntmps141
    go_wp2
    go_ret
    exact ⟨ret_bool (by rw [H.out]), rfl⟩
  · by_cases h2 : 600000 < x
    · have H := Lib.hid (inB_hi x 0 600000 h2)
      go_enter Try.func141, Try.ntmps141
      go_wp2
      go_ret
      exact ⟨ret_bool (by rw [H.out]; exact decide_eq_false (by omega)), rfl⟩
    · have H := Lib.hid (inB_yes x 0 600000 (by omega) (by omega))
      go_enter Try.func141, Try.ntmps141
      go_wp2
      go_ret
      exact ⟨ret_bool (by rw [H.out]), rfl⟩
/-- All numbers of a list are chips of a round. -/
def sumsB (xs : List Int) : Bool := decide (∀ i, i < xs.length → 0 ≤ nth xs i ∧ nth xs i ≤ 600000)
theorem sumsB_iff {xs : List Int} : sumsB xs = true ↔ inC xs := by unfold sumsB inC; exact decide_eq_true_iff
theorem sumsB_no {xs : List Int} (k : Nat) (hk : k < xs.length) (h : ¬ (0 ≤ nth xs k ∧ nth xs k ≤ 600000)) : sumsB xs = false := by
  unfold sumsB; exact decide_eq_false fun hh => h (hh k hk)
set_option maxRecDepth 100000 in
set_option maxHeartbeats 1000000 in
theorem areSums_any (A : Option Addr) (c : Nat) (xs : List Int) (w : World) (hr : Rd w A xs) (hn : xs.length ≤ 4000000) :
    Calls Try.prog 140 #[.slice A xs.length c, .func (.func 141) #[] #[]] w (Same (.bool (sumsB xs)) w) := by
  have HR := Lib.hid hr
  have KS := Lib.hid (fun (x : Int) (W : World) => isChipSum_any x W)
  have HT : Hid (∀ k, k < xs.length → inB (nth xs k) 0 600000 = false → sumsB xs = false) := Lib.hid (fun k hk h => sumsB_no k hk (fun q => by rw [inB_yes _ _ _ q.1 q.2] at h; cases h))
  clear hr
  go_enter Try.func140, Try.ntmps140
  go_wp2_with fail
  go_loop [9] (fun i => ∃ k : Nat, k ≤ xs.length ∧ i = .int .i64 k ∧ Hid (∀ j, j < k → 0 ≤ nth xs j ∧ nth xs j ≤ 600000)) (fun i => xs.length - (intOf i).toNat)
  case atStart => exact ⟨0, Nat.zero_le _, rfl, Lib.hid (fun j hj => by omega)⟩
  case round =>
    obtain ⟨k, hk, rfl, hs⟩ := hrel
    by_cases hlt : k < xs.length
    · obtain ⟨bA, oA, rfl, hc⟩ := HR.out.at_ (bl_refl _) k hlt
      have hlt' : (k : Int) < xs.length := by omega
      have KX := Lib.hid (fun W => KS.out (nth xs k) W)
      rcases hb : inB (nth xs k) 0 600000 with _ | _
      · have HF := Lib.hid (HT.out k hlt hb)
        rw [hb] at KX
        clear hs hb
        generalize nth xs k = x at *
        go_wp2_with (go_at_call 141; refine (KX.out _).mono ?_; rintro e wn ⟨rfl, rfl⟩)
        go_ret
        exact ⟨ret_bool HF.out.symm, rfl⟩
      · have HN : Hid (∀ j, j < k + 1 → 0 ≤ nth xs j ∧ nth xs j ≤ 600000) := Lib.hid (fun j hj => by
          by_cases e : j = k
          · subst e; unfold inB at hb; exact of_decide_eq_true hb
          · exact hs.out j (by omega))
        rw [hb] at KX
        clear hs hb
        generalize nth xs k = x at KX hc
        go_wp2_with (go_at_call 141; refine (KX.out _).mono ?_; rintro e wn ⟨rfl, rfl⟩)
        go_round
        case rel => exact ⟨k + 1, by omega, by go_num, HN⟩
        case measure => simp [intOf]; omega
    · obtain rfl : k = xs.length := by omega
      have HF := Lib.hid (sumsB_iff.2 hs.out)
      clear hs
      go_wp2_with fail
      go_ret
      exact ⟨ret_bool HF.out.symm, rfl⟩
set_option maxRecDepth 100000 in
set_option maxHeartbeats 1000000 in
theorem sumOf_any (A : Option Addr) (c : Nat) (xs : List Int) (w : World) (hr : Rd w A xs) (hn : xs.length ≤ 4000000) (hb : inC xs) :
    Calls Try.prog 153 #[.slice A xs.length c] w (Same (.int .i64 (sumT xs xs.length)) w) := by
  have HR := Lib.hid hr
  have HB := Lib.hid (sumT_bdC xs hb)
  have HE := Lib.hid hb
  clear hr hb
  go_enter Try.func153, Try.ntmps153
  go_wp2_with fail
  go_loop [3, 8] (fun s i => ∃ k : Nat, k ≤ xs.length ∧ i = .int .i64 k ∧ s = .int .i64 (sumT xs k)) (fun _ i => xs.length - (intOf i).toNat)
  case atStart => exact ⟨0, Nat.zero_le _, rfl, rfl⟩
  case round =>
    obtain ⟨k, hk, rfl, rfl⟩ := hrel
    by_cases hlt : k < xs.length
    · obtain ⟨b, off, rfl, hc⟩ := HR.out.at_ (bl_refl _) k hlt
      have hlt' : (k : Int) < xs.length := by omega
      have h1 := HB.out k hk
      have h2 := HE.out k hlt
      have HS : Hid (sumT xs (k + 1) = sumT xs k + nth xs k) := Lib.hid rfl
      obtain ⟨q, eq⟩ : ∃ q, q = sumT xs k := ⟨_, rfl⟩
      rw [← eq] at h1 HS ⊢
      clear eq
      generalize nth xs k = x at *
      go_wp2_with fail
      go_round
      case rel => exact ⟨k + 1, by omega, by go_num, by rw [HS.out]⟩
      case measure => simp [intOf]; omega
    · obtain rfl : k = xs.length := by omega
      go_wp2_with fail
      go_ret
      exact ⟨rfl, rfl⟩
/-- The greatest of the first k + 1, from the first on. -/
def maxF (xs : List Int) : Nat → Int
  | 0 => nth xs 0
  | k + 1 => if maxF xs k < nth xs (k + 1) then nth xs (k + 1) else maxF xs k
theorem maxF_K (xs : List Int) (h : 0 ≤ nth xs 0) : ∀ k, maxF xs k = maxK xs (k + 1)
  | 0 => by
    show nth xs 0 = if 0 < nth xs 0 then nth xs 0 else 0
    by_cases hp : 0 < nth xs 0
    · rw [if_pos hp]
    · rw [if_neg hp]; omega
  | k + 1 => by
    have ih := maxF_K xs h k
    show (if maxF xs k < nth xs (k + 1) then nth xs (k + 1) else maxF xs k) = if maxK xs (k + 1) < nth xs (k + 1) then nth xs (k + 1) else maxK xs (k + 1)
    rw [ih]
set_option maxRecDepth 100000 in
set_option maxHeartbeats 1000000 in
theorem slicesMax_any (A : Option Addr) (c : Nat) (xs : List Int) (w : World) (hr : Rd w A xs) (hn : xs.length ≤ 4000000) (h0 : 0 < xs.length) (hb : 0 ≤ nth xs 0) :
    Calls Try.prog 166 #[.slice A xs.length c] w (Same (.int .i64 (maxK xs xs.length)) w) := by
  have HR := Lib.hid hr
  have HF := Lib.hid (maxF_K xs hb)
  obtain ⟨b0, off0, e0, hc0⟩ := hr.at_ (bl_refl _) 0 h0
  clear hr hb
  have h0' : (0 : Int) < xs.length := by omega
  have d1 : decide ((xs.length : Int) < 1) = false := decide_eq_false (by omega)
  subst e0
  obtain ⟨x0, e0⟩ : ∃ x0, x0 = nth xs 0 := ⟨_, rfl⟩
  rw [← e0, Nat.add_zero] at hc0
  have H0 : Hid (maxF xs 0 = x0) := Lib.hid e0.symm
  clear e0
  go_enter Try.func166, Try.ntmps166
  go_wp2_with fail
  go_loop [3, 4] (fun s i => ∃ k : Nat, k + 1 ≤ xs.length ∧ i = .int .i64 (k + 1 : Nat) ∧ s = .int .i64 (maxF xs k)) (fun _ i => xs.length - (intOf i).toNat)
  case atStart => exact ⟨0, by omega, rfl, by rw [H0.out]⟩
  case round =>
    obtain ⟨k, hk, rfl, rfl⟩ := hrel
    obtain ⟨q, eq⟩ : ∃ q : Nat, q = k + 1 := ⟨_, rfl⟩
    rw [← eq] at hk ⊢
    by_cases hlt : q < xs.length
    · obtain ⟨b, off, eA, hc⟩ := HR.out.at_ (bl_refl _) q hlt
      obtain ⟨rfl, rfl⟩ : b = b0 ∧ off = off0 := by simpa using eA.symm
      have hlt' : (q : Int) < xs.length := by omega
      have HS : Hid (maxF xs (k + 1) = if maxF xs k < nth xs q then nth xs q else maxF xs k) := Lib.hid (by rw [eq]; rfl)
      clear eA
      have HQ := Lib.hid eq
      clear eq
      generalize maxF xs k = m at *
      generalize nth xs q = x at *
      by_cases hmx : m < x
      · have d2 : (if x > m then Value.int .i64 x else Value.int .i64 m) = Value.int .i64 x := if_pos hmx
        go_wp2_with fail
        go_round
        case rel => exact ⟨k + 1, by have := HQ.out; omega, by have := HQ.out; rw [← this]; go_num, by rw [HS.out, if_pos hmx]⟩
        case measure => simp [intOf]; omega
      · have d2 : (if x > m then Value.int .i64 x else Value.int .i64 m) = Value.int .i64 m := if_neg hmx
        go_wp2_with fail
        go_round
        case rel => exact ⟨k + 1, by have := HQ.out; omega, by have := HQ.out; rw [← this]; go_num, by rw [HS.out, if_neg hmx]⟩
        case measure => simp [intOf]; omega
    · have HX : Hid (maxF xs k = maxK xs xs.length) := Lib.hid (by rw [HF.out k]; congr 1; omega)
      generalize maxF xs k = m at *
      clear eq
      have d3 : decide ((q : Int) < xs.length) = false := decide_eq_false (by omega)
      go_wp2_with fail
      go_ret
      exact ⟨by rw [HX.out]; rfl, rfl⟩
/-- Whether one of a list is false. -/
def someF (xs : List Bool) : Bool := !decide (∀ i, i < xs.length → nthB xs i = true)
set_option maxRecDepth 100000 in
set_option maxHeartbeats 1000000 in
theorem indexF_any (A : Option Addr) (c : Nat) (xs : List Bool) (w : World) (hr : RdB w A xs) (hn : xs.length ≤ 4000000) :
    Calls Try.prog 167 #[.slice A xs.length c, .bool false] w (fun e w' => ∃ i : Int, e = .returned (.int .i64 i) ∧ decide (0 ≤ i) = someF xs ∧ w = w') := by
  have HR := Lib.hid hr
  clear hr
  go_enter Try.func167, Try.ntmps167
  go_wp2_with fail
  go_loop [8] (fun i => ∃ k : Nat, k ≤ xs.length ∧ i = .int .i64 k ∧ Hid (∀ j, j < k → nthB xs j = true)) (fun i => xs.length - (intOf i).toNat)
  case atStart => exact ⟨0, Nat.zero_le _, rfl, Lib.hid (fun j hj => by omega)⟩
  case round =>
    obtain ⟨k, hk, rfl, hs⟩ := hrel
    by_cases hlt : k < xs.length
    · obtain ⟨bA, oA, rfl, hc⟩ := HR.out.at_ (bl_refl _) k hlt
      have hlt' : (k : Int) < xs.length := by omega
      rcases hb : nthB xs k with _ | _
      · have HF : Hid (someF xs = true) := Lib.hid (by unfold someF; rw [decide_eq_false (fun q => by have := q k hlt; rw [hb] at this; cases this)]; rfl)
        rw [hb] at hc
        clear hs hb
        go_wp2_with fail
        go_ret
        exact ⟨k, rfl, by rw [HF.out]; exact decide_eq_true (by omega), rfl⟩
      · have HN : Hid (∀ j, j < k + 1 → nthB xs j = true) := Lib.hid (fun j hj => by
          by_cases e : j = k
          · subst e; exact hb
          · exact hs.out j (by omega))
        rw [hb] at hc
        clear hs hb
        go_wp2_with fail
        go_round
        case rel => exact ⟨k + 1, by omega, by go_num, HN⟩
        case measure => simp [intOf]; omega
    · obtain rfl : k = xs.length := by omega
      have HF : Hid (someF xs = false) := Lib.hid (by unfold someF; rw [decide_eq_true hs.out]; rfl)
      clear hs
      go_wp2_with fail
      go_ret
      exact ⟨-1, rfl, by rw [HF.out]; rfl, rfl⟩
set_option maxRecDepth 100000 in
set_option maxHeartbeats 1000000 in
theorem containsF_any (A : Option Addr) (c : Nat) (xs : List Bool) (w : World) (hr : RdB w A xs) (hn : xs.length ≤ 4000000) :
    Calls Try.prog 139 #[.slice A xs.length c, .bool false] w (Same (.bool (someF xs)) w) := by
  have K := Lib.hid (fun (W : World) (h : w = W) => indexF_any A c xs W (h ▸ hr) hn)
  clear hr
  obtain ⟨w0, rfl⟩ : ∃ w0 : World, w0 = w := ⟨w, rfl⟩
  go_enter Try.func139, Try.ntmps139
  go_wp2_with (go_at_call 167; refine (K.out _ rfl).mono ?_; rintro e wn ⟨i, rfl, hi, rfl⟩; have HI := Lib.hid hi; clear hi)
  go_ret
  exact ⟨ret_bool HI.out, rfl⟩
end Go.Proofs.Ytnllndcajdofjaa

namespace Go.Proofs.Ytnllndcajdofjaa
open Go.RowKit
set_option linter.unusedVariables false

set_option maxRecDepth 100000 in
set_option maxHeartbeats 400000 in
theorem seatCountB_any (g : Nat) (L : At5) (b : Bt) (w : World) (h : BtAt w g L b) :
    Calls Try.prog 89 #[.pointer (some ⟨g, 0, none⟩)] w (Same (.int .i64 b.st.length) w) := by
  obtain ⟨q0, _⟩ := h.blk.cell 0 _ rfl
  clear h
  go_enter Try.func89, Try.ntmps89
  go_wp2_with fail
  go_ret
  exact ⟨rfl, rfl⟩
set_option maxRecDepth 100000 in
set_option maxHeartbeats 1000000 in
theorem canAct_any (g : Nat) (L : At5) (b : Bt) (i : Nat) (w : World) (h : BtAt w g L b) (hn : b.st.length ≤ 6) (hi : i < b.st.length) (l4 : b.fo.length = b.st.length) :
    Calls Try.prog 129 #[.pointer (some ⟨g, 0, none⟩), .int .i64 i] w (Same (.bool (canB b i)) w) := by
  obtain ⟨q0, _⟩ := h.blk.cell 0 _ rfl
  obtain ⟨q3, _⟩ := h.blk.cell 3 _ rfl
  obtain ⟨b1, o1, e1, hc1⟩ := h.rd.r1.at_0 i hi
  obtain ⟨b4, o4, e4, hc4⟩ := h.rd.r4.at_0 i (by omega)
  rw [e1] at q0
  rw [e4] at q3
  have d1 : (i : Int) < b.st.length := by omega
  have d4 : (i : Int) < b.fo.length := by omega
  have H : Hid (canB b i = (!nthB b.fo i && decide (0 < nth b.st i))) := Lib.hid rfl
  clear h e1 e4 l4
  generalize nth b.st i = x at *
  generalize nthB b.fo i = f at *
  cases f
  all_goals
    go_enter Try.func129, Try.ntmps129
    go_wp2_with fail
    go_ret
    exact ⟨ret_bool (by rw [H.out]; simp), rfl⟩
set_option maxRecDepth 100000 in
set_option maxHeartbeats 2000000 in
theorem another_any (g : Nat) (L : At5) (b : Bt) (i : Nat) (w : World) (h : BtAt w g L b) (hn : b.st.length ≤ 6) (l4 : b.fo.length = b.st.length) :
    Calls Try.prog 131 #[.pointer (some ⟨g, 0, none⟩), .int .i64 i] w (Same (.bool (anoB b i)) w) := by
  have KS := Lib.hid (seatCountB_any g L b w h)
  have KC := Lib.hid (fun (k : Nat) (hk : k < b.st.length) => canAct_any g L b k w h hn hk l4)
  have HY := Lib.hid (fun (j : Nat) => ano_yes (b := b) (i := i) j)
  have HZ := Lib.hid (ano_no (b := b) (i := i))
  clear h l4
  generalize anoB b i = r at *
  go_enter Try.func131, Try.ntmps131
  go_wp2_with (go_at_call 89; refine KS.out.mono ?_; rintro e wn ⟨rfl, rfl⟩)
  go_loop [8] (fun q => ∃ k : Nat, k ≤ b.st.length ∧ q = .int .i64 k ∧ Hid (∀ j, j < k → j ≠ i → canB b j = false)) (fun q => b.st.length - (intOf q).toNat)
  case atStart => exact ⟨0, Nat.zero_le _, rfl, Lib.hid (fun j hj => by omega)⟩
  case round =>
    obtain ⟨k, hk, rfl, hs⟩ := hrel
    by_cases hlt : k < b.st.length
    · have hlt' : (k : Int) < b.st.length := by omega
      by_cases hki : k = i
      · have HN : Hid (∀ j, j < k + 1 → j ≠ i → canB b j = false) := Lib.hid (fun j hj hne => hs.out j (by omega) hne)
        have dk : ((k : Int) != (i : Int)) = false := by simp [hki]
        clear hs hki
        go_wp2_with fail
        go_round
        case rel => exact ⟨k + 1, by omega, by go_num, HN⟩
        case measure => simp [intOf]; omega
      · have dk : ((k : Int) != (i : Int)) = true := by simp; omega
        have KK := Lib.hid (KC.out k hlt)
        rcases hc : canB b k with _ | _
        · have HN : Hid (∀ j, j < k + 1 → j ≠ i → canB b j = false) := Lib.hid (fun j hj hne => by
            by_cases e : j = k
            · subst e; exact hc
            · exact hs.out j (by omega) hne)
          rw [hc] at KK
          clear hs hc
          go_wp2_with (go_at_call 129; refine KK.out.mono ?_; rintro e wn ⟨rfl, rfl⟩)
          go_round
          case rel => exact ⟨k + 1, by omega, by go_num, HN⟩
          case measure => simp [intOf]; omega
        · have HF := Lib.hid (HY.out k hlt hki hc)
          rw [hc] at KK
          clear hs hc
          go_wp2_with (go_at_call 129; refine KK.out.mono ?_; rintro e wn ⟨rfl, rfl⟩)
          go_ret
          exact ⟨ret_bool HF.out.symm, rfl⟩
    · obtain rfl : k = b.st.length := by omega
      have HF := Lib.hid (HZ.out hs.out)
      clear hs
      go_wp2_with fail
      go_ret
      exact ⟨ret_bool HF.out.symm, rfl⟩
set_option maxRecDepth 100000 in
set_option maxHeartbeats 400000 in
theorem betToMatch_any (g : Nat) (L : At5) (b : Bt) (w : World) (h : BtAt w g L b) (l0 : 0 < b.bt.length) (l6 : b.bt.length ≤ 6) (s2 : inC b.bt) :
    Calls Try.prog 130 #[.pointer (some ⟨g, 0, none⟩)] w (Same (.int .i64 (topI b)) w) := by
  have K := Lib.hid (slicesMax_any L.a2 L.c2 b.bt w h.rd.r2 (by omega) l0 (s2 0 l0).1)
  obtain ⟨q1, _⟩ := h.blk.cell 1 _ rfl
  clear h
  go_enter Try.func130, Try.ntmps130
  go_wp2_with (go_at_call 166; refine K.out.mono ?_; rintro e wn ⟨rfl, rfl⟩)
  go_ret
  exact ⟨rfl, rfl⟩
set_option maxRecDepth 100000 in
set_option maxHeartbeats 2000000 in
theorem pot_any (g : Nat) (L : At5) (b : Bt) (w : World) (h : BtAt w g L b) (l2 : b.bt.length ≤ 6) (l3 : b.pd.length ≤ 6) (s2 : inC b.bt) (s3 : inC b.pd) :
    Calls Try.prog 93 #[.pointer (some ⟨g, 0, none⟩)] w (Qt (.int .i64 (potI b)) w) := by
  have K2 := Lib.hid (fun n => sumOf_any L.a2 L.c2 b.bt (w.drewN n) (h.drew n).rd.r2 (by omega) s2)
  have K3 := Lib.hid (fun n => sumOf_any L.a3 L.c3 b.pd (w.drewN n) (h.drew n).rd.r3 (by omega) s3)
  have u2 := sumT_bdC b.bt s2 _ (Nat.le_refl _)
  have u3 := sumT_bdC b.pd s3 _ (Nat.le_refl _)
  have H : Hid (potI b = sumT b.bt b.bt.length + sumT b.pd b.pd.length) := Lib.hid rfl
  obtain ⟨q1, _⟩ := h.blk.cell 1 _ rfl
  obtain ⟨q2, _⟩ := h.blk.cell 2 _ rfl
  clear h s2 s3
  generalize sumT b.bt b.bt.length = x2 at *
  generalize sumT b.pd b.pd.length = x3 at *
  go_enter Try.func93, Try.ntmps93
  go_wp2_with fail
  go_quiet ((go_at_call 153; first | (with_reducible exact quiet_left (K2.out _)) | (with_reducible exact quiet_left (K3.out _))))
  go_wp2_with fail
  go_ret
  exact ⟨by rw [H.out]; rfl, _, rfl⟩
set_option maxRecDepth 100000 in
set_option maxHeartbeats 2000000 in
theorem chips_any (g : Nat) (L : At5) (b : Bt) (w : World) (h : BtAt w g L b) (l1 : b.st.length ≤ 6) (l2 : b.bt.length ≤ 6) (l3 : b.pd.length ≤ 6) (s1 : inC b.st) (s2 : inC b.bt) (s3 : inC b.pd) :
    Calls Try.prog 92 #[.pointer (some ⟨g, 0, none⟩)] w (Qt (.int .i64 (allI b)) w) := by
  have K1 := Lib.hid (sumOf_any L.a1 L.c1 b.st w h.rd.r1 (by omega) s1)
  have K2 := Lib.hid (pot_any g L b w h l2 l3 s2 s3)
  have u1 := sumT_bdC b.st s1 _ (Nat.le_refl _)
  have u2 := sumT_bdC b.bt s2 _ (Nat.le_refl _)
  have u3 := sumT_bdC b.pd s3 _ (Nat.le_refl _)
  have H : Hid (allI b = sumT b.st b.st.length + potI b) := Lib.hid rfl
  have u4 : 0 ≤ potI b ∧ potI b ≤ 10000000 := by unfold potI; omega
  obtain ⟨q0, _⟩ := h.blk.cell 0 _ rfl
  clear h s1 s2 s3 u2 u3
  generalize sumT b.st b.st.length = x1 at *
  generalize potI b = x2 at *
  go_enter Try.func92, Try.ntmps92
  go_wp2_with (first
    | (go_at_call 153; refine K1.out.mono ?_; rintro e wn ⟨rfl, rfl⟩)
    | (go_at_call 93; refine K2.out.mono ?_; rintro e wn ⟨rfl, m, rfl⟩))
  go_ret
  exact ⟨by rw [H.out]; rfl, m, rfl⟩
end Go.Proofs.Ytnllndcajdofjaa

namespace Go.Proofs.Ytnllndcajdofjaa
open Go.RowKit
set_option linter.unusedVariables false

/-- The lists have one element for each seat, and the bets are chips. -/
structure Sd (b : Bt) : Prop where
  n2 : 2 ≤ b.st.length
  n6 : b.st.length ≤ 6
  l2 : b.bt.length = b.st.length
  l3 : b.pd.length = b.st.length
  l4 : b.fo.length = b.st.length
  l5 : b.ac.length = b.st.length
  s2 : inC b.bt
theorem Ok.sd {b : Bt} (k : Ok b) : Sd b := ⟨k.n2, k.n6, k.l2, k.l3, k.l4, k.l5, k.s2⟩
theorem top_bd {b : Bt} (k : Sd b) : 0 ≤ topI b ∧ topI b ≤ 600000 := maxK_bd b.bt k.s2 _ (Nat.le_refl _)
theorem top_ge {b : Bt} (i : Nat) (hi : i < b.bt.length) : nth b.bt i ≤ topI b := maxK_ge b.bt _ i hi
theorem betToMatchS_any (g : Nat) (L : At5) (b : Bt) (w : World) (h : BtAt w g L b) (k : Sd b) :
    Calls Try.prog 130 #[.pointer (some ⟨g, 0, none⟩)] w (Same (.int .i64 (topI b)) w) :=
  betToMatch_any g L b w h (by have := k.n2; have := k.l2; omega) (by have := k.n6; have := k.l2; omega) k.s2
set_option maxRecDepth 100000 in
set_option maxHeartbeats 2000000 in
theorem missing_any (g : Nat) (L : At5) (b : Bt) (w : World) (h : BtAt w g L b) (k : Ok b) :
    Calls Try.prog 132 #[.pointer (some ⟨g, 0, none⟩)] w (Qt (.int .i64 (missI b)) w) := by
  obtain ⟨i, hi⟩ := Int.eq_ofNat_of_zero_le k.t0
  have ht := k.t1
  rw [hi] at ht
  have n6 := k.n6
  have l2 := k.l2
  have l3 := k.l3
  have l4 := k.l4
  have l5 := k.l5
  have d1 : (i : Int) < b.st.length := ht
  have d2 : (i : Int) < b.bt.length := by omega
  have d4 : (i : Int) < b.fo.length := by omega
  have d5 : (i : Int) < b.ac.length := by omega
  obtain ⟨q1, _⟩ := h.blk.cell 1 _ rfl
  obtain ⟨q5, _⟩ := h.blk.cell 5 _ rfl
  obtain ⟨b2, o2, e2, hc2⟩ := h.rd.r2.at_0 i (by omega)
  rw [e2] at q1
  rw [hi] at q5
  have H : Hid (missI b = topI b - nth b.bt i) := Lib.hid (by unfold missI; rw [hi]; rfl)
  have u1 := top_bd k.sd
  have u2 := k.s2 i (by omega)
  have KT := Lib.hid (fun n => betToMatchS_any g L b (w.drewN n) (h.drew n) k.sd)
  clear h k e2 hi ht
  generalize topI b = t at *
  generalize nth b.bt i = x at *
  go_enter Try.func132, Try.ntmps132
  go_wp2_with fail
  go_quiet ((go_at_call 130; (with_reducible exact quiet_left (KT.out _))))
  go_wp2_with fail
  go_ret
  exact ⟨by rw [H.out]; rfl, _, rfl⟩
theorem miss_bd {b : Bt} (k : Ok b) : 0 ≤ missI b ∧ missI b ≤ 600000 := by
  have u1 := top_bd k.sd
  have ht := k.t1
  have h0 := k.t0
  have l2 := k.l2
  have u2 := k.s2 b.tu.toNat (by omega)
  have u3 := top_ge (b := b) b.tu.toNat (by omega)
  unfold missI
  omega
set_option maxRecDepth 100000 in
set_option maxHeartbeats 2000000 in
theorem callSize_any (g : Nat) (L : At5) (b : Bt) (w : World) (h : BtAt w g L b) (k : Ok b) :
    Calls Try.prog 133 #[.pointer (some ⟨g, 0, none⟩)] w (Qt (.int .i64 (callI b)) w) := by
  obtain ⟨i, hi⟩ := Int.eq_ofNat_of_zero_le k.t0
  have ht := k.t1
  rw [hi] at ht
  have n6 := k.n6
  have l2 := k.l2
  have l3 := k.l3
  have l4 := k.l4
  have l5 := k.l5
  have d1 : (i : Int) < b.st.length := ht
  have d2 : (i : Int) < b.bt.length := by omega
  have d4 : (i : Int) < b.fo.length := by omega
  have d5 : (i : Int) < b.ac.length := by omega
  obtain ⟨q0, _⟩ := h.blk.cell 0 _ rfl
  obtain ⟨q5, _⟩ := h.blk.cell 5 _ rfl
  obtain ⟨b1, o1, e1, hc1⟩ := h.rd.r1.at_0 i (by omega)
  rw [e1] at q0
  rw [hi] at q5
  have H : Hid (callI b = minT (missI b) (nth b.st i)) := Lib.hid (by unfold callI; rw [hi]; rfl)
  have u1 := miss_bd k
  have KT := Lib.hid (fun n => missing_any g L b (w.drewN n) (h.drew n) k)
  clear h k e1 hi ht
  generalize missI b = t at *
  generalize nth b.st i = x at *
  have KN := Lib.hid (fun n => minT_any t x (w.drewN n))
  go_enter Try.func133, Try.ntmps133
  go_wp2_with fail
  go_quiet (first
    | (go_at_call 132; exact Calls.quiet_of (KT.out _))
    | (go_at_call 136; exact quiet_left (KN.out _)))
  go_wp2_with fail
  go_ret
  exact ⟨by rw [H.out]; rfl, _, rfl⟩
set_option maxRecDepth 100000 in
set_option maxHeartbeats 4000000 in
theorem canRaise_any (g : Nat) (L : At5) (b : Bt) (w : World) (h : BtAt w g L b) (k : Ok b) :
    Calls Try.prog 134 #[.pointer (some ⟨g, 0, none⟩)] w (Qt (.bool (mayB b)) w) := by
  obtain ⟨i, hi⟩ := Int.eq_ofNat_of_zero_le k.t0
  have ht := k.t1
  rw [hi] at ht
  have n6 := k.n6
  have l2 := k.l2
  have l3 := k.l3
  have l4 := k.l4
  have l5 := k.l5
  have d1 : (i : Int) < b.st.length := ht
  have d2 : (i : Int) < b.bt.length := by omega
  have d4 : (i : Int) < b.fo.length := by omega
  have d5 : (i : Int) < b.ac.length := by omega
  obtain ⟨q0, _⟩ := h.blk.cell 0 _ rfl
  obtain ⟨q4, _⟩ := h.blk.cell 4 _ rfl
  obtain ⟨q5, _⟩ := h.blk.cell 5 _ rfl
  obtain ⟨q7, _⟩ := h.blk.cell 7 _ rfl
  obtain ⟨q8, _⟩ := h.blk.cell 8 _ rfl
  obtain ⟨b1, o1, e1, hc1⟩ := h.rd.r1.at_0 i (by omega)
  rw [e1] at q0
  obtain ⟨b5, o5, e5, hc5⟩ := h.rd.r5.at_0 i (by omega)
  rw [e5] at q4
  rw [hi] at q5
  have H : Hid (mayB b = (!nthB b.ac i && decide (missI b < nth b.st i) && anoB b i && (!(b.li == 2) || decide (b.ra < 4)))) := Lib.hid (by unfold mayB; rw [hi]; rfl)
  have u1 := miss_bd k
  have KT := Lib.hid (fun n => missing_any g L b (w.drewN n) (h.drew n) k)
  have KO := Lib.hid (fun n => another_any g L b i (w.drewN n) (h.drew n) k.n6 k.l4)
  clear h k e1 e5 hi ht
  generalize missI b = t at *
  generalize nth b.st i = x at *
  generalize nthB b.ac i = a at *
  generalize anoB b i = o at *
  generalize b.li = l at *
  generalize b.ra = r at *
  rcases a with _ | _
  rotate_left
  · skip
    have HV : Hid (mayB b = false) := Lib.hid (by rw [H.out]; simp)
    clear H
    go_enter Try.func134, Try.ntmps134
    go_wp2_with fail
    go_quiet (first
        | (go_at_call 132; exact Calls.quiet_of (KT.out _))
        | (go_at_call 131; exact quiet_left (KO.out _)))
    go_wp2_with fail
    go_ret
    exact ⟨ret_bool HV.out.symm, _, rfl⟩
  by_cases c1 : x ≤ t
  · have c2 : decide (x ≤ t) = true := decide_eq_true c1
    have c3 : decide (t < x) = false := decide_eq_false (by omega)
    have HV : Hid (mayB b = false) := Lib.hid (by rw [H.out]; simp [c3])
    clear H
    go_enter Try.func134, Try.ntmps134
    go_wp2_with fail
    go_quiet (first
        | (go_at_call 132; exact Calls.quiet_of (KT.out _))
        | (go_at_call 131; exact quiet_left (KO.out _)))
    go_wp2_with fail
    go_ret
    exact ⟨ret_bool HV.out.symm, _, rfl⟩
  have c2 : decide (x ≤ t) = false := decide_eq_false c1
  have c3 : decide (t < x) = true := decide_eq_true (by omega)
  rcases o with _ | _
  · skip
    have HV : Hid (mayB b = false) := Lib.hid (by rw [H.out]; simp)
    clear H
    go_enter Try.func134, Try.ntmps134
    go_wp2_with fail
    go_quiet (first
        | (go_at_call 132; exact Calls.quiet_of (KT.out _))
        | (go_at_call 131; exact quiet_left (KO.out _)))
    go_wp2_with fail
    go_ret
    exact ⟨ret_bool HV.out.symm, _, rfl⟩
  by_cases c4 : l = 2
  rotate_left
  · have c5 : (l == 2) = false := by simpa using c4
    have c6 : (l != 2) = true := by simpa using c4
    have HV : Hid (mayB b = true) := Lib.hid (by rw [H.out]; simp [c3, c5])
    clear H
    go_enter Try.func134, Try.ntmps134
    go_wp2_with fail
    go_quiet (first
        | (go_at_call 132; exact Calls.quiet_of (KT.out _))
        | (go_at_call 131; exact quiet_left (KO.out _)))
    go_wp2_with fail
    go_ret
    exact ⟨ret_bool HV.out.symm, _, rfl⟩
  have c5 : (l == 2) = true := by simpa using c4
  have c6 : (l != 2) = false := by simpa using c4
  clear c4
  by_cases c7 : r < 4
  · have c8 : decide (r < 4) = true := decide_eq_true c7
    have HV : Hid (mayB b = true) := Lib.hid (by rw [H.out]; simp [c3, c5, c8])
    clear H
    go_enter Try.func134, Try.ntmps134
    go_wp2_with fail
    go_quiet (first
        | (go_at_call 132; exact Calls.quiet_of (KT.out _))
        | (go_at_call 131; exact quiet_left (KO.out _)))
    go_wp2_with fail
    go_ret
    exact ⟨ret_bool HV.out.symm, _, rfl⟩
  · have c8 : decide (r < 4) = false := decide_eq_false c7
    have HV : Hid (mayB b = false) := Lib.hid (by rw [H.out]; simp [c3, c5, c8])
    clear H
    go_enter Try.func134, Try.ntmps134
    go_wp2_with fail
    go_quiet (first
        | (go_at_call 132; exact Calls.quiet_of (KT.out _))
        | (go_at_call 131; exact quiet_left (KO.out _)))
    go_wp2_with fail
    go_ret
    exact ⟨ret_bool HV.out.symm, _, rfl⟩
set_option maxRecDepth 100000 in
set_option maxHeartbeats 4000000 in
theorem mostRaise_any (g : Nat) (L : At5) (b : Bt) (w : World) (h : BtAt w g L b) (k : Ok b) :
    Calls Try.prog 135 #[.pointer (some ⟨g, 0, none⟩)] w (Qt (.int .i64 (mostR b)) w) := by
  obtain ⟨i, hi⟩ := Int.eq_ofNat_of_zero_le k.t0
  have ht := k.t1
  rw [hi] at ht
  have n6 := k.n6
  have l2 := k.l2
  have l3 := k.l3
  have l4 := k.l4
  have l5 := k.l5
  have d1 : (i : Int) < b.st.length := ht
  have d2 : (i : Int) < b.bt.length := by omega
  have d4 : (i : Int) < b.fo.length := by omega
  have d5 : (i : Int) < b.ac.length := by omega
  obtain ⟨q0, _⟩ := h.blk.cell 0 _ rfl
  obtain ⟨q1, _⟩ := h.blk.cell 1 _ rfl
  obtain ⟨q5, _⟩ := h.blk.cell 5 _ rfl
  obtain ⟨q6, _⟩ := h.blk.cell 6 _ rfl
  obtain ⟨q8, _⟩ := h.blk.cell 8 _ rfl
  obtain ⟨b1, o1, e1, hc1⟩ := h.rd.r1.at_0 i (by omega)
  rw [e1] at q0
  obtain ⟨b2, o2, e2, hc2⟩ := h.rd.r2.at_0 i (by omega)
  rw [e2] at q1
  rw [hi] at q5
  have HA : Hid (allIn b = nth b.bt i + nth b.st i) := Lib.hid (by unfold allIn; rw [hi]; rfl)
  have H : Hid (mostR b = if b.li = 1 then minT (nth b.bt i + nth b.st i) (topI b + potI b + missI b) else if b.li = 2 then minT (nth b.bt i + nth b.st i) (topI b + b.un) else nth b.bt i + nth b.st i) := Lib.hid (by unfold mostR; rw [HA.out])
  have u1 := miss_bd k
  have u2 := top_bd k.sd
  have u3 := k.s1 i (by omega)
  have u4 := k.s2 i (by omega)
  have u5 : 0 ≤ potI b ∧ potI b ≤ 10000000 := by
    have := sumT_bdC b.bt k.s2 _ (Nat.le_refl _)
    have := sumT_bdC b.pd k.s3 _ (Nat.le_refl _)
    unfold potI; omega
  have u6 := k.u0
  have u7 := k.u1
  have KT := Lib.hid (fun n => betToMatchS_any g L b (w.drewN n) (h.drew n) k.sd)
  have KP := Lib.hid (fun n => pot_any g L b (w.drewN n) (h.drew n) (by omega) (by omega) k.s2 k.s3)
  have KM := Lib.hid (fun n => missing_any g L b (w.drewN n) (h.drew n) k)
  clear h k e1 e2 hi ht HA
  generalize missI b = m at *
  generalize nth b.st i = x at *
  generalize nth b.bt i = y at *
  generalize potI b = p at *
  generalize topI b = t at *
  generalize b.un = u at *
  generalize b.li = l at *
  have KN := Lib.hid (fun W => minT_any (y + x) (t + p + m) W)
  have KN2 := Lib.hid (fun W => minT_any (y + x) (t + u) W)
  by_cases c1 : l = 1
  · have c2 : (l == 1) = true := by simpa using c1
    have HV : Hid (mostR b = minT (y + x) (t + p + m)) := Lib.hid (by rw [H.out, if_pos c1])
    clear H c1
    generalize minT (y + x) (t + p + m) = v at *
    go_enter Try.func135, Try.ntmps135
    go_wp2_with fail
    go_quiet (fail)
    go_wp2_with (first
      | (go_at_call 130; refine (KT.out _).mono ?_; rintro e wn ⟨rfl, rfl⟩)
      | (go_at_call 93; refine (KP.out _).mono ?_; rintro e wn ⟨rfl, m1, rfl⟩; rw [World.drewN_drewN])
      | (go_at_call 132; refine (KM.out _).mono ?_; rintro e wn ⟨rfl, m2, rfl⟩; rw [World.drewN_drewN])
      | (go_at_call 136; refine (KN.out _).mono ?_; rintro e wn ⟨rfl, rfl⟩))
    go_ret
    exact ⟨by rw [HV.out]; rfl, _, rfl⟩
  have c2 : (l == 1) = false := by simpa using c1
  by_cases c3 : l = 2
  · have c4 : (l == 2) = true := by simpa using c3
    have HV : Hid (mostR b = minT (y + x) (t + u)) := Lib.hid (by rw [H.out, if_neg c1, if_pos c3])
    clear H c1 c3
    generalize minT (y + x) (t + u) = v at *
    go_enter Try.func135, Try.ntmps135
    go_wp2_with fail
    go_quiet (fail)
    go_wp2_with fail
    go_quiet (first
      | (go_at_call 130; exact quiet_add_left (KT.out _))
      | (go_at_call 136; exact quiet_add_left (KN2.out _)))
    go_wp2_with fail
    go_ret
    exact ⟨by rw [HV.out]; rfl, _, World.drewN_drewN ..⟩
  · have c4 : (l == 2) = false := by simpa using c3
    have HV : Hid (mostR b = y + x) := Lib.hid (by rw [H.out, if_neg c1, if_neg c3])
    clear H c1 c3
    go_enter Try.func135, Try.ntmps135
    go_wp2_with fail
    go_quiet (fail)
    go_wp2_with fail
    go_ret
    exact ⟨by rw [HV.out]; rfl, _, rfl⟩
/-- What makes a round one of seats. -/
abbrev SeatsP (b : Bt) : Prop := 2 ≤ b.st.length ∧ b.st.length ≤ 6 ∧ 0 ≤ b.tu ∧ b.tu < b.st.length ∧ b.bt.length = b.st.length ∧ b.pd.length = b.st.length ∧ b.fo.length = b.st.length ∧ b.ac.length = b.st.length
def seatsB (b : Bt) : Bool := decide (2 ≤ b.st.length ∧ b.st.length ≤ 6 ∧ 0 ≤ b.tu ∧ b.tu < b.st.length ∧ b.bt.length = b.st.length ∧ b.pd.length = b.st.length ∧ b.fo.length = b.st.length ∧ b.ac.length = b.st.length) && someF b.fo
theorem seatsB_no {b : Bt} (h : ¬ SeatsP b) : seatsB b = false := by unfold seatsB; rw [decide_eq_false h]; rfl
theorem seatsB_yes {b : Bt} (h : SeatsP b) : seatsB b = someF b.fo := by unfold seatsB; rw [decide_eq_true h]; rfl
/-- The four lengths. -/
def lnB (b : Bt) : Nat → Nat
  | 0 => b.bt.length
  | 1 => b.pd.length
  | 2 => b.fo.length
  | _ => b.ac.length
theorem u4i : Try.prog.underlying 132 = some (.array 4 3) := by kernel_rfl
theorem i4i : (Try.prog.info? 3).map (·.size) = some 1 := by kernel_rfl
set_option maxRecDepth 100000 in
theorem run_index4 (b : Bt) (k : Nat) (hk : k < 4) (W : World) : (Instr.index 132 (.agg #[.int .i64 b.bt.length, .int .i64 b.pd.length, .int .i64 b.fo.length, .int .i64 b.ac.length]) (.int .i64 k)).run Try.prog W = .ok (.int .i64 (lnB b k)) W := by
  obtain ⟨i0, hi, hz⟩ : ∃ i, Try.prog.info? 3 = some i ∧ i.size = 1 := by
    cases h : Try.prog.info? 3 with
    | none => have := i4i; rw [h] at this; cases this
    | some i => have := i4i; rw [h] at this; exact ⟨i, rfl, Option.some.inj this⟩
  rcases (by omega : k = 0 ∨ k = 1 ∨ k = 2 ∨ k = 3) with rfl | rfl | rfl | rfl <;>
    simp [Instr.index, run_underlying u4i, go_sem, sizeOf, typeInfo, hi, hz, part, isAgg, run_underlying Try.underlying3, lnB]
set_option maxRecDepth 100000 in
set_option maxHeartbeats 4000000 in
theorem hasToAct_any (g : Nat) (L : At5) (b : Bt) (i : Nat) (w : World) (h : BtAt w g L b) (k : Sd b) (hi : i < b.st.length) :
    Calls Try.prog 67 #[.pointer (some ⟨g, 0, none⟩), .int .i64 i] w (Qt (.bool (mustB b i)) w) := by
  have n6 := k.n6
  have l2 := k.l2
  have l4 := k.l4
  have l5 := k.l5
  have d1 : (i : Int) < b.st.length := by omega
  have d2 : (i : Int) < b.bt.length := by omega
  have d5 : (i : Int) < b.ac.length := by omega
  obtain ⟨q1, _⟩ := h.blk.cell 1 _ rfl
  obtain ⟨q4, _⟩ := h.blk.cell 4 _ rfl
  obtain ⟨b2, o2, e2, hc2⟩ := h.rd.r2.at_0 i (by omega)
  rw [e2] at q1
  obtain ⟨b5, o5, e5, hc5⟩ := h.rd.r5.at_0 i (by omega)
  rw [e5] at q4
  have H : Hid (mustB b i = (canB b i && (decide (nth b.bt i < topI b) || (!nthB b.ac i && anoB b i)))) := Lib.hid rfl
  have KC := Lib.hid (fun W (hW : w = W) => canAct_any g L b i W (hW ▸ h) n6 hi l4)
  have KT := Lib.hid (fun n => betToMatchS_any g L b (w.drewN n) (h.drew n) k)
  have KO := Lib.hid (fun n => another_any g L b i (w.drewN n) (h.drew n) n6 l4)
  clear h k e2 e5
  generalize topI b = t at *
  generalize nth b.bt i = x at *
  generalize nthB b.ac i = a at *
  generalize anoB b i = o at *
  generalize canB b i = c at *
  rcases c with _ | _
  · skip
    have HV : Hid (mustB b i = false) := Lib.hid (by rw [H.out]; simp)
    clear H
    go_enter Try.func67, Try.ntmps67
    go_wp2_with (go_at_call 129; refine (KC.out _ rfl).mono ?_; rintro e wn ⟨rfl, rfl⟩)
    go_ret
    exact ⟨ret_bool HV.out.symm, 0, rfl⟩
  by_cases c1 : x < t
  · skip
    have c2 : decide (x < t) = true := decide_eq_true c1
    have HV : Hid (mustB b i = true) := Lib.hid (by rw [H.out]; simp [c1])
    clear H
    go_enter Try.func67, Try.ntmps67
    go_wp2_with (go_at_call 129; refine (KC.out _ rfl).mono ?_; rintro e wn ⟨rfl, rfl⟩)
    go_quiet (first
        | (go_at_call 130; exact quiet_left (KT.out _))
        | (go_at_call 131; exact quiet_left (KO.out _)))
    go_wp2_with fail
    go_ret
    exact ⟨ret_bool HV.out.symm, _, rfl⟩
  have c2 : decide (x < t) = false := decide_eq_false c1
  rcases a with _ | _
  rotate_left
  · skip
    have HV : Hid (mustB b i = false) := Lib.hid (by rw [H.out]; simp [c2])
    clear H
    go_enter Try.func67, Try.ntmps67
    go_wp2_with (go_at_call 129; refine (KC.out _ rfl).mono ?_; rintro e wn ⟨rfl, rfl⟩)
    go_quiet (first
        | (go_at_call 130; exact quiet_left (KT.out _))
        | (go_at_call 131; exact quiet_left (KO.out _)))
    go_wp2_with fail
    go_ret
    exact ⟨ret_bool HV.out.symm, _, rfl⟩
  rcases o with _ | _
  · skip
    have HV : Hid (mustB b i = false) := Lib.hid (by rw [H.out]; simp [c2])
    clear H
    go_enter Try.func67, Try.ntmps67
    go_wp2_with (go_at_call 129; refine (KC.out _ rfl).mono ?_; rintro e wn ⟨rfl, rfl⟩)
    go_quiet (first
        | (go_at_call 130; exact quiet_left (KT.out _))
        | (go_at_call 131; exact quiet_left (KO.out _)))
    go_wp2_with fail
    go_ret
    exact ⟨ret_bool HV.out.symm, _, rfl⟩
  · skip
    have HV : Hid (mustB b i = true) := Lib.hid (by rw [H.out]; simp [c2])
    clear H
    go_enter Try.func67, Try.ntmps67
    go_wp2_with (go_at_call 129; refine (KC.out _ rfl).mono ?_; rintro e wn ⟨rfl, rfl⟩)
    go_quiet (first
        | (go_at_call 130; exact quiet_left (KT.out _))
        | (go_at_call 131; exact quiet_left (KO.out _)))
    go_wp2_with fail
    go_ret
    exact ⟨ret_bool HV.out.symm, _, rfl⟩
set_option maxRecDepth 100000 in
set_option maxHeartbeats 4000000 in
theorem hasSeats_any (g : Nat) (L : At5) (b : Bt) (w : World) (h : BtAt w g L b) :
    Calls Try.prog 75 #[.pointer (some ⟨g, 0, none⟩)] w (Qt (.bool (seatsB b)) w) := by
  have KS := Lib.hid (fun n => seatCountB_any g L b (w.drewN n) (h.drew n))
  have KC := Lib.hid (fun n => isSeatCount_any b.st.length (w.drewN n))
  obtain ⟨q0, _⟩ := h.blk.cell 0 _ rfl
  obtain ⟨q1, _⟩ := h.blk.cell 1 _ rfl
  obtain ⟨q2, _⟩ := h.blk.cell 2 _ rfl
  obtain ⟨q3, _⟩ := h.blk.cell 3 _ rfl
  obtain ⟨q4, _⟩ := h.blk.cell 4 _ rfl
  obtain ⟨q5, _⟩ := h.blk.cell 5 _ rfl
  by_cases c0 : 2 ≤ (b.st.length : Int) ∧ (b.st.length : Int) ≤ 6
  rotate_left
  · have HV : Hid (seatsB b = false) := Lib.hid (seatsB_no (by unfold SeatsP; omega))
    rw [show inB b.st.length 2 6 = false from decide_eq_false c0] at KC
    clear h
    go_enter Try.func75, Try.ntmps75
    go_wp2_with fail
    go_quiet (first
        | (go_at_call 89; exact quiet_left (KS.out _))
        | (go_at_call 138; exact quiet_left (KC.out _)))
    go_wp2_with fail
    go_ret
    exact ⟨ret_bool HV.out.symm, _, rfl⟩
  rw [show inB b.st.length 2 6 = true from inB_yes _ _ _ c0.1 c0.2] at KC
  by_cases c1 : 0 ≤ b.tu
  rotate_left
  · have HV : Hid (seatsB b = false) := Lib.hid (seatsB_no (by unfold SeatsP; omega))
    have c2 : decide (b.tu < 0) = true := decide_eq_true (by omega)
    clear h
    go_enter Try.func75, Try.ntmps75
    go_wp2_with fail
    go_quiet (first
        | (go_at_call 89; exact quiet_left (KS.out _))
        | (go_at_call 138; exact quiet_left (KC.out _)))
    go_wp2_with fail
    go_ret
    exact ⟨ret_bool HV.out.symm, _, rfl⟩
  have c2 : decide (b.tu < 0) = false := decide_eq_false (by omega)
  by_cases c3 : b.tu < b.st.length
  rotate_left
  · have HV : Hid (seatsB b = false) := Lib.hid (seatsB_no (by unfold SeatsP; omega))
    have c4 : decide ((b.st.length : Int) ≤ b.tu) = true := decide_eq_true (by omega)
    clear h
    go_enter Try.func75, Try.ntmps75
    go_wp2_with fail
    go_quiet (first
        | (go_at_call 89; exact quiet_left (KS.out _))
        | (go_at_call 138; exact quiet_left (KC.out _)))
    go_wp2_with fail
    go_ret
    exact ⟨ret_bool HV.out.symm, _, rfl⟩
  have c4 : decide ((b.st.length : Int) ≤ b.tu) = false := decide_eq_false (by omega)
  have HY : Hid (∀ j, j < 4 → lnB b j ≠ b.st.length → seatsB b = false) := Lib.hid (fun j hj hne => seatsB_no (fun q => hne (by
    obtain ⟨t0, t1, t2, t3, t4, t5, t6, t7⟩ := q
    rcases (by omega : j = 0 ∨ j = 1 ∨ j = 2 ∨ j = 3) with rfl | rfl | rfl | rfl
    · exact t4
    · exact t5
    · exact t6
    · exact t7)))
  have HZ : Hid ((∀ j, j < 4 → lnB b j = b.st.length) → seatsB b = someF b.fo ∧ b.fo.length = b.st.length) := Lib.hid (fun q => ⟨seatsB_yes ⟨by omega, by omega, c1, c3, q 0 (by omega), q 1 (by omega), q 2 (by omega), q 3 (by omega)⟩, q 2 (by omega)⟩)
  have KF := Lib.hid (fun n (hl : b.fo.length = b.st.length) => containsF_any L.a4 L.c4 b.fo (w.drewN n) (h.drew n).rd.r4 (by omega))
  clear h
  go_enter Try.func75, Try.ntmps75
  go_wp2_with fail
  go_quiet (first
      | (go_at_call 89; exact quiet_left (KS.out _))
      | (go_at_call 138; exact quiet_left (KC.out _)))
  go_wp2_with fail
  go_quiet (fail)
  go_wp2_with fail
  go_loop [46] (fun q => ∃ k : Nat, k ≤ 4 ∧ q = .int .i64 k ∧ Hid (∀ j, j < k → lnB b j = b.st.length)) (fun q => 4 - (intOf q).toNat)
  case atStart => exact ⟨0, by omega, rfl, Lib.hid (fun j hj => by omega)⟩
  case round =>
    obtain ⟨k, hk, rfl, hs⟩ := hrel
    by_cases hlt : k < 4
    · have hlt' : (k : Int) < 4 := by omega
      have HF := Lib.hid (HY.out k hlt)
      have HX := run_index4 b k hlt
      by_cases hne : lnB b k = b.st.length
      · have HN : Hid (∀ j, j < k + 1 → lnB b j = b.st.length) := Lib.hid (fun j hj => by
          by_cases e : j = k
          · subst e; exact hne
          · exact hs.out j (by omega))
        clear hs HF
        have dn : ((lnB b k : Int) != (b.st.length : Int)) = false := by simp [hne]
        clear hne
        generalize lnB b k = m at HX dn
        go_wp2_with fail
        go_round
        case rel =>
          refine ⟨_, _, _, ?_, rfl, rfl, rfl⟩
          exact ⟨k + 1, by omega, by go_num, HN⟩
        case measure => simp [intOf]; omega
      · have HG := Lib.hid (HF.out hne)
        have dn : ((lnB b k : Int) != (b.st.length : Int)) = true := by simp; omega
        clear hs HF hne
        generalize lnB b k = m at HX dn
        go_wp2_with fail
        go_ret
        exact ⟨ret_bool HG.out.symm, _, rfl⟩
    · obtain rfl : k = 4 := by omega
      obtain ⟨e1, e2⟩ := HZ.out hs.out
      have HE := Lib.hid e1
      have KK := Lib.hid (fun n => KF.out n e2)
      clear hs e1 e2 HY HZ KF
      go_wp2_with (go_at_call 139; refine (KK.out _).mono ?_; rintro e wn ⟨rfl, rfl⟩)
      go_ret
      exact ⟨ret_bool HE.out.symm, _, rfl⟩
end Go.Proofs.Ytnllndcajdofjaa
