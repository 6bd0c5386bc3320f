/-
  The program's RanksIn and SuitsIn: the bits of the set within the cards of each kind.
-/
import Derived.Test.YtajkgnheijhbpaaOnes
import Derived.Test.YtajkgnheijhbpaaMark
import Derived.Test.YtajkgnheijhbpaaBase
namespace Go.Proofs.Ytajkgnheijhbpaa
open Go.RowKit
set_option linter.unusedVariables false

/-- The bits of a rank, and those of a suit. -/
def rankK (j : Nat) : Nat := 15 * 2 ^ (j * 4)
def suitK (s : Nat) : Nat → Nat
  | 0 => 0
  | k + 1 => suitK s k ||| 2 ^ (k * 4 + s)
theorem rankK_bit : ∀ j : Fin 13, ∀ i : Fin 52, (rankK j.val).testBit i.val = decide (i.val / 4 = j.val) := by decide +kernel
theorem suitK_bit : ∀ s : Fin 4, ∀ i : Fin 52, (suitK s.val 13).testBit i.val = decide (i.val % 4 = s.val) := by decide +kernel
theorem rankK_lt (j : Nat) (h : j < 13) : rankK j < 2 ^ 53 := by
  unfold rankK
  have : 2 ^ (j * 4) ≤ 2 ^ 48 := Nat.pow_le_pow_right (by omega) (by omega)
  omega
theorem suitK_lt : ∀ s : Fin 4, ∀ k : Fin 14, suitK s.val k.val < 2 ^ 53 := by decide +kernel
theorem rank_cnt (xs : List Int) (h : cardsB xs = true) (j : Nat) (hj : j < 13) : pop 64 (maskOf xs &&& rankK j) = cnt (fun x => x / 4 == (j : Int)) xs := by
  have k := pop_mask (rankK j) xs h xs.length (Nat.le_refl _)
  rw [take_len] at k
  rw [k]
  refine cnt_congr fun x hx => ?_
  have hc := (cards_iff xs).1 h |>.1 x hx
  have := rankK_bit ⟨j, hj⟩ ⟨x.toNat, by omega⟩
  simp only at this
  rw [this, Bool.eq_iff_iff]
  simp
  omega
theorem suit_cnt (xs : List Int) (h : cardsB xs = true) (j : Nat) (hj : j < 4) : pop 64 (maskOf xs &&& suitK j 13) = cnt (fun x => x % 4 == (j : Int)) xs := by
  have k := pop_mask (suitK j 13) xs h xs.length (Nat.le_refl _)
  rw [take_len] at k
  rw [k]
  refine cnt_congr fun x hx => ?_
  have hc := (cards_iff xs).1 h |>.1 x hx
  have := suitK_bit ⟨j, hj⟩ ⟨x.toNat, by omega⟩
  simp only at this
  rw [this, Bool.eq_iff_iff]
  simp
  omega

theorem rankK_shift (j : Nat) (h : j < 13) : IntKind.u64.wrap (15 * 2 ^ (j * 4)) = ((rankK j : Nat) : Int) := by
  have l := rankK_lt j h
  have e : (15 : Int) * 2 ^ (j * 4) = ((rankK j : Nat) : Int) := by unfold rankK; simp
  rw [e]
  exact wraps_u64 _ (by omega) (by omega)
theorem suitK_step (s k : Nat) (hs : s < 4) (hk : k < 13) : bits .or .u64 (suitK s k : Nat) (IntKind.u64.wrap (2 ^ (k * 4 + s))) = ((suitK s (k + 1) : Nat) : Int) := by
  have l := suitK_lt ⟨s, hs⟩ ⟨k, by omega⟩
  simp only at l
  have p : 2 ^ (k * 4 + s) < 2 ^ 52 := pow_lt _ (by omega)
  have e : (2 : Int) ^ (k * 4 + s) = ((2 ^ (k * 4 + s) : Nat) : Int) := by simp
  have d : suitK s (k + 1) = suitK s k ||| 2 ^ (k * 4 + s) := rfl
  rw [e, d]
  generalize 2 ^ (k * 4 + s) = q at p
  rw [wraps_u64 _ (by omega) (by omega), u64_or _ _ (by omega) (by omega)]
set_option maxHeartbeats 400000 in
theorem cardsOfSuit_any (s : Nat) (w : World) (h : s < 4) :
    Calls Try.prog 58 #[.int .i64 s] w (Same (.int .u64 (suitK s 13 : Nat)) w) := by
  go_enter Try.func58, Try.ntmps58
  go_wp2
  go_loop [3, 5] (fun m i => ∃ k : Nat, k ≤ 13 ∧ i = .int .i64 k ∧ m = .int .u64 (suitK s k : Nat)) (fun _ i => 13 - (intOf i).toNat)
  case atStart => exact ⟨0, Nat.zero_le _, rfl, rfl⟩
  case round =>
    obtain ⟨k, hk, rfl, rfl⟩ := hrel
    by_cases hlt : k < 13
    · have H := Lib.hid (suitK_step s k h hlt)
      go_wp2
      go_round
      case rel => exact ⟨k + 1, by omega, by go_num, by rw [← H.out]⟩
      case measure => simp [intOf]; omega
    · obtain rfl : k = 13 := by omega
      go_wp2
      go_ret
      exact ⟨rfl, rfl⟩

/-- The counts that countsIn writes. -/
def popL (n : Nat) (K : Nat → Nat) (m : Nat) : List Int := (List.range n).map (fun j : Nat => (pop 64 (m &&& K j) : Int))
theorem popL_length (n : Nat) (K : Nat → Nat) (m : Nat) : (popL n K m).length = n := by simp [popL]
theorem popL_nth (n : Nat) (K : Nat → Nat) (m j : Nat) (h : j < n) : nth (popL n K m) j = (pop 64 (m &&& K j) : Int) := by
  rw [nth_eq _ _ (by rw [popL_length]; exact h)]; simp [popL]
theorem popL_eq (n : Nat) (K : Nat → Nat) (key : Int → Int) (xs : List Int) (h : ∀ j, j < n → pop 64 (maskOf xs &&& K j) = cnt (fun x => key x == (j : Int)) xs) : popL n K (maskOf xs) = cntL n key xs := by
  unfold popL cntL
  apply List.map_congr_left
  intro j hj
  rw [h j (by simpa using hj)]

set_option maxRecDepth 100000 in
set_option maxHeartbeats 1000000 in
theorem countsIn_no (A : Option Addr) (c : Nat) (xs : List Int) (w : World) (n : Int) (fv : Value) (hr : Rd w A xs) (hn : xs.length ≤ 4000000) (hb : cardsB xs = false) :
    Calls Try.prog 57 #[.slice A xs.length c, .int .i64 n, fv] w (Same (.tuple #[.slice none 0 0, .int .i64 1]) w) := by
  have K := Lib.hid (fun (c : Nat) => setOf_any A c xs w hr hn)
  have HB := Lib.hid hb
  clear hr hb
  unfold setV at K
  rw [setI_no HB.out, HB.out] at K
  go_enter Try.func57, Try.ntmps57
  go_wp2_with (go_at_call 92; refine (K.out _).mono ?_; rintro e w1 ⟨rfl, rfl⟩)
  go_ret2
  exact ⟨rfl, rfl⟩

set_option maxRecDepth 100000 in
set_option maxHeartbeats 1000000 in
theorem countsSuit_yes (A : Option Addr) (c : Nat) (xs : List Int) (w : World) (hr : Rd w A xs) (hn : xs.length ≤ 4000000) (hb : cardsB xs = true) :
    Calls Try.prog 57 #[.slice A xs.length c, .int .i64 4, .func (.func 58) #[] #[]] w (NewLC (popL 4 (fun j => suitK j 13) (maskOf xs)) 0 w) := by
  obtain ⟨i0, hi, hz0, hz1, hz2⟩ := info_parts infoInt
  have KS := Lib.hid (fun (c : Nat) => setOf_any A c xs w hr hn)
  have HB := Lib.hid hb
  have HM := Lib.hid (mask_lt xs hb)
  have HF : Hid (∀ (j : Nat) (W : World), j < 4 → Calls Try.prog 58 #[.int .i64 j] W (Same (.int .u64 (suitK j 13 : Nat)) W)) := Lib.hid (fun j W h => cardsOfSuit_any j W h)
  have HK : Hid (∀ j, j < 4 → suitK j 13 < 2 ^ 64) := Lib.hid (fun j h => by have := suitK_lt ⟨j, h⟩ ⟨13, by omega⟩; simp only at this; omega)
  clear hr hb
  unfold setV at KS
  rw [setI_yes HB.out, HB.out] at KS
  obtain ⟨m, hm⟩ : ∃ m, m = maskOf xs := ⟨_, rfl⟩
  rw [← hm] at KS HM ⊢
  clear hm
  have hyl := Lib.hid (popL_length 4 (fun j => suitK j 13) m)
  obtain ⟨w0, rfl⟩ : ∃ w0 : World, w0 = w := ⟨w, rfl⟩
  go_enter Try.func57, Try.ntmps57
  go_wp2_with (first
    | (go_at_call 92; refine (KS.out _).mono ?_; rintro e w1 ⟨rfl, rfl⟩)
    | (at_make; refine wpList_make_full _ rfl _ _ 24 rfl w0.heap.size 2 i0 (.int .i64 0) 1 Try.underlying24 hi hz0 hz1 .i64 .i64 _ _ 4 rfl rfl rfl rfl ?c1 ?c2 (Nat.le_refl _) ?_))
  case c1 => rw [hz2]; omega
  case c2 => unfold maxLen; omega
  intro w1 hown hgrow
  have HS : Hid (Copied w0 (popL 4 (fun j => suitK j 13) m) 0 w1) := Lib.hid ⟨by
    have e : (madeCells #[Value.int .i64 0] 4).toList = ints (mix (popL 4 (fun j => suitK j 13) m) 0) := by
      rw [mix_zero, ← ints_zeros, hyl.out]; exact toList_madeCells_one _ _
    rw [hyl.out]
    rwa [e] at hown, (bl_refl _).grown hgrow (Nat.le_refl _) (fun j hj => by cases hj)⟩
  clear hown hgrow
  go_wp2_with fail
  go_loopw [22] (fun i wr => ∃ k : Nat, k ≤ 4 ∧ i = .int .i64 k ∧ Hid (Copied w0 (popL 4 (fun j => suitK j 13) m) k wr)) (fun i _ => 4 - (intOf i).toNat)
  case atStart => exact ⟨0, Nat.zero_le _, rfl, HS⟩
  case round =>
    obtain ⟨k, hk, rfl, hs⟩ := hrel
    by_cases hlt : k < 4
    · obtain ⟨hg, hfz⟩ := copied_cell hs.out (by rw [hyl.out]; exact hlt)
      have hlt' : (k : Int) < 4 := by omega
      have e1 := u64_and m ((suitK k 13)) (by have := HM.out; omega) (HK.out k hlt)
      have HP := Lib.hid (popL_nth 4 (fun j => suitK j 13) m k hlt)
      have hand : m &&& (suitK k 13) < 2 ^ 64 := Nat.lt_of_le_of_lt Nat.and_le_left (by have := HM.out; omega)
      have KP := Lib.hid (fun W => size_any (m &&& (suitK k 13)) W hand)
      clear hand
      have KF := Lib.hid (fun W => HF.out k W hlt)
      go_wp2_with (first | (go_at_call 58; refine (KF.out _).mono ?_; rintro e w1 ⟨rfl, rfl⟩) | (go_at_call 93; refine (KP.out _).mono ?_; rintro e w1 ⟨rfl, rfl⟩))
      go_roundw
      case rel => exact ⟨k + 1, by omega, by go_num, Lib.hid (by have := copied_step hs.out (by rw [hyl.out]; exact hlt) 0; rw [HP.out] at this; exact this)⟩
      case measure => simp [intOf]; omega
    · obtain rfl : k = 4 := by omega
      go_wp2_with fail
      go_ret2
      have h := hs.out
      unfold Copied at h
      rw [hyl.out] at h
      have h1 := h.1
      have e := mix_all (popL 4 (fun j => suitK j 13) m)
      rw [hyl.out] at e
      rw [e] at h1
      refine ⟨some ⟨w0.heap.size, 0, none⟩, 4, ?_, ?_, h.2⟩
      · rw [hyl.out]; rfl
      · unfold Own; rw [hyl.out]; exact h1

/-- What RanksIn and SuitsIn answer. -/
def ranksL (xs : List Int) : List Int := if cardsB xs = true then cntL 13 (fun x => x / 4) xs else []
def suitsL (xs : List Int) : List Int := if cardsB xs = true then cntL 4 (fun x => x % 4) xs else []
theorem newLC_no {ys : List Int} {k : Int} {w : World} {e : Ending} {w' : World} (h : Same (.tuple #[.slice none 0 0, .int .i64 1]) w e w') (ey : ys = []) (ek : k = 1) : NewLC ys k w e w' := by
  obtain ⟨rfl, rfl⟩ := h
  subst ey ek
  exact ⟨none, 0, rfl, Own.nil w _, bl_refl _⟩
theorem ranks_yes (xs : List Int) (h : cardsB xs = true) : popL 13 (fun j => rankK j) (maskOf xs) = ranksL xs := by
  unfold ranksL; rw [if_pos h]; exact popL_eq 13 _ _ xs (fun j hj => rank_cnt xs h j hj)
theorem suits_yes (xs : List Int) (h : cardsB xs = true) : popL 4 (fun j => suitK j 13) (maskOf xs) = suitsL xs := by
  unfold suitsL; rw [if_pos h]; exact popL_eq 4 _ _ xs (fun j hj => suit_cnt xs h j hj)

set_option maxHeartbeats 400000 in
theorem implSuitsIn_any (A : Option Addr) (c : Nat) (xs : List Int) (w : World) (hr : Rd w A xs) (hn : xs.length ≤ 4000000) :
    Calls Try.prog 20 #[.slice A xs.length c] w (NewLC (suitsL xs) (codeC xs) w) := by
  have K : Hid (Calls Try.prog 57 #[.slice A xs.length c, .int .i64 4, .func (.func 58) #[] #[]] w (NewLC (suitsL xs) (codeC xs) w)) := by
    refine Lib.hid ?_
    by_cases h : cardsB xs = true
    · have := countsSuit_yes A c xs w hr hn h
      rw [suits_yes xs h] at this
      unfold codeC
      rw [if_pos h]
      exact this
    · have hb : cardsB xs = false := by simpa using h
      exact (countsIn_no A c xs w 4 _ hr hn hb).mono fun e w' hh => newLC_no hh (by unfold suitsL; rw [if_neg h]) (by unfold codeC; rw [if_neg h])
  clear hr
  go_enter Try.func20, Try.ntmps20
  go_wp2_with (go_at_call 57; refine K.out.mono ?_; rintro e w1 ⟨A1, c1, rfl, ho, hb⟩)
  go_ret2
  exact ⟨_, _, rfl, ho, hb⟩

end Go.Proofs.Ytajkgnheijhbpaa
