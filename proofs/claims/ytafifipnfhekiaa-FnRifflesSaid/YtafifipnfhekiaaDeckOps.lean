/-
  CutDeck, RiffleDeck, UnriffleDeck, RestOfDeck: the program's walks.
-/
import Derived.Test.YtafifipnfhekiaaDeckIs
import Derived.Test.YtafifipnfhekiaaRearr
import Derived.Test.YtafifipnfhekiaaRow
namespace Go.Proofs.Ytafifipnfhekiaa
open Go.RowKit
set_option linter.unusedVariables false

theorem Row.of_arr {w : World} {g lo : Nat} {xs : List Int} (h : Arr w g xs) (hl : lo ≤ g) : Row w lo (some ⟨g, 0, none⟩) xs := by
  refine ⟨fun a e => ?_, fun h0 => ⟨g, 0, rfl, fun i hi => by rw [Nat.zero_add]; exact h.cell i hi⟩⟩
  obtain rfl := Option.some.inj e
  exact ⟨hl, h.lt⟩
/-- A deck's cells, as an array is loaded. -/
theorem rd_range {w : World} {b off : Nat} {xs : List Int} (h : ∀ i, i < xs.length → w.cell? ⟨b, off + i, none⟩ = some (.int .i64 (nth xs i))) : w.rangeAt b off (ints xs) := fun j v hv => by
  have hj : j < xs.length := by have := (List.getElem?_eq_some_iff.1 hv).1; rwa [ints_length] at this
  rw [ints_get xs j hj] at hv
  injection hv with hv
  rw [h j hj, hv]

theorem isCount_in (n : Int) (h0 : 0 ≤ n) (h1 : n ≤ 52) : inB n 0 52 = true := inB_yes _ _ _ h0 h1
set_option maxHeartbeats 400000 in
theorem isCount_any (n : Int) (w : World) :
    Calls Try.prog 59 #[.int .i64 n] w (Same (.bool (inB n 0 52)) w) := by
  by_cases h1 : n < 0
  · have H := Lib.hid (inB_lo n 0 52 h1)
    go_enter Try.func59, Try.ntmps59
    go_wp2
    go_ret
    exact ⟨ret_bool (by rw [H.out]), rfl⟩
  · by_cases h2 : 52 < n
    · have H := Lib.hid (inB_hi n 0 52 h2)
      have h2' : ¬ n ≤ 52 := by omega
      go_enter Try.func59, Try.ntmps59
      go_wp2
      go_ret
      exact ⟨ret_bool (by rw [H.out]), rfl⟩
    · have H := Lib.hid (isCount_in n (by omega) (by omega))
      go_enter Try.func59, Try.ntmps59
      go_wp2
      go_ret
      exact ⟨ret_bool (by rw [H.out]), rfl⟩
theorem count_bd {n : Int} (h : inB n 0 52 = true) : 0 ≤ n ∧ n ≤ 52 := by unfold inB at h; simpa using h

/-! The functions of places. -/
set_option maxHeartbeats 400000 in
theorem rifFn_any (p : Nat) (w : World) (h : p < 52) :
    Calls Try.prog 46 #[.int .i64 p] w (Same (.int .i64 (rifF p : Nat)) w) := by
  have h' : (p : Int) < 52 := by omega
  go_enter Try.func46, Try.ntmps46
  go_wp2
  go_ret
  exact ⟨ret_int (by unfold rifF; omega), rfl⟩
set_option maxHeartbeats 400000 in
theorem unrFn_any (p : Nat) (w : World) (h : p < 52) :
    Calls Try.prog 49 #[.int .i64 p] w (Same (.int .i64 (unrF p : Nat)) w) := by
  have h' : (p : Int) < 52 := by omega
  go_enter Try.func49, Try.ntmps49
  go_wp2
  go_ret
  exact ⟨ret_int (by unfold unrF; omega), rfl⟩
set_option maxHeartbeats 400000 in
theorem cutFn_any (p n q : Nat) (w : World) (h : p < 52) (hn : n ≤ 52) (hc : w.cell? ⟨q, 0, none⟩ = some (.int .i64 n)) :
    Calls Try.prog 67 #[.int .i64 p, .pointer (some ⟨q, 0, none⟩)] w (Same (.int .i64 (cutF n p : Nat)) w) := by
  have h' : (p : Int) < 52 := by omega
  have hn' : (n : Int) ≤ 52 := by omega
  go_enter Try.func67, Try.ntmps67
  go_wp2
  go_ret
  exact ⟨ret_int (by unfold cutF; omega), rfl⟩

/-! What the functions answer. -/
def rifR (xs : List Int) : List Int := if deckB xs = true then perm rifF xs else []
def unrR (xs : List Int) : List Int := if deckB xs = true then perm unrF xs else []
def cutR (xs : List Int) (n : Int) : List Int := if (deckB xs && inB n 0 52) = true then perm (cutF n.toNat) xs else []
def restR (xs : List Int) (n : Int) : List Int := if (deckB xs && inB n 0 52) = true then xs.drop n.toNat else []
/-- The code of a function of a deck alone. -/
def codeK (xs : List Int) : Int := if deckB xs = true then 0 else 1
theorem rifR_yes {xs : List Int} (h : deckB xs = true) : rifR xs = perm rifF xs := by unfold rifR; rw [if_pos h]
theorem rifR_no {xs : List Int} (h : deckB xs = false) : rifR xs = [] := by unfold rifR; rw [h]; rfl
theorem unrR_yes {xs : List Int} (h : deckB xs = true) : unrR xs = perm unrF xs := by unfold unrR; rw [if_pos h]
theorem unrR_no {xs : List Int} (h : deckB xs = false) : unrR xs = [] := by unfold unrR; rw [h]; rfl
theorem codeK_yes {xs : List Int} (h : deckB xs = true) : codeK xs = 0 := by unfold codeK; rw [if_pos h]
theorem codeK_no {xs : List Int} (h : deckB xs = false) : codeK xs = 1 := by unfold codeK; rw [h]; rfl
theorem cutR_yes {xs : List Int} {n : Int} (h : deckB xs = true) (h2 : inB n 0 52 = true) : cutR xs n = perm (cutF n.toNat) xs := by unfold cutR; rw [h, h2]; rfl
theorem cutR_no {xs : List Int} (n : Int) (h : deckB xs = false) : cutR xs n = [] := by unfold cutR; rw [h]; rfl
theorem cutR_out (xs : List Int) {n : Int} (h : inB n 0 52 = false) : cutR xs n = [] := by unfold cutR; rw [h, Bool.and_false]; rfl
theorem restR_yes {xs : List Int} {n : Int} (h : deckB xs = true) (h2 : inB n 0 52 = true) : restR xs n = xs.drop n.toNat := by unfold restR; rw [h, h2]; rfl
theorem restR_no {xs : List Int} (n : Int) (h : deckB xs = false) : restR xs n = [] := by unfold restR; rw [h]; rfl
theorem restR_out (xs : List Int) {n : Int} (h : inB n 0 52 = false) : restR xs n = [] := by unfold restR; rw [h, Bool.and_false]; rfl
theorem rifR_len (xs : List Int) : (rifR xs).length ≤ 52 := by unfold rifR; split <;> simp [perm_length]
theorem unrR_len (xs : List Int) : (unrR xs).length ≤ 52 := by unfold unrR; split <;> simp [perm_length]
theorem cutR_len (xs : List Int) (n : Int) : (cutR xs n).length ≤ 52 := by unfold cutR; split <;> simp [perm_length]
theorem restR_len (xs : List Int) (n : Int) : (restR xs n).length ≤ 52 := by
  unfold restR
  split
  · next h =>
    rw [Bool.and_eq_true] at h
    have := ((deck_iff xs).1 h.1).1
    rw [List.length_drop]; omega
  · simp

set_option maxRecDepth 100000 in
set_option maxHeartbeats 1000000 in
theorem implRiffle_any (A : Option Addr) (c : Nat) (xs : List Int) (w : World) (hr : Rd w A xs) (hn : xs.length ≤ 4000000) :
    Calls Try.prog 15 #[.slice A xs.length c] w (NewRC (rifR xs) (codeK xs) w) := by
  have K := Lib.hid (fun (c : Nat) => implIsDeck_any A c xs w hr hn)
  rcases hd : deckB xs with _ | _
  · rw [rifR_no hd, codeK_no hd]
    rw [hd] at K
    clear hd hr
    go_enter Try.func15, Try.ntmps15
    go_wp2_with (go_at_call 21; refine (K.out _).mono ?_; rintro e w1 ⟨rfl, rfl⟩)
    go_ret2
    exact ⟨none, 0, rfl, Row.nil _ _, bl_refl _⟩
  · rw [rifR_yes hd, codeK_yes hd]
    rw [hd] at K
    have hl := ((deck_iff xs).1 hd).1
    obtain ⟨b, off, rfl, hc⟩ := hr (by omega)
    have HC := Lib.hid (rd_range hc)
    have HL := Lib.hid hl
    have HP := Lib.hid (perm_length rifF xs)
    have K2 := Lib.hid (riffled_walk rifF xs w hl rifF_lt (Lib.hid (fun p W hp _ => rifFn_any p W hp)))
    simp only [hl] at K ⊢
    have hsa := run_arrayAt b off c
    clear hd hr hc hl hn
    generalize perm rifF xs = ys at *
    go_enter Try.func15, Try.ntmps15
    go_wp2_with (first
      | (go_at_call 21; refine (K.out _).mono ?_; rintro e w1 ⟨rfl, rfl⟩)
      | (with_reducible refine wpList_load_arr rfl (.tmp 9) rfl b off rfl xs HL.out HC.out ?_)
      | (go_at_call 47; refine K2.out.mono ?_; rintro e w1 ⟨rfl, hb⟩; have HB := Lib.hid hb; clear hb)
      | (go_at_call 48; refine (deckList_any ys _).mono ?_; rintro e w2 ⟨rfl, rfl⟩))
    go_ret2
    refine ⟨some ⟨w1.heap.size, 0, none⟩, 52, ?_, Row.of_arr (arr_new w1 ys) HB.out.size, bl_alloc HB.out _⟩
    rw [HP.out]
    rfl

set_option maxRecDepth 100000 in
set_option maxHeartbeats 1000000 in
theorem implUnriffle_any (A : Option Addr) (c : Nat) (xs : List Int) (w : World) (hr : Rd w A xs) (hn : xs.length ≤ 4000000) :
    Calls Try.prog 18 #[.slice A xs.length c] w (NewRC (unrR xs) (codeK xs) w) := by
  have K := Lib.hid (fun (c : Nat) => implIsDeck_any A c xs w hr hn)
  rcases hd : deckB xs with _ | _
  · rw [unrR_no hd, codeK_no hd]
    rw [hd] at K
    clear hd hr
    go_enter Try.func18, Try.ntmps18
    go_wp2_with (go_at_call 21; refine (K.out _).mono ?_; rintro e w1 ⟨rfl, rfl⟩)
    go_ret2
    exact ⟨none, 0, rfl, Row.nil _ _, bl_refl _⟩
  · rw [unrR_yes hd, codeK_yes hd]
    rw [hd] at K
    have hl := ((deck_iff xs).1 hd).1
    obtain ⟨b, off, rfl, hc⟩ := hr (by omega)
    have HC := Lib.hid (rd_range hc)
    have HL := Lib.hid hl
    have HP := Lib.hid (perm_length unrF xs)
    have K2 := Lib.hid (unriffled_walk unrF xs w hl unrF_lt (Lib.hid (fun p W hp _ => unrFn_any p W hp)))
    simp only [hl] at K ⊢
    have hsa := run_arrayAt b off c
    clear hd hr hc hl hn
    generalize perm unrF xs = ys at *
    go_enter Try.func18, Try.ntmps18
    go_wp2_with (first
      | (go_at_call 21; refine (K.out _).mono ?_; rintro e w1 ⟨rfl, rfl⟩)
      | (with_reducible refine wpList_load_arr rfl (.tmp 9) rfl b off rfl xs HL.out HC.out ?_)
      | (go_at_call 47; refine K2.out.mono ?_; rintro e w1 ⟨rfl, hb⟩; have HB := Lib.hid hb; clear hb)
      | (go_at_call 48; refine (deckList_any ys _).mono ?_; rintro e w2 ⟨rfl, rfl⟩))
    go_ret2
    refine ⟨some ⟨w1.heap.size, 0, none⟩, 52, ?_, Row.of_arr (arr_new w1 ys) HB.out.size, bl_alloc HB.out _⟩
    rw [HP.out]
    rfl

set_option maxRecDepth 100000 in
set_option maxHeartbeats 1000000 in
theorem implCut_any (A : Option Addr) (c : Nat) (xs : List Int) (n : Int) (w : World) (hr : Rd w A xs) (hn : xs.length ≤ 4000000) :
    Calls Try.prog 38 #[.slice A xs.length c, .int .i64 n] w (NewRC (cutR xs n) (codeD xs (inB n 0 52)) w) := by
  have K := Lib.hid (fun (c : Nat) (W : World) (hb : Below w.heap.size w W) => implIsDeck_any A c xs W (hr.below hb) hn)
  have K1 := Lib.hid (fun W : World => isCount_any n W)
  have B1 := Lib.hid (bl_alloc (bl_refl w) (.cells #[.int .i64 n] 2))
  rcases hd : deckB xs with _ | _
  · rw [cutR_no n hd, codeD_no hd]
    rw [hd] at K
    clear hd hr
    go_enter Try.func38, Try.ntmps38
    go_wp2_with (go_at_call 21; refine (K.out _ _ B1.out).mono ?_; rintro e w1 ⟨rfl, rfl⟩)
    go_ret2
    exact ⟨none, 0, rfl, Row.nil _ _, B1.out⟩
  · rw [hd] at K
    rcases hx : inB n 0 52 with _ | _
    · rw [cutR_out xs hx, codeD_rng hd]
      rw [hx] at K1
      clear hd hr hx
      go_enter Try.func38, Try.ntmps38
      go_wp2_with (first
        | (go_at_call 21; refine (K.out _ _ B1.out).mono ?_; rintro e w1 ⟨rfl, rfl⟩)
        | (go_at_call 59; refine (K1.out _).mono ?_; rintro e w1 ⟨rfl, rfl⟩))
      go_ret2
      exact ⟨none, 0, rfl, Row.nil _ _, B1.out⟩
    · rw [cutR_yes hd hx, codeD_yes hd]
      rw [hx] at K1
      obtain ⟨h0, h1⟩ := count_bd hx
      obtain ⟨m, rfl⟩ := Int.eq_ofNat_of_zero_le h0
      have hl := ((deck_iff xs).1 hd).1
      obtain ⟨b, off, rfl, hc⟩ := (hr.below B1.out) (by omega)
      have HC := Lib.hid (rd_range hc)
      have HL := Lib.hid hl
      have HP := Lib.hid (perm_length (cutF m) xs)
      have HQ : (w.alloc (.cells #[.int .i64 (m : Int)] 2)).cell? ⟨w.heap.size, 0, none⟩ = some (.int .i64 m) := by simp [go_sem]
      have K2 := Lib.hid (cut_walk (cutF m) w.heap.size xs (w.alloc (.cells #[.int .i64 (m : Int)] 2)) hl (fun p _ => cutF_lt m p) (Lib.hid (fun p W hp hb => cutFn_any p m w.heap.size W hp (by omega) ((hb.cell (p := ⟨w.heap.size, 0, none⟩) (by simp)).trans HQ))))
      simp only [hl, Int.toNat_natCast] at K ⊢
      have hsa := run_arrayAt b off c
      have hmf : ∀ (fn : Fn) (first cap : Array Value) (w : World), (Instr.makeFunc fn first cap).run Try.prog w = .ok (.func fn first cap) w := fun _ _ _ _ => rfl
      clear hd hr hc hl hn hx h0 h1 HQ
      generalize perm (cutF m) xs = ys at *
      go_enter Try.func38, Try.ntmps38
      go_wp2_with (first
        | (go_at_call 21; refine (K.out _ _ B1.out).mono ?_; rintro e w1 ⟨rfl, rfl⟩)
        | (go_at_call 59; refine (K1.out _).mono ?_; rintro e w1 ⟨rfl, rfl⟩)
        | (with_reducible refine wpList_load_arr rfl (.tmp 15) rfl b off rfl xs HL.out HC.out ?_)
        | (go_at_call 47; refine K2.out.mono ?_; rintro e w1 ⟨rfl, hb⟩; have HB := Lib.hid hb; clear hb)
        | (go_at_call 48; refine (deckList_any ys _).mono ?_; rintro e w2 ⟨rfl, rfl⟩))
      go_ret2
      have HB2 := bl_trans B1.out HB.out
      refine ⟨some ⟨w1.heap.size, 0, none⟩, 52, ?_, Row.of_arr (arr_new w1 ys) HB2.size, bl_alloc HB2 _⟩
      rw [HP.out]
      rfl

/-- Where the rest begins: at the end of a row the model keeps the row's own address. -/
def restAt (g n : Nat) : Option Addr := if 52 = n then some ⟨g, 0, none⟩ else some ⟨g, n, none⟩
theorem rest_row {w : World} {g lo n : Nat} {xs : List Int} (h : Arr w g xs) (hl : lo ≤ g) (hn : n ≤ 52) (hx : xs.length = 52) : Row w lo (restAt g n) (xs.drop n) := by
  unfold restAt
  have hr := Row.of_arr h hl
  split
  · next e =>
    subst e
    rw [List.drop_eq_nil_of_le (by omega)]
    exact ⟨hr.1, fun h0 => by simp at h0⟩
  · have := hr.drop n
    rwa [Nat.zero_add] at this
set_option maxRecDepth 100000 in
set_option maxHeartbeats 1000000 in
theorem implRest_any (A : Option Addr) (c : Nat) (xs : List Int) (n : Int) (w : World) (hr : Rd w A xs) (hn : xs.length ≤ 4000000) :
    Calls Try.prog 29 #[.slice A xs.length c, .int .i64 n] w (NewRC (restR xs n) (codeD xs (inB n 0 52)) w) := by
  have K := Lib.hid (fun (c : Nat) => implIsDeck_any A c xs w hr hn)
  have K1 := Lib.hid (fun W : World => isCount_any n W)
  rcases hd : deckB xs with _ | _
  · rw [restR_no n hd, codeD_no hd]
    rw [hd] at K
    clear hd hr
    go_enter Try.func29, Try.ntmps29
    go_wp2_with (go_at_call 21; refine (K.out _).mono ?_; rintro e w1 ⟨rfl, rfl⟩)
    go_ret2
    exact ⟨none, 0, rfl, Row.nil _ _, bl_refl _⟩
  · rw [hd] at K
    rcases hx : inB n 0 52 with _ | _
    · rw [restR_out xs hx, codeD_rng hd]
      rw [hx] at K1
      clear hd hr hx
      go_enter Try.func29, Try.ntmps29
      go_wp2_with (first
        | (go_at_call 21; refine (K.out _).mono ?_; rintro e w1 ⟨rfl, rfl⟩)
        | (go_at_call 59; refine (K1.out _).mono ?_; rintro e w1 ⟨rfl, rfl⟩))
      go_ret2
      exact ⟨none, 0, rfl, Row.nil _ _, bl_refl _⟩
    · rw [restR_yes hd hx, codeD_yes hd]
      rw [hx] at K1
      obtain ⟨h0, h1⟩ := count_bd hx
      obtain ⟨m, rfl⟩ := Int.eq_ofNat_of_zero_le h0
      have hl := ((deck_iff xs).1 hd).1
      obtain ⟨b, off, rfl, hc⟩ := hr (by omega)
      have HC := Lib.hid (rd_range hc)
      have HL := Lib.hid hl
      have hm : m ≤ 52 := by omega
      have HP : Hid ((xs.drop m).length = 52 - m) := Lib.hid (by rw [List.length_drop, hl])
      have HR := Lib.hid (rest_row (lo := w.heap.size) (arr_new w xs) (Nat.le_refl _) hm hl)
      simp only [hl, Int.toNat_natCast] at K ⊢
      have hsa := run_arrayAt b off c
      clear hd hr hc hl hn hx h0
      by_cases he : m = 52
      · subst he
        have HE : Hid (restAt w.heap.size 52 = some ⟨w.heap.size, 0, none⟩) := Lib.hid rfl
        simp only [Int.cast_ofNat_Int] at K1 ⊢
        clear hm h1
        go_enter Try.func29, Try.ntmps29
        go_wp2_with (first
          | (go_at_call 21; refine (K.out _).mono ?_; rintro e w1 ⟨rfl, rfl⟩)
          | (go_at_call 59; refine (K1.out _).mono ?_; rintro e w1 ⟨rfl, rfl⟩)
          | (with_reducible refine wpList_load_arr rfl (.tmp 13) rfl b off rfl xs HL.out HC.out ?_)
          | (go_at_call 48; refine (deckList_any xs _).mono ?_; rintro e w2 ⟨rfl, rfl⟩))
        go_ret2
        refine ⟨restAt w.heap.size 52, 0, ?_, HR.out, bl_alloc (bl_refl _) _⟩
        rw [HP.out, HE.out]
        rfl
      · have hne : ¬ 52 = m := fun e => he e.symm
        have HE : Hid (restAt w.heap.size m = some ⟨w.heap.size, m, none⟩) := Lib.hid (if_neg hne)
        clear he
        go_enter Try.func29, Try.ntmps29
        go_wp2_with (first
          | (go_at_call 21; refine (K.out _).mono ?_; rintro e w1 ⟨rfl, rfl⟩)
          | (go_at_call 59; refine (K1.out _).mono ?_; rintro e w1 ⟨rfl, rfl⟩)
          | (with_reducible refine wpList_load_arr rfl (.tmp 13) rfl b off rfl xs HL.out HC.out ?_)
          | (go_at_call 48; refine (deckList_any xs _).mono ?_; rintro e w2 ⟨rfl, rfl⟩))
        go_ret2
        refine ⟨restAt w.heap.size m, 52 - m, ?_, HR.out, bl_alloc (bl_refl _) _⟩
        rw [HP.out, HE.out]
        rfl
end Go.Proofs.Ytafifipnfhekiaa
