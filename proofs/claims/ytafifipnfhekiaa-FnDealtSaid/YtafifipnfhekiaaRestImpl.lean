/-
  RestOfDeck: the program's walk.
-/
import Derived.Test.YtafifipnfhekiaaDeckAns
namespace Go.Proofs.Ytafifipnfhekiaa
open Go.RowKit
set_option linter.unusedVariables false

/-- Where the rest begins: at the end of a row the model keeps the row's own address. -/
def restAt (g n : Nat) : Option Addr := if 52 = n then some ⟨g, 0, none⟩ else some ⟨g, n, none⟩
theorem rest_row {w : World} {g lo n : Nat} {xs : List Int} (h : Arr w g xs) (hl : lo ≤ g) (hn : n ≤ 52) (hx : xs.length = 52) : Row w lo (restAt g n) (xs.drop n) := by
  unfold restAt
  have hr := Row.of_arr h hl
  split
  · next e =>
    subst e
    rw [List.drop_eq_nil_of_le (by omega)]
    exact ⟨hr.1, fun h0 => by simp at h0⟩
  · have := hr.drop n
    rwa [Nat.zero_add] at this
set_option maxRecDepth 100000 in
set_option maxHeartbeats 1000000 in
theorem implRest_any (A : Option Addr) (c : Nat) (xs : List Int) (n : Int) (w : World) (hr : Rd w A xs) (hn : xs.length ≤ 4000000) :
    Calls Try.prog 29 #[.slice A xs.length c, .int .i64 n] w (NewRC (restR xs n) (codeD xs (inB n 0 52)) w) := by
  have K := Lib.hid (fun (c : Nat) => implIsDeck_any A c xs w hr hn)
  have K1 := Lib.hid (fun W : World => isCount_any n W)
  rcases hd : deckB xs with _ | _
  · rw [restR_no n hd, codeD_no hd]
    rw [hd] at K
    clear hd hr
    go_enter Try.func29, Try.ntmps29
    go_wp2_with (go_at_call 21; refine (K.out _).mono ?_; rintro e w1 ⟨rfl, rfl⟩)
    go_ret2
    exact ⟨none, 0, rfl, Row.nil _ _, bl_refl _⟩
  · rw [hd] at K
    rcases hx : inB n 0 52 with _ | _
    · rw [restR_out xs hx, codeD_rng hd]
      rw [hx] at K1
      clear hd hr hx
      go_enter Try.func29, Try.ntmps29
      go_wp2_with (first
        | (go_at_call 21; refine (K.out _).mono ?_; rintro e w1 ⟨rfl, rfl⟩)
        | (go_at_call 59; refine (K1.out _).mono ?_; rintro e w1 ⟨rfl, rfl⟩))
      go_ret2
      exact ⟨none, 0, rfl, Row.nil _ _, bl_refl _⟩
    · rw [restR_yes hd hx, codeD_yes hd]
      rw [hx] at K1
      obtain ⟨h0, h1⟩ := count_bd hx
      obtain ⟨m, rfl⟩ := Int.eq_ofNat_of_zero_le h0
      have hl := ((deck_iff xs).1 hd).1
      obtain ⟨b, off, rfl, hc⟩ := hr (by omega)
      have HC := Lib.hid (rd_range hc)
      have HL := Lib.hid hl
      have hm : m ≤ 52 := by omega
      have HP : Hid ((xs.drop m).length = 52 - m) := Lib.hid (by rw [List.length_drop, hl])
      have HR := Lib.hid (rest_row (lo := w.heap.size) (arr_new w xs) (Nat.le_refl _) hm hl)
      simp only [hl, Int.toNat_natCast] at K ⊢
      have hsa := run_arrayAt b off c
      clear hd hr hc hl hn hx h0
      by_cases he : m = 52
      · subst he
        have HE : Hid (restAt w.heap.size 52 = some ⟨w.heap.size, 0, none⟩) := Lib.hid rfl
        simp only [Int.cast_ofNat_Int] at K1 ⊢
        clear hm h1
        go_enter Try.func29, Try.ntmps29
        go_wp2_with (first
          | (go_at_call 21; refine (K.out _).mono ?_; rintro e w1 ⟨rfl, rfl⟩)
          | (go_at_call 59; refine (K1.out _).mono ?_; rintro e w1 ⟨rfl, rfl⟩)
          | (with_reducible refine wpList_load_arr rfl (.tmp 13) rfl b off rfl xs HL.out HC.out ?_)
          | (go_at_call 48; refine (deckList_any xs _).mono ?_; rintro e w2 ⟨rfl, rfl⟩))
        go_ret2
        refine ⟨restAt w.heap.size 52, 0, ?_, HR.out, bl_alloc (bl_refl _) _⟩
        rw [HP.out, HE.out]
        rfl
      · have hne : ¬ 52 = m := fun e => he e.symm
        have HE : Hid (restAt w.heap.size m = some ⟨w.heap.size, m, none⟩) := Lib.hid (if_neg hne)
        clear he
        go_enter Try.func29, Try.ntmps29
        go_wp2_with (first
          | (go_at_call 21; refine (K.out _).mono ?_; rintro e w1 ⟨rfl, rfl⟩)
          | (go_at_call 59; refine (K1.out _).mono ?_; rintro e w1 ⟨rfl, rfl⟩)
          | (with_reducible refine wpList_load_arr rfl (.tmp 13) rfl b off rfl xs HL.out HC.out ?_)
          | (go_at_call 48; refine (deckList_any xs _).mono ?_; rintro e w2 ⟨rfl, rfl⟩))
        go_ret2
        refine ⟨restAt w.heap.size m, 52 - m, ?_, HR.out, bl_alloc (bl_refl _) _⟩
        rw [HP.out, HE.out]
        rfl
end Go.Proofs.Ytafifipnfhekiaa
