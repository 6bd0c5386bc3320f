/-
  The program's text of a card, and CardsText.
-/
import Derived.Test.YtoidchkgibngiaaDoorTextPure
import Derived.Test.YtoidchkgibngiaaDoorSetOf
import Derived.Test.YtoidchkgibngiaaDoorShelf
import Derived.Test.YtoidchkgibngiaaDoorBuilder
import Derived.WalkSpells
import Derived.Lib.AppendIntMem
import Derived.Laws.Concat
namespace Go.Proofs.YtoidchkgibngiaaDoor
open Go.RowKit
set_option linter.unusedVariables false

theorem ret_str {a b : ByteArray} (h : a = b) : Ending.returned (.string a) = .returned (.string b) := by rw [h]
/-- What a call leaves that only draws. -/
def Quiet (v : Value) (w : World) (e : Ending) (w' : World) : Prop := e = .returned v ∧ ∃ m, w' = w.drewN m

set_option maxRecDepth 100000 in
set_option maxHeartbeats 1000000 in
theorem text_any (x : Int) (w : World) (h0 : 0 ≤ x) (h1 : x < 52) :
    Calls Tryd.prog 23 #[.int .i64 x] w (Quiet (strV (cardT x)) w) := by
  obtain ⟨r, s, hr, hs, e1, e2, HT⟩ : ∃ r s : Nat, r < 13 ∧ s < 4 ∧ Hid (x / 4 = (r : Int)) ∧ Hid (x % 4 = (s : Int)) ∧ Hid (cardT x = [rankCh r, suitCh s]) := by
    refine ⟨x.toNat / 4, x.toNat % 4, by omega, by omega, Lib.hid (by omega), Lib.hid (by omega), Lib.hid rfl⟩
  have K1 : Hid (∀ W, Calls Tryd.prog 38 #[.int .i64 x] W (fun e w' => e = .returned (.int .i64 r) ∧ w' = W)) := Lib.hid (fun W => (rank_any x W h0 h1).mono fun _ _ ⟨he, hw⟩ => ⟨by rw [he, e1.out], hw.symm⟩)
  have K2 : Hid (∀ W, Calls Tryd.prog 39 #[.int .i64 x] W (fun e w' => e = .returned (.int .i64 s) ∧ w' = W)) := Lib.hid (fun W => (suit_any x W h0 h1).mono fun _ _ ⟨he, hw⟩ => ⟨by rw [he, e2.out], hw.symm⟩)
  have a1 : (r : Int) ≤ 13 := by omega
  have a2 : (r : Int) + 1 ≤ 13 := by omega
  have a3 : (s : Int) ≤ 4 := by omega
  have a4 : (s : Int) + 1 ≤ 4 := by omega
  have b1 : IntKind.i64.wrap ((r : Int) + 1) = (r : Int) + 1 := by rw [IntKind.wrap_i64]; omega
  have b2 : IntKind.i64.wrap ((s : Int) + 1) = (s : Int) + 1 := by rw [IntKind.wrap_i64]; omega
  have b3 : (0 : Int) ≤ (r : Int) + 1 := by omega
  have b4 : (0 : Int) ≤ (s : Int) + 1 := by omega
  have b5 : ((r : Int) + 1).toNat = r + 1 := by omega
  have b6 : ((s : Int) + 1).toNat = s + 1 := by omega
  have q : ∀ W : World, (Op.stringOp .add ((⟨#[50, 51, 52, 53, 54, 55, 56, 57, 84, 74, 81, 75, 65]⟩ : ByteArray).extract r (r + 1)) ((⟨#[99, 100, 104, 115]⟩ : ByteArray).extract s (s + 1))).run Tryd.prog W = .ok (.string ((⟨#[50, 51, 52, 53, 54, 55, 56, 57, 84, 74, 81, 75, 65]⟩ : ByteArray).extract r (r + 1) ++ (⟨#[99, 100, 104, 115]⟩ : ByteArray).extract s (s + 1))) W := fun W =>
    run_string_add_sum W _ _ (by rw [ByteArray.size_extract, ByteArray.size_extract]; omega)
  have HC := Lib.hid (cut_bytes r s hr hs)
  clear h0 h1
  go_enter Tryd.func23, Tryd.ntmps23
  go_wp2_with fail
  go_quiet ((first | (go_at_call 38; exact Calls.quiet_of_same (K1.out _)) | (go_at_call 39; exact Calls.quiet_of_same (K2.out _))))
  go_wp2_with fail
  go_ret
  exact ⟨ret_str (HC.out.trans (by rw [HT.out])), _, rfl⟩

/-- What CardsText answers. -/
def textR (xs : List Int) : List UInt8 := if cardsB xs = true then textT xs else []
theorem textR_yes {xs : List Int} (h : cardsB xs = true) : textR xs = textT xs := by unfold textR; rw [if_pos h]
theorem textR_no {xs : List Int} (h : cardsB xs = false) : textR xs = [] := by unfold textR; rw [h]; rfl
theorem codeC_yes {xs : List Int} (h : cardsB xs = true) : codeC xs = 0 := by unfold codeC; rw [if_pos h]
theorem codeC_no {xs : List Int} (h : cardsB xs = false) : codeC xs = 1 := by unfold codeC; rw [h]; rfl
/-- A text and a code, as a result. -/
def NewTC (l : List UInt8) (code : Int) (w : World) (e : Ending) (w' : World) : Prop := e = .returned (.tuple #[strV l, .int .i64 code]) ∧ Below w.heap.size w w'
/-- The writing loop's state. -/
def Wrote (w : World) (xs : List Int) (wr : World) : Prop := Bld w.heap.size w.heap.size (Lib.byteCells (textT xs)) wr ∧ Below w.heap.size w wr
theorem wrote_start (w : World) (xs : List Int) : Wrote w (xs.take 0) (w.alloc (.cells #[.pointer none, .slice none 0 0] 41)) :=
  ⟨by rw [List.take_zero]; exact Lib.fresh_isBuilder _ _ w, bl_alloc (bl_refl _) _⟩
theorem wrote_drew {w wr : World} {xs : List Int} (h : Wrote w xs wr) (m : Nat) : Wrote w xs (wr.drewN m) := ⟨h.1, bl_drewN h.2 m⟩
theorem wrote_step {w wr w1 : World} {xs : List Int} {x : Int} (h : Wrote w xs wr) (h1 : BldAt w.heap.size w.heap.size (Lib.byteCells (textT xs) ++ Lib.strCells ⟨(cardT x).toArray⟩) w1) (hb : Below w.heap.size wr w1) : Wrote w (xs ++ [x]) w1 := by
  refine ⟨.inr ?_, h.2.trans hb⟩
  have e : Lib.byteCells (textT xs) ++ Lib.strCells ⟨(cardT x).toArray⟩ = Lib.byteCells (textT (xs ++ [x])) := by
    rw [textT_snoc, Lib.strCells_toArray]
    simp [Lib.byteCells]
  rwa [e] at h1

set_option maxRecDepth 100000 in
set_option maxHeartbeats 1000000 in
theorem implText_yes (A : Option Addr) (c : Nat) (xs : List Int) (w : World) (hr : Rd w A xs) (hn : xs.length ≤ 4000000) (hb : cardsB xs = true) :
    Calls Tryd.prog 7 #[.slice A xs.length c] w (NewTC (textT xs) 0 w) := by
  have K : Hid (∀ c, Calls Tryd.prog 13 #[.slice A xs.length c] w (Same (.bool true) w)) := Lib.hid (fun c => by have := implAre_any A c xs w hr hn; rw [hb] at this; exact this)
  have HR := Lib.hid hr
  have HX := Lib.hid ((cards_iff xs).1 hb).1
  clear hr hb
  obtain ⟨w0, rfl⟩ : ∃ w0 : World, w0 = w := ⟨w, rfl⟩
  go_enter Tryd.func7, Tryd.ntmps7
  go_wp2_with (go_at_call 13; refine (K.out _).mono ?_; rintro e w1 ⟨rfl, rfl⟩)
  go_loopw [12] (fun i wr => ∃ k : Nat, k ≤ xs.length ∧ i = .int .i64 k ∧ Hid (Wrote w0 (xs.take k) wr)) (fun i _ => xs.length - (intOf i).toNat)
  case atStart => exact ⟨0, Nat.zero_le _, rfl, Lib.hid (wrote_start w0 xs)⟩
  case round =>
    obtain ⟨k, hk, rfl, hs⟩ := hrel
    by_cases hlt : k < xs.length
    · obtain ⟨b, off, rfl, hc⟩ := HR.out.at_ hs.out.2 k hlt
      have hlt' : (k : Int) < xs.length := by omega
      have HC := Lib.hid (take_nth xs k hlt)
      obtain ⟨h0, h1⟩ := HX.out _ (nth_mem xs k hlt)
      obtain ⟨x, ex⟩ : ∃ x, x = nth xs k := ⟨_, rfl⟩
      rw [← ex] at hc HC h0 h1
      clear ex
      have hl : (Lib.byteCells (textT (xs.take k))).length + (⟨(cardT x).toArray⟩ : ByteArray).size ≤ 100000000 := by
        rw [Lib.byteCells_length, textT_length, List.length_take]
        have : (⟨(cardT x).toArray⟩ : ByteArray).size = 2 := rfl
        omega
      have HL := Lib.hid hl
      clear hl
      go_wp2_with (first
        | (go_at_call 23; refine (text_any _ _ h0 h1).mono ?_; rintro e w2 ⟨rfl, m, rfl⟩; have W2 := Lib.hid (wrote_drew hs.out m))
        | (go_at_call 22; refine (writeString_any _ _ _ _ _ W2.out.1 HL.out W2.out.2.size).mono ?_; rintro e w3 ⟨rfl, h3, hb3⟩; have W3 := Lib.hid (wrote_step W2.out h3 hb3); clear h3 hb3))
      go_roundw
      case rel => exact ⟨k + 1, by omega, by go_num, by rw [HC.out]; exact W3⟩
      case measure => simp [intOf]; omega
    · obtain rfl : k = xs.length := by omega
      have HW : Hid (Wrote w0 xs wr) := Lib.hid (by have := hs.out; rwa [take_len] at this)
      go_wp2_with (go_at_call 24; refine (Tryd.Builder_String_any _ _ _ _ HW.out.1 HW.out.2.size).mono ?_; rintro e w2 ⟨rfl, hb2⟩)
      go_ret2
      exact ⟨rfl, HW.out.2.trans hb2⟩

set_option maxRecDepth 100000 in
set_option maxHeartbeats 400000 in
theorem implText_any (A : Option Addr) (c : Nat) (xs : List Int) (w : World) (hr : Rd w A xs) (hn : xs.length ≤ 4000000) :
    Calls Tryd.prog 7 #[.slice A xs.length c] w (NewTC (textR xs) (codeC xs) w) := by
  by_cases hb : cardsB xs = true
  · rw [textR_yes hb, codeC_yes hb]
    exact implText_yes A c xs w hr hn hb
  · have hf : cardsB xs = false := by simpa using hb
    rw [textR_no hf, codeC_no hf]
    have K : Hid (∀ c, Calls Tryd.prog 13 #[.slice A xs.length c] w (Same (.bool false) w)) := Lib.hid (fun c => by have := implAre_any A c xs w hr hn; rw [hf] at this; exact this)
    clear hr hb hf
    go_enter Tryd.func7, Tryd.ntmps7
    go_wp2_with (go_at_call 13; refine (K.out _).mono ?_; rintro e w1 ⟨rfl, rfl⟩)
    go_ret2
    exact ⟨rfl, bl_refl _⟩

end Go.Proofs.YtoidchkgibngiaaDoor
