/-
  The program's ReadCards.
-/
import Derived.Test.YtoidchkgibngiaaDoorCardRead
import Derived.Test.YtoidchkgibngiaaDoorCardOfImpl
import Derived.Test.YtoidchkgibngiaaDoorSetOf
import Derived.Test.YtoidchkgibngiaaDoorOthers
import Derived.Test.YtoidchkgibngiaaDoorShelf
import Derived.Lib.Strings
namespace Go.Proofs.YtoidchkgibngiaaDoor
open Go.RowKit
set_option linter.unusedVariables false

/-- What a call leaves that answers with nothing and ErrSyntax. -/
theorem newLC_syn (w : World) (l : List UInt8) (h : goodB l = false) {w' : World} (hb : Below w.heap.size w w') : NewLC (readL l) (codeS l) w (.returned (.tuple #[.slice none 0 0, .int .i64 6])) w' := by
  rw [readL_no h, codeS_no h]
  exact ⟨none, 0, rfl, Own.nil _ _, hb⟩
theorem byte_at (s : ByteArray) (j : Nat) (h : j < s.size) : s.data.toList.getD j 0 = s[j] := by
  rw [List.getD_eq_getElem?_getD, List.getElem?_eq_getElem (by simpa using h)]; rfl
theorem u8_nat (c : UInt8) : ((c.toNat : Int)).toNat.toUInt8 = c := by simp
theorem index_rank_any (c : UInt8) (w : World) :
    Calls Tryd.prog 30 #[.string ⟨#[50, 51, 52, 53, 54, 55, 56, 57, 84, 74, 81, 75, 65]⟩, .int .u8 c.toNat] w (Same (.int .i64 (Lib.indexByte rankL c)) w) :=
  (Tryd.strings_IndexByte _ _ w).mono fun e w' ⟨he, hw⟩ => ⟨by rw [he, u8_nat]; rfl, hw.symm⟩
theorem index_suit_any (c : UInt8) (w : World) :
    Calls Tryd.prog 30 #[.string ⟨#[99, 100, 104, 115]⟩, .int .u8 c.toNat] w (Same (.int .i64 (Lib.indexByte suitL c)) w) :=
  (Tryd.strings_IndexByte _ _ w).mono fun e w' ⟨he, hw⟩ => ⟨by rw [he, u8_nat]; rfl, hw.symm⟩

set_option maxRecDepth 100000 in
set_option maxHeartbeats 400000 in
theorem implRead_odd (s : ByteArray) (w : World) (hs : s.size ≤ 2000000) (h : s.size % 2 = 1) :
    Calls Tryd.prog 10 #[.string s] w (NewLC (readL s.data.toList) (codeS s.data.toList) w) := by
  have HG := Lib.hid (newLC_syn w s.data.toList (good_no (fun hh => by
    have := hh.1
    have : s.data.toList.length = s.size := rfl
    omega)) (bl_refl w))
  have e1 : (s.size : Int) % 2 = 1 := by omega
  go_enter Tryd.func10, Tryd.ntmps10
  go_wp2_with fail
  go_ret2
  exact HG.out
set_option maxRecDepth 100000 in
set_option maxHeartbeats 400000 in
theorem implRead_long (s : ByteArray) (w : World) (hs : s.size ≤ 2000000) (h : s.size % 2 = 0) (hl : 104 < s.size) :
    Calls Tryd.prog 10 #[.string s] w (NewLC (readL s.data.toList) (codeS s.data.toList) w) := by
  have HG := Lib.hid (newLC_syn w s.data.toList (good_no (fun hh => by
    have := cards_len _ hh.2.2
    rw [prs_length] at this
    have : s.data.toList.length = s.size := rfl
    omega)) (bl_refl w))
  have e1 : (s.size : Int) % 2 = 0 := by omega
  have e2 : (104 : Int) < s.size := by omega
  go_enter Tryd.func10, Tryd.ntmps10
  go_wp2_with fail
  go_ret2
  exact HG.out

/-- The i-th round's bytes, as the answers see them. -/
theorem rAt_of (s : ByteArray) (k j : Nat) (e : j = 2 * k) (h : j < s.size) : Lib.indexByte rankL s[j] = rAt s.data.toList k := by unfold rAt; rw [← e, byte_at s j h]
theorem sAt_of (s : ByteArray) (k j : Nat) (e : j = 2 * k) (h : j + 1 < s.size) : Lib.indexByte suitL s[j + 1] = sAt s.data.toList k := by unfold sAt; rw [← e, byte_at s (j + 1) h]
theorem good_bad (s : ByteArray) (k : Nat) (h : 2 * k + 1 < s.size) (hok : ¬ (0 ≤ rAt s.data.toList k ∧ 0 ≤ sAt s.data.toList k)) : goodB s.data.toList = false := good_no (fun hh => by
  have := hh.2.1 k (by show k < s.size / 2; omega)
  unfold okAt at this
  simp only [decide_eq_true_eq] at this
  exact hok this)
/-- All rounds so far were good. -/
def oks (l : List UInt8) (k : Nat) : Prop := ∀ j, j < k → okAt l j = true
theorem oks_snoc {l : List UInt8} {k : Nat} (h : oks l k) (h0 : 0 ≤ rAt l k) (h1 : 0 ≤ sAt l k) : oks l (k + 1) := fun j hj => by
  by_cases e : j = k
  · subst e; unfold okAt; simp [h0, h1]
  · exact h j (by omega)
theorem good_end (s : ByteArray) (k : Nat) (h : s.size = 2 * k) (ho : oks s.data.toList k) : goodB s.data.toList = cardsB (prs s.data.toList k) := by
  have e : s.data.toList.length / 2 = k := by show s.size / 2 = k; omega
  have e2 : s.data.toList.length % 2 = 0 := by show s.size % 2 = 0; omega
  rw [Bool.eq_iff_iff, good_iff, e]
  exact ⟨fun hh => hh.2.2, fun hh => ⟨e2, ho, hh⟩⟩

set_option maxRecDepth 100000 in
set_option maxHeartbeats 2000000 in
theorem implRead_in (s : ByteArray) (w : World) (hs : s.size ≤ 104) (he : s.size % 2 = 0) :
    Calls Tryd.prog 10 #[.string s] w (NewLC (readL s.data.toList) (codeS s.data.toList) w) := by
  obtain ⟨i0, hi, hz0, hz1, hz2⟩ := info_parts infoInt
  obtain ⟨n, hn⟩ : ∃ n, s.size = 2 * n := ⟨s.size / 2, by omega⟩
  have HN := Lib.hid hn
  clear hn
  have e1 : (s.size : Int) % 2 = 0 := by omega
  have e2 : (s.size : Int) ≤ 104 := by omega
  have e3 : (s.size : Int) / 2 = (n : Int) := by have := HN.out; omega
  have hn52 : n ≤ 52 := by have := HN.out; omega
  obtain ⟨w0, rfl⟩ : ∃ w0 : World, w0 = w := ⟨w, rfl⟩
  go_enter Tryd.func10, Tryd.ntmps10
  go_wp2_with (at_make; refine wpList_make_own _ rfl _ _ 24 rfl w0.heap.size 2 i0 (.int .i64 0) 1 Tryd.underlying24 hi hz0 hz1 .i64 .i64 _ n rfl rfl rfl ?c1 ?c2 (Nat.le_refl _) ?_)
  case c1 => rw [hz2]; omega
  case c2 => unfold maxLen; omega
  intro w1 hown hgrow
  have HS : Hid (Grow w0 (prs s.data.toList 0) (.slice (some ⟨w0.heap.size, 0, none⟩) 0 n) w1) := Lib.hid ⟨hown, (bl_refl _).grown hgrow (Nat.le_refl _) (fun j hj => by cases hj)⟩
  clear hown hgrow e1 e3
  go_wp2_with fail
  go_loopw [4, 5] (fun v i wr => ∃ k j : Nat, k ≤ n ∧ Hid (j = 2 * k) ∧ i = .int .i64 j ∧ Hid (Grow w0 (prs s.data.toList k) v wr) ∧ Hid (oks s.data.toList k)) (fun _ i _ => s.size - (intOf i).toNat)
  case atStart => exact ⟨0, 0, Nat.zero_le _, Lib.hid rfl, rfl, HS, Lib.hid (fun j hj => absurd hj (by omega))⟩
  case round =>
    obtain ⟨k, j, hk, ej, rfl, hS, hO⟩ := hrel
    by_cases hlt : j < s.size
    · have hlt1 : j + 1 < s.size := by have := ej.out; have := HN.out; omega
      have hl1 : (j : Int) + 1 < s.size := by omega
      have hl2 : ((j : Int) + 1).toNat = j + 1 := by omega
      have hlen := Lib.hid (prs_length s.data.toList k)
      have hkn : k < n := by have := ej.out; have := HN.out; omega
      obtain ⟨r, er⟩ : ∃ r, r = rAt s.data.toList k := ⟨_, rfl⟩
      obtain ⟨q, eq⟩ : ∃ q, q = sAt s.data.toList k := ⟨_, rfl⟩
      have ER := Lib.hid er
      have EQ := Lib.hid eq
      have hrb : -1 ≤ r ∧ r ≤ 12 := by rw [er]; exact rAt_bd _ _
      have hqb : -1 ≤ q ∧ q ≤ 3 := by rw [eq]; exact sAt_bd _ _
      clear er eq
      have K1 : Hid (∀ W, Calls Tryd.prog 30 #[.string ⟨#[50, 51, 52, 53, 54, 55, 56, 57, 84, 74, 81, 75, 65]⟩, .int .u8 s[j].toNat] W (Same (.int .i64 r) W)) := Lib.hid (fun W => by
        have := index_rank_any s[j] W
        rw [rAt_of s k j ej.out hlt, ← ER.out] at this; exact this)
      have K2 : Hid (∀ W, Calls Tryd.prog 30 #[.string ⟨#[99, 100, 104, 115]⟩, .int .u8 s[j + 1].toNat] W (Same (.int .i64 q) W)) := Lib.hid (fun W => by
        have := index_suit_any s[j + 1] W
        rw [sAt_of s k j ej.out hlt1, ← EQ.out] at this; exact this)
      by_cases hok : 0 ≤ r ∧ 0 ≤ q
      · have K3 : Hid (∀ W, Calls Tryd.prog 31 #[.int .i64 r, .int .i64 q] W (Same (pairV (4 * r + q) 0) W)) := Lib.hid (fun W => by
          have := implCardOf_any r q W
          rw [cardR_yes r q hok.1 hrb.2 hok.2 hqb.2] at this; exact this)
        have HO2 := Lib.hid (oks_snoc hO.out (by rw [← ER.out]; exact hok.1) (by rw [← EQ.out]; exact hok.2))
        clear hok hrb hqb
        go_wp2_with (first
          | (go_at_call 30; first | ((with_reducible refine (K1.out _).mono ?_); rintro e w2 ⟨rfl, rfl⟩) | ((with_reducible refine (K2.out _).mono ?_); rintro e w2 ⟨rfl, rfl⟩))
          | (go_at_call 31; refine (K3.out _).mono ?_; rintro e w2 ⟨rfl, rfl⟩)
          | (at_builtin; refine wpList_append_own _ rfl _ _ 24 rfl w0.heap.size 2 i0 (.int .i64 0) 1 8 Tryd.underlying24 hi hz0 hz1 hz2 rfl (by decide) _ _ _ rfl (hS.out.1.alloc _) ⟨wr.heap.size, 0, none⟩ 1 1 [.int .i64 (4 * r + q)] rfl rfl ?c1 ?c2 ?c3 ?c4 ?c5 ?_))
        case c1 =>
          intro i u hj
          match i, hj with
          | 0, hj => simp at hj; subst hj; simp [Addr.add]
        case c2 => intro u hu; simp at hu; subst hu; rfl
        case c3 => have := hlen.out; unfold maxLen; omega
        case c4 => have := hlen.out; omega
        case c5 => have := hS.out.2.size; simp; omega
        intro v' w3 hown' hgrow _
        have HG : Hid (Grow w0 (prs s.data.toList (k + 1)) v' w3) := Lib.hid (by
          have := grow_app hS.out hown' hgrow
          rw [ER.out, EQ.out] at this
          rw [prs_snoc]; exact this)
        clear hown' hgrow
        go_wp2_with fail
        go_roundw
        case rel => exact ⟨k + 1, j + 2, by omega, Lib.hid (by have := ej.out; omega), by go_num, HG, HO2⟩
        case measure => simp [intOf]; omega
      · have K3 : Hid (∀ W, Calls Tryd.prog 31 #[.int .i64 r, .int .i64 q] W (Same (pairV 0 2) W)) := Lib.hid (fun W => by
          have := implCardOf_any r q W
          by_cases hr0 : 0 ≤ r
          · rw [cardR_s r q (.inl (by omega))] at this; exact this
          · rw [cardR_r r q (.inl (by omega))] at this; exact this)
        have HG := Lib.hid (newLC_syn w0 s.data.toList (good_bad s k (by have := ej.out; omega) (by rw [← ER.out, ← EQ.out]; exact hok)) hS.out.2)
        clear hok hrb hqb
        go_wp2_with (first
          | (go_at_call 30; first | ((with_reducible refine (K1.out _).mono ?_); rintro e w2 ⟨rfl, rfl⟩) | ((with_reducible refine (K2.out _).mono ?_); rintro e w2 ⟨rfl, rfl⟩))
          | (go_at_call 31; refine (K3.out _).mono ?_; rintro e w2 ⟨rfl, rfl⟩))
        go_ret2
        exact HG.out
    · have hkn : k = n := by have := ej.out; have := HN.out; omega
      have HE := Lib.hid (good_end s k (by rw [hkn]; exact HN.out) hO.out)
      have hlen := Lib.hid (prs_length s.data.toList k)
      obtain ⟨A, cc, rfl, hOwn⟩ := own_form hS.out.1
      have HW := Lib.hid hOwn
      have hl4 : (prs s.data.toList k).length ≤ 4000000 := by have := hlen.out; omega
      have K4 := Lib.hid (fun c => implAre_any A c _ wr HW.out.rd hl4)
      have HK := Lib.hid hkn
      have HR : Hid (goodB s.data.toList = true → readL s.data.toList = prs s.data.toList k) := Lib.hid (fun h => by
        rw [readL_yes h]
        congr 1
        show s.size / 2 = k
        have := HN.out
        have := HK.out
        omega)
      clear hOwn hkn
      generalize prs s.data.toList k = ys at *
      rcases hb : cardsB ys with _ | _
      · have HG := Lib.hid (newLC_syn w0 s.data.toList (HE.out.trans hb) hS.out.2)
        rw [hb] at K4
        clear hb
        go_wp2_with (go_at_call 13; refine (K4.out _).mono ?_; rintro e w2 ⟨rfl, rfl⟩)
        go_ret2
        exact HG.out
      · have hg := HE.out.trans hb
        have HG : Hid (readL s.data.toList = ys ∧ codeS s.data.toList = 0) := Lib.hid ⟨HR.out hg, codeS_yes hg⟩
        rw [hb] at K4
        clear hb hg
        go_wp2_with (go_at_call 13; refine (K4.out _).mono ?_; rintro e w2 ⟨rfl, rfl⟩)
        go_ret2
        rw [HG.out.1, HG.out.2]
        exact ⟨_, _, rfl, HW.out, hS.out.2⟩

theorem implRead_any (s : ByteArray) (w : World) (hs : s.size ≤ 2000000) :
    Calls Tryd.prog 10 #[.string s] w (NewLC (readL s.data.toList) (codeS s.data.toList) w) := by
  by_cases h : s.size % 2 = 0
  · by_cases hl : s.size ≤ 104
    · exact implRead_in s w hl h
    · exact implRead_long s w hs h (by omega)
  · exact implRead_odd s w hs (by omega)
end Go.Proofs.YtoidchkgibngiaaDoor
