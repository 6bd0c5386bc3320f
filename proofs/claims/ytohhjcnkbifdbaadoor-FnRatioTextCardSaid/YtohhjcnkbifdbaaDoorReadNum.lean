/-
  l01Value, l01Signed: a number is read.
-/
import Derived.Test.YtohhjcnkbifdbaaDoorReadPure
import Derived.Test.YtohhjcnkbifdbaaDoorDec
import Derived.Lib.Strings
namespace Go.Proofs.YtohhjcnkbifdbaaDoor
open Go.RowKit
set_option linter.unusedVariables false

/-- A number and whether the text is its own, as a result. -/
abbrev numV (n : Int) (b : Bool) : Value := .tuple #[.int .i64 n, .bool b]
def ValPost (l : List UInt8) (w : World) (e : Ending) (w' : World) : Prop := ∃ (n : Int) (b : Bool), Val l n b ∧ e = .returned (numV n b) ∧ Below w.heap.size w w'
def SgnPost (l : List UInt8) (w : World) (e : Ending) (w' : World) : Prop := ∃ (n : Int) (b : Bool), Sgn l n b ∧ e = .returned (numV n b) ∧ Below w.heap.size w w'

set_option maxRecDepth 100000 in
set_option maxHeartbeats 400000 in
theorem value_len (s : ByteArray) (w : World) (h : s.size < 1 ∨ 10 < s.size) :
    Calls Tryd.prog 31 #[.string s] w (ValPost s.data.toList w) := by
  have HV := Lib.hid (val_len (l := s.data.toList) h)
  rcases h with h | h
  · go_enter Tryd.func31, Tryd.ntmps31
    go_wp2_with fail
    go_ret2
    exact ⟨0, false, HV.out, rfl, bl_refl _⟩
  · have h1 : ¬ s.size < 1 := by omega
    go_enter Tryd.func31, Tryd.ntmps31
    go_wp2_with fail
    go_ret2
    exact ⟨0, false, HV.out, rfl, bl_refl _⟩

theorem num_ret {n : Int} {a b : Bool} (h : a = b) : Ending.returned (.tuple #[.int .i64 n, .bool a]) = .returned (numV n b) := by rw [h]
theorem take_all (s : ByteArray) : s.data.toList.take s.size = s.data.toList := List.take_of_length_le (Nat.le_refl _)
theorem take_snoc2 (s : ByteArray) (k : Nat) (h : k < s.size) : s.data.toList.take (k + 1) = s.data.toList.take k ++ [s[k]] := by
  rw [List.take_succ_eq_append_getElem (by simpa using h)]; rfl
theorem get_mem (s : ByteArray) (k : Nat) (h : k < s.size) : s[k] ∈ s.data.toList := by
  have : s[k] = s.data.toList[k]'(by simpa using h) := rfl
  rw [this]; exact List.getElem_mem _
theorem bytes_eq (s : ByteArray) (l : List UInt8) : ((⟨l.toArray⟩ : ByteArray) = s) ↔ l = s.data.toList := by
  constructor
  · intro h; rw [← h]
  · intro h; rw [h]

set_option maxRecDepth 100000 in
set_option maxHeartbeats 1000000 in
theorem value_any (s : ByteArray) (w : World) (h1 : 1 ≤ s.size) (h2 : s.size ≤ 10) :
    Calls Tryd.prog 31 #[.string s] w (ValPost s.data.toList w) := by
  have d1 : decide ((s.size : Int) < 1) = false := by simp; omega
  have d2 : decide ((10 : Int) < (s.size : Int)) = false := by simp; omega
  go_enter Tryd.func31, Tryd.ntmps31
  go_wp2_with fail
  go_loop [4, 5] (fun n i => ∃ k : Nat, k ≤ s.size ∧ i = .int .i64 k ∧ n = .int .i64 (spell 0 (s.data.toList.take k) : Nat) ∧ digs (s.data.toList.take k)) (fun _ i => s.size - (intOf i).toNat)
  case atStart => exact ⟨0, Nat.zero_le _, rfl, rfl, fun c hc => by simp at hc⟩
  case round =>
    obtain ⟨k, hk, rfl, rfl, hd⟩ := hrel
    have hb : spell 0 (s.data.toList.take k) ≤ 9999999999 := spell_ten hd (by rw [List.length_take]; omega)
    obtain ⟨n, hn⟩ : ∃ n, n = spell 0 (s.data.toList.take k) := ⟨_, rfl⟩
    rw [← hn] at hb ⊢
    have HN := Lib.hid hn
    have HD := Lib.hid hd
    clear hn hd
    by_cases hlt : k < s.size
    · have HT := Lib.hid (take_snoc2 s k hlt)
      by_cases c1 : (s[k].toNat : Int) < 48
      · have HV := Lib.hid (val_byte (get_mem s k hlt) (.inl (by omega)))
        go_wp2_with fail
        go_ret2
        exact ⟨0, false, HV.out, rfl, bl_refl _⟩
      · by_cases c2 : 57 < (s[k].toNat : Int)
        · have HV := Lib.hid (val_byte (get_mem s k hlt) (.inr (by omega)))
          go_wp2_with fail
          go_ret2
          exact ⟨0, false, HV.out, rfl, bl_refl _⟩
        · go_wp2_with fail
          go_round
          case rel => exact ⟨k + 1, by omega, by go_num, by rw [HT.out, spell_snoc, ← HN.out]; go_num, by rw [HT.out]; exact digs_snoc HD.out (by omega) (by omega)⟩
          case measure => simp [intOf]; omega
    · obtain rfl : k = s.size := by omega
      have HD' : Hid (digs s.data.toList ∧ n = spell 0 s.data.toList) := Lib.hid ⟨by have := HD.out; rwa [take_all] at this, by have := HN.out; rwa [take_all] at this⟩
      clear HD HN
      have K := Lib.hid (fun W => dec_of (n : Int) W (by omega) (by omega))
      by_cases ht : Lib.decDigits n = s.data.toList
      · have HV := Lib.hid (val_yes HD'.out.1 h2 (by rw [← HD'.out.2]; exact ht))
        have ht' := Lib.hid ht
        clear ht
        go_wp2_with (go_at_call 44; refine (K.out _).mono ?_; rintro e w1 ⟨rfl, hb1⟩)
        go_ret2
        exact ⟨n, true, by have := HV.out; rwa [← HD'.out.2] at this, num_ret (by rw [ht'.out]; simp [ByteArray.toList_eq]), hb1⟩
      · have HV := Lib.hid (val_no HD'.out.1 h2 (by rw [← HD'.out.2]; exact ht))
        have ht' := Lib.hid ht
        clear ht
        go_wp2_with (go_at_call 44; refine (K.out _).mono ?_; rintro e w1 ⟨rfl, hb1⟩)
        go_ret2
        exact ⟨n, false, by have := HV.out; rwa [← HD'.out.2] at this, num_ret (by have := ht'.out; simp [ByteArray.toList_eq, this]), hb1⟩

theorem value_str (s : ByteArray) (w : World) : Calls Tryd.prog 31 #[.string s] w (ValPost s.data.toList w) := by
  by_cases h1 : s.size < 1 ∨ 10 < s.size
  · exact value_len s w h1
  · exact value_any s w (by omega) (by omega)
theorem value_of (l : List UInt8) (w : World) : Calls Tryd.prog 31 #[strV l] w (ValPost l w) := value_str ⟨l.toArray⟩ w

set_option maxRecDepth 100000 in
set_option maxHeartbeats 400000 in
theorem signed_nil (s : ByteArray) (w : World) (h : ¬ 0 < s.size) : Calls Tryd.prog 30 #[.string s] w (SgnPost s.data.toList w) := by
  have K := Lib.hid (fun W => value_str s W)
  have HN : Hid (s.data.toList = []) := Lib.hid (List.length_eq_zero_iff.1 (by show s.size = 0; omega))
  go_enter Tryd.func30, Tryd.ntmps30
  go_wp2_with (go_at_call 31; refine (K.out _).mono ?_; rintro e w1 ⟨n, b, hv, rfl, hb1⟩; have HV := Lib.hid hv; clear hv)
  go_ret2
  exact ⟨n, b, sgn_plain HV.out (fun r h => by rw [HN.out] at h; cases h), rfl, hb1⟩

theorem list_head (s : ByteArray) (h : 0 < s.size) : s.data.toList = s[0] :: (s.extract 1 s.size).data.toList := by
  obtain ⟨⟨l⟩⟩ := s
  match l, h with
  | c :: r, _ =>
    rw [Lib.extract_eq]
    show c :: r = c :: List.take ((c :: r).length - 1) r
    rw [List.take_of_length_le (by simp)]

set_option maxRecDepth 100000 in
set_option maxHeartbeats 400000 in
theorem signed_plain (s : ByteArray) (w : World) (h0 : 0 < s.size) (hl : s.size ≤ 2000000) (hc : ((s[0].toNat : Int) == 45) = false) : Calls Tryd.prog 30 #[.string s] w (SgnPost s.data.toList w) := by
  have K := Lib.hid (fun W => value_str s W)
  have HC : Hid (s[0] ≠ 45) := Lib.hid (fun e => by rw [e] at hc; exact absurd hc (by decide))
  have HL := Lib.hid (list_head s h0)
  go_enter Tryd.func30, Tryd.ntmps30
  go_wp2_with (go_at_call 31; refine (K.out _).mono ?_; rintro e w1 ⟨n, b, hv, rfl, hb1⟩; have HV := Lib.hid hv; clear hv)
  go_ret2
  exact ⟨n, b, sgn_plain HV.out (fun q h => HC.out (by rw [HL.out] at h; exact (List.cons.inj h).1)), rfl, hb1⟩

set_option maxRecDepth 100000 in
set_option maxHeartbeats 400000 in
theorem signed_minus (s : ByteArray) (w : World) (h0 : 0 < s.size) (hl : s.size ≤ 2000000) (hc : ((s[0].toNat : Int) == 45) = true) : Calls Tryd.prog 30 #[.string s] w (SgnPost s.data.toList w) := by
  have K := Lib.hid (fun W => value_str (s.extract 1 s.size) W)
  have HL : Hid (s.data.toList = 45 :: (s.extract 1 s.size).data.toList) := Lib.hid (by
    have e : s[0] = 45 := UInt8.toNat_inj.1 (by simp at hc; show s[0].toNat = 45; omega)
    have := list_head s h0; rwa [e] at this)
  go_enter Tryd.func30, Tryd.ntmps30
  go_wp2_with (go_at_call 31; refine (K.out _).mono ?_; rintro e w1 ⟨n, b, hv, rfl, hb1⟩; have hn0 := hv.1; have hn1 := hv.2.1; have HV := Lib.hid hv; clear hv)
  all_goals
    go_ret2
    exact ⟨-n, _, by rw [HL.out]; exact sgn_minus HV.out, num_ret (by simp [*]), hb1⟩
theorem signed_str (s : ByteArray) (w : World) (hl : s.size ≤ 2000000) : Calls Tryd.prog 30 #[.string s] w (SgnPost s.data.toList w) := by
  by_cases h0 : 0 < s.size
  · rcases hc : ((s[0].toNat : Int) == 45) with _ | _
    · exact signed_plain s w h0 hl hc
    · exact signed_minus s w h0 hl hc
  · exact signed_nil s w h0
theorem signed_of (l : List UInt8) (w : World) (hl : l.length ≤ 2000000) : Calls Tryd.prog 30 #[strV l] w (SgnPost l w) := signed_str ⟨l.toArray⟩ w hl
end Go.Proofs.YtohhjcnkbifdbaaDoor
