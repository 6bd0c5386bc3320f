/-
  ClassText, ReadClass: the walks of the program's and of the model's functions.
-/
import Derived.Test.YtjmfecjgomkofaaDoorClsText
namespace Go.Proofs.YtjmfecjgomkofaaDoor
open Go.RowKit
set_option linter.unusedVariables false

/-- A text and a code, a number and a code, as a result. -/
abbrev txV (l : List UInt8) (c : Int) : Value := .tuple #[strV l, .int .i64 c]
theorem clsTR_yes {k : Int} (h0 : 0 ≤ k) (h1 : k < 169) : clsTR k = clsT k ∧ clsTC k = 0 := by unfold clsTR clsTC; rw [isCls_yes h0 h1]; exact ⟨rfl, rfl⟩
theorem clsTR_no {k : Int} (h : k < 0 ∨ 169 ≤ k) : clsTR k = [] ∧ clsTC k = 2 := by unfold clsTR clsTC; rw [isCls_no h]; exact ⟨rfl, rfl⟩
set_option maxHeartbeats 1000000 in
theorem implClassText_any (k : Int) (w : World) : Calls Tryd.prog 9 #[.int .i64 k] w (Fresh (txV (clsTR k) (clsTC k)) w) := by
  by_cases h : 0 ≤ k ∧ k < 169
  · obtain ⟨h0, h1⟩ := h
    have KI := Lib.hid (fun W => isClass_yes k W h0 h1)
    have KT := Lib.hid (fun W => implText_cls k W h0 h1)
    rw [(clsTR_yes h0 h1).1, (clsTR_yes h0 h1).2]
    generalize clsT k = l at *
    go_enter Tryd.func9, Tryd.ntmps9
    go_wp2_with (first | (go_at_call 25; refine (KI.out _).mono ?_; rintro e w1 ⟨rfl, rfl⟩) | (go_at_call 26; refine (KT.out _).mono ?_; rintro e w1 ⟨rfl, hb1⟩))
    go_ret2
    exact ⟨rfl, hb1⟩
  · have h' : k < 0 ∨ 169 ≤ k := by omega
    have KI := Lib.hid (fun W => isClass_no k W h')
    rw [(clsTR_no h').1, (clsTR_no h').2]
    clear h h'
    go_enter Tryd.func9, Tryd.ntmps9
    go_wp2_with (go_at_call 25; refine (KI.out _).mono ?_; rintro e w1 ⟨rfl, rfl⟩)
    go_ret2
    exact ⟨rfl, bl_refl _⟩
set_option maxHeartbeats 1000000 in
theorem specClassText_any (k : Int) (w : World) : Calls Tryd.prog 10 #[.int .i64 k] w (Fresh (txV (clsTR k) (clsTC k)) w) := by
  have KI := Lib.hid (fun W => l07Is_any k W)
  by_cases h : 0 ≤ k ∧ k < 169
  · obtain ⟨h0, h1⟩ := h
    rw [isCls_yes h0 h1] at KI
    have KT := Lib.hid (fun W => l07Text_any k W h0 h1)
    rw [(clsTR_yes h0 h1).1, (clsTR_yes h0 h1).2]
    generalize clsT k = l at *
    go_enter Tryd.func10, Tryd.ntmps10
    go_wp2_with (first | (go_at_call 27; refine (KI.out _).mono ?_; rintro e w1 ⟨rfl, rfl⟩) | (go_at_call 28; refine (KT.out _).mono ?_; rintro e w1 ⟨rfl, hb1⟩))
    go_ret2
    exact ⟨rfl, hb1⟩
  · have h' : k < 0 ∨ 169 ≤ k := by omega
    rw [isCls_no h'] at KI
    rw [(clsTR_no h').1, (clsTR_no h').2]
    clear h h'
    go_enter Tryd.func10, Tryd.ntmps10
    go_wp2_with (go_at_call 27; refine (KI.out _).mono ?_; rintro e w1 ⟨rfl, rfl⟩)
    go_ret2
    exact ⟨rfl, bl_refl _⟩

/-! ReadClass -/
/-- No class before k has the text. -/
def noneB (s : List UInt8) (k : Nat) : Prop := ∀ j : Nat, j < k → clsT (j : Int) ≠ s
theorem noneB_zero (s : List UInt8) : noneB s 0 := fun j h => by omega
theorem noneB_next {s : List UInt8} {k : Nat} (h : noneB s k) (hk : clsT (k : Int) ≠ s) : noneB s (k + 1) := fun j hj => by
  by_cases e : j = k
  · subst e; exact hk
  · exact h j (by omega)
theorem readR_at {l : List UInt8} {k : Nat} (h : readK l = (k : Int)) : readR l = (k : Int) ∧ readC l = 0 := by
  unfold readR readC; rw [h, if_neg (by omega), if_neg (by omega)]; exact ⟨rfl, rfl⟩
theorem readR_no {l : List UInt8} (h : readK l = -1) : readR l = 0 ∧ readC l = 6 := by
  unfold readR readC; rw [h]; exact ⟨rfl, rfl⟩
set_option maxRecDepth 100000 in
set_option maxHeartbeats 1000000 in
theorem implReadClass_any (s : ByteArray) (w : World) : Calls Tryd.prog 12 #[.string s] w (Fresh (pairV (readR s.data.toList) (readC s.data.toList)) w) := by
  have KT := Lib.hid (fun (k : Nat) W (h : k < 169) => implText_cls (k : Int) W (by omega) (by omega))
  obtain ⟨w0, rfl⟩ : ∃ w0 : World, w0 = w := ⟨w, rfl⟩
  go_enter Tryd.func12, Tryd.ntmps12
  go_wp2_with fail
  go_loopw [4, 5] (fun _ i wr => ∃ k : Nat, k ≤ 169 ∧ i = .int .i64 k ∧ Hid (noneB s.data.toList k) ∧ Hid (Below w0.heap.size w0 wr)) (fun _ i _ => 169 - (intOf i).toNat)
  case atStart => exact ⟨0, by omega, rfl, Lib.hid (noneB_zero _), Lib.hid (bl_refl _)⟩
  case round =>
    obtain ⟨k, hk, rfl, hs, hb⟩ := hrel
    by_cases hlt : k < 169
    · have K2 := Lib.hid (fun W => KT.out k W hlt)
      have HN := Lib.hid (fun h => @noneB_next s.data.toList k hs.out h)
      have HA := Lib.hid (fun h => readR_at (@readK_at s.data.toList k hlt h hs.out))
      have hlt' : (k : Int) < 169 := by omega
      generalize clsT (k : Int) = l at *
      by_cases he : l = s.data.toList
      · have q : (l == s.toList) = true := by rw [ByteArray.toList_eq]; simpa using he
        have HR := Lib.hid (HA.out he)
        clear he
        go_wp2_with (go_at_call 26; refine (K2.out _).mono ?_; rintro e w1 ⟨rfl, hb1⟩)
        go_ret2
        exact ⟨by rw [HR.out.1, HR.out.2]; rfl, bl_trans hb.out hb1⟩
      · have q : (l == s.toList) = false := by rw [ByteArray.toList_eq]; simpa using he
        have HR := Lib.hid (HN.out he)
        clear he
        go_wp2_with (go_at_call 26; refine (K2.out _).mono ?_; rintro e w1 ⟨rfl, hb1⟩)
        go_roundw
        case rel => exact ⟨k + 1, by omega, by go_num, HR, Lib.hid (bl_trans hb.out hb1)⟩
        case measure => simp [intOf]; omega
    · obtain rfl : k = 169 := by omega
      have HR := Lib.hid (readR_no (readK_no hs.out))
      go_wp2_with fail
      go_ret2
      exact ⟨by rw [HR.out.1, HR.out.2]; rfl, hb.out⟩
/-- The model's search. -/
theorem readK_val {l : List UInt8} {k : Nat} (hk : k < 169) (h : clsT (k : Int) = l) (hn : noneB l k) : readK l = (k : Int) := readK_at hk h hn
set_option maxRecDepth 100000 in
set_option maxHeartbeats 1000000 in
theorem l07Read_any (s : ByteArray) (w : World) : Calls Tryd.prog 30 #[.string s] w (Fresh (.int .i64 (readK s.data.toList)) w) := by
  have KT := Lib.hid (fun (k : Nat) W (h : k < 169) => l07Text_any (k : Int) W (by omega) (by omega))
  obtain ⟨w0, rfl⟩ : ∃ w0 : World, w0 = w := ⟨w, rfl⟩
  go_enter Tryd.func30, Tryd.ntmps30
  go_wp2_with fail
  go_loopw [3] (fun i wr => ∃ k : Nat, k ≤ 169 ∧ i = .int .i64 k ∧ Hid (noneB s.data.toList k) ∧ Hid (Below w0.heap.size w0 wr)) (fun i _ => 169 - (intOf i).toNat)
  case atStart => exact ⟨0, by omega, rfl, Lib.hid (noneB_zero _), Lib.hid (bl_refl _)⟩
  case round =>
    obtain ⟨k, hk, rfl, hs, hb⟩ := hrel
    by_cases hlt : k < 169
    · have K2 := Lib.hid (fun W => KT.out k W hlt)
      have HN := Lib.hid (fun h => @noneB_next s.data.toList k hs.out h)
      have HA := Lib.hid (fun h => @readK_val s.data.toList k hlt h hs.out)
      have hlt' : (k : Int) < 169 := by omega
      generalize clsT (k : Int) = l at *
      by_cases he : l = s.data.toList
      · have q : (l == s.toList) = true := by rw [ByteArray.toList_eq]; simpa using he
        have HR := Lib.hid (HA.out he)
        clear he
        go_wp2_with (go_at_call 28; refine (K2.out _).mono ?_; rintro e w1 ⟨rfl, hb1⟩)
        go_ret
        exact ⟨ret_int HR.out.symm, bl_trans hb.out hb1⟩
      · have q : (l == s.toList) = false := by rw [ByteArray.toList_eq]; simpa using he
        have HR := Lib.hid (HN.out he)
        clear he
        go_wp2_with (go_at_call 28; refine (K2.out _).mono ?_; rintro e w1 ⟨rfl, hb1⟩)
        go_roundw
        case rel => exact ⟨k + 1, by omega, by go_num, HR, Lib.hid (bl_trans hb.out hb1)⟩
        case measure => simp [intOf]; omega
    · obtain rfl : k = 169 := by omega
      have HR := Lib.hid (readK_no hs.out)
      go_wp2_with fail
      go_ret
      exact ⟨ret_int HR.out.symm, hb.out⟩
set_option maxHeartbeats 1000000 in
theorem specReadClass_any (s : ByteArray) (w : World) : Calls Tryd.prog 13 #[.string s] w (Fresh (pairV (readR s.data.toList) (readC s.data.toList)) w) := by
  have K := Lib.hid (fun W => l07Read_any s W)
  have hbd := readK_bd s.data.toList
  by_cases h : readK s.data.toList = -1
  · have HR := Lib.hid (readR_no h)
    rw [h] at K
    rw [HR.out.1, HR.out.2]
    clear h hbd HR
    go_enter Tryd.func13, Tryd.ntmps13
    go_wp2_with (go_at_call 30; refine (K.out _).mono ?_; rintro e w1 ⟨rfl, hb1⟩)
    go_ret2
    exact ⟨rfl, hb1⟩
  · have h0 : 0 ≤ readK s.data.toList := by rcases hbd with h' | h'; exact absurd h' h; exact h'.1
    have e1 : readR s.data.toList = readK s.data.toList ∧ readC s.data.toList = 0 := by unfold readR readC; rw [if_neg h, if_neg h]; exact ⟨rfl, rfl⟩
    rw [e1.1, e1.2]
    clear e1 hbd h
    generalize readK s.data.toList = k at *
    go_enter Tryd.func13, Tryd.ntmps13
    go_wp2_with (go_at_call 30; refine (K.out _).mono ?_; rintro e w1 ⟨rfl, hb1⟩)
    go_ret2
    exact ⟨rfl, hb1⟩
end Go.Proofs.YtjmfecjgomkofaaDoor
