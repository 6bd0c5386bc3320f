/-
  RangeText: the model's.
-/
import Derived.Test.YtlpkaflmhdgmmaaClsText
import Derived.Test.YtlpkaflmhdgmmaaRngIs
import Derived.Lib.Join
namespace Go.Proofs.Ytlpkaflmhdgmmaa
open Go.RowKit
set_option linter.unusedVariables false

/-- The texts of classes, with commas between them. -/
def rtx (ks : List Int) : List UInt8 := Lib.join (ks.map clsT) [44]
theorem rtx_nil : rtx [] = [] := rfl
theorem rtx_one (k : Int) : rtx [k] = clsT k := Lib.join_one _ _
theorem rtx_snoc (ks : List Int) (k : Int) (h : ks ≠ []) : rtx (ks ++ [k]) = rtx ks ++ ([44] ++ clsT k) := by
  match ks, h with
  | x :: r, _ =>
    unfold rtx
    rw [List.cons_append, List.map_cons, List.map_cons, Lib.join_cons, Lib.join_cons]
    simp [Lib.joinTail]
theorem clsT_len (k : Int) : 2 ≤ (clsT k).length ∧ (clsT k).length ≤ 3 := by
  unfold clsT
  split
  · simp
  · split <;> simp
theorem rtx_len : ∀ ks : List Int, (rtx ks).length ≤ 4 * ks.length
  | [] => by simp [rtx_nil]
  | x :: r => by
    unfold rtx
    rw [List.map_cons, Lib.join_length, List.length_map, List.length_cons]
    have : Lib.lens (clsT x :: r.map clsT) ≤ 3 * (r.length + 1) := by
      have h : ∀ l : List Int, Lib.lens (l.map clsT) ≤ 3 * l.length := fun l => by
        induction l with
        | nil => simp [Lib.lens]
        | cons y l ih =>
          have := (clsT_len y).2
          unfold Lib.lens at ih ⊢
          simp only [List.map_cons, List.sum_cons, List.length_cons]
          omega
      exact h (x :: r)
    simp
    omega
theorem rtx_ne (ks : List Int) (h : ks ≠ []) : rtx ks ≠ [] := by
  match ks, h with
  | x :: r, _ =>
    unfold rtx
    rw [List.map_cons, Lib.join_cons]
    have h2 := (clsT_len x).1
    intro e
    have h3 := congrArg List.length e
    rw [List.length_append, List.length_nil] at h3
    omega
/-- The texts of the last k classes, the last one first. -/
def rtk (xs : List Int) (k : Nat) : List UInt8 := rtx (xs.reverse.take k)
theorem rtk_zero (xs : List Int) : rtk xs 0 = [] := by unfold rtk; rw [List.take_zero]; rfl
theorem rev_nth (xs : List Int) (k : Nat) (h : k < xs.length) : nth xs.reverse k = nth xs (xs.length - 1 - k) := by
  rw [nth_eq _ _ (by rw [List.length_reverse]; exact h), nth_eq xs _ (by omega), List.getElem_reverse]
theorem rtk_first (xs : List Int) (h : 0 < xs.length) : rtk xs 1 = clsT (nth xs (xs.length - 1)) := by
  unfold rtk
  rw [take_nth xs.reverse 0 (by rw [List.length_reverse]; exact h), List.take_zero, List.nil_append, rtx_one, rev_nth xs 0 h, Nat.sub_zero]
theorem rtk_next (xs : List Int) (k : Nat) (h0 : 0 < k) (h : k < xs.length) : rtk xs (k + 1) = rtk xs k ++ ([44] ++ clsT (nth xs (xs.length - 1 - k))) := by
  unfold rtk
  rw [take_nth xs.reverse k (by rw [List.length_reverse]; exact h), rtx_snoc _ _ (fun e => by
    have h3 := congrArg List.length e
    rw [List.length_take, List.length_reverse, List.length_nil] at h3
    omega), rev_nth xs k h]
theorem rtk_ne (xs : List Int) (k : Nat) (h0 : 0 < k) (h : k ≤ xs.length) : rtk xs k ≠ [] := rtx_ne _ (fun e => by
  have h3 := congrArg List.length e
  rw [List.length_take, List.length_reverse, List.length_nil] at h3
  omega)
theorem rtk_len (xs : List Int) (k : Nat) : (rtk xs k).length ≤ 4 * k := Nat.le_trans (rtx_len _) (Nat.mul_le_mul_left _ (by rw [List.length_take]; omega))
/-- What RangeText answers. -/
def rngT (xs : List Int) : List UInt8 := if rngB xs = true then rtx xs.reverse else []
def rngC (xs : List Int) : Int := if rngB xs = true then 0 else 1
theorem rngT_yes {xs : List Int} (h : rngB xs = true) : rngT xs = rtx xs.reverse ∧ rngC xs = 0 := by unfold rngT rngC; rw [if_pos h, if_pos h]; exact ⟨rfl, rfl⟩
theorem rngT_no {xs : List Int} (h : rngB xs = false) : rngT xs = [] ∧ rngC xs = 1 := by unfold rngT rngC; rw [h]; exact ⟨rfl, rfl⟩
theorem rtk_all (xs : List Int) : rtk xs xs.length = rtx xs.reverse := by
  unfold rtk; rw [List.take_of_length_le (by rw [List.length_reverse]; exact Nat.le_refl _)]
theorem add_str (l m : List UInt8) (h : l.length + m.length ≤ 1000000) (W : World) : (Op.stringOp .add (⟨l.toArray⟩ : ByteArray) ⟨m.toArray⟩).run Try.prog W = .ok (.string ⟨(l ++ m).toArray⟩) W := by
  rw [run_string_add_sum W _ _ (by simp [ByteArray.size]; omega)]
  congr 2
set_option maxRecDepth 100000 in
set_option maxHeartbeats 2000000 in
theorem l08Text_any (A : Option Addr) (c : Nat) (xs : List Int) (w : World) (hr : Rd w A xs) (hx : rngB xs = true) :
    Calls Try.prog 23 #[.slice A xs.length c] w (Fresh (strV (rtx xs.reverse)) w) := by
  have hn := rng_len hx
  have HX := Lib.hid hx
  have HR := Lib.hid hr
  clear hr hx
  rw [← rtk_all]
  obtain ⟨w0, rfl⟩ : ∃ w0 : World, w0 = w := ⟨w, rfl⟩
  go_enter Try.func23, Try.ntmps23
  go_wp2_with fail
  have HZ : Hid (([] : List UInt8) = rtk xs (xs.length - xs.length)) := Lib.hid (by rw [Nat.sub_self, rtk_zero])
  go_loopw [3, 4] (fun s i wr => ∃ (q : Nat) (l : List UInt8), q ≤ xs.length ∧ i = .int .i64 ((q : Int) - 1) ∧ s = .string ⟨l.toArray⟩ ∧ Hid (l = rtk xs (xs.length - q)) ∧ Hid (Below w0.heap.size w0 wr)) (fun _ i _ => ((intOf i) + 1).toNat)
  case atStart => exact ⟨xs.length, [], Nat.le_refl _, rfl, rfl, HZ, Lib.hid (bl_refl _)⟩
  case round =>
    obtain ⟨q, l, hk, rfl, rfl, hl, hb⟩ := hrel
    by_cases hlt : 0 < q
    · obtain ⟨b, off, rfl, hc0⟩ := (HR.out.below hb.out) (by omega)
      have hc := hc0 (q - 1) (by omega)
      have hj := rng_in HX.out (q - 1) (by omega)
      have hge : decide ((1 : Int) ≤ (q : Int)) = true := decide_eq_true (by omega)
      have e1 : ((q : Int) - 1).toNat = q - 1 := by omega
      have hlen : l.length ≤ 4 * 169 := by
        have := rtk_len xs (xs.length - q)
        rw [← hl.out] at this
        omega
      have ht := clsT_len (nth xs (q - 1))
      have KT := Lib.hid (fun W => l07Text_any (nth xs (q - 1)) W hj.1 hj.2)
      by_cases h0 : q = xs.length
      · have HF : Hid (clsT (nth xs (q - 1)) = rtk xs (xs.length - (q - 1))) := Lib.hid (by
          rw [show xs.length - (q - 1) = 1 by omega, h0]
          exact (rtk_first xs (by omega)).symm)
        obtain rfl : l = [] := by rw [hl.out, h0, Nat.sub_self, rtk_zero]
        have HA := add_str [] (clsT (nth xs (q - 1))) (by simp; omega)
        rw [List.nil_append] at HA
        generalize clsT (nth xs (q - 1)) = t at *
        generalize nth xs (q - 1) = x at *
        clear hc0 h0
        go_wp2_with (go_at_call 48; refine (KT.out _).mono ?_; rintro e w2 ⟨rfl, hb2⟩)
        go_roundw
        case rel => exact ⟨q - 1, t, by omega, by rw [show ((q - 1 : Nat) : Int) = (q : Int) - 1 by omega], rfl, HF, Lib.hid (bl_trans hb.out hb2)⟩
        case measure => simp [intOf]; omega
      · have HF : Hid (l ++ [44] ++ clsT (nth xs (q - 1)) = rtk xs (xs.length - (q - 1))) := Lib.hid (by
          rw [show xs.length - (q - 1) = (xs.length - q) + 1 by omega, rtk_next xs (xs.length - q) (by omega) (by omega), ← hl.out, List.append_assoc, show xs.length - 1 - (xs.length - q) = q - 1 by omega])
        have hne : (!l.isEmpty) = true := by
          have : l ≠ [] := by rw [hl.out]; exact rtk_ne xs _ (by omega) (by omega)
          simpa using this
        have HA := add_str l [44] (by simp; omega)
        have HA2 := add_str (l ++ [44]) (clsT (nth xs (q - 1))) (by simp; omega)
        generalize clsT (nth xs (q - 1)) = t at *
        generalize nth xs (q - 1) = x at *
        clear hc0 h0
        go_wp2_with (go_at_call 48; refine (KT.out _).mono ?_; rintro e w2 ⟨rfl, hb2⟩)
        go_roundw
        case rel => exact ⟨q - 1, l ++ 44 :: t, by omega, by rw [show ((q - 1 : Nat) : Int) = (q : Int) - 1 by omega], rfl, Lib.hid (by rw [← HF.out]; simp), Lib.hid (bl_trans hb.out hb2)⟩
        case measure => simp [intOf]; omega
    · obtain rfl : q = 0 := by omega
      have HL := hl.out
      rw [Nat.sub_zero] at HL
      have HN := Lib.hid HL
      clear HL
      go_wp2_with fail
      go_ret
      exact ⟨ret_strC (by rw [HN.out]), hb.out⟩
set_option maxRecDepth 100000 in
set_option maxHeartbeats 1000000 in
theorem specRangeText_any (A : Option Addr) (c : Nat) (xs : List Int) (w : World) (hr : Rd w A xs) (hn : xs.length ≤ 4000000) :
    Calls Try.prog 8 #[.slice A xs.length c] w (Fresh (.tuple #[strV (rngT xs), .int .i64 (rngC xs)]) w) := by
  have K := Lib.hid (fun (c : Nat) => specIsRange_any A c xs w hr hn)
  by_cases h : rngB xs = true
  · have e := rngT_yes h
    rw [e.1, e.2]
    rw [h] at K
    have KT := Lib.hid (fun (c : Nat) (W : World) (hb : Below w.heap.size w W) => l08Text_any A c xs W (hr.below hb) h)
    clear hr h e
    generalize rtx xs.reverse = l at *
    go_enter Try.func8, Try.ntmps8
    go_wp2_with (first
      | (go_at_call 22; refine (K.out _).mono ?_; rintro e w1 ⟨rfl, hb1⟩; have B1 := Lib.hid hb1; clear hb1)
      | (go_at_call 23; refine (KT.out _ _ B1.out).mono ?_; rintro e w2 ⟨rfl, hb2⟩; have B2 := Lib.hid (bl_trans B1.out hb2); clear hb2))
    go_ret2
    exact ⟨rfl, B2.out⟩
  · have hf : rngB xs = false := by simpa using h
    have e := rngT_no hf
    rw [e.1, e.2]
    rw [hf] at K
    clear hr h hf e
    go_enter Try.func8, Try.ntmps8
    go_wp2_with (go_at_call 22; refine (K.out _).mono ?_; rintro e w1 ⟨rfl, hb1⟩; have B1 := Lib.hid hb1; clear hb1)
    go_ret2
    exact ⟨rfl, B1.out⟩
end Go.Proofs.Ytlpkaflmhdgmmaa
