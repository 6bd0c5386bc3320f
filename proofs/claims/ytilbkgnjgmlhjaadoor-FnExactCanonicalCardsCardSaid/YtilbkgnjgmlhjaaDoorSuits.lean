/-
  The model's l07Suits: all 24 exchanges as lists.
-/
import Derived.Test.YtilbkgnjgmlhjaaDoorFam1
import Derived.Test.YtilbkgnjgmlhjaaDoorExchPure
import Derived.BigQuiet
namespace Go.Proofs.YtilbkgnjgmlhjaaDoor
open Go.RowKit
set_option linter.unusedVariables false

theorem sdig_eq (n : Nat) : sdig n = [(n : Int) / 64, (n : Int) / 16 % 4, (n : Int) / 4 % 4, (n : Int) % 4] := by
  have e1 : (((n / 64 : Nat)) : Int) = (n : Int) / 64 := by omega
  have e2 : (((n / 16 % 4 : Nat)) : Int) = (n : Int) / 16 % 4 := by omega
  have e3 : (((n / 4 % 4 : Nat)) : Int) = (n : Int) / 4 % 4 := by omega
  have e4 : (((n % 4 : Nat)) : Int) = (n : Int) % 4 := by omega
  unfold sdig
  rw [e1, e2, e3, e4]
theorem okX_fin : ∀ n : Fin 256, okX n.val = ((nth (sdig n.val) 0 != nth (sdig n.val) 1) && (nth (sdig n.val) 0 != nth (sdig n.val) 2) && (nth (sdig n.val) 0 != nth (sdig n.val) 3) && (nth (sdig n.val) 1 != nth (sdig n.val) 2) && (nth (sdig n.val) 1 != nth (sdig n.val) 3) && (nth (sdig n.val) 2 != nth (sdig n.val) 3)) := by decide +kernel
theorem okX_cases {n : Nat} (hn : n < 256) {a b c d : Int} (e : sdig n = [a, b, c, d]) :
    (okX n = true ∧ (a != b) = true ∧ (a != c) = true ∧ (a != d) = true ∧ (b != c) = true ∧ (b != d) = true ∧ (c != d) = true) ∨
    (okX n = false ∧ (a != b) = false) ∨ (okX n = false ∧ (a != b) = true ∧ (a != c) = false) ∨ (okX n = false ∧ (a != b) = true ∧ (a != c) = true ∧ (a != d) = false) ∨
    (okX n = false ∧ (a != b) = true ∧ (a != c) = true ∧ (a != d) = true ∧ (b != c) = false) ∨
    (okX n = false ∧ (a != b) = true ∧ (a != c) = true ∧ (a != d) = true ∧ (b != c) = true ∧ (b != d) = false) ∨
    (okX n = false ∧ (a != b) = true ∧ (a != c) = true ∧ (a != d) = true ∧ (b != c) = true ∧ (b != d) = true ∧ (c != d) = false) := by
  have k := okX_fin ⟨n, hn⟩
  simp only [e, nth, List.getD_cons_zero, List.getD_cons_succ] at k
  rw [k]
  clear k e
  generalize (a != b) = p1
  generalize (a != c) = p2
  generalize (a != d) = p3
  generalize (b != c) = p4
  generalize (b != d) = p5
  generalize (c != d) = p6
  cases p1 <;> cases p2 <;> cases p3 <;> cases p4 <;> cases p5 <;> cases p6 <;> simp
/-- An exchange by its number. -/
theorem exN_take : ∀ n, n ≤ 256 → ∀ k, k < (exN n).length → (exN 256).getD k [] = (exN n).getD k [] := by
  intro n hn k hk
  have ext : ∀ j, ∃ r, exN (n + j) = exN n ++ r := by
    intro j
    induction j with
    | zero => exact ⟨[], by simp⟩
    | succ j ih =>
      obtain ⟨r, hr⟩ := ih
      by_cases h : okX (n + j) = true
      · exact ⟨r ++ [sdig (n + j)], by rw [← Nat.add_assoc, exN_yes h, hr, List.append_assoc]⟩
      · exact ⟨r, by rw [← Nat.add_assoc, exN_no (by simpa using h), hr]⟩
  have := ext (256 - n)
  rw [show n + (256 - n) = 256 by omega] at this
  obtain ⟨r, hr⟩ := this
  rw [hr, List.getD_eq_getElem?_getD, List.getD_eq_getElem?_getD, List.getElem?_append_left hk]
theorem own_four (w : World) (a b c d : Int) : Own (w.alloc (.cells #[.int .i64 a, .int .i64 b, .int .i64 c, .int .i64 d] 2)) w.heap.size (.slice (some ⟨w.heap.size, 0, none⟩) 4 4) [a, b, c, d] :=
  ⟨rfl, .inr ⟨w.heap.size, 4, #[.int .i64 a, .int .i64 b, .int .i64 c, .int .i64 d], rfl, Nat.le_refl _, heap_alloc_new w _, Nat.le_refl _, by unfold maxLen; omega, rfl, rfl⟩⟩

set_option maxRecDepth 100000 in
set_option maxHeartbeats 4000000 in
theorem l07Suits_any (w : World) : Calls Tryd.prog 119 #[] w (NewFam1 24 (fun k => (exN 256).getD k []) w) := by
  have HTK := Lib.hid exN_take
  have HLE := Lib.hid exN_le
  have HNY := Lib.hid (fun n => @exN_yes n)
  have HNN := Lib.hid (fun n => @exN_no n)
  have H24 := Lib.hid exN_len
  have HSE := Lib.hid sdig_eq
  obtain ⟨w0, rfl⟩ : ∃ w0 : World, w0 = w := ⟨w, rfl⟩
  generalize hF : (fun k => (exN 256).getD k []) = F
  have HF := Lib.hid hF
  clear hF
  go_enter Tryd.func119, Tryd.ntmps119
  go_wp2_with fail
  have HS0 : Hid (Hang w0 0 4 F (fun _ => none) (fun _ => 0) (.slice (some ⟨w0.heap.size, 0, none⟩) 0 0) (w0.alloc (.cells #[] 24))) := Lib.hid (hang_start w0 4 _ _ _)
  go_loopw [1, 2] (fun v i wr => ∃ (n : Nat) (AA : Nat → Option Addr) (CC : Nat → Nat), n ≤ 256 ∧ i = .int .i64 n ∧ Hid (Hang w0 (exN n).length 4 F AA CC v wr)) (fun _ i _ => 256 - (intOf i).toNat)
  case atStart => exact ⟨0, _, _, Nat.zero_le _, rfl, HS0⟩
  case round =>
    obtain ⟨n, AA, CC, hn, rfl, hh⟩ := hrel
    by_cases hlt : n < 256
    · have hlt' : (n : Int) < 256 := by omega
      have q0 : (0 : Int) ≤ n := by omega
      have q1 : (0 : Int) ≤ (n : Int) / 16 := by omega
      have q2 : (0 : Int) ≤ (n : Int) / 4 := by omega
      have q3 : (n : Int) / 16 ≤ 256 := by omega
      have q4 : (n : Int) / 4 ≤ 256 := by omega
      have HC := Lib.hid (fun a b c d => @okX_cases n hlt a b c d)
      have HL := Lib.hid (HLE.out n)
      have HSD := Lib.hid (HSE.out n)
      have HY := Lib.hid (HNY.out n)
      have HN := Lib.hid (HNN.out n)
      have HT := Lib.hid (HTK.out (n + 1) (by omega))
      go_wp2_with fail
      have HSD' := HSD.out
      clear HSD
      generalize (n : Int) / 64 = a at *
      generalize (n : Int) / 16 % 4 = b at *
      generalize (n : Int) / 4 % 4 = c at *
      generalize (n : Int) % 4 = d at *
      clear q1 q2 q3 q4
      have hcs := HC.out a b c d HSD'
      have HSD := Lib.hid HSD'
      clear HSD' HC
      have hO := own_four wr a b c d
      rcases hcs with ⟨hk, h1, h2, h3, h4, h5, h6⟩ | ⟨hk, h1⟩ | ⟨hk, h1, h2⟩ | ⟨hk, h1, h2, h3⟩ | ⟨hk, h1, h2, h3, h4⟩ | ⟨hk, h1, h2, h3, h4, h5⟩ | ⟨hk, h1, h2, h3, h4, h5, h6⟩
      · have HEN := Lib.hid (HY.out hk)
        go_quiet (fail)
        obtain ⟨X, eX⟩ : ∃ X, X = (wr.alloc (.cells #[.int .i64 a, .int .i64 b, .int .i64 c, .int .i64 d] 2)).drewN nq := ⟨_, rfl⟩
        have HOX : Hid (Own X wr.heap.size (.slice (some ⟨wr.heap.size, 0, none⟩) 4 4) [a, b, c, d]) := Lib.hid (by rw [eX]; exact hO.below (bl_drewN (bl_refl _) _))
        have HBX : Hid (Below wr.heap.size wr X) := Lib.hid (by rw [eX]; exact bl_drewN (bl_alloc (bl_refl _) _) _)
        rw [← eX]
        clear eX hO
        have HR2 : Hid (F (exN n).length = [a, b, c, d]) := Lib.hid (by
          have := HT.out (exN n).length (by rw [HEN.out, List.length_append]; simp)
          rw [← HF.out]
          show (exN 256).getD (exN n).length [] = _
          rw [this, HEN.out, HSD.out, List.getD_eq_getElem?_getD, List.getElem?_append_right (Nat.le_refl _)]
          simp)
        go_wp2_with (at_builtin; refine wpList_hang (.tmp 72) (.tmp 74) rfl rfl w0.heap.size u1 (exN n).length (cellsS (exN n).length AA CC 4) rfl ((hh.out.next HBX.out).next (bl_alloc (bl_refl _) _)).out ⟨X.heap.size, 0, none⟩ 1 (.slice (some ⟨wr.heap.size, 0, none⟩) 4 4) rfl ?c1 rfl ?c2 ?c3 ?_)
        case c1 => simp [go_sem]
        case c2 => have := HL.out; omega
        case c3 => have := hh.out.below.size; have := HBX.out.size; simp; omega
        intro v' w4 hown4 hg4 hv4
        have HG := Lib.hid (hang_add (K := (exN n).length) (A := some ⟨wr.heap.size, 0, none⟩) (c := 4) (n := 4) hh.out HBX.out (by rw [HR2.out]; exact HOX.out) (by rw [HR2.out]; rfl) hown4 hg4 (by simpa using hv4))
        have HL1 : Hid ((exN n).length + 1 = (exN (n + 1)).length) := Lib.hid (by rw [HEN.out, List.length_append]; rfl)
        rw [HL1.out] at HG
        clear hown4 hg4 hv4
        go_wp2_with fail
        go_roundw
        case rel => exact ⟨n + 1, _, _, by omega, by go_num, HG⟩
        case measure => simp [intOf]; omega
      all_goals
        have HEN := Lib.hid (HN.out hk)
        go_quiet (fail)
        go_wp2_with fail
        go_roundw
        case rel => exact ⟨n + 1, AA, CC, by omega, by go_num, Lib.hid (by rw [HEN.out]; exact hh.out.next (by repeat (first | exact bl_refl _ | apply bl_alloc | apply bl_drewN)))⟩
        case measure => simp [intOf]; omega
    · obtain rfl : n = 256 := by omega
      have HH := hh
      rw [H24.out] at HH
      obtain ⟨A, c, rfl, hf⟩ := HH.out.fam2
      go_wp2_with fail
      go_ret
      exact ⟨_, _, _, _, rfl, hf, HH.out.below⟩
end Go.Proofs.YtilbkgnjgmlhjaaDoor
