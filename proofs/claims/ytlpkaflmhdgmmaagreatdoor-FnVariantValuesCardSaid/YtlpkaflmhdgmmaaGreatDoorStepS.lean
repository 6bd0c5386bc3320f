/-
  Choices of one to four out of four: plain facts, the next choice, the elements at a choice.
-/
import Derived.Test.YtlpkaflmhdgmmaaGreatDoorIter
import Derived.Test.YtlpkaflmhdgmmaaGreatDoorLowPure
namespace Go.Proofs.YtlpkaflmhdgmmaaGreatDoor
open Go.RowKit
set_option linter.unusedVariables false
theorem run_makeNC (t e : TypeId) (i0 : TypeInfo) (hu : Tryz.prog.underlying t = some (.slice e)) (hi : Tryz.prog.info? e = some i0) (hz0 : i0.zero = some (.int .i64 0)) (hz1 : i0.size = 1) (hz2 : i0.bytes = 8) (n : Nat) (hn : n ≤ 100) (W : World) :
    (Instr.makeSlice t (.int .i64 n) (.int .i64 n)).run Tryz.prog W = .ok (.slice (some ⟨W.heap.size, 0, none⟩) n n) (W.alloc (.cells (ints (List.replicate n 0)).toArray e)) := by
  have h := run_makeSlice (P := Tryz.prog) W t e i0 (.int .i64 0) hu hi hz0 .i64 .i64 n n (by omega) (by omega) (by rw [hz1]; omega) (by rw [hz2]; omega) (by omega)
  rw [hz1] at h
  have em : madeCells (Value.int .i64 0).cells (Int.toNat n * 1) = (ints (List.replicate n 0)).toArray := Array.toList_inj.1 (by
    show (madeCells #[Value.int .i64 0] ((Int.toNat n) * 1)).toList = _
    rw [toList_madeCells_one, Nat.mul_one, ← ints_zeros]; simp)
  rw [em] at h
  exact h

/-- The choices of s indices out of four. -/
def idxS (s : Nat) : List (List Int) := ch s [0, 1, 2, 3]
def stepFromS (n : Int) (s : Nat) (c : List Int) : Nat → Option (List Int)
  | 0 => none
  | k + 1 => if c.getD k 0 + (s : Int) - (k : Int) = n then stepFromS n s c k else some (bumpN c k (s - 1 - k))
def upTo (s : Nat) : List Int := (List.range s).map (fun i : Nat => (i : Int))
def idxSOk (s : Nat) : Bool :=
  (List.range (idxS s).length).all (fun i => let c := (idxS s).getD i []; decide (c.length = s) && c.all (fun x => decide (0 ≤ x ∧ x < 4)) && (stepFromS 4 s c s == (idxS s)[i + 1]?) && ((idxS s).idxOf c == i)) &&
  decide ((idxS s)[0]? = some (upTo s))
theorem idxS_ok : idxSOk 1 = true ∧ idxSOk 2 = true ∧ idxSOk 3 = true ∧ idxSOk 4 = true := by decide +kernel
theorem idxSOk_of (s : Nat) (h1 : 1 ≤ s) (h4 : s ≤ 4) : idxSOk s = true := by
  obtain ⟨a, b, c, d⟩ := idxS_ok
  have : s = 1 ∨ s = 2 ∨ s = 3 ∨ s = 4 := by omega
  rcases this with rfl | rfl | rfl | rfl
  · exact a
  · exact b
  · exact c
  · exact d
theorem idxS_facts (s : Nat) (h1 : 1 ≤ s) (h4 : s ≤ 4) (i : Nat) (hi : i < (idxS s).length) :
    ((idxS s).getD i []).length = s ∧ (∀ x ∈ (idxS s).getD i [], 0 ≤ x ∧ x < 4) ∧ stepFromS 4 s ((idxS s).getD i []) s = (idxS s)[i + 1]? ∧ (idxS s).idxOf ((idxS s).getD i []) = i := by
  have h := idxSOk_of s h1 h4
  unfold idxSOk at h
  rw [Bool.and_eq_true, List.all_eq_true] at h
  have h1 := h.1 i (List.mem_range.2 hi)
  simp only [Bool.and_eq_true, decide_eq_true_eq, List.all_eq_true, beq_iff_eq] at h1
  exact ⟨h1.1.1.1, h1.1.1.2, h1.1.2, h1.2⟩
theorem idxS_first (s : Nat) (h1 : 1 ≤ s) (h4 : s ≤ 4) : (idxS s)[0]? = some (upTo s) := by
  have h := idxSOk_of s h1 h4
  unfold idxSOk at h
  rw [Bool.and_eq_true, decide_eq_true_eq] at h
  exact h.2
theorem idxS_pos (s : Nat) (h1 : 1 ≤ s) (h4 : s ≤ 4) : 0 < (idxS s).length := by
  have := idxS_first s h1 h4
  by_cases h : 0 < (idxS s).length
  · exact h
  · rw [List.getElem?_eq_none (by omega)] at this; cases this
theorem ch_idxS (s : Nat) (xs : List Int) (h : xs.length = 4) : ch s xs = (idxS s).map (pickL xs) := by
  unfold idxS
  rw [show pickL xs = List.map (fun i : Int => xs.getD i.toNat 0) from rfl, ← ch_map]
  congr 1
  match xs, h with
  | [a, b, c, d], _ => rfl

set_option maxRecDepth 100000 in
set_option maxHeartbeats 4000000 in
theorem stepS_any (g n s : Nat) (c : List Int) (w : World) (hg : Blk w g 3 (ints c)) (h5 : c.length = s) (hs5 : s ≤ 5) (hb : ∀ y ∈ c, 0 ≤ y ∧ y ≤ 8) (hn : n ≤ 8) :
    Calls Tryz.prog 76 #[.slice (some ⟨g, 0, none⟩) s s, .int .i64 n] w (Stepped (stepFromS n s c s) g c w) := by
  have HG := Lib.hid hg
  have H5 := Lib.hid h5
  have HB := Lib.hid hb
  have HBN := Lib.hid (bumpN_bd c)
  have HLN := Lib.hid (bumpN_len c)
  have hs5' : (s : Int) ≤ 5 := by omega
  obtain ⟨o, ho⟩ : ∃ o, o = stepFromS n s c s := ⟨_, rfl⟩
  rw [← ho]
  have HO := Lib.hid ho
  clear hg h5 hb ho
  obtain ⟨w0, rfl⟩ : ∃ w0 : World, w0 = w := ⟨w, rfl⟩
  go_enter Tryz.func76, Tryz.ntmps76
  go_wp2_with fail
  go_loop [5] (fun i => ∃ k : Nat, k ≤ s ∧ i = .int .i64 ((k : Int) - 1) ∧ Hid (o = stepFromS n s c k)) (fun i => (intOf i + 1).toNat)
  case atStart => exact ⟨s, Nat.le_refl _, by go_num, HO⟩
  case round =>
    obtain ⟨k, hk, rfl, hs⟩ := hrel
    rcases k with _ | k
    · have E : Hid (o = none) := Lib.hid hs.out
      obtain rfl := E.out
      go_wp2_with fail
      go_ret
      exact ⟨rfl, rfl⟩
    · have hx : ((k + 1 : Nat) : Int) - 1 = (k : Int) := by omega
      rw [hx]
      clear hx
      have hk5 : (k : Int) < (s : Int) := by omega
      obtain ⟨hc, hf⟩ := HG.out.int k (by rw [H5.out]; omega)
      have hy := getD_bd (i := k) HB.out (by omega)
      change 0 ≤ nth c k ∧ nth c k ≤ 8 at hy
      obtain ⟨x, ex⟩ : ∃ x, x = nth c k := ⟨_, rfl⟩
      rw [← ex] at hc hy
      have EX := Lib.hid ex
      clear ex
      by_cases hq : x + (s : Int) - (k : Int) = (n : Int)
      · have E : Hid (o = stepFromS n s c k) := Lib.hid (by rw [hs.out, stepFromS, if_pos (by rw [show c.getD k 0 = x from EX.out.symm]; exact hq)])
        have hq' : (x + (s : Int) - (k : Int) == (n : Int)) = true := by simpa using hq
        clear hq
        go_wp2_with fail
        go_round
        case rel => exact ⟨k, by omega, by go_num, E⟩
        case measure => simp [intOf] <;> omega
      · have E : Hid (o = some (bumpN c k (s - 1 - k))) := Lib.hid (by rw [hs.out, stepFromS, if_neg (by rw [show c.getD k 0 = x from EX.out.symm]; exact hq)])
        have hq' : (x + (s : Int) - (k : Int) == (n : Int)) = false := by simpa using hq
        obtain rfl := E.out
        have hset := blk_setI HG.out k (x + 1)
        have HS : Hid (Blk (w0.setCell ⟨g, k, none⟩ (.int .i64 (x + 1))) g 3 (ints (bumpN c k 0)) ∧ w0.grownBy (w0.setCell ⟨g, k, none⟩ (.int .i64 (x + 1))) (some g)) := Lib.hid (by rw [bumpN, show c.getD k 0 = x from EX.out.symm]; exact hset)
        clear hq hset
        go_wp2_with fail
        go_loopw [6] (fun j wr => ∃ m : Nat, m ≤ s - 1 - k ∧ j = .int .i64 ((k : Int) + 1 + m) ∧ Hid (Blk wr g 3 (ints (bumpN c k m)) ∧ w0.grownBy wr (some g))) (fun j _ => s - (intOf j).toNat)
        case atStart => exact ⟨0, by omega, by go_num, HS⟩
        case round =>
          obtain ⟨m, hm, rfl, hs2⟩ := hrel
          by_cases hlt : m < s - 1 - k
          · have l1 : (k : Int) + 1 + (m : Int) < (s : Int) := by omega
            have e1 : ((k : Int) + 1 + (m : Int)).toNat = k + 1 + m := by omega
            have e2 : ((k : Int) + (m : Int)).toNat = k + m := by omega
            obtain ⟨c1, _⟩ := hs2.out.1.int (k + m) (by rw [HLN.out, H5.out]; omega)
            obtain ⟨c2, f2⟩ := hs2.out.1.int (k + 1 + m) (by rw [HLN.out, H5.out]; omega)
            have hy2 := getD_bd (i := k + m) (HBN.out k HB.out m) (by omega)
            change 0 ≤ nth (bumpN c k m) (k + m) ∧ nth (bumpN c k m) (k + m) ≤ 9 + (m : Int) at hy2
            have hset := blk_setI hs2.out.1 (k + 1 + m) (nth (bumpN c k m) (k + m) + 1)
            have HP : Hid (Blk (wr.setCell ⟨g, k + 1 + m, none⟩ (.int .i64 (nth (bumpN c k m) (k + m) + 1))) g 3 (ints (bumpN c k (m + 1))) ∧ w0.grownBy (wr.setCell ⟨g, k + 1 + m, none⟩ (.int .i64 (nth (bumpN c k m) (k + m) + 1))) (some g)) := Lib.hid ⟨by rw [bumpN]; exact hset.1, hs2.out.2.trans hset.2⟩
            generalize nth (bumpN c k m) (k + m) = z at *
            generalize nth (bumpN c k m) (k + 1 + m) = z2 at *
            clear hset
            go_wp2_with fail
            go_roundw
            case rel => exact ⟨m + 1, by omega, by go_num, HP⟩
            case measure => simp [intOf]; omega
          · obtain rfl : m = s - 1 - k := by omega
            have l1 : ¬ (k : Int) + 1 + ((s - 1 - k : Nat) : Int) < (s : Int) := by omega
            go_wp2_with fail
            go_ret
            exact ⟨rfl, hs2.out.1, hs2.out.2⟩
/-- The first k elements picked, and zeros. -/
def pickS (s : Nat) (xs c : List Int) (k : Nat) : List Int := (pickL xs c).take k ++ List.replicate (s - k) 0
theorem pickS_zero (s : Nat) (xs c : List Int) : pickS s xs c 0 = List.replicate s 0 := by unfold pickS; simp
theorem pickS_step (s : Nat) (xs c : List Int) (k : Nat) (h5 : c.length = s) (hk : k < s) : (pickS s xs c k).set k (nth xs (nth c k).toNat) = pickS s xs c (k + 1) := by
  unfold pickS
  have hl : ((pickL xs c).take k).length = k := by rw [List.length_take, pickL_len]; omega
  rw [List.set_append_right _ _ (by omega), hl, Nat.sub_self, take_nth _ k (by rw [pickL_len]; omega), pickL_nth xs c k (by omega)]
  have e : List.replicate (s - k) (0 : Int) = 0 :: List.replicate (s - (k + 1)) 0 := by
    rw [← List.replicate_succ]; congr 1; omega
  rw [e, List.set_cons_zero, List.append_assoc]
  rfl
theorem pickS_all (s : Nat) (xs c : List Int) (h5 : c.length = s) : pickS s xs c s = pickL xs c := by
  unfold pickS; rw [List.take_of_length_le (by rw [pickL_len]; omega)]; simp
theorem pickS_len (s : Nat) (xs c : List Int) (k : Nat) (h5 : c.length = s) (hk : k ≤ s) : (pickS s xs c k).length = s := by
  unfold pickS; rw [List.length_append, List.length_take, pickL_len, List.length_replicate]; omega
/-- What chosenFrom leaves: a new block of s numbers. -/
def NewS (s : Nat) (xs : List Int) (w : World) (e : Ending) (w' : World) : Prop := e = .returned (.slice (some ⟨w.heap.size, 0, none⟩) s s) ∧ Blk w' w.heap.size 2 (ints xs) ∧ Below w.heap.size w w'
set_option maxRecDepth 100000 in
set_option maxHeartbeats 2000000 in
theorem chosenS_any (s : Nat) (A : Option Addr) (cp g : Nat) (xs c : List Int) (w : World) (hs5 : s ≤ 5) (hr : Rd w A xs) (hn : xs.length ≤ 8) (hg : Blk w g 3 (ints c)) (h5 : c.length = s) (hb : ∀ y ∈ c, 0 ≤ y ∧ y < (xs.length : Int)) :
    Calls Tryz.prog 67 #[.slice A xs.length cp, .slice (some ⟨g, 0, none⟩) s s] w (NewS s (pickL xs c) w) := by
  have HG := Lib.hid hg
  have HR := Lib.hid hr
  have H5 := Lib.hid h5
  have HB := Lib.hid hb
  clear hg hr h5 hb
  obtain ⟨w0, rfl⟩ : ∃ w0 : World, w0 = w := ⟨w, rfl⟩
  have HS : Hid (Blk (w0.alloc (.cells (ints (List.replicate s 0)).toArray 2)) w0.heap.size 2 (ints (pickS s xs c 0)) ∧ Below w0.heap.size w0 (w0.alloc (.cells (ints (List.replicate s 0)).toArray 2))) := Lib.hid ⟨by rw [pickS_zero]; exact blk_new w0 2 _, bl_alloc (bl_refl w0) _⟩
  obtain ⟨i0, hi, hz0, hz1, hz2⟩ := info_parts infoInt
  have hmk := fun W => run_makeNC 26 2 i0 Tryz.underlying26 hi hz0 hz1 hz2 s (by omega) W
  have hs5' : (s : Int) ≤ 5 := by omega
  clear hi hz0 hz1 hz2
  go_enter Tryz.func67, Tryz.ntmps67
  go_wp2_with fail
  go_loopw [13] (fun i wr => ∃ k : Nat, k ≤ s ∧ i = .int .i64 k ∧ Hid (Blk wr w0.heap.size 2 (ints (pickS s xs c k)) ∧ Below w0.heap.size w0 wr)) (fun i _ => s - (intOf i).toNat)
  case atStart => exact ⟨0, by omega, rfl, HS⟩
  case round =>
    obtain ⟨k, hk, rfl, hs⟩ := hrel
    by_cases hlt : k < s
    · have hlt' : (k : Int) < (s : Int) := by omega
      obtain ⟨c1, _⟩ := (HG.out.below hs.out.2).int k (by rw [H5.out]; exact hlt)
      have hx := HB.out _ (nth_mem c k (by rw [H5.out]; exact hlt))
      obtain ⟨x, ex⟩ := Int.eq_ofNat_of_zero_le hx.1
      have hp := pickS_step s xs c k H5.out hlt
      rw [ex] at hp
      have hp' : (pickS s xs c k).set k (nth xs x) = pickS s xs c (k + 1) := hp
      obtain ⟨b, off, rfl, c2⟩ := HR.out.at_ hs.out.2 x (by omega)
      obtain ⟨c3, f3⟩ := hs.out.1.int k (by rw [pickS_len s xs c k H5.out hk]; exact hlt)
      have hset := blk_setI hs.out.1 k (nth xs x)
      rw [hp'] at hset
      have HP := Lib.hid (And.intro hset.1 (bl_blk hs.out.2 hset.2 (Nat.le_refl _)))
      rw [ex] at c1 hx
      have hxl : (x : Int) < (xs.length : Int) := hx.2
      generalize nth xs x = y at *
      generalize nth (pickS s xs c k) k = z at *
      clear hp hp' hset ex hx
      go_wp2_with fail
      go_roundw
      case rel => exact ⟨k + 1, by omega, by go_num, HP⟩
      case measure => simp [intOf]; omega
    · obtain rfl : k = s := by omega
      have h := hs.out
      rw [pickS_all k xs c H5.out] at h
      have HF := Lib.hid h
      clear h
      go_wp2_with fail
      go_ret
      exact ⟨rfl, HF.out.1, HF.out.2⟩
end Go.Proofs.YtlpkaflmhdgmmaaGreatDoor
