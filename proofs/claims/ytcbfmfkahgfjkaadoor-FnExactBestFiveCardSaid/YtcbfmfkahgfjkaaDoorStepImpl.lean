/-
  The next choice of indices; the elements at the indices of a choice.
-/
import Derived.Test.YtcbfmfkahgfjkaaDoorChoices
import Derived.Test.YtcbfmfkahgfjkaaDoorBlk
namespace Go.Proofs.YtcbfmfkahgfjkaaDoor
open Go.RowKit
set_option linter.unusedVariables false

theorem bumpN_len (c : List Int) (i : Nat) : ∀ m, (bumpN c i m).length = c.length
  | 0 => by simp [bumpN]
  | m + 1 => by simp [bumpN, bumpN_len c i m]
theorem set_bd {c : List Int} {i : Nat} {x b : Int} (h : ∀ y ∈ c, 0 ≤ y ∧ y ≤ b) (h0 : 0 ≤ x) (h1 : x ≤ b) : ∀ y ∈ c.set i x, 0 ≤ y ∧ y ≤ b := fun y hy => by
  rcases List.mem_or_eq_of_mem_set hy with h' | rfl
  · exact h y h'
  · exact ⟨h0, h1⟩
theorem getD_bd {c : List Int} {i : Nat} {b : Int} (h : ∀ y ∈ c, 0 ≤ y ∧ y ≤ b) (hb : 0 ≤ b) : 0 ≤ c.getD i 0 ∧ c.getD i 0 ≤ b := by
  by_cases hi : i < c.length
  · have := h c[i] (List.getElem_mem hi)
    rw [List.getD_eq_getElem?_getD, List.getElem?_eq_getElem hi]
    exact this
  · rw [List.getD_eq_getElem?_getD, List.getElem?_eq_none (by omega)]
    exact ⟨Int.le_refl _, hb⟩
theorem bumpN_bd (c : List Int) (i : Nat) (h : ∀ y ∈ c, 0 ≤ y ∧ y ≤ 8) : ∀ m : Nat, ∀ y ∈ bumpN c i m, 0 ≤ y ∧ y ≤ 9 + (m : Int)
  | 0 => by
    have h9 : ∀ y ∈ c, 0 ≤ y ∧ y ≤ 9 := fun y hy => by have := h y hy; omega
    have g := getD_bd (i := i) h (by omega)
    exact set_bd (b := 9) h9 (by omega) (by omega)
  | m + 1 => by
    have ih := bumpN_bd c i h m
    have h9 : ∀ y ∈ bumpN c i m, 0 ≤ y ∧ y ≤ 9 + ((m + 1 : Nat) : Int) := fun y hy => by have := ih y hy; omega
    have g := getD_bd (i := i + m) ih (by omega)
    exact set_bd h9 (by omega) (by omega)

/-- Five numbers are made. -/
theorem infoInt3 : (Tryd.prog.info? 3).map (fun i => (i.zero, i.size, i.bytes)) = some (some (.int .i64 0), 1, 8) := by kernel_rfl
theorem run_make5 (t e : TypeId) (i0 : TypeInfo) (hu : Tryd.prog.underlying t = some (.slice e)) (hi : Tryd.prog.info? e = some i0) (hz0 : i0.zero = some (.int .i64 0)) (hz1 : i0.size = 1) (hz2 : i0.bytes = 8) (W : World) :
    (Instr.makeSlice t (.int .i64 5) (.int .i64 5)).run Tryd.prog W = .ok (.slice (some ⟨W.heap.size, 0, none⟩) 5 5) (W.alloc (.cells #[.int .i64 0, .int .i64 0, .int .i64 0, .int .i64 0, .int .i64 0] e)) := by
  have h := run_makeSlice (P := Tryd.prog) W t e i0 (.int .i64 0) hu hi hz0 .i64 .i64 5 5 (by omega) (by omega) (by rw [hz1]; decide) (by rw [hz2]; omega) (by omega)
  rw [hz1] at h
  have em : madeCells (Value.int .i64 0).cells (Int.toNat 5 * 1) = #[.int .i64 0, .int .i64 0, .int .i64 0, .int .i64 0, .int .i64 0] := Array.toList_inj.1 (by
    show (madeCells #[Value.int .i64 0] 5).toList = _
    rw [toList_madeCells_one]; rfl)
  rw [em] at h
  exact h
/-- What stepChoice leaves. -/
def Stepped (o : Option (List Int)) (g : Nat) (c : List Int) (w : World) (e : Ending) (w' : World) : Prop :=
  match o with
  | some c' => e = .returned (.bool true) ∧ Blk w' g 3 (ints c') ∧ w.grownBy w' (some g)
  | none => e = .returned (.bool false) ∧ w' = w

set_option maxRecDepth 100000 in
set_option maxHeartbeats 4000000 in
theorem step_any (g n : Nat) (c : List Int) (w : World) (hg : Blk w g 3 (ints c)) (h5 : c.length = 5) (hb : ∀ y ∈ c, 0 ≤ y ∧ y ≤ 8) (hn : n ≤ 8) :
    Calls Tryd.prog 101 #[.slice (some ⟨g, 0, none⟩) 5 5, .int .i64 n] w (Stepped (stepFrom n c 5) g c w) := by
  have HG := Lib.hid hg
  have H5 := Lib.hid h5
  have HB := Lib.hid hb
  have HBN := Lib.hid (bumpN_bd c)
  have HLN := Lib.hid (bumpN_len c)
  obtain ⟨o, ho⟩ : ∃ o, o = stepFrom n c 5 := ⟨_, rfl⟩
  rw [← ho]
  have HO := Lib.hid ho
  clear hg h5 hb ho
  obtain ⟨w0, rfl⟩ : ∃ w0 : World, w0 = w := ⟨w, rfl⟩
  go_enter Tryd.func101, Tryd.ntmps101
  go_wp2_with fail
  go_loop [5] (fun i => ∃ k : Nat, k ≤ 5 ∧ i = .int .i64 ((k : Int) - 1) ∧ Hid (o = stepFrom n c k)) (fun i => (intOf i + 1).toNat)
  case atStart => exact ⟨5, Nat.le_refl _, by go_num, HO⟩
  case round =>
    obtain ⟨k, hk, rfl, hs⟩ := hrel
    rcases k with _ | k
    · have E : Hid (o = none) := Lib.hid hs.out
      obtain rfl := E.out
      go_wp2_with fail
      go_ret
      exact ⟨rfl, rfl⟩
    · have hx : ((k + 1 : Nat) : Int) - 1 = (k : Int) := by omega
      rw [hx]
      clear hx
      have hk5 : (k : Int) < 5 := by omega
      obtain ⟨hc, hf⟩ := HG.out.int k (by rw [H5.out]; omega)
      have hy := getD_bd (i := k) HB.out (by omega)
      change 0 ≤ nth c k ∧ nth c k ≤ 8 at hy
      obtain ⟨x, ex⟩ : ∃ x, x = nth c k := ⟨_, rfl⟩
      rw [← ex] at hc hy
      have EX := Lib.hid ex
      clear ex
      by_cases hq : x + 5 - (k : Int) = (n : Int)
      · have E : Hid (o = stepFrom n c k) := Lib.hid (by rw [hs.out, stepFrom, if_pos (by rw [show c.getD k 0 = x from EX.out.symm]; exact hq)])
        have hq' : (x + 5 - (k : Int) == (n : Int)) = true := by simpa using hq
        clear hq
        go_wp2_with fail
        go_round
        case rel => exact ⟨k, by omega, by go_num, E⟩
        case measure => simp [intOf] <;> omega
      · have E : Hid (o = some (bumpN c k (4 - k))) := Lib.hid (by rw [hs.out, stepFrom, if_neg (by rw [show c.getD k 0 = x from EX.out.symm]; exact hq)])
        have hq' : (x + 5 - (k : Int) == (n : Int)) = false := by simpa using hq
        obtain rfl := E.out
        have hset := blk_setI HG.out k (x + 1)
        have HS : Hid (Blk (w0.setCell ⟨g, k, none⟩ (.int .i64 (x + 1))) g 3 (ints (bumpN c k 0)) ∧ w0.grownBy (w0.setCell ⟨g, k, none⟩ (.int .i64 (x + 1))) (some g)) := Lib.hid (by rw [bumpN, show c.getD k 0 = x from EX.out.symm]; exact hset)
        clear hq hset
        go_wp2_with fail
        go_loopw [6] (fun j wr => ∃ m : Nat, m ≤ 4 - k ∧ j = .int .i64 ((k : Int) + 1 + m) ∧ Hid (Blk wr g 3 (ints (bumpN c k m)) ∧ w0.grownBy wr (some g))) (fun j _ => 5 - (intOf j).toNat)
        case atStart => exact ⟨0, by omega, by go_num, HS⟩
        case round =>
          obtain ⟨m, hm, rfl, hs2⟩ := hrel
          by_cases hlt : m < 4 - k
          · have l1 : (k : Int) + 1 + (m : Int) < 5 := by omega
            have e1 : ((k : Int) + 1 + (m : Int)).toNat = k + 1 + m := by omega
            have e2 : ((k : Int) + (m : Int)).toNat = k + m := by omega
            obtain ⟨c1, _⟩ := hs2.out.1.int (k + m) (by rw [HLN.out, H5.out]; omega)
            obtain ⟨c2, f2⟩ := hs2.out.1.int (k + 1 + m) (by rw [HLN.out, H5.out]; omega)
            have hy2 := getD_bd (i := k + m) (HBN.out k HB.out m) (by omega)
            change 0 ≤ nth (bumpN c k m) (k + m) ∧ nth (bumpN c k m) (k + m) ≤ 9 + (m : Int) at hy2
            have hset := blk_setI hs2.out.1 (k + 1 + m) (nth (bumpN c k m) (k + m) + 1)
            have HP : Hid (Blk (wr.setCell ⟨g, k + 1 + m, none⟩ (.int .i64 (nth (bumpN c k m) (k + m) + 1))) g 3 (ints (bumpN c k (m + 1))) ∧ w0.grownBy (wr.setCell ⟨g, k + 1 + m, none⟩ (.int .i64 (nth (bumpN c k m) (k + m) + 1))) (some g)) := Lib.hid ⟨by rw [bumpN]; exact hset.1, hs2.out.2.trans hset.2⟩
            generalize nth (bumpN c k m) (k + m) = z at *
            generalize nth (bumpN c k m) (k + 1 + m) = z2 at *
            clear hset
            go_wp2_with fail
            go_roundw
            case rel => exact ⟨m + 1, by omega, by go_num, HP⟩
            case measure => simp [intOf]; omega
          · obtain rfl : m = 4 - k := by omega
            have l1 : ¬ (k : Int) + 1 + ((4 - k : Nat) : Int) < 5 := by omega
            go_wp2_with fail
            go_ret
            exact ⟨rfl, hs2.out.1, hs2.out.2⟩
/-! The elements at a choice. -/
def pickL (xs c : List Int) : List Int := c.map (fun i : Int => xs.getD i.toNat 0)
theorem pickL_len (xs c : List Int) : (pickL xs c).length = c.length := by simp [pickL]
theorem pickL_nth (xs c : List Int) (k : Nat) (h : k < c.length) : nth (pickL xs c) k = nth xs (nth c k).toNat := by
  rw [nth_eq _ _ (by rw [pickL_len]; exact h), nth_eq c k h]; simp [pickL, nth]
/-- The first k elements picked, and zeros. -/
def pick0 (xs c : List Int) (k : Nat) : List Int := (pickL xs c).take k ++ List.replicate (5 - k) 0
theorem pick0_step (xs c : List Int) (k : Nat) (h5 : c.length = 5) (hk : k < 5) : (pick0 xs c k).set k (nth xs (nth c k).toNat) = pick0 xs c (k + 1) := by
  unfold pick0
  have hl : ((pickL xs c).take k).length = k := by rw [List.length_take, pickL_len]; omega
  rw [List.set_append_right _ _ (by omega), hl, Nat.sub_self, take_nth _ k (by rw [pickL_len]; omega), pickL_nth xs c k (by omega)]
  have e : List.replicate (5 - k) (0 : Int) = 0 :: List.replicate (5 - (k + 1)) 0 := by
    rw [← List.replicate_succ]; congr 1; omega
  rw [e, List.set_cons_zero, List.append_assoc]
  rfl
theorem pick0_all (xs c : List Int) (h5 : c.length = 5) : pick0 xs c 5 = pickL xs c := by
  unfold pick0; rw [List.take_of_length_le (by rw [pickL_len]; omega)]; simp
theorem pick0_len (xs c : List Int) (k : Nat) (h5 : c.length = 5) (hk : k ≤ 5) : (pick0 xs c k).length = 5 := by
  unfold pick0; rw [List.length_append, List.length_take, pickL_len, List.length_replicate]; omega
/-- What chosenFrom leaves: a new block of five numbers. -/
def New5 (xs : List Int) (w : World) (e : Ending) (w' : World) : Prop := e = .returned (.slice (some ⟨w.heap.size, 0, none⟩) 5 5) ∧ Blk w' w.heap.size 2 (ints xs) ∧ Below w.heap.size w w'
set_option maxRecDepth 100000 in
set_option maxHeartbeats 2000000 in
theorem chosen_any (A : Option Addr) (cp g : Nat) (xs c : List Int) (w : World) (hr : Rd w A xs) (hn : xs.length ≤ 8) (hg : Blk w g 3 (ints c)) (h5 : c.length = 5) (hb : ∀ y ∈ c, 0 ≤ y ∧ y < (xs.length : Int)) :
    Calls Tryd.prog 82 #[.slice A xs.length cp, .slice (some ⟨g, 0, none⟩) 5 5] w (New5 (pickL xs c) w) := by
  have HG := Lib.hid hg
  have HR := Lib.hid hr
  have H5 := Lib.hid h5
  have HB := Lib.hid hb
  clear hg hr h5 hb
  obtain ⟨w0, rfl⟩ : ∃ w0 : World, w0 = w := ⟨w, rfl⟩
  have HS : Hid (Blk (w0.alloc (.cells #[.int .i64 0, .int .i64 0, .int .i64 0, .int .i64 0, .int .i64 0] 2)) w0.heap.size 2 (ints (pick0 xs c 0)) ∧ Below w0.heap.size w0 (w0.alloc (.cells #[.int .i64 0, .int .i64 0, .int .i64 0, .int .i64 0, .int .i64 0] 2))) := Lib.hid ⟨blk_new w0 2 (ints [0, 0, 0, 0, 0]), bl_alloc (bl_refl w0) _⟩
  obtain ⟨i0, hi, hz0, hz1, hz2⟩ := info_parts infoInt
  have hmk := fun W => run_make5 22 2 i0 Tryd.underlying22 hi hz0 hz1 hz2 W
  clear hi hz0 hz1 hz2
  go_enter Tryd.func82, Tryd.ntmps82
  go_wp2_with fail
  go_loopw [13] (fun i wr => ∃ k : Nat, k ≤ 5 ∧ i = .int .i64 k ∧ Hid (Blk wr w0.heap.size 2 (ints (pick0 xs c k)) ∧ Below w0.heap.size w0 wr)) (fun i _ => 5 - (intOf i).toNat)
  case atStart => exact ⟨0, by omega, rfl, HS⟩
  case round =>
    obtain ⟨k, hk, rfl, hs⟩ := hrel
    by_cases hlt : k < 5
    · have hlt' : (k : Int) < 5 := by omega
      obtain ⟨c1, _⟩ := (HG.out.below hs.out.2).int k (by rw [H5.out]; exact hlt)
      have hx := HB.out _ (nth_mem c k (by rw [H5.out]; exact hlt))
      obtain ⟨x, ex⟩ := Int.eq_ofNat_of_zero_le hx.1
      have hp := pick0_step xs c k H5.out hlt
      rw [ex] at hp
      have hp' : (pick0 xs c k).set k (nth xs x) = pick0 xs c (k + 1) := hp
      obtain ⟨b, off, rfl, c2⟩ := HR.out.at_ hs.out.2 x (by omega)
      obtain ⟨c3, f3⟩ := hs.out.1.int k (by rw [pick0_len xs c k H5.out hk]; exact hlt)
      have hset := blk_setI hs.out.1 k (nth xs x)
      rw [hp'] at hset
      have HP := Lib.hid (And.intro hset.1 (bl_blk hs.out.2 hset.2 (Nat.le_refl _)))
      rw [ex] at c1 hx
      have hxl : (x : Int) < (xs.length : Int) := hx.2
      generalize nth xs x = y at *
      generalize nth (pick0 xs c k) k = z at *
      clear hp hp' hset ex hx
      go_wp2_with fail
      go_roundw
      case rel => exact ⟨k + 1, by omega, by go_num, HP⟩
      case measure => simp [intOf]; omega
    · obtain rfl : k = 5 := by omega
      have h := hs.out
      rw [pick0_all xs c H5.out] at h
      have HF := Lib.hid h
      clear h
      go_wp2_with fail
      go_ret
      exact ⟨rfl, HF.out.1, HF.out.2⟩
end Go.Proofs.YtcbfmfkahgfjkaaDoor
