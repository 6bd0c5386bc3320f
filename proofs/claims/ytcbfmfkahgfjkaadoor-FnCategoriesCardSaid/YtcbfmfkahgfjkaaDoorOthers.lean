/-
  l01Has, l02Others: the cards that are not in a list, in order; and an own row that is appended to.
-/
import Derived.Test.YtcbfmfkahgfjkaaDoorList
import Derived.Maps.AppendAt
namespace Go.Proofs.YtcbfmfkahgfjkaaDoor
open Go.RowKit
set_option linter.unusedVariables false

/-- Whether a list has a number. -/
def hasB (xs : List Int) (x : Int) : Bool := xs.contains x
theorem own_form {w : World} {lo : Nat} {v : Value} {xs : List Int} (h : Own w lo v xs) : ∃ A c, v = .slice A xs.length c ∧ Own w lo (.slice A xs.length c) xs := by
  have h' := h
  rcases h.2 with ⟨rfl, hn⟩ | ⟨g, cap, cur, rfl, _⟩
  · exact ⟨none, 0, by rw [hn], by rw [hn]; exact h'⟩
  · exact ⟨_, _, rfl, h'⟩
/-- A row of the call's own, and nothing that was there written. -/
def Grow (w : World) (ys : List Int) (v : Value) (wr : World) : Prop := Own wr w.heap.size v ys ∧ Below w.heap.size w wr
theorem grow_start (w : World) : Grow w [] (.slice (some ⟨w.heap.size, 0, none⟩) 0 0) (w.alloc (.cells #[] 2)) :=
  ⟨World.ownsRow_made w #[] 0 (Nat.le_refl _) (by unfold maxLen; omega) rfl, bl_alloc (bl_refl _) _⟩
theorem own_app {ys : List Int} {lo : Nat} {w1 : World} {v' : Value} {x : Int} (hown : w1.ownsRow lo 2 1 v' (ys.length + 1) (ints ys ++ [.int .i64 x])) : Own w1 lo v' (ys ++ [x]) := by
  unfold Own
  rw [ints_snoc, List.length_append]
  exact hown
theorem grow_app {ys : List Int} {w wr w1 : World} {v v' : Value} {o : Obj} {x : Int} (h : Grow w ys v wr) (hown : w1.ownsRow w.heap.size 2 1 v' (ys.length + 1) (ints ys ++ [.int .i64 x])) (hgrow : (wr.alloc o).grownBy w1 v.ownBlock) : Grow w (ys ++ [x]) v' w1 :=
  ⟨own_app hown, (bl_alloc h.2 o).grown hgrow (by simp; exact Nat.le_succ_of_le h.2.size) (fun j hj => (World.ownsRow.lt h.1 j hj).1)⟩

set_option maxRecDepth 100000 in
set_option maxHeartbeats 1000000 in
theorem has_any (A : Option Addr) (c : Nat) (xs : List Int) (x : Int) (w : World) (hr : Rd w A xs) (hn : xs.length ≤ 4000000) :
    Calls Tryd.prog 108 #[.slice A xs.length c, .int .i64 x] w (Same (.bool (hasB xs x)) w) := by
  have HR := Lib.hid hr
  clear hr
  go_enter Tryd.func108, Tryd.ntmps108
  go_wp2_with fail
  go_loop [5] (fun i => ∃ k : Nat, k ≤ xs.length ∧ i = .int .i64 k ∧ Hid (hasB (xs.take k) x = false)) (fun i => xs.length - (intOf i).toNat)
  case atStart => exact ⟨0, Nat.zero_le _, rfl, Lib.hid (by unfold hasB; simp)⟩
  case round =>
    obtain ⟨k, hk, rfl, hs⟩ := hrel
    by_cases hlt : k < xs.length
    · obtain ⟨b, off, rfl, hc⟩ := HR.out.at_ (bl_refl _) k hlt
      have hlt' : (k : Int) < xs.length := by omega
      have HC := Lib.hid (take_nth xs k hlt)
      have HM := Lib.hid (nth_mem xs k hlt)
      obtain ⟨y, ey⟩ : ∃ y, y = nth xs k := ⟨_, rfl⟩
      rw [← ey] at hc HC HM
      clear ey
      by_cases hxy : y = x
      · subst hxy
        have HN : Hid (hasB xs y = true) := Lib.hid (by unfold hasB; simpa using HM.out)
        go_wp2_with fail
        go_ret
        exact ⟨ret_bool HN.out.symm, rfl⟩
      · have q : (y == x) = false := by simpa using hxy
        have HN : Hid (hasB (xs.take (k + 1)) x = false) := Lib.hid (by
          have h1 := hs.out
          rw [HC.out]
          unfold hasB at h1 ⊢
          simp at h1 ⊢
          exact ⟨h1, fun e => hxy e.symm⟩)
        clear hxy
        go_wp2_with fail
        go_round
        case rel => exact ⟨k + 1, by omega, by go_num, HN⟩
        case measure => simp [intOf]; omega
    · obtain rfl : k = xs.length := by omega
      have HF := hs.out
      rw [take_len] at HF
      have HN := Lib.hid HF
      clear HF
      go_wp2_with fail
      go_ret
      exact ⟨ret_bool HN.out.symm, rfl⟩

/-- The first n cards that are not in a list. -/
def othersN (n : Nat) (xs : List Int) : List Int := ((List.range n).map (fun i : Nat => (i : Int))).filter (fun c => !hasB xs c)
theorem othersN_zero (xs : List Int) : othersN 0 xs = [] := rfl
theorem othersN_in (n : Nat) (xs : List Int) (h : hasB xs (n : Int) = true) : othersN (n + 1) xs = othersN n xs := by
  unfold othersN
  rw [List.range_succ, List.map_append, List.filter_append]
  have : (List.map (fun i : Nat => (i : Int)) [n]).filter (fun c => !hasB xs c) = [] := by
    show [(n : Int)].filter _ = []
    rw [List.filter_cons, h]; rfl
  rw [this, List.append_nil]
theorem othersN_out (n : Nat) (xs : List Int) (h : hasB xs (n : Int) = false) : othersN (n + 1) xs = othersN n xs ++ [(n : Int)] := by
  unfold othersN
  rw [List.range_succ, List.map_append, List.filter_append]
  have : (List.map (fun i : Nat => (i : Int)) [n]).filter (fun c => !hasB xs c) = [(n : Int)] := by
    show [(n : Int)].filter _ = _
    rw [List.filter_cons, h]; rfl
  rw [this]
theorem othersN_len (n : Nat) (xs : List Int) : (othersN n xs).length ≤ n := by
  unfold othersN
  refine Nat.le_trans (List.length_filter_le ..) ?_
  simp

theorem othersN_rng (n : Nat) (xs : List Int) : ∀ x ∈ othersN n xs, 0 ≤ x ∧ x < n := fun x hx => by
  obtain ⟨h, _⟩ := List.mem_filter.1 hx
  obtain ⟨i, hi, rfl⟩ := List.mem_map.1 h
  have : i < n := by simpa using hi
  omega
set_option maxRecDepth 100000 in
set_option maxHeartbeats 1000000 in
theorem others_any (A : Option Addr) (c : Nat) (xs : List Int) (w : World) (hr : Rd w A xs) (hn : xs.length ≤ 4000000) :
    Calls Tryd.prog 102 #[.slice A xs.length c] w (NewL (othersN 52 xs) w) := by
  obtain ⟨i0, hi, hz0, hz1, hz2⟩ := info_parts infoInt
  have HR := Lib.hid hr
  clear hr
  obtain ⟨w0, rfl⟩ : ∃ w0 : World, w0 = w := ⟨w, rfl⟩
  go_enter Tryd.func102, Tryd.ntmps102
  go_wp2_with fail
  go_loopw [3, 4] (fun v i wr => ∃ k : Nat, k ≤ 52 ∧ i = .int .i64 k ∧ Hid (Grow w0 (othersN k xs) v wr)) (fun _ i _ => 52 - (intOf i).toNat)
  case atStart => exact ⟨0, Nat.zero_le _, rfl, Lib.hid (grow_start w0)⟩
  case round =>
    obtain ⟨k, hk, rfl, HS⟩ := hrel
    by_cases hlt : k < 52
    · have hlt' : (k : Int) < 52 := by omega
      have KH := Lib.hid (fun (W : World) (hb : Below w0.heap.size w0 W) => has_any A c xs (k : Int) W (HR.out.below hb) hn)
      have hl := othersN_len k xs
      rcases hb : hasB xs (k : Int) with _ | _
      · have HO := Lib.hid (othersN_out k xs hb)
        rw [hb] at KH
        clear hb
        go_wp2_with (first
          | (go_at_call 108; refine (KH.out _ HS.out.2).mono ?_; rintro e w1 ⟨rfl, rfl⟩)
          | (at_builtin; refine wpList_append_own _ rfl _ _ 22 rfl w0.heap.size 2 i0 (.int .i64 0) 1 8 Tryd.underlying22 hi hz0 hz1 hz2 rfl (by decide) _ _ _ rfl (HS.out.1.alloc _) ⟨wr.heap.size, 0, none⟩ 1 1 [.int .i64 k] rfl rfl ?c1 ?c2 ?c3 ?c4 ?c5 ?_))
        case c1 =>
          intro j u hj
          match j, hj with
          | 0, hj => simp at hj; subst hj; simp [Addr.add]
        case c2 => intro u hu; simp at hu; subst hu; rfl
        case c3 => unfold maxLen; omega
        case c4 => omega
        case c5 => have := HS.out.2.size; simp; omega
        intro v' w1 hown' hgrow _
        have HG := Lib.hid (grow_app HS.out hown' hgrow)
        clear hown' hgrow
        go_wp2_with fail
        go_roundw
        case rel => exact ⟨k + 1, by omega, by go_num, by rw [HO.out]; exact HG⟩
        case measure => simp [intOf]; omega
      · have HO := Lib.hid (othersN_in k xs hb)
        rw [hb] at KH
        clear hb
        go_wp2_with (go_at_call 108; refine (KH.out _ HS.out.2).mono ?_; rintro e w1 ⟨rfl, rfl⟩)
        go_roundw
        case rel => exact ⟨k + 1, by omega, by go_num, by rw [HO.out]; exact HS⟩
        case measure => simp [intOf]; omega
    · obtain rfl : k = 52 := by omega
      obtain ⟨A', c', rfl, hO⟩ := own_form HS.out.1
      have HO := Lib.hid hO
      clear hO
      go_wp2_with fail
      go_ret
      exact ⟨_, _, rfl, HO.out, HS.out.2⟩

end Go.Proofs.YtcbfmfkahgfjkaaDoor
