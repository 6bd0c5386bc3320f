/-
  DrawRatioText, DrawReadRatio, DrawMakeRatio, DrawGreatestDivisor: what they draw.
-/
import Derived.Test.YtohhjcnkbifdbaaDoorDrawRatio
import Derived.Test.YtohhjcnkbifdbaaDoorDamage
import Derived.Test.YtohhjcnkbifdbaaDoorText
namespace Go.Proofs.YtohhjcnkbifdbaaDoor
open Go.RowKit
set_option linter.unusedVariables false

def small (n : Int) : Prop := -1000000001 ≤ n ∧ n ≤ 1000000001
theorem codeIn_below {w w' : World} {a : Option Addr} {L : Nat} {zs : Nat → Int} (h : CodeIn w a L zs) (hb : Below w.heap.size w w') : CodeIn w' a L zs := by
  rcases h with h | ⟨b, off, e, h⟩
  · exact .inl h
  · exact .inr ⟨b, off, e, codeAt_below h hb⟩
theorem textR_len (n d : Int) : (textR n d).length ≤ 50 := by
  rcases h : isR n d with _ | _
  · rw [textR_no n d h]; simp
  · obtain ⟨a1, a2, a3, a4⟩ := isR_bd' n d h
    have l1 := itoa_len n (by omega) (by omega)
    have l2 := itoa_len d (by omega) (by omega)
    by_cases hd : d = 1
    · subst hd; rw [textR_one n h]; omega
    · rw [textR_two n d h hd]; simp; omega

/-- A drawn ratio, in new memory. -/
def OneR (w : World) (e : Ending) (w' : World) : Prop := ∃ n d : Int, e = .returned (.agg #[.int .i64 n, .int .i64 d]) ∧ small n ∧ small d ∧ Below w.heap.size w w'
/-- Two drawn numbers. -/
def TwoI (w : World) (e : Ending) (w' : World) : Prop := ∃ x y : Int, e = .returned (.tuple #[.int .i64 x, .int .i64 y]) ∧ small x ∧ small y ∧ Below w.heap.size w w'
/-- A drawn text. -/
def OneS (w : World) (e : Ending) (w' : World) : Prop := ∃ r : ByteArray, e = .returned (.string r) ∧ r.size ≤ 100 ∧ Below w.heap.size w w'

/-- A source that the call made, and a result's cells ahead of it. -/
def FromR (r s : Nat) (w0 : World) (a : Option Addr) (L c : Nat) (zs : Nat → Int) (e : Ending) (w' : World) : Prop :=
  e = .returned (.pointer (some ⟨s, 0, none⟩)) ∧ Src w' s a L c zs ∧ Below w0.heap.size w0 w' ∧ RAt w' r ∧ r < s
theorem from_one (a : Option Addr) (L c : Nat) (zs : Nat → Int) (w : World) (hL : L ≤ 4096) (hc : CodeIn w a L zs) (t : TypeId) :
    Calls Tryd.prog 23 #[.slice a L c] (w.alloc (.cells #[.int .i64 0, .int .i64 0] t)) (FromR w.heap.size (w.heap.size + 1) w a L c zs) := by
  have hb : Below w.heap.size w (w.alloc (.cells #[.int .i64 0, .int .i64 0] t)) := bl_alloc (bl_refl _) _
  refine (from_any a L c zs _ hL (codeIn_below hc hb)).mono fun e w1 hh => ?_
  obtain ⟨he, hs, hb1⟩ := hh
  have e1 : (w.alloc (.cells #[.int .i64 0, .int .i64 0] t)).heap.size = w.heap.size + 1 := by simp
  rw [e1] at he hs
  exact ⟨he, hs, bl_trans hb hb1, rAt_below (rAt_new w t) hb1, by omega⟩
/-- A ratio drawn, where a result's cells are kept. -/
def DrewR1 (r : Nat) (w : World) (s : Nat) (a : Option Addr) (L c : Nat) (zs : Nat → Int) (e : Ending) (w' : World) : Prop :=
  ∃ n d : Int, e = .returned (.agg #[.int .i64 n, .int .i64 d]) ∧ small n ∧ small d ∧ Src w' s a L c zs ∧ Only s w w' ∧ RAt w' r
theorem drewR1 (r s : Nat) (a : Option Addr) (L c : Nat) (zs : Nat → Int) (w : World) (h : Src w s a L c zs) (hr : RAt w r) (h1 : r < s) :
    Calls Tryd.prog 22 #[.pointer (some ⟨s, 0, none⟩)] w (DrewR1 r w s a L c zs) := by
  refine (drawRatio_any s a L c zs w h).mono fun e w1 hh => ?_
  obtain ⟨n, d, he, n0, n1, d0, d1, hs, ho, hz⟩ := hh
  exact ⟨n, d, he, ⟨n0, n1⟩, ⟨d0, d1⟩, hs, ho, rAt_only hr ho (by omega)⟩

set_option maxRecDepth 100000 in
set_option maxHeartbeats 400000 in
theorem drawText_any (a : Option Addr) (L c : Nat) (zs : Nat → Int) (w : World) (hL : L ≤ 4096) (hc : CodeIn w a L zs) :
    Calls Tryd.prog 7 #[.slice a L c] w (OneR w) := by
  have HC := Lib.hid hc
  clear hc
  go_enter Tryd.func7, Tryd.ntmps7
  go_wp2_with (go_at_call 23; refine (from_one a L c zs w hL HC.out _).mono ?_; rintro e w1 ⟨rfl, hs1, hb1, r1, lr⟩)
  go_wp2_with (go_at_call 22; refine (drewR1 _ _ _ _ _ _ _ hs1 r1 lr).mono ?_; rintro e w2 ⟨n, d, rfl, bn, bd, hs2, ho2, r2⟩; obtain ⟨q0, q1, q2, q3⟩ := r2)
  exact bodyPost_ret (v := .agg #[.int .i64 n, .int .i64 d]) (by simp [results, Tryd.results7, go_sem, q0, q1]) rfl
    ⟨n, d, rfl, bn, bd, bl_set (bl_set (hb1.trans (below_only (by omega) hb1.size ho2)) (Nat.le_refl _) _) (Nat.le_refl _) _⟩

set_option maxRecDepth 100000 in
set_option maxHeartbeats 400000 in
theorem drawMk_any (a : Option Addr) (L c : Nat) (zs : Nat → Int) (w : World) (hL : L ≤ 4096) (hc : CodeIn w a L zs) :
    Calls Tryd.prog 12 #[.slice a L c] w (TwoI w) := by
  have HC := Lib.hid hc
  clear hc
  go_enter Tryd.func12, Tryd.ntmps12
  go_wp2_with (go_at_call 23; refine (from_any a L c zs w hL HC.out).mono ?_; rintro e w1 ⟨rfl, hs1, hb1⟩)
  go_wp2_with (first | (go_at_call 32; first | ((with_reducible refine (part_any _ _ _ _ _ _ hs1).mono ?_); rintro e w2 ⟨x, rfl, x0, x1, hs2, ho2⟩) | ((with_reducible refine (part_any _ _ _ _ _ _ hs3).mono ?_); rintro e w4 ⟨z, rfl, z0, z1, hs4, ho4⟩)) | (go_at_call 27; ((with_reducible refine (next_any _ 3 _ _ _ _ _ (by omega) (by omega) hs2).mono ?_); rintro e w3 ⟨y, rfl, y0, y1, hs3, ho3⟩)))
  all_goals
    go_ret2
    exact ⟨_, _, rfl, ⟨by omega, by omega⟩, ⟨by omega, by omega⟩, hb1.trans (below_only (Nat.le_refl _) hb1.size (only_trans (only_trans ho2 ho3) ho4))⟩

set_option maxRecDepth 100000 in
set_option maxHeartbeats 400000 in
theorem drawGd_any (a : Option Addr) (L c : Nat) (zs : Nat → Int) (w : World) (hL : L ≤ 4096) (hc : CodeIn w a L zs) :
    Calls Tryd.prog 15 #[.slice a L c] w fun e w' => ∃ x y : Int, e = .returned (.tuple #[.int .i64 x, .int .i64 y]) ∧ Below w.heap.size w w' := by
  have HC := Lib.hid hc
  clear hc
  go_enter Tryd.func15, Tryd.ntmps15
  go_wp2_with (go_at_call 23; refine (from_any a L c zs w hL HC.out).mono ?_; rintro e w1 ⟨rfl, hs1, hb1⟩)
  go_wp2_with (first | (go_at_call 32; first | ((with_reducible refine (part_any _ _ _ _ _ _ hs1).mono ?_); rintro e w2 ⟨x, rfl, x0, x1, hs2, ho2⟩) | ((with_reducible refine (part_any _ _ _ _ _ _ hs3).mono ?_); rintro e w4 ⟨z, rfl, z0, z1, hs4, ho4⟩)) | (go_at_call 27; ((with_reducible refine (next_any _ 30 _ _ _ _ _ (by omega) (by omega) hs2).mono ?_); rintro e w3 ⟨y, rfl, y0, y1, hs3, ho3⟩)))
  all_goals
    go_ret2
    exact ⟨_, _, rfl, hb1.trans (below_only (Nat.le_refl _) hb1.size (only_trans (only_trans ho2 ho3) ho4))⟩

set_option maxRecDepth 100000 in
set_option maxHeartbeats 400000 in
theorem drawRead_any (a : Option Addr) (L c : Nat) (zs : Nat → Int) (w : World) (hL : L ≤ 4096) (hc : CodeIn w a L zs) :
    Calls Tryd.prog 10 #[.slice a L c] w (OneS w) := by
  have HC := Lib.hid hc
  clear hc
  go_enter Tryd.func10, Tryd.ntmps10
  go_wp2_with (go_at_call 23; refine (from_any a L c zs w hL HC.out).mono ?_; rintro e w1 ⟨rfl, hs1, hb1⟩)
  go_wp2_with (go_at_call 22; refine (drawRatio_any _ _ _ _ _ _ hs1).mono ?_; rintro e w2 ⟨n, d, rfl, n0, n1, d0, d1, hs2, ho2, hz2⟩)
  obtain ⟨t, ht⟩ : ∃ t : ByteArray, t = ⟨(textR n d).toArray⟩ := ⟨_, rfl⟩
  have hl : t.size ≤ 50 := by rw [ht]; exact textR_len n d
  have K : Hid (∀ W, Calls Tryd.prog 18 #[.agg #[.int .i64 n, .int .i64 d]] W (Fresh (.string t) W)) := Lib.hid (fun W => ht ▸ specText_any n d W)
  clear ht
  go_wp2_with (go_at_call 18; refine (K.out _).mono ?_; rintro e w3 ⟨rfl, hb3⟩; have hs3 := hs2.below hb3)
  go_wp2_with (first | (go_at_call 27; ((with_reducible refine (next_any _ 3 _ _ _ _ _ (by omega) (by omega) hs3).mono ?_); rintro e w4 ⟨y, rfl, y0, y1, hs4, ho4⟩)) | (go_at_call 28; ((with_reducible refine (damage_any _ _ _ _ _ _ _ (by omega) hs4).mono ?_); rintro e w5 ⟨r, rfl, hr, hs5, ho5⟩)))
  · go_ret
    exact ⟨_, rfl, by omega, hb1.trans (below_only (Nat.le_refl _) hb1.size (only_trans (only_trans (only_trans ho2 (only_below hb3)) ho4) ho5))⟩
  · go_ret
    exact ⟨_, rfl, by omega, hb1.trans (below_only (Nat.le_refl _) hb1.size (only_trans (only_trans ho2 (only_below hb3)) ho4))⟩
end Go.Proofs.YtohhjcnkbifdbaaDoor
