/-
  NextSeed: both texts' walks; the closure that draws the next seed.
-/
import Derived.Test.YtafifipnfhekiaaIn
import Derived.Test.YtafifipnfhekiaaDeckPure
import Derived.BigQuiet
namespace Go.Proofs.Ytafifipnfhekiaa
open Go.RowKit
set_option linter.unusedVariables false

theorem isSeed_in (x : Int) (h0 : 1 ≤ x) (h1 : x ≤ 2147483646) : inB x 1 2147483646 = true := inB_yes _ _ _ h0 h1
set_option maxHeartbeats 400000 in
theorem isSeed_any (x : Int) (w : World) :
    Calls Try.prog 65 #[.int .i64 x] w (Same (.bool (inB x 1 2147483646)) w) := by
  by_cases h1 : x < 1
  · have H := Lib.hid (inB_lo x 1 2147483646 h1)
    go_enter Try.func65, Try.ntmps65
    go_wp2
    go_ret
    exact ⟨ret_bool (by rw [H.out]), rfl⟩
  · by_cases h2 : 2147483646 < x
    · have H := Lib.hid (inB_hi x 1 2147483646 h2)
      have h2' : ¬ x ≤ 2147483646 := by omega
      go_enter Try.func65, Try.ntmps65
      go_wp2
      go_ret
      exact ⟨ret_bool (by rw [H.out]), rfl⟩
    · have H := Lib.hid (isSeed_in x (by omega) (by omega))
      go_enter Try.func65, Try.ntmps65
      go_wp2
      go_ret
      exact ⟨ret_bool (by rw [H.out]), rfl⟩
set_option maxHeartbeats 400000 in
theorem specSeed_any (x : Int) (w : World) :
    Calls Try.prog 63 #[.int .i64 x] w (Same (.bool (inB x 1 2147483646)) w) := by
  go_enter Try.func63, Try.ntmps63
  go_wp2_with (go_at_call 53; refine (specIn_any _ _ _ _).mono ?_; rintro e w1 ⟨rfl, rfl⟩)
  go_ret
  exact ⟨rfl, rfl⟩
set_option maxHeartbeats 400000 in
theorem specNext_any (x : Int) (w : World) (h0 : 0 ≤ x) (h1 : x ≤ 2147483646) :
    Calls Try.prog 64 #[.int .i64 x] w (Same (.int .i64 (nextS x)) w) := by
  go_enter Try.func64, Try.ntmps64
  go_wp2
  go_ret
  exact ⟨rfl, rfl⟩
/-- The closure over a seed: it draws the next one, and keeps it. -/
def SeedAt (w : World) (g : Nat) (s : Int) : Prop := w.cell? ⟨g, 0, none⟩ = some (.int .i64 s) ∧ w.frozen? ⟨g, 0, none⟩ = false
def Seeds (w : World) (g : Nat) (s : Int) (e : Ending) (w' : World) : Prop := e = .returned (.int .i64 s) ∧ w' = w.setCell ⟨g, 0, none⟩ (.int .i64 s)
set_option maxHeartbeats 400000 in
theorem nextFn_any (g : Nat) (x : Int) (w : World) (h0 : 0 ≤ x) (h1 : x ≤ 2147483646) (h : SeedAt w g x) :
    Calls Try.prog 70 #[.pointer (some ⟨g, 0, none⟩)] w (Seeds w g (nextS x)) := by
  obtain ⟨hc, hf⟩ := h
  go_enter Try.func70, Try.ntmps70
  go_wp2
  go_ret
  exact ⟨rfl, rfl⟩
/-- What seedsAfter leaves. -/
def SeedsFrom (w : World) (x : Int) (e : Ending) (w' : World) : Prop :=
  e = .returned (.func (.func 70) #[] #[.pointer (some ⟨w.heap.size, 0, none⟩)]) ∧ w' = w.alloc (.cells #[.int .i64 x] 2)
set_option maxHeartbeats 400000 in
theorem seedsAfter_any (x : Int) (w : World) :
    Calls Try.prog 66 #[.int .i64 x] w (SeedsFrom w x) := by
  have hmf : ∀ (fn : Fn) (first cap : Array Value) (w : World), (Instr.makeFunc fn first cap).run Try.prog w = .ok (.func fn first cap) w := fun _ _ _ _ => rfl
  go_enter Try.func66, Try.ntmps66
  go_wp2
  go_ret
  exact ⟨rfl, rfl⟩
theorem seed_new (w : World) (x : Int) : SeedAt (w.alloc (.cells #[.int .i64 x] 2)) w.heap.size x := by
  constructor <;> simp [go_sem]

/-- What NextSeed answers. -/
def nextR (x : Int) : Int × Int := if inB x 1 2147483646 = true then (nextS x, 0) else (0, 2)
theorem nextR_yes {x : Int} (h : inB x 1 2147483646 = true) : nextR x = (nextS x, 0) := by unfold nextR; rw [if_pos h]
theorem nextR_no {x : Int} (h : inB x 1 2147483646 = false) : nextR x = (0, 2) := by unfold nextR; rw [h]; rfl
theorem seed_bd {x : Int} (h : inB x 1 2147483646 = true) : 1 ≤ x ∧ x ≤ 2147483646 := by unfold inB at h; simpa using h
set_option maxHeartbeats 400000 in
theorem implNextSeed_any (x : Int) (w : World) :
    Calls Try.prog 36 #[.int .i64 x] w (Fresh (pairV (nextR x).1 (nextR x).2) w) := by
  have K := Lib.hid (isSeed_any x w)
  rcases h : inB x 1 2147483646 with _ | _
  · rw [nextR_no h]
    rw [h] at K
    clear h
    go_enter Try.func36, Try.ntmps36
    go_wp2_with (go_at_call 65; refine K.out.mono ?_; rintro e w1 ⟨rfl, rfl⟩)
    go_ret2
    exact ⟨rfl, bl_refl _⟩
  · rw [nextR_yes h]
    rw [h] at K
    obtain ⟨h0, h1⟩ := seed_bd h
    have K2 := Lib.hid (seedsAfter_any x w)
    have K3 := Lib.hid (nextFn_any w.heap.size x _ (by omega) h1 (seed_new w x))
    clear h
    go_enter Try.func36, Try.ntmps36
    go_wp2_with (first
      | (go_at_call 65; refine K.out.mono ?_; rintro e w1 ⟨rfl, rfl⟩)
      | (go_at_call 66; refine K2.out.mono ?_; rintro e w2 ⟨rfl, rfl⟩)
      | (go_at_call 70; refine K3.out.mono ?_; rintro e w3 ⟨rfl, rfl⟩))
    go_ret2
    exact ⟨rfl, bl_alloc (bl_refl _) _⟩
set_option maxHeartbeats 400000 in
theorem specNextSeed_any (x : Int) (w : World) :
    Calls Try.prog 35 #[.int .i64 x] w (Same (pairV (nextR x).1 (nextR x).2) w) := by
  have K := Lib.hid (specSeed_any x w)
  rcases h : inB x 1 2147483646 with _ | _
  · rw [nextR_no h]
    rw [h] at K
    clear h
    go_enter Try.func35, Try.ntmps35
    go_wp2_with (go_at_call 63; refine K.out.mono ?_; rintro e w1 ⟨rfl, rfl⟩)
    go_ret2
    exact ⟨rfl, rfl⟩
  · rw [nextR_yes h]
    rw [h] at K
    obtain ⟨h0, h1⟩ := seed_bd h
    have K2 := Lib.hid (specNext_any x w (by omega) h1)
    clear h
    go_enter Try.func35, Try.ntmps35
    go_wp2_with (first
      | (go_at_call 63; refine K.out.mono ?_; rintro e w1 ⟨rfl, rfl⟩)
      | (go_at_call 64; refine K2.out.mono ?_; rintro e w1 ⟨rfl, rfl⟩))
    go_ret2
    exact ⟨rfl, rfl⟩
end Go.Proofs.Ytafifipnfhekiaa
