/-
  The reader of range texts: a group with another smaller rank; its classes.
-/
import Derived.Test.YtlpkaflmhdgmmaaRdrFns
namespace Go.Proofs.Ytlpkaflmhdgmmaa
open Go.RowKit
set_option linter.unusedVariables false

/-- A group of a row with another smaller rank. -/
def wthI (a b c : Int) : Int := if a = b then c else a
set_option maxRecDepth 100000 in
set_option maxHeartbeats 1000000 in
theorem withG_any (a b : Int) (t : List UInt8) (c : Int) (w : World) : Calls Try.prog 60 #[gV a b t, .int .i64 c] w (Fresh (gV (wthI a b c) c t) w) := by
  have K := Lib.hid (fun W => isPairG_any a b t W)
  obtain ⟨w0, e0⟩ : ∃ w0, w0 = (w.alloc (.cells #[.int .i64 a, .int .i64 b, strV t] 85)).alloc (.cells #[.int .i64 0, .int .i64 0, .string ⟨#[]⟩] 85) := ⟨_, rfl⟩
  have HB : Hid (Below w.heap.size w w0) := Lib.hid (by rw [e0]; exact bl_alloc (bl_alloc (bl_refl w) _) _)
  have HV : Hid (∀ w1, Below w0.heap.size w0 w1 → (w1.cell? ⟨w.heap.size, 0, none⟩ = some (.int .i64 a) ∧ w1.cell? ⟨w.heap.size, 1, none⟩ = some (.int .i64 b) ∧ w1.cell? ⟨w.heap.size, 2, none⟩ = some (strV t)) ∧
      (w1.frozen? ⟨w.heap.size, 0, none⟩ = false ∧ w1.frozen? ⟨w.heap.size, 1, none⟩ = false ∧ w1.frozen? ⟨w.heap.size, 2, none⟩ = false) ∧
      (w1.cell? ⟨w.heap.size + 1, 0, none⟩ = some (.int .i64 0) ∧ w1.cell? ⟨w.heap.size + 1, 1, none⟩ = some (.int .i64 0) ∧ w1.cell? ⟨w.heap.size + 1, 2, none⟩ = some (.string ⟨#[]⟩)) ∧
      (w1.frozen? ⟨w.heap.size + 1, 0, none⟩ = false ∧ w1.frozen? ⟨w.heap.size + 1, 1, none⟩ = false ∧ w1.frozen? ⟨w.heap.size + 1, 2, none⟩ = false)) := Lib.hid (fun w1 hb => by
    have hz : w0.heap.size = w.heap.size + 2 := by rw [e0]; simp
    have hc := (bcell hb).1
    have hf := (bcell hb).2
    refine ⟨⟨?_, ?_, ?_⟩, ⟨?_, ?_, ?_⟩, ⟨?_, ?_, ?_⟩, ⟨?_, ?_, ?_⟩⟩ <;> (first | rw [hc _ _ (by omega)] | rw [hf _ _ (by omega)]) <;> (rw [e0]; simp [go_sem]))
  by_cases e : a = b
  · have q : (a == b) = true := by simpa using e
    have HT := Lib.hid (show wthI a b c = c from if_pos e)
    rw [q] at K
    clear q e
    go_enter Try.func60, Try.ntmps60
    go_wp2_with fail
    rw [← e0]
    clear e0
    go_wp2_with (go_at_call 67; ((with_reducible refine (K.out _).mono ?_); rintro e w1 ⟨rfl, hb1⟩; obtain ⟨⟨c0, c1, c2⟩, ⟨f0, f1, f2⟩, ⟨d0, d1, d2⟩, ⟨g0, g1, g2⟩⟩ := HV.out _ hb1; have HB1 := Lib.hid (bl_trans HB.out hb1); clear hb1))
    refine bodyPost_ret (v := gV c c t) (by simp [results, Try.results60, go_sem, d0, d1, d2]) rfl ⟨by rw [HT.out], ?_⟩
    exact bl_set (bl_set (bl_set (bl_set (bl_set HB1.out (by simp) _) (by simp) _) (by simp) _) (by simp) _) (by simp) _
  · have q : (a == b) = false := by simpa using e
    have HT := Lib.hid (show wthI a b c = a from if_neg e)
    rw [q] at K
    clear q e
    go_enter Try.func60, Try.ntmps60
    go_wp2_with fail
    rw [← e0]
    clear e0
    go_wp2_with (go_at_call 67; ((with_reducible refine (K.out _).mono ?_); rintro e w1 ⟨rfl, hb1⟩; obtain ⟨⟨c0, c1, c2⟩, ⟨f0, f1, f2⟩, ⟨d0, d1, d2⟩, ⟨g0, g1, g2⟩⟩ := HV.out _ hb1; have HB1 := Lib.hid (bl_trans HB.out hb1); clear hb1))
    refine bodyPost_ret (v := gV a c t) (by simp [results, Try.results60, go_sem, d0, d1, d2]) rfl ⟨by rw [HT.out], ?_⟩
    exact bl_set (bl_set (bl_set (bl_set HB1.out (by simp) _) (by simp) _) (by simp) _) (by simp) _

/-- The classes of a group, in the program's order. -/
def clsP (a b : Int) (kd : UInt8) : List Int := if kd = 115 then [a * 13 + b] else if kd = 111 then [b * 13 + a] else [a * 13 + b, b * 13 + a]
theorem clsP_len (a b : Int) (kd : UInt8) : (clsP a b kd).length ≤ 2 ∧ 1 ≤ (clsP a b kd).length := by unfold clsP; split <;> (try split) <;> simp
theorem clsP_mem {g : Grp} (h : OkG g) (x : Int) : x ∈ clsP g.1 g.2.1 g.2.2 ↔ x ∈ clsG g := by
  obtain ⟨h1, h2, h3, h4, h5⟩ := h
  unfold clsP clsG
  rcases h5 with e | e | e
  · rw [e, if_neg (by decide), if_neg (by decide), if_neg (by decide)]
    by_cases hp : g.2.1 < g.1
    · rw [if_pos ⟨by decide, hp⟩]
      simp
      omega
    · rw [if_neg (fun q => hp q.2)]
      simp
      omega
  · have hp : g.2.1 < g.1 := by
      by_cases q : g.1 = g.2.1
      · have := h4 q; rw [e] at this; exact absurd this (by decide)
      · omega
    rw [e, if_pos rfl, if_neg (by decide), if_neg (fun q => q.1 rfl)]
    simp
    omega
  · have hp : g.2.1 < g.1 := by
      by_cases q : g.1 = g.2.1
      · have := h4 q; rw [e] at this; exact absurd this (by decide)
      · omega
    rw [e, if_neg (by decide), if_pos rfl, if_pos rfl, if_pos ⟨by decide, hp⟩]
    simp
    omega
/-- What classes returns: a slice that reads as the classes. -/
def ClsTo (a b : Int) (kd : UInt8) (w : World) (e : Ending) (w' : World) : Prop := ∃ n c, e = .returned (.slice (some ⟨n, 0, none⟩) (clsP a b kd).length c) ∧ w.heap.size ≤ n ∧ Rd w' (some ⟨n, 0, none⟩) (clsP a b kd) ∧ Below w.heap.size w w'
theorem rd_one (w : World) (x : Int) (t : TypeId) (n : Nat) (hn : n = w.heap.size) : Rd (w.alloc (.cells #[.int .i64 x] t)) (some ⟨n, 0, none⟩) [x] := fun _ => ⟨_, _, rfl, fun i hi => by
  have : i = 0 := by simp at hi; omega
  subst this hn
  simp [go_sem, nth]⟩
theorem rd_two (w : World) (x y : Int) (t : TypeId) (n : Nat) (hn : n = w.heap.size) : Rd (w.alloc (.cells #[.int .i64 x, .int .i64 y] t)) (some ⟨n, 0, none⟩) [x, y] := fun _ => ⟨_, _, rfl, fun i hi => by
  subst hn
  match i, hi with
  | 0, _ => simp [go_sem, nth]
  | 1, _ => simp [go_sem, nth]⟩
set_option maxRecDepth 100000 in
set_option maxHeartbeats 2000000 in
theorem classesG_any (a b : Int) (kd : UInt8) (w : World) (hk : kd = 32 ∨ kd = 115 ∨ kd = 111) (h0 : 0 ≤ a) (h1 : a ≤ 12) (h2 : 0 ≤ b) (h3 : b ≤ 12) :
    Calls Try.prog 69 #[gV a b (kdT kd)] w (ClsTo a b kd w) := by
  have K1 := Lib.hid (fun W => classAt_any a b W h0 h1 h2 h3)
  have K2 := Lib.hid (fun W => classAt_any b a W h2 h3 h0 h1)
  obtain ⟨x, ex⟩ : ∃ x, x = a * 13 + b := ⟨_, rfl⟩
  obtain ⟨y, ey⟩ : ∃ y, y = b * 13 + a := ⟨_, rfl⟩
  rw [← ex] at K1
  rw [← ey] at K2
  have EX := Lib.hid ex
  have EY := Lib.hid ey
  have HB := Lib.hid (bl_alloc (bl_refl w) (.cells #[.int .i64 a, .int .i64 b, strV (kdT kd)] 85))
  clear ex ey
  rcases hk with e | e | e
  · have HL : Hid (clsP a b kd = [x, y]) := Lib.hid (by rw [EX.out, EY.out, e]; rfl)
    have ht : kdT kd = [] := by rw [e]; rfl
    unfold ClsTo
    rw [HL.out, ht]
    rw [ht] at HB
    clear e ht
    go_enter Try.func69, Try.ntmps69
    go_wp2_with fail
    go_quiet ((go_at_call 72; first | (with_reducible exact quiet_left (K1.out _)) | (with_reducible exact quiet_left (K2.out _))))
    go_wp2_with fail
    go_ret
    exact ⟨_, _, rfl, by simp, rd_two _ _ _ _ _ (by simp), bl_alloc (bl_drewN HB.out _) _⟩
  · have HL : Hid (clsP a b kd = [x]) := Lib.hid (by rw [EX.out, e]; rfl)
    have ht : kdT kd = [115] := by rw [e]; rfl
    unfold ClsTo
    rw [HL.out, ht]
    rw [ht] at HB
    clear e ht
    go_enter Try.func69, Try.ntmps69
    go_wp2_with fail
    go_quiet ((go_at_call 72; first | (with_reducible exact quiet_left (K1.out _)) | (with_reducible exact quiet_left (K2.out _))))
    go_wp2_with fail
    go_ret
    exact ⟨_, _, rfl, by simp, rd_one _ _ _ _ (by simp), bl_alloc (bl_drewN HB.out _) _⟩
  · have HL : Hid (clsP a b kd = [y]) := Lib.hid (by rw [EY.out, e]; rfl)
    have ht : kdT kd = [111] := by rw [e]; rfl
    unfold ClsTo
    rw [HL.out, ht]
    rw [ht] at HB
    clear e ht
    go_enter Try.func69, Try.ntmps69
    go_wp2_with fail
    go_quiet ((go_at_call 72; first | (with_reducible exact quiet_left (K1.out _)) | (with_reducible exact quiet_left (K2.out _))))
    go_wp2_with fail
    go_ret
    exact ⟨_, _, rfl, by simp, rd_one _ _ _ _ (by simp), bl_alloc (bl_drewN HB.out _) _⟩
end Go.Proofs.Ytlpkaflmhdgmmaa
