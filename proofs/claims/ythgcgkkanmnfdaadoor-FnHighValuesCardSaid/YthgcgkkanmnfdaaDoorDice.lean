/-
  The laws' own dice: roll and below: their walks, over any state.
-/
import Derived.Test.YthgcgkkanmnfdaaDoorDraws
import Derived.Laws.Bits64
import Derived.Laws.BitsLemmas
namespace Go.Proofs.YthgcgkkanmnfdaaDoor
open Go.RowKit
set_option linter.unusedVariables false

/-- A number of 64 bits without sign. -/
def U64 (h : Int) : Prop := 0 ≤ h ∧ h < 18446744073709551616
theorem u64_wrap (x : Int) : U64 (IntKind.u64.wrap x) := by rw [IntKind.wrap_u64]; unfold U64; omega
/-- The cells of a dice: the code, the place in it, the number. -/
def DiceAt (w : World) (d : Nat) (cv : Value) (k h : Int) : Prop :=
  w.cell? ⟨d, 0, none⟩ = some cv ∧ w.cell? ⟨d, 1, none⟩ = some (.int .i64 k) ∧ w.cell? ⟨d, 2, none⟩ = some (.int .u64 h) ∧ w.frozen? ⟨d, 1, none⟩ = false ∧ w.frozen? ⟨d, 2, none⟩ = false
structure Dice (w : World) (d : Nat) (a : Option Addr) (L c : Nat) (zs : Nat → Int) : Prop where
  at' : ∃ (k : Nat) (h : Int), DiceAt w d (.slice a L c) k h ∧ k ≤ L ∧ U64 h
  code : L = 0 ∨ ∃ b off : Nat, a = some ⟨b, off, none⟩ ∧ b ≠ d ∧ CodeAt w b off L zs
  len : L ≤ 4096
theorem diceAt_set2 {w : World} {d : Nat} {cv : Value} {k h : Int} (q : DiceAt w d cv k h) (h' : Int) : DiceAt (w.setCell ⟨d, 2, none⟩ (.int .u64 h')) d cv k h' := by
  obtain ⟨c0, c1, c2, f1, f2⟩ := q
  refine ⟨(World.cell?_setCell_other w _ _ _ (by simp)).trans c0, (World.cell?_setCell_other w _ _ _ (by simp)).trans c1, World.cell?_setCell_same w _ _ c2, ?_, ?_⟩ <;> simp [go_sem, f1, f2]
theorem diceAt_set1 {w : World} {d : Nat} {cv : Value} {k h : Int} (q : DiceAt w d cv k h) (k' : Int) : DiceAt (w.setCell ⟨d, 1, none⟩ (.int .i64 k')) d cv k' h := by
  obtain ⟨c0, c1, c2, f1, f2⟩ := q
  refine ⟨(World.cell?_setCell_other w _ _ _ (by simp)).trans c0, World.cell?_setCell_same w _ _ c1, (World.cell?_setCell_other w _ _ _ (by simp)).trans c2, ?_, ?_⟩ <;> simp [go_sem, f1, f2]
theorem diceAt_drewN {w : World} {d : Nat} {cv : Value} {k h : Int} (q : DiceAt w d cv k h) (n : Nat) : DiceAt (w.drewN n) d cv k h := q

/-- What roll leaves. -/
def Rolled (w : World) (a : Option Addr) (L c : Nat) (zs : Nat → Int) (e : Ending) (w' : World) : Prop := e = .returned (.pointer (some ⟨w.heap.size, 0, none⟩)) ∧ Dice w' w.heap.size a L c zs ∧ Below w.heap.size w w'
set_option maxRecDepth 100000 in
set_option maxHeartbeats 1000000 in
theorem roll_any (a : Option Addr) (L c : Nat) (zs : Nat → Int) (sd : Int) (w : World) (hL : L ≤ 4096) (hc : CodeIn w a L zs) :
    Calls Tryd.prog 14 #[.slice a L c, .int .u64 sd] w (Rolled w a L c zs) := by
  have HC := Lib.hid hc
  clear hc
  have hL' : (L : Int) ≤ 4096 := by omega
  obtain ⟨w0, rfl⟩ : ∃ w0 : World, w0 = w := ⟨w, rfl⟩
  go_enter Tryd.func14, Tryd.ntmps14
  go_wp2_with fail
  have HS0 : Hid (DiceAt (w0.alloc (.cells #[.slice a L c, .int .i64 0, .int .u64 (IntKind.u64.wrap (IntKind.u64.wrap (sd * 7919) + ↑L))] 56)) w0.heap.size (.slice a L c) 0 (IntKind.u64.wrap (IntKind.u64.wrap (sd * 7919) + ↑L))) := Lib.hid ⟨by simp [go_sem], by simp [go_sem], by simp [go_sem], by simp [go_sem], by simp [go_sem]⟩
  have HB0 := Lib.hid (bl_alloc (bl_refl w0) (.cells #[.slice a L c, .int .i64 0, .int .u64 (IntKind.u64.wrap (IntKind.u64.wrap (sd * 7919) + ↑L))] 56))
  go_loopw [6] (fun i wr => ∃ (k : Nat) (h : Int), k ≤ L ∧ i = .int .i64 k ∧ Hid (DiceAt wr w0.heap.size (.slice a L c) 0 h ∧ U64 h ∧ Below w0.heap.size w0 wr)) (fun i _ => L - (intOf i).toNat)
  case atStart => exact ⟨0, _, by omega, rfl, Lib.hid ⟨HS0.out, u64_wrap _, HB0.out⟩⟩
  case round =>
    obtain ⟨k, h, hk, rfl, hs⟩ := hrel
    by_cases hlt : k < L
    · have hlt' : (k : Int) < L := by omega
      rcases HC.out with h0 | ⟨b, off, rfl, hz⟩
      · omega
      · obtain ⟨z0, z1, z2⟩ := hz k hlt
        have hb := World.block_lt_of_cell? w0 _ z0
        have hz' := (hs.out.2.2.cell (p := ⟨b, off + k, none⟩) hb).trans z0
        obtain ⟨c0, c1, c2, f1, f2⟩ := hs.out.1
        generalize zs k = z at *
        clear z0 hz
        go_wp2_with fail
        go_region
        all_goals
          go_wp2_with fail
          go_roundw
          case rel =>
            exact ⟨k + 1, _, by omega, by go_num, Lib.hid ⟨diceAt_set2 hs.out.1 _, u64_wrap _, bl_set (bl_drew hs.out.2.2) (Nat.le_refl _) _⟩⟩
          case measure => simp [intOf]; omega
    · obtain rfl : k = L := by omega
      have hs := hs.out
      go_wp2_with fail
      go_ret
      refine ⟨rfl, ⟨⟨0, h, hs.1, by omega, hs.2.1⟩, ?_, hL⟩, hs.2.2⟩
      rcases HC.out with h0 | ⟨b, off, e, hz⟩
      · exact .inl h0
      · by_cases h0 : k = 0
        · exact .inl h0
        · have hb := World.block_lt_of_cell? w0 _ (hz 0 (by omega)).1
          exact .inr ⟨b, off, e, by simp at hb; omega, codeAt_below hz hs.2.2⟩

theorem u64_same (n : Int) (h0 : 0 ≤ n) (h1 : n < 2 ^ 64) : IntKind.u64.wrap n = n := by rw [IntKind.wrap_u64]; omega
theorem mask_bd (y : Int) (h : U64 y) : ∃ z : Int, wrap64 (bits .and .u64 (y / 8589934592) 16777215) = z ∧ 0 ≤ z ∧ z ≤ 16777215 := by
  unfold U64 at h
  have hb : bits .and .u64 (y / 8589934592) (2 ^ 24 - 1) = y / 8589934592 % 2 ^ 24 := bits_mask .u64 64 (by decide) u64_same 24 (by decide) (y / 8589934592) (by omega) (by omega)
  have e : ((2 : Int) ^ 24 - 1) = 16777215 := by decide
  rw [e] at hb
  have hr : 0 ≤ y / 8589934592 % 2 ^ 24 ∧ y / 8589934592 % 2 ^ 24 ≤ 16777215 := by omega
  refine ⟨y / 8589934592 % 2 ^ 24, ?_, hr.1, hr.2⟩
  rw [hb]
  generalize y / 8589934592 % 2 ^ 24 = q at *
  unfold wrap64
  omega
/-- What below leaves. -/
def Under (n : Int) (w : World) (d : Nat) (a : Option Addr) (L c : Nat) (zs : Nat → Int) (e : Ending) (w' : World) : Prop := ∃ x : Int, e = .returned (.int .i64 x) ∧ 0 ≤ x ∧ x < n ∧ Dice w' d a L c zs ∧ Only d w w'
theorem under_mk {n : Int} {w w' : World} {d : Nat} {a : Option Addr} {L c : Nat} {zs : Nat → Int} (z : Int) (hz : 0 ≤ z) (hn : 1 < n) {e : Ending} (he : e = .returned (.int .i64 (z % n))) (hd : Dice w' d a L c zs) (ho : Only d w w') : Under n w d a L c zs e w' :=
  ⟨z % n, he, Int.emod_nonneg _ (by omega), Int.emod_lt_of_pos _ (by omega), hd, ho⟩
set_option maxRecDepth 100000 in
set_option maxHeartbeats 2000000 in
theorem under_any (d : Nat) (n : Int) (a : Option Addr) (L c : Nat) (zs : Nat → Int) (w : World) (hn : 1 < n) (hn' : n ≤ 1000000) (q : Dice w d a L c zs) :
    Calls Tryd.prog 15 #[.pointer (some ⟨d, 0, none⟩), .int .i64 n] w (Under n w d a L c zs) := by
  have HD := Lib.hid q
  obtain ⟨⟨k, h, hd, hk, hu⟩, hcode, hL⟩ := q
  have HA := Lib.hid hd
  obtain ⟨c0, c1, c2, f1, f2⟩ := hd
  go_enter Tryd.func15, Tryd.ntmps15
  go_wp2_with fail
  obtain ⟨z, ez, z0, z1⟩ := mask_bd _ (u64_wrap (IntKind.u64.wrap (h * 6364136223846793005) + 1442695040888963407))
  rw [ez]
  have HU := Lib.hid (u64_wrap (IntKind.u64.wrap (h * 6364136223846793005) + 1442695040888963407))
  generalize IntKind.u64.wrap (IntKind.u64.wrap (h * 6364136223846793005) + 1442695040888963407) = h' at *
  have HW := Lib.hid (diceAt_set2 HA.out h')
  have HO := Lib.hid (only_set (only_refl d w) 2 (.int .u64 h'))
  clear ez c0 c1 c2 f1 f2 hu
  generalize w.setCell ⟨d, 2, none⟩ (.int .u64 h') = w1 at *
  obtain ⟨c0, c1, c2, f1, f2⟩ := HW.out
  have hk0 : (0 : Int) ≤ (k : Int) := by omega
  have hk4 : (k : Int) ≤ 4096 := by omega
  by_cases hlt : k < L
  · have hlt' : (k : Int) < L := by omega
    rcases hcode with h0 | ⟨b, off, rfl, hne, hz⟩
    · omega
    · obtain ⟨y0, y1, y2⟩ := hz k hlt
      have hy := (only_cell HO.out (World.block_lt_of_cell? w _ y0) hne).trans y0
      have HZ := Lib.hid (codeAt_only hz HO.out hne)
      generalize zs k = y at *
      have em : (z + y).tmod n = (z + y) % n := Int.tmod_eq_emod_of_nonneg (by omega)
      clear y0 hz
      go_wp2_with fail
      go_quiet (fail)
      go_wp2_with fail
      go_quiet (fail)
      go_wp2_with fail
      go_ret
      refine under_mk (z + y) (by omega) hn rfl ⟨⟨k + 1, h', ?_, by omega, HU.out⟩, .inr ⟨b, off, rfl, hne, ?_⟩, hL⟩ ?_
      · repeat (first | exact diceAt_set1 HW.out _ | apply diceAt_drewN)
      · exact codeAt_only HZ.out (by repeat (first | exact only_refl _ _ | apply only_set | apply only_drewN)) hne
      · refine only_trans HO.out ?_
        repeat (first | exact only_refl _ _ | apply only_set | apply only_drewN)
  · obtain rfl : k = L := by omega
    have em : z.tmod n = z % n := Int.tmod_eq_emod_of_nonneg z0
    go_wp2_with fail
    go_quiet (fail)
    go_wp2_with fail
    go_ret
    refine under_mk z z0 hn rfl ⟨⟨k, h', ?_, by omega, HU.out⟩, ?_, hL⟩ ?_
    · repeat (first | exact HW.out | apply diceAt_drewN)
    · rcases hcode with h0 | ⟨b, off, e, hne, hz⟩
      · exact .inl h0
      · exact .inr ⟨b, off, e, hne, codeAt_only hz (by repeat (first | exact HO.out | apply only_drewN)) hne⟩
    · repeat (first | exact HO.out | apply only_drewN)
end Go.Proofs.YthgcgkkanmnfdaaDoor
