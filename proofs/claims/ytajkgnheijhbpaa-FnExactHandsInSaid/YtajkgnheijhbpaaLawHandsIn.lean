/-
  The law FnExactHandsIn returns true for every variant and all two lists of numbers, and leaves the lists as they were: HandsIn answers as its model, in new memory, no two hands of which share any.
  No condition.
-/
import Derived.Test.YtajkgnheijhbpaaHandsFns
import Derived.Test.YtajkgnheijhbpaaDealRows
import Derived.Test.YtajkgnheijhbpaaMark
import Derived.Lib.SmallJoins
namespace Go.Proofs.Ytajkgnheijhbpaa
open Go.ChangeShapes Go.WideShapes Go.ChangeAt Go.RowKit Go.Joins
set_option linter.unusedVariables false

/-- Rows of five at most. -/
theorem offs_five (R : Nat → List Int) (h : ∀ j, (R j).length ≤ 5) : ∀ H, offs R H ≤ H * 5
  | 0 => by simp [offs]
  | H + 1 => by have := offs_five R h H; have := h H; rw [offs, Nat.succ_mul]; omega
/-- A family below B is kept where nothing below B is written. -/
theorem Fam.keep {w w' : World} {lo B : Nat} {A : Option Addr} {H : Nat} {R : Nat → List Int} {AA : Nat → Option Addr} {CC : Nat → Nat} (h : Fam w lo A H R AA CC) (h1 : ∀ a, A = some a → a.block < B) (h2 : ∀ k, k < H → ∀ a, AA k = some a → a.block < B) (hb : Below B w w') : Fam w' lo A H R AA CC := by
  refine ⟨fun h0 => ?_, fun k hk => ⟨fun a e => ⟨((h.row k hk).1 a e).1, Nat.lt_of_lt_of_le ((h.row k hk).1 a e).2 hb.size⟩, fun h0 => ?_⟩, fun a e => ⟨(h.lo a e).1, Nat.lt_of_lt_of_le (h.lo a e).2 hb.size⟩, h.off, h.apart⟩
  · obtain ⟨g, off, rfl, hg, hc⟩ := h.outer h0
    exact ⟨g, off, rfl, Nat.lt_of_lt_of_le hg hb.size, fun k hk => (World.cell?_of_block (a := ⟨g, off + k, none⟩) (hb.block g (h1 _ rfl))).trans (hc k hk)⟩
  · obtain ⟨g, off, e, hc⟩ := (h.row k hk).2 h0
    have hbk := hb.block g (h2 k hk _ e)
    exact ⟨g, off, e, fun i hi => ⟨(World.cell?_of_block (a := ⟨g, off + i, none⟩) hbk).trans (hc i hi).1, (World.frozen?_of_block (a := ⟨g, off + i, none⟩) hbk).trans (hc i hi).2⟩⟩
theorem Fam.lt {w : World} {lo : Nat} {A : Option Addr} {H : Nat} {R : Nat → List Int} {AA : Nat → Option Addr} {CC : Nat → Nat} (h : Fam w lo A H R AA CC) : (∀ a, A = some a → a.block < w.heap.size) ∧ (∀ k, k < H → ∀ a, AA k = some a → a.block < w.heap.size) :=
  ⟨fun a e => (h.lo a e).2, fun k hk a e => ((h.row k hk).1 a e).2⟩
/-- Marking a family writes above its bound alone. -/
theorem markFam_below {w w' : World} {lo : Nat} {k0 : Int} {A : Option Addr} {H : Nat} {R : Nat → List Int} {AA : Nat → Option Addr} {CC : Nat → Nat} (h0 : Fam w lo A H R AA CC) (hl : lo ≤ w.heap.size) (h : MarkFam w lo k0 A H R AA CC H w') : Below lo w w' := by
  obtain ⟨_, h2, h3, h4, h5, h6⟩ := h
  exact ⟨h2.symm, h3.symm, h4.symm, h5, fun j hj => h6 j (Nat.lt_of_lt_of_le hj hl) (fun k hk a e => by have := ((h0.row k hk).1 a e).1; omega)⟩
theorem bl_mono {a w w' : World} {B : Nat} (h : Below a.heap.size a w) (hB : a.heap.size ≤ B) (hb : Below B w w') : Below a.heap.size a w' := h.trans (hb.mono hB)
/-- A row that is marked lies apart from a family. -/
theorem fam_ne {W1 W2 : World} {lo1 lo2 m d : Nat} {A B : Option Addr} {H : Nat} {R : Nat → List Int} {AA : Nat → Option Addr} {CC : Nat → Nat} {ys : List Int} (h1 : Fam W1 lo1 A H R AA CC) (h2 : Own W2 lo2 (.slice B m d) ys) (h : W1.heap.size ≤ lo2) :
    (∀ a, A = some a → some a.block ≠ (Value.slice B m d).ownBlock) ∧ ∀ k, k < H → ∀ a, AA k = some a → some a.block ≠ (Value.slice B m d).ownBlock := by
  have hh := h1.lt
  refine ⟨fun a ha e => ?_, fun k hk a ha e => ?_⟩
  · have := (World.ownsRow.lt h2 _ e.symm).1
    have := hh.1 a ha
    omega
  · have := (World.ownsRow.lt h2 _ e.symm).1
    have := hh.2 k hk a ha
    omega
theorem fam_ne' {W1 W2 : World} {lo1 lo2 m d : Nat} {A B : Option Addr} {H : Nat} {R : Nat → List Int} {AA : Nat → Option Addr} {CC : Nat → Nat} {ys : List Int} (h1 : Fam W1 lo1 A H R AA CC) (h2 : Own W2 lo2 (.slice B m d) ys) (h : W2.heap.size ≤ lo1) :
    (∀ a, A = some a → some a.block ≠ (Value.slice B m d).ownBlock) ∧ ∀ k, k < H → ∀ a, AA k = some a → some a.block ≠ (Value.slice B m d).ownBlock := by
  refine ⟨fun a ha e => ?_, fun k hk a ha e => ?_⟩
  · have := (World.ownsRow.lt h2 _ e.symm).2
    have := (h1.lo a ha).1
    omega
  · have := (World.ownsRow.lt h2 _ e.symm).2
    have := ((h1.row k hk).1 a ha).1
    omega

set_option maxRecDepth 100000 in
set_option maxHeartbeats 400000 in
theorem walkHandsIn_big (h l m b : Int) (hi : Bool) (lo : Int) (A : Option Addr) (c : Nat) (xs : List Int) (E : Option Addr) (d : Nat) (ys : List Int) (w : World) (hm : xs.length ≤ maxLen) (hm2 : ys.length ≤ maxLen) (hx : 1048576 < xs.length) :
    Calls Try.prog 7 #[vV h l m b hi lo, .slice A xs.length c, .slice E ys.length d] w (Fresh (.bool true) w) := by
  unfold maxLen at hm hm2
  have h' : (1048576 : Int) < xs.length := by omega
  have B0 := Lib.hid (bl_alloc (bl_refl w) (.cells #[.int .i64 h, .int .i64 l, .int .i64 m, .int .i64 b, .bool hi, .int .i64 lo] 35))
  unfold vV
  go_enter Try.func7, Try.ntmps7
  go_wp2_with fail
  go_ret
  exact ⟨rfl, B0.out⟩
set_option maxRecDepth 100000 in
set_option maxHeartbeats 400000 in
theorem walkHandsIn_big2 (h l m b : Int) (hi : Bool) (lo : Int) (A : Option Addr) (c : Nat) (xs : List Int) (E : Option Addr) (d : Nat) (ys : List Int) (w : World) (hm : xs.length ≤ 1048576) (hm2 : ys.length ≤ maxLen) (hx : 1048576 < ys.length) :
    Calls Try.prog 7 #[vV h l m b hi lo, .slice A xs.length c, .slice E ys.length d] w (Fresh (.bool true) w) := by
  unfold maxLen at hm2
  have h' : (1048576 : Int) < ys.length := by omega
  have h2' : (xs.length : Int) ≤ 1048576 := by omega
  have B0 := Lib.hid (bl_alloc (bl_refl w) (.cells #[.int .i64 h, .int .i64 l, .int .i64 m, .int .i64 b, .bool hi, .int .i64 lo] 35))
  unfold vV
  go_enter Try.func7, Try.ntmps7
  go_wp2_with fail
  go_ret
  exact ⟨rfl, B0.out⟩

set_option maxRecDepth 100000 in
set_option maxHeartbeats 4000000 in
theorem walkHandsIn_in (h l m b : Int) (hi : Bool) (lo : Int) (A : Option Addr) (c : Nat) (xs : List Int) (E : Option Addr) (d : Nat) (ys : List Int) (w : World) (hm64 : i64B m) (hr : Rd w A xs) (hn : xs.length ≤ 1048576) (hr2 : Rd w E ys) (hn2 : ys.length ≤ 1048576) :
    Calls Try.prog 7 #[vV h l m b hi lo, .slice A xs.length c, .slice E ys.length d] w (Fresh (.bool true) w) := by
  have HR := Lib.hid hr
  have HQ := Lib.hid hr2
  have hn4 : xs.length ≤ 4000000 := by omega
  have hm4 : ys.length ≤ 4000000 := by omega
  have hn' : (xs.length : Int) ≤ 1048576 := by omega
  have hm' : (ys.length : Int) ≤ 1048576 := by omega
  have N0 := Lib.hid (blk_new w 35 [.int .i64 h, .int .i64 l, .int .i64 m, .int .i64 b, .bool hi, .int .i64 lo])
  have B0 := Lib.hid (bl_alloc (bl_refl w) (.cells #[.int .i64 h, .int .i64 l, .int .i64 m, .int .i64 b, .bool hi, .int .i64 lo] 35))
  have KT := Lib.hid (fun W : World => toVariant_any h l m b hi lo W)
  obtain ⟨H, R, ky, hH, hof, hrw, K1, K2⟩ : ∃ (H : Nat) (R : Nat → List Int) (ky : Int), H ≤ 4000000 ∧ offs R H ≤ 4000000 ∧ Hid (∀ h, h < H → (R h).length ≤ 4000000) ∧ Hid (∀ (A : Option Addr) (c : Nat) (E : Option Addr) (d : Nat) (W : World), Rd W A xs → xs.length ≤ c → Rd W E ys → ys.length ≤ d → Calls Try.prog 32 #[vV h l m b hi lo, .slice A xs.length c, .slice E ys.length d] W (NewFam H R ky W)) ∧ Hid (∀ (A : Option Addr) (c : Nat) (E : Option Addr) (d : Nat) (W : World), Rd W A xs → Rd W E ys → Calls Try.prog 33 #[vV h l m b hi lo, .slice A xs.length c, .slice E ys.length d] W (NewFam H R ky W)) := by
    have hbd := hands_bd (h := h) (l := l) (m := m) (b := b) (hi := hi) (lo := lo) (hs := xs) (bs := ys)
    refine ⟨_, _, _, by have := hbd.1; omega, ?_, Lib.hid (fun j hj => ?_), Lib.hid (fun A c E d W h1 hc h2 hc2 => specHandsIn_any h l m b hi lo A c xs E d ys W hm64 h1 h2 (by omega) (by omega) hc hc2), Lib.hid (fun A c E d W h1 h2 => implHandsIn_any h l m b hi lo A c xs E d ys W hm64 h1 h2 (by omega) (by omega))⟩
    · by_cases h0 : codeH h l m b hi lo xs ys = 0
      · have := offs_five _ (hbd.2 h0) (nH (codeH h l m b hi lo xs ys) l m xs ys)
        have := hbd.1
        omega
      · rw [nH_no h0]; simp [offs]
    · by_cases h0 : codeH h l m b hi lo xs ys = 0
      · have := hbd.2 h0 j; omega
      · rw [nH_no h0] at hj; omega
  have k1 : decide ((1 : Int) + (xs.length : Int) + (ys.length : Int) < 0) = false := by simp; omega
  have k2 : decide ((1 : Int) + (offs R H : Int) < 0) = false := by simp; omega
  have hofI : (offs R H : Int) ≤ 4000000 := by omega
  clear hr hr2
  unfold vV at *
  go_enter Try.func7, Try.ntmps7
  go_wp2_with (go_at_call 30; ((with_reducible refine (KT.out _).mono ?_); rintro e w1 ⟨rfl, hb1⟩; have X1 := Lib.hid hb1; have B1 := Lib.hid (bl_trans B0.out hb1); clear hb1))
  go_wp2_with (go_at_call 24; ((with_reducible refine (toInts_any A _ xs _ (HR.out.below B1.out) hn).mono ?_); rintro e w2 ⟨A2, c2, rfl, ho2, hb2⟩; have O2 := Lib.hid ho2; have B2 := Lib.hid (bl_trans B1.out hb2); have X2 := Lib.hid hb2; clear ho2 hb2))
  go_wp2_with (go_at_call 24; ((with_reducible refine (toInts_any E _ ys _ (HQ.out.below B2.out) hn2).mono ?_); rintro e w3 ⟨A3, c3, rfl, ho3, hb3⟩; have O3 := Lib.hid ho3; have B3 := Lib.hid (bl_trans B2.out hb3); have X3 := Lib.hid hb3; clear ho3 hb3))
  go_wp2_with (go_at_call 32; ((with_reducible refine (K1.out A2 _ A3 _ _ (O2.out.below X3.out).rd (own_cap O2.out) O3.out.rd (own_cap O3.out)).mono ?_); rintro e w4 ⟨A4, c4, AA4, CC4, rfl, hf4, hb4⟩; have F4 := Lib.hid hf4; have X4 := Lib.hid hb4; have B4 := Lib.hid (bl_trans B3.out hb4); clear hf4 hb4))
  go_wp2_with (go_at_call 24; ((with_reducible refine (toInts_any A _ xs _ (HR.out.below B4.out) hn).mono ?_); rintro e w5 ⟨A5, c5, rfl, ho5, hb5⟩; have O5 := Lib.hid ho5; have B5 := Lib.hid (bl_trans B4.out hb5); have X5 := Lib.hid hb5; clear ho5 hb5))
  have N5 := Lib.hid (((((N0.out.below X1.out).below X2.out).below X3.out).below X4.out).below X5.out)
  go_wp2_with (go_at_call 24; ((with_reducible refine (toInts_any E _ ys _ (HQ.out.below B5.out) hn2).mono ?_); rintro e w6 ⟨A6, c6, rfl, ho6, hb6⟩; have O6 := Lib.hid ho6; have B6 := Lib.hid (bl_trans B5.out hb6); have X6 := Lib.hid hb6; clear ho6 hb6; have N6 := Lib.hid (N5.out.below X6.out); obtain ⟨q0, _⟩ := N6.out.cell 0 _ rfl; obtain ⟨q1, _⟩ := N6.out.cell 1 _ rfl; obtain ⟨q2, _⟩ := N6.out.cell 2 _ rfl; obtain ⟨q3, _⟩ := N6.out.cell 3 _ rfl; obtain ⟨q4, _⟩ := N6.out.cell 4 _ rfl; obtain ⟨q5, _⟩ := N6.out.cell 5 _ rfl))
  go_wp2_with (go_at_call 30; ((with_reducible refine (KT.out _).mono ?_); rintro e w7 ⟨rfl, hb7⟩; have X7 := Lib.hid hb7; have B7 := Lib.hid (bl_trans B6.out hb7); clear hb7))
  clear q0 q1 q2 q3 q4 q5
  go_wp2_with (go_at_call 33; ((with_reducible refine (K2.out A5 _ A6 _ _ ((O5.out.below X6.out).below X7.out).rd (O6.out.below X7.out).rd).mono ?_); rintro e w8 ⟨A8, c8, AA8, CC8, rfl, hf8, hb8⟩; have F8 := Lib.hid hf8; have X8 := Lib.hid hb8; have B8 := Lib.hid (bl_trans B7.out hb8); clear hf8 hb8))
  go_wp2_with (go_at_call 34; ((with_reducible refine (eqFam_same A8 A4 _ _ H R AA8 AA4 CC8 CC4 _ _ _ F8.out ((((F4.out.below X5.out).below X6.out).below X7.out).below X8.out) hH hrw.out).mono ?_); rintro e w9 ⟨rfl, hb9⟩; have X9 := Lib.hid hb9; have B9 := Lib.hid (bl_trans B8.out hb9); clear hb9))
  go_wp2_with (go_at_call 24; ((with_reducible refine (toInts_any A _ xs _ (HR.out.below B9.out) hn).mono ?_); rintro e w10 ⟨A10, c10, rfl, ho10, hb10⟩; have O10 := Lib.hid ho10; have B10 := Lib.hid (bl_trans B9.out hb10); have X10 := Lib.hid hb10; clear ho10 hb10))
  go_wp2_with (go_at_call 26; ((with_reducible refine (eqInts_same A5 A10 _ _ xs _ (((((O5.out.below X6.out).below X7.out).below X8.out).below X9.out).below X10.out).rd O10.out.rd hn4).mono ?_); rintro e w11 ⟨rfl, hb11⟩; have X11 := Lib.hid hb11; have B11 := Lib.hid (bl_trans B10.out hb11); clear hb11))
  go_wp2_with (go_at_call 24; ((with_reducible refine (toInts_any E _ ys _ (HQ.out.below B11.out) hn2).mono ?_); rintro e w12 ⟨A12, c12, rfl, ho12, hb12⟩; have O12 := Lib.hid ho12; have B12 := Lib.hid (bl_trans B11.out hb12); have X12 := Lib.hid hb12; clear ho12 hb12))
  go_wp2_with (go_at_call 26; ((with_reducible refine (eqInts_same A6 A12 _ _ ys _ ((((((O6.out.below X7.out).below X8.out).below X9.out).below X10.out).below X11.out).below X12.out).rd O12.out.rd hm4).mono ?_); rintro e w13 ⟨rfl, hb13⟩; have X13 := Lib.hid hb13; have B13 := Lib.hid (bl_trans B12.out hb13); clear hb13))
  have X8d : Hid (Below w8.heap.size w8 w13) := Lib.hid (bl_trans (bl_trans (bl_trans (bl_trans X9.out X10.out) X11.out) X12.out) X13.out)
  have E5 : Hid (Own w13 w4.heap.size (.slice A5 xs.length c5) xs) := Lib.hid ((((O5.out.below X6.out).below X7.out).below X8.out).below X8d.out)
  have E6 : Hid (Own w13 w5.heap.size (.slice A6 ys.length c6) ys) := Lib.hid (((O6.out.below X7.out).below X8.out).below X8d.out)
  have D4 : Hid (Fam w13 w3.heap.size A4 H R AA4 CC4) := Lib.hid (((((F4.out.below X5.out).below X6.out).below X7.out).below X8.out).below X8d.out)
  have D8 : Hid (Fam w13 w7.heap.size A8 H R AA8 CC8) := Lib.hid (F8.out.below X8d.out)
  have N13 := Lib.hid (((N6.out.below X7.out).below X8.out).below X8d.out)
  have S1 : Hid (w.heap.size + 1 ≤ w3.heap.size ∧ w3.heap.size ≤ w4.heap.size ∧ w4.heap.size ≤ w5.heap.size ∧ w5.heap.size ≤ w6.heap.size ∧ w6.heap.size ≤ w7.heap.size ∧ w7.heap.size ≤ w13.heap.size) := Lib.hid ⟨by
    have := X1.out.size; have := X2.out.size; have := X3.out.size
    simp at *
    omega, X4.out.size, X5.out.size, X6.out.size, X7.out.size, Nat.le_trans X8.out.size X8d.out.size⟩
  have NE1 := Lib.hid (fam_ne F4.out E5.out (Nat.le_refl _))
  have NE2 := Lib.hid (fam_ne F4.out E6.out S1.out.2.2.1)
  have NE3 := Lib.hid (fam_ne' F8.out O5.out (Nat.le_trans S1.out.2.2.2.1 S1.out.2.2.2.2.1))
  have NE4 := Lib.hid (fam_ne' F8.out O6.out S1.out.2.2.2.2.1)
  have NE5 := Lib.hid (own_ne' E6.out O5.out (Nat.le_refl _))
  have L4 := Lib.hid F4.out.lt
  go_wp2_with (go_at_call 35; ((with_reducible refine (mark_any A5 c5 _ xs _ _ E5.out hn4 (by omega) (by omega)).mono ?_); rintro e w14 ⟨rfl, ho14, hg14⟩; have B14 := Lib.hid (bl_mark B13.out hg14 E5.out (by have := S1.out; omega)); have D4b := Lib.hid (D4.out.grown hg14 NE1.out.1 NE1.out.2); have D8b := Lib.hid (D8.out.grown hg14 NE3.out.1 NE3.out.2); have E6b := Lib.hid (E6.out.grown hg14 NE5.out); have N14 := Lib.hid (N13.out.grown hg14 (fun e => by have := (World.ownsRow.lt E5.out _ e.symm).1; have := S1.out; omega)); have Z14 := Lib.hid hg14.size; clear ho14 hg14))
  go_wp2_with (go_at_call 35; ((with_reducible refine (mark_any A6 c6 _ ys _ _ E6b.out hm4 (by omega) (by omega)).mono ?_); rintro e w15 ⟨rfl, ho15, hg15⟩; have B15 := Lib.hid (bl_mark B14.out hg15 E6b.out (by have := S1.out; omega)); have D4c := Lib.hid (D4b.out.grown hg15 NE2.out.1 NE2.out.2); have D8c := Lib.hid (D8b.out.grown hg15 NE4.out.1 NE4.out.2); have N15 := Lib.hid (N14.out.grown hg15 (fun e => by have := (World.ownsRow.lt E6b.out _ e.symm).1; have := S1.out; omega)); have Z15 := Lib.hid hg15.size; clear ho15 hg15))
  go_wp2_with (go_at_call 34; ((with_reducible refine (eqFam_same A8 A4 _ _ H R AA8 AA4 CC8 CC4 _ _ _ D8c.out D4c.out hH hrw.out).mono ?_); rintro e w16 ⟨rfl, hb16⟩; have X16 := Lib.hid hb16; have B16 := Lib.hid (bl_trans B15.out hb16); clear hb16))
  have G8 := Lib.hid (D8c.out.below X16.out)
  have G4 := Lib.hid (D4c.out.below X16.out)
  have N16 := Lib.hid (N15.out.below X16.out)
  have Z16 : Hid (w7.heap.size ≤ w16.heap.size) := Lib.hid (by have := S1.out; have := Z14.out; have := Z15.out; have := X16.out.size; omega)
  go_wp2_with (go_at_call 36; ((with_reducible refine (markFam_any A8 c8 H _ R AA8 CC8 _ _ G8.out hH hof (by omega) (by omega)).mono ?_); rintro e w17 ⟨rfl, hm17⟩; have F17 := Lib.hid hm17.1; have U17 := Lib.hid (markFam_below G8.out Z16.out hm17); have B17 := Lib.hid (bl_mono B16.out (by have := S1.out; omega) U17.out); have D17 := Lib.hid (G4.out.keep (fun a e => Nat.lt_of_lt_of_le (L4.out.1 a e) (by have := S1.out; omega)) (fun k hk a e => Nat.lt_of_lt_of_le (L4.out.2 k hk a e) (by have := S1.out; omega)) U17.out); have N17 : Hid (Blk w17 w.heap.size 35 [.int .i64 h, .int .i64 l, .int .i64 m, .int .i64 b, .bool hi, .int .i64 lo]) := Lib.hid ((U17.out.block _ (by have := S1.out; omega)).trans N16.out); clear hm17))
  obtain ⟨q0, _⟩ := N17.out.cell 0 _ rfl; obtain ⟨q1, _⟩ := N17.out.cell 1 _ rfl; obtain ⟨q2, _⟩ := N17.out.cell 2 _ rfl; obtain ⟨q3, _⟩ := N17.out.cell 3 _ rfl; obtain ⟨q4, _⟩ := N17.out.cell 4 _ rfl; obtain ⟨q5, _⟩ := N17.out.cell 5 _ rfl
  go_wp2_with (go_at_call 37; ((with_reducible refine (heldFam_any A8 c8 H _ R AA8 CC8 1 _ F17.out hH hof (by omega) (by omega)).mono ?_); rintro e w17b ⟨rfl, rfl⟩))
  go_wp2_with (go_at_call 30; ((with_reducible refine (KT.out _).mono ?_); rintro e w18 ⟨rfl, hb18⟩; have X18 := Lib.hid hb18; have B18 := Lib.hid (bl_trans B17.out hb18); clear hb18))
  clear q0 q1 q2 q3 q4 q5
  go_wp2_with (go_at_call 24; ((with_reducible refine (toInts_any A _ xs _ (HR.out.below B18.out) hn).mono ?_); rintro e w19 ⟨A19, c19, rfl, ho19, hb19⟩; have O19 := Lib.hid ho19; have B19 := Lib.hid (bl_trans B18.out hb19); have X19 := Lib.hid hb19; clear ho19 hb19))
  go_wp2_with (go_at_call 24; ((with_reducible refine (toInts_any E _ ys _ (HQ.out.below B19.out) hn2).mono ?_); rintro e w20 ⟨A20, c20, rfl, ho20, hb20⟩; have O20 := Lib.hid ho20; have B20 := Lib.hid (bl_trans B19.out hb20); have X20 := Lib.hid hb20; clear ho20 hb20))
  go_wp2_with (go_at_call 33; ((with_reducible refine (K2.out A19 _ A20 _ _ (O19.out.below X20.out).rd O20.out.rd).mono ?_); rintro e w21 ⟨A21, c21, AA21, CC21, rfl, hf21, hb21⟩; have F21 := Lib.hid hf21; have X21 := Lib.hid hb21; have B21 := Lib.hid (bl_trans B20.out hb21); clear hf21 hb21))
  have X17d : Hid (Below w17.heap.size w17 w21) := Lib.hid (bl_trans (bl_trans (bl_trans X18.out X19.out) X20.out) X21.out)
  go_wp2_with (go_at_call 34; ((with_reducible refine (eqFam_same A21 A4 _ _ H R AA21 AA4 CC21 CC4 _ _ _ F21.out (D17.out.below X17d.out) hH hrw.out).mono ?_); rintro e w22 ⟨rfl, hb22⟩; have X22 := Lib.hid hb22; have B22 := Lib.hid (bl_trans B21.out hb22); clear hb22))
  have F22 := Lib.hid ((F17.out.below X17d.out).below X22.out)
  go_wp2_with (go_at_call 37; ((with_reducible refine (heldFam_any A8 c8 H _ R AA8 CC8 1 _ F22.out hH hof (by omega) (by omega)).mono ?_); rintro e w23 ⟨rfl, rfl⟩))
  go_ret
  exact ⟨rfl, B22.out⟩

theorem walkHandsIn (h l m b : Int) (hi : Bool) (lo : Int) (A : Option Addr) (c : Nat) (xs : List Int) (E : Option Addr) (d : Nat) (ys : List Int) (w : World) (hm64 : i64B m) (hm : xs.length ≤ maxLen) (hr : Rd w A xs) (hm2 : ys.length ≤ maxLen) (hr2 : Rd w E ys) :
    Calls Try.prog 7 #[vV h l m b hi lo, .slice A xs.length c, .slice E ys.length d] w (Fresh (.bool true) w) := by
  by_cases hx : xs.length ≤ 1048576
  · by_cases h2 : ys.length ≤ 1048576
    · exact walkHandsIn_in h l m b hi lo A c xs E d ys w hm64 hr hx hr2 h2
    · exact walkHandsIn_big2 h l m b hi lo A c xs E d ys w hx hm2 (by omega)
  · exact walkHandsIn_big h l m b hi lo A c xs E d ys w hm hm2 (by omega)

set_option maxRecDepth 100000 in
theorem fnExactHandsIn_lifted (os : Os) (started : os.Started) (H : Type) (enc : TypeId × Value → H) :
    ReturnsInHanded {} Try.checked os 7 .any (Rows.fnExactHandsInSpec.pre6 enc Try.prog Try.f7 Rows.fnExactHandsInRow.domain false) (Rows.fnExactHandsInSpec.post enc Try.prog Try.f7 false true false false) := by
  refine law_lifted started (by kernel_rfl) Try.func7 (by kernel_rfl) rfl (fun ds h => ?_) ?_
    (ChangeSpec.witness6 (enc := enc) (C := Try.checked) false ⟨#[], #[.agg #[.int .i64 0, .int .i64 0, .int .i64 0, .int .i64 0, .bool false, .int .i64 0], .slice none 0 0, .slice none 0 0], []⟩ 8 (by kernel_rfl) (by kernel_rfl) (by kernel_rfl) (by kernel_rfl)) ?_
  · match ds, h with
    | [d0, d1, d2], _ => rfl
  · rw [Try.params7]
    intro t ht
    rcases (show t = 35 ∨ t = 24 by simpa using ht) with rfl | rfl <;> exact ⟨by kernel_rfl, of_decide_eq_true (by kernel_rfl)⟩
  · intro W base args ds ps hval hA
    rw [Try.params7] at hA hval
    obtain ⟨v0, v1, v2, d0, d1, d2, p0, p1, p2, rfl, rfl, rfl, h0, h1, h2⟩ := trodAll_three hA
    obtain ⟨vh, vl, vm, vb, vhi, vlo, rfl, wvh, wvl, wvm, wvb, wvlo⟩ := open_variant (hval 0 35 v0 rfl rfl) h0
    obtain ⟨A1, c1, xs1, rfl, m1, r1⟩ := open_list (hval 1 24 v1 rfl rfl) h1
    obtain ⟨A2, c2, xs2, rfl, m2, r2⟩ := open_list (hval 2 24 v2 rfl rfl) h2
    exact walkHandsIn vh vl vm vb vhi vlo A1 c1 xs1 A2 c2 xs2 W wvm m1 r1 m2 r2

/-- HandsIn answers as its model, for every variant and all two lists. -/
theorem fnExactHandsIn_holds : Rows.FnExactHandsInSaid :=
  OpenClaim.holds_of_wide 7 Try.f7 rfl rfl rfl rfl rfl rfl rfl ⟨rfl, rfl, rfl, rfl, rfl⟩ rfl rfl rfl rfl rfl (by kernel_rfl) Try.func7 (by kernel_rfl)
    (of_decide_eq_true (by kernel_rfl)) (by unfold Func.isWrapper; first | (rw [if_pos (by decide +kernel)]; kernel_rfl) | (rw [if_neg (by decide +kernel)]; exact ⟨rfl, rfl⟩))
    (fun os started H enc _ => fnExactHandsIn_lifted os started H enc)

end Go.Proofs.Ytajkgnheijhbpaa
