/-
  The law FnExactDealHands returns true for every list of numbers and every two numbers, and leaves the list as it was: DealHands answers as its model, in new memory, no two hands of which share any.
  No condition.
-/
import Derived.Test.YtafifipnfhekiaaDealSpec
import Derived.Test.YtafifipnfhekiaaListNe
import Derived.Lib.SmallJoins
namespace Go.Proofs.Ytafifipnfhekiaa
open Go.ChangeShapes Go.WideShapes Go.ChangeAt Go.RowKit Go.Joins
set_option linter.unusedVariables false

theorem offs_const (R : Nat → List Int) (n : Nat) (h : ∀ j, (R j).length = n) : ∀ H, offs R H = H * n
  | 0 => by simp [offs]
  | H + 1 => by rw [offs, offs_const R n h H, h H, Nat.succ_mul]
theorem hands_bound (xs : List Int) (h c : Int) : handsN xs h c ≤ 10 ∧ handsN xs h c * c.toNat ≤ 52 ∧ (0 < handsN xs h c → c.toNat ≤ 52) := by
  unfold handsN
  split
  · next hk =>
    rw [Bool.and_eq_true] at hk
    obtain ⟨_, hk⟩ := hk
    unfold okDeal inB at hk
    simp only [Bool.and_eq_true, decide_eq_true_eq] at hk
    obtain ⟨⟨h1, h2⟩, h3, h4⟩ := hk
    have hm := deal_bound h c h1 h3 h4
    refine ⟨by omega, hm, fun h0 => Nat.le_trans (Nat.le_mul_of_pos_left c.toNat h0) hm⟩
  · exact ⟨by omega, by simp, fun h0 => by omega⟩
/-- A family below B is kept where nothing below B is written. -/
theorem Fam.keep {w w' : World} {lo B : Nat} {A : Option Addr} {H : Nat} {R : Nat → List Int} {AA : Nat → Option Addr} {CC : Nat → Nat} (h : Fam w lo A H R AA CC) (h1 : ∀ a, A = some a → a.block < B) (h2 : ∀ k, k < H → ∀ a, AA k = some a → a.block < B) (hb : Below B w w') : Fam w' lo A H R AA CC := by
  refine ⟨fun h0 => ?_, fun k hk => ⟨fun a e => ⟨((h.row k hk).1 a e).1, Nat.lt_of_lt_of_le ((h.row k hk).1 a e).2 hb.size⟩, fun h0 => ?_⟩, fun a e => ⟨(h.lo a e).1, Nat.lt_of_lt_of_le (h.lo a e).2 hb.size⟩, h.off, h.apart⟩
  · obtain ⟨g, off, rfl, hg, hc⟩ := h.outer h0
    exact ⟨g, off, rfl, Nat.lt_of_lt_of_le hg hb.size, fun k hk => (World.cell?_of_block (a := ⟨g, off + k, none⟩) (hb.block g (h1 _ rfl))).trans (hc k hk)⟩
  · obtain ⟨g, off, e, hc⟩ := (h.row k hk).2 h0
    have hbk := hb.block g (h2 k hk _ e)
    exact ⟨g, off, e, fun i hi => ⟨(World.cell?_of_block (a := ⟨g, off + i, none⟩) hbk).trans (hc i hi).1, (World.frozen?_of_block (a := ⟨g, off + i, none⟩) hbk).trans (hc i hi).2⟩⟩
theorem Fam.lt {w : World} {lo : Nat} {A : Option Addr} {H : Nat} {R : Nat → List Int} {AA : Nat → Option Addr} {CC : Nat → Nat} (h : Fam w lo A H R AA CC) : (∀ a, A = some a → a.block < w.heap.size) ∧ (∀ k, k < H → ∀ a, AA k = some a → a.block < w.heap.size) :=
  ⟨fun a e => (h.lo a e).2, fun k hk a e => ((h.row k hk).1 a e).2⟩
/-- Marking a family writes above its bound alone. -/
theorem markFam_below {w w' : World} {lo : Nat} {k0 : Int} {A : Option Addr} {H : Nat} {R : Nat → List Int} {AA : Nat → Option Addr} {CC : Nat → Nat} (h0 : Fam w lo A H R AA CC) (hl : lo ≤ w.heap.size) (h : MarkFam w lo k0 A H R AA CC H w') : Below lo w w' := by
  obtain ⟨_, h2, h3, h4, h5, h6⟩ := h
  exact ⟨h2.symm, h3.symm, h4.symm, h5, fun j hj => h6 j (Nat.lt_of_lt_of_le hj hl) (fun k hk a e => by have := ((h0.row k hk).1 a e).1; omega)⟩
theorem bl_mono {a w w' : World} {B : Nat} (h : Below a.heap.size a w) (hB : a.heap.size ≤ B) (hb : Below B w w') : Below a.heap.size a w' := h.trans (hb.mono hB)
/-- A row that is marked lies apart from a family. -/
theorem fam_ne {W1 W2 : World} {lo1 lo2 m d : Nat} {A B : Option Addr} {H : Nat} {R : Nat → List Int} {AA : Nat → Option Addr} {CC : Nat → Nat} {ys : List Int} (h1 : Fam W1 lo1 A H R AA CC) (h2 : Own W2 lo2 (.slice B m d) ys) (h : W1.heap.size ≤ lo2) :
    (∀ a, A = some a → some a.block ≠ (Value.slice B m d).ownBlock) ∧ ∀ k, k < H → ∀ a, AA k = some a → some a.block ≠ (Value.slice B m d).ownBlock := by
  have hh := h1.lt
  refine ⟨fun a ha e => ?_, fun k hk a ha e => ?_⟩
  · have := (World.ownsRow.lt h2 _ e.symm).1
    have := hh.1 a ha
    omega
  · have := (World.ownsRow.lt h2 _ e.symm).1
    have := hh.2 k hk a ha
    omega
theorem fam_ne' {W1 W2 : World} {lo1 lo2 m d : Nat} {A B : Option Addr} {H : Nat} {R : Nat → List Int} {AA : Nat → Option Addr} {CC : Nat → Nat} {ys : List Int} (h1 : Fam W1 lo1 A H R AA CC) (h2 : Own W2 lo2 (.slice B m d) ys) (h : W2.heap.size ≤ lo1) :
    (∀ a, A = some a → some a.block ≠ (Value.slice B m d).ownBlock) ∧ ∀ k, k < H → ∀ a, AA k = some a → some a.block ≠ (Value.slice B m d).ownBlock := by
  refine ⟨fun a ha e => ?_, fun k hk a ha e => ?_⟩
  · have := (World.ownsRow.lt h2 _ e.symm).2
    have := (h1.lo a ha).1
    omega
  · have := (World.ownsRow.lt h2 _ e.symm).2
    have := ((h1.row k hk).1 a ha).1
    omega

set_option maxRecDepth 100000 in
set_option maxHeartbeats 400000 in
theorem walkDeal_big (A : Option Addr) (c : Nat) (xs : List Int) (n1 n2 : Int) (w : World) (hm : xs.length ≤ maxLen) (h : 1048576 < xs.length) :
    Calls Try.prog 11 #[.slice A xs.length c, .int .i64 n1, .int .i64 n2] w (Fresh (.bool true) w) := by
  unfold maxLen at hm
  have h' : (1048576 : Int) < xs.length := by omega
  go_enter Try.func11, Try.ntmps11
  go_wp2_with fail
  go_ret
  exact ⟨rfl, bl_refl _⟩

set_option maxRecDepth 100000 in
set_option maxHeartbeats 2000000 in
theorem walkDeal_in (A : Option Addr) (c : Nat) (xs : List Int) (n1 n2 : Int) (w : World) (hr : Rd w A xs) (hn : xs.length ≤ 1048576) :
    Calls Try.prog 11 #[.slice A xs.length c, .int .i64 n1, .int .i64 n2] w (Fresh (.bool true) w) := by
  have HR := Lib.hid hr
  have hn4 : xs.length ≤ 4000000 := by omega
  have hn' : (xs.length : Int) ≤ 1048576 := by omega
  have B0 := Lib.hid (bl_refl w)
  obtain ⟨H, R, ky, hH, hof, hrw, K1, K2⟩ : ∃ (H : Nat) (R : Nat → List Int) (ky : Int), H ≤ 4000000 ∧ offs R H ≤ 4000000 ∧ Hid (∀ h, h < H → (R h).length ≤ 4000000) ∧ Hid (∀ (A : Option Addr) (c : Nat) (W : World), Rd W A xs → Calls Try.prog 24 #[.slice A xs.length c, .int .i64 n1, .int .i64 n2] W (NewFam H R ky W)) ∧ Hid (∀ (A : Option Addr) (c : Nat) (W : World), Rd W A xs → Calls Try.prog 23 #[.slice A xs.length c, .int .i64 n1, .int .i64 n2] W (NewFam H R ky W)) := by
    obtain ⟨b1, b2, b3⟩ := hands_bound xs n1 n2
    have hlen : ∀ j, (dealt n1.toNat n2.toNat j xs).length = n2.toNat := fun j => permN_length _ _ _
    refine ⟨handsN xs n1 n2, fun j => dealt n1.toNat n2.toNat j xs, codeD xs (okDeal n1 n2), by omega, ?_, Lib.hid (fun h hh => ?_), Lib.hid (fun A c W h => specDeal_any A c xs n1 n2 W h hn4), Lib.hid (fun A c W h => implDeal_any A c xs n1 n2 W h hn4)⟩
    · rw [offs_const _ n2.toNat hlen]; omega
    · show (dealt n1.toNat n2.toNat h xs).length ≤ 4000000
      rw [hlen h]; have := b3 (by omega); omega
  have k1 : decide ((1 : Int) + (xs.length : Int) < 0) = false := by simp; omega
  have k2 : decide ((1 : Int) + (offs R H : Int) < 0) = false := by simp; omega
  clear hr
  go_enter Try.func11, Try.ntmps11
  go_wp2_with (go_at_call 33; ((with_reducible refine (toInts_any A _ xs _ (HR.out.below B0.out) hn).mono ?_); rintro e w1 ⟨A1, c1, rfl, ho1, hb1⟩; have O1 := Lib.hid ho1; have B1 := Lib.hid (bl_trans B0.out hb1); have X1 := Lib.hid hb1; clear ho1 hb1))
  go_wp2_with (go_at_call 24; ((with_reducible refine (K1.out A1 _ _ O1.out.rd).mono ?_); rintro e w2 ⟨A2, c2, AA2, CC2, rfl, ho2, hb2⟩; have O2 := Lib.hid ho2; have X2 := Lib.hid hb2; have B2 := Lib.hid (bl_trans B1.out hb2); clear ho2 hb2))
  go_wp2_with (go_at_call 33; ((with_reducible refine (toInts_any A _ xs _ (HR.out.below B2.out) hn).mono ?_); rintro e w3 ⟨A3, c3, rfl, ho3, hb3⟩; have O3 := Lib.hid ho3; have B3 := Lib.hid (bl_trans B2.out hb3); have X3 := Lib.hid hb3; clear ho3 hb3))
  go_wp2_with (go_at_call 23; ((with_reducible refine (K2.out A3 _ _ O3.out.rd).mono ?_); rintro e w4 ⟨A4, c4, AA4, CC4, rfl, ho4, hb4⟩; have O4 := Lib.hid ho4; have X4 := Lib.hid hb4; have B4 := Lib.hid (bl_trans B3.out hb4); clear ho4 hb4))
  go_wp2_with (go_at_call 41; ((with_reducible refine (eqFam_same A4 A2 _ _ H R AA4 AA2 CC4 CC2 _ _ _ O4.out ((O2.out.below X3.out).below X4.out) hH hrw.out).mono ?_); rintro e w5 ⟨rfl, hb5⟩; have X5 := Lib.hid hb5; have B5 := Lib.hid (bl_trans B4.out hb5); clear hb5))
  go_wp2_with (go_at_call 33; ((with_reducible refine (toInts_any A _ xs _ (HR.out.below B5.out) hn).mono ?_); rintro e w6 ⟨A6, c6, rfl, ho6, hb6⟩; have O6 := Lib.hid ho6; have B6 := Lib.hid (bl_trans B5.out hb6); have X6 := Lib.hid hb6; clear ho6 hb6))
  go_wp2_with (go_at_call 34; ((with_reducible refine (eqInts_same A3 A6 _ _ xs _ (((O3.out.below X4.out).below X5.out).below X6.out).rd O6.out.rd hn4).mono ?_); rintro e w7 ⟨rfl, hb7⟩; have X7 := Lib.hid hb7; have B7 := Lib.hid (bl_trans B6.out hb7); clear hb7))
  have E7 : Hid (Own w7 w2.heap.size (.slice A3 xs.length c3) xs) := Lib.hid ((((O3.out.below X4.out).below X5.out).below X6.out).below X7.out)
  have D7 : Hid (Fam w7 w1.heap.size A2 H R AA2 CC2) := Lib.hid ((((((O2.out.below X3.out).below X4.out).below X5.out).below X6.out)).below X7.out)
  have G7 : Hid (Fam w7 w3.heap.size A4 H R AA4 CC4) := Lib.hid ((((O4.out.below X5.out).below X6.out)).below X7.out)
  have N1 := Lib.hid (fam_ne O2.out E7.out (Nat.le_refl _))
  have N2 := Lib.hid (fam_ne' G7.out O3.out (Nat.le_refl _))
  have N3 := Lib.hid O2.out.lt
  have Z7 : Hid (w3.heap.size ≤ w7.heap.size) := Lib.hid (Nat.le_trans X4.out.size (Nat.le_trans X5.out.size (Nat.le_trans X6.out.size X7.out.size)))
  go_wp2_with (go_at_call 39; ((with_reducible refine (mark_any A3 c3 _ xs _ _ E7.out hn4 (by omega) (by omega)).mono ?_); rintro e w8 ⟨rfl, ho8, hg8⟩; have B8 := Lib.hid (bl_mark B7.out hg8 E7.out (Nat.le_trans B1.out.size X2.out.size)); have D8 := Lib.hid (D7.out.grown hg8 N1.out.1 N1.out.2); have G8 := Lib.hid (G7.out.grown hg8 N2.out.1 N2.out.2); have Z8 := Lib.hid (Nat.le_trans Z7.out hg8.size); clear ho8 hg8))
  go_wp2_with (go_at_call 41; ((with_reducible refine (eqFam_same A4 A2 _ _ H R AA4 AA2 CC4 CC2 _ _ _ G8.out D8.out hH hrw.out).mono ?_); rintro e w9 ⟨rfl, hb9⟩; have X9 := Lib.hid hb9; have B9 := Lib.hid (bl_trans B8.out hb9); clear hb9))
  have G9 := Lib.hid (G8.out.below X9.out)
  have D9 := Lib.hid (D8.out.below X9.out)
  have Z9 := Lib.hid (Nat.le_trans Z8.out X9.out.size)
  go_wp2_with (go_at_call 42; ((with_reducible refine (markFam_any A4 c4 H _ R AA4 CC4 _ _ G9.out hH hof (by omega) (by omega)).mono ?_); rintro e w10 ⟨rfl, hm10⟩; have F10 := Lib.hid hm10.1; have U10 := Lib.hid (markFam_below G9.out Z9.out hm10); have B10 := Lib.hid (bl_mono B9.out B3.out.size U10.out); have D10 := Lib.hid (D9.out.keep (fun a e => Nat.lt_of_lt_of_le (N3.out.1 a e) X3.out.size) (fun k hk a e => Nat.lt_of_lt_of_le (N3.out.2 k hk a e) X3.out.size) U10.out); clear hm10))
  go_wp2_with (go_at_call 43; ((with_reducible refine (heldFam_any A4 c4 H _ R AA4 CC4 1 _ F10.out hH hof (by omega) (by omega)).mono ?_); rintro e w10b ⟨rfl, rfl⟩))
  go_wp2_with (go_at_call 33; ((with_reducible refine (toInts_any A _ xs _ (HR.out.below B10.out) hn).mono ?_); rintro e w11 ⟨A11, c11, rfl, ho11, hb11⟩; have O11 := Lib.hid ho11; have B11 := Lib.hid (bl_trans B10.out hb11); have X11 := Lib.hid hb11; clear ho11 hb11))
  go_wp2_with (go_at_call 23; ((with_reducible refine (K2.out A11 _ _ O11.out.rd).mono ?_); rintro e w12 ⟨A12, c12, AA12, CC12, rfl, ho12, hb12⟩; have O12 := Lib.hid ho12; have X12 := Lib.hid hb12; have B12 := Lib.hid (bl_trans B11.out hb12); clear ho12 hb12))
  go_wp2_with (go_at_call 41; ((with_reducible refine (eqFam_same A12 A2 _ _ H R AA12 AA2 CC12 CC2 _ _ _ O12.out ((D10.out.below X11.out).below X12.out) hH hrw.out).mono ?_); rintro e w13 ⟨rfl, hb13⟩; have X13 := Lib.hid hb13; have B13 := Lib.hid (bl_trans B12.out hb13); clear hb13))
  have G13 := Lib.hid (((F10.out.below X11.out).below X12.out).below X13.out)
  go_wp2_with (go_at_call 43; ((with_reducible refine (heldFam_any A4 c4 H _ R AA4 CC4 1 _ G13.out hH hof (by omega) (by omega)).mono ?_); rintro e w14 ⟨rfl, rfl⟩))
  go_ret
  exact ⟨rfl, B13.out⟩

theorem walkDeal (A : Option Addr) (c : Nat) (xs : List Int) (n1 n2 : Int) (w : World) (hm : xs.length ≤ maxLen) (hr : Rd w A xs) :
    Calls Try.prog 11 #[.slice A xs.length c, .int .i64 n1, .int .i64 n2] w (Fresh (.bool true) w) := by
  by_cases h : xs.length ≤ 1048576
  · exact walkDeal_in A c xs n1 n2 w hr h
  · exact walkDeal_big A c xs n1 n2 w hm (by omega)

set_option maxRecDepth 100000 in
theorem fnExactDealHands_lifted (os : Os) (started : os.Started) (H : Type) (enc : TypeId × Value → H) :
    ReturnsInHanded {} Try.checked os 11 .any (Rows.fnExactDealHandsSpec.pre6 enc Try.prog Try.f11 Rows.fnExactDealHandsRow.domain false) (Rows.fnExactDealHandsSpec.post enc Try.prog Try.f11 false true false false) := by
  refine law_lifted started (by kernel_rfl) Try.func11 (by kernel_rfl) rfl (fun ds h => ?_) ?_
    (ChangeSpec.witness6 (enc := enc) (C := Try.checked) false ⟨#[], #[.slice none 0 0, .int .i64 0, .int .i64 0], []⟩ 8 (by kernel_rfl) (by kernel_rfl) (by kernel_rfl) (by kernel_rfl)) ?_
  · match ds, h with
    | [d0, d1, d2], _ => rfl
  · rw [Try.params11]
    intro t ht
    rcases (show t = 24 ∨ t = 2 by simpa using ht) with rfl | rfl <;> exact ⟨by kernel_rfl, of_decide_eq_true (by kernel_rfl)⟩
  · intro W base args ds ps hval hA
    rw [Try.params11] at hA hval
    obtain ⟨v0, v1, v2, d0, d1, d2, p0, p1, p2, rfl, rfl, rfl, h0, h1, h2⟩ := trodAll_three hA
    obtain ⟨A0, c0, xs0, rfl, m0, r0⟩ := open_list (hval 0 24 v0 rfl rfl) h0
    obtain ⟨n1, rfl, rfl, rfl, wa1⟩ := open_int Try.underlying2 (hval 1 2 v1 rfl rfl) h1
    obtain ⟨n2, rfl, rfl, rfl, wa2⟩ := open_int Try.underlying2 (hval 2 2 v2 rfl rfl) h2
    exact walkDeal A0 c0 xs0 n1 n2 W m0 r0

/-- DealHands answers as its model, for every list and every two numbers. -/
theorem fnExactDealHands_holds : Rows.FnExactDealHandsSaid :=
  OpenClaim.holds_of_wide 11 Try.f11 rfl rfl rfl rfl rfl rfl rfl ⟨rfl, rfl, rfl, rfl, rfl⟩ rfl rfl rfl rfl rfl (by kernel_rfl) Try.func11 (by kernel_rfl)
    (of_decide_eq_true (by kernel_rfl)) (by unfold Func.isWrapper; first | (rw [if_pos (by decide +kernel)]; kernel_rfl) | (rw [if_neg (by decide +kernel)]; exact ⟨rfl, rfl⟩))
    (fun os started H enc _ => fnExactDealHands_lifted os started H enc)

end Go.Proofs.Ytafifipnfhekiaa
