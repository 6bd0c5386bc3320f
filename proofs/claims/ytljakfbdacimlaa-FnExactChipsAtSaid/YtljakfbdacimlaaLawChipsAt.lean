/-
  The law FnExactChipsAt returns true for every table, and leaves it as it was: ChipsAt answers as its model.
  No condition.
-/
import Derived.Test.YtljakfbdacimlaaTabHelp
import Derived.Test.YtljakfbdacimlaaImplSeats
import Derived.Test.YtljakfbdacimlaaChipsTab
import Derived.Lib.SmallJoins
namespace Go.Proofs.Ytljakfbdacimlaa
open Go.ChangeShapes Go.WideShapes Go.ChangeAt Go.RowKit Go.Joins
set_option linter.unusedVariables false

set_option maxRecDepth 100000 in
set_option maxHeartbeats 1000000 in
theorem walkChipsAt_big (A : Option Addr) (c : Nat) (xs : List Int) (b s g a l : Int) (w : World) (hm : xs.length ≤ maxLen) (h : 1048576 < xs.length) :
    Calls Try.prog 6 #[tV A xs.length c b s g a l] w (Fresh (.bool true) w) := by
  have KZ := Lib.hid (fun W : World => szTable_any A xs.length c b s g a l 1048576 W (by omega) (by omega) (by unfold maxLen at hm; omega))
  rw [if_pos (by omega)] at KZ
  have n0 := blk_new w 49 [.slice A xs.length c, .int .i64 b, .int .i64 s, .int .i64 g, .int .i64 a, .int .i64 l]
  have N0 := Lib.hid n0
  have B := Lib.hid (bl_alloc (bl_refl w) (.cells ([.slice A xs.length c, .int .i64 b, .int .i64 s, .int .i64 g, .int .i64 a, .int .i64 l] : List Value).toArray 49))
  clear n0
  unfold tV at *
  go_enter Try.func6, Try.ntmps6
  go_wp2_with (first
    | (go_at_call 38; refine (KZ.out _).mono ?_; rintro e wn ⟨rfl, hb⟩; have N0a := Lib.hid (N0.out.below hb); clear N0; have N0 := N0a; clear N0a; have Ba := Lib.hid (bl_trans B.out hb); clear B hb; have B := Ba; clear Ba; obtain ⟨q0_0, _⟩ := N0.out.cell 0 _ rfl; obtain ⟨q0_1, _⟩ := N0.out.cell 1 _ rfl; obtain ⟨q0_2, _⟩ := N0.out.cell 2 _ rfl; obtain ⟨q0_3, _⟩ := N0.out.cell 3 _ rfl; obtain ⟨q0_4, _⟩ := N0.out.cell 4 _ rfl; obtain ⟨q0_5, _⟩ := N0.out.cell 5 _ rfl))
  go_ret
  exact ⟨rfl, B.out⟩
set_option maxRecDepth 100000 in
set_option maxHeartbeats 4000000 in
theorem walkChipsAt_in (A : Option Addr) (c : Nat) (xs : List Int) (b s g a l : Int) (w : World) (hr : Rd w A xs) (hn : xs.length ≤ 1048576) :
    Calls Try.prog 6 #[tV A xs.length c b s g a l] w (Fresh (.bool true) w) := by
  have hn4 : xs.length ≤ 4000000 := by omega
  have hn' : (xs.length : Int) ≤ 1048576 := by omega
  have KZ := Lib.hid (fun W : World => szTable_any A xs.length c b s g a l 1048576 W (by omega) (by omega) (by omega))
  rw [if_neg (by omega)] at KZ
  have KT := Lib.hid (fun (W : World) (h : Below w.heap.size w W) => toTable_any A c xs b s g a l W (hr.below h) hn)
  obtain ⟨r0, r1, K1, K2⟩ : ∃ (r0 : Int) (r1 : Int), Hid (∀ (A : Option Addr) (c : Nat) (W : World), Rd W A xs → Calls Try.prog 39 #[tV A xs.length c b s g a l] W (Fresh (pairV r0 r1) W)) ∧ Hid (∀ (A : Option Addr) (c : Nat) (W : World), Rd W A xs → Calls Try.prog 41 #[tV A xs.length c b s g a l] W (Fresh (pairV r0 r1) W)) :=
    ⟨_, _, Lib.hid (fun A c W h => specChips_any A c xs b s g a l W h hn4), Lib.hid (fun A c W h => implChips_any A c xs b s g a l W h hn4)⟩
  have hmx : Try.prog.follows .mixedOrders = true := by kernel_rfl
  have dz : decide ((1048576 : Int) - (xs.length : Int) < 0) = false := by simp; omega
  clear hr
  unfold tV at *
  have NA := Lib.hid (blk_new w 49 [.slice A xs.length c, .int .i64 b, .int .i64 s, .int .i64 g, .int .i64 a, .int .i64 l])
  have B1 := Lib.hid (bl_alloc (bl_refl w) (.cells ([.slice A xs.length c, .int .i64 b, .int .i64 s, .int .i64 g, .int .i64 a, .int .i64 l] : List Value).toArray 49))
  go_enter Try.func6, Try.ntmps6
  go_wp2_with (go_at_call 38; refine (KZ.out _).mono ?_; rintro e w2 ⟨rfl, hb⟩; have X2 := Lib.hid hb; have B2 := Lib.hid (bl_trans B1.out hb); obtain ⟨q1, _⟩ := ((NA.out.below X2.out)).cell 0 _ rfl; obtain ⟨q2, _⟩ := ((NA.out.below X2.out)).cell 1 _ rfl; obtain ⟨q3, _⟩ := ((NA.out.below X2.out)).cell 2 _ rfl; obtain ⟨q4, _⟩ := ((NA.out.below X2.out)).cell 3 _ rfl; obtain ⟨q5, _⟩ := ((NA.out.below X2.out)).cell 4 _ rfl; obtain ⟨q6, _⟩ := ((NA.out.below X2.out)).cell 5 _ rfl)
  go_wp2_with (go_at_call 40; refine (KT.out _ B2.out).mono ?_; rintro e w3 ⟨A1, c1, rfl, ho, hb⟩; have X3 := Lib.hid hb; have B3 := Lib.hid (bl_trans B2.out hb); have O1 := Lib.hid (Row.of_own ho); clear q1 q2 q3 q4 q5 q6; obtain ⟨q7, _⟩ := (((NA.out.below X2.out).below X3.out)).cell 0 _ rfl; obtain ⟨q8, _⟩ := (((NA.out.below X2.out).below X3.out)).cell 1 _ rfl; obtain ⟨q9, _⟩ := (((NA.out.below X2.out).below X3.out)).cell 2 _ rfl; obtain ⟨q10, _⟩ := (((NA.out.below X2.out).below X3.out)).cell 3 _ rfl; obtain ⟨q11, _⟩ := (((NA.out.below X2.out).below X3.out)).cell 4 _ rfl; obtain ⟨q12, _⟩ := (((NA.out.below X2.out).below X3.out)).cell 5 _ rfl)
  go_wp2_with (go_at_call 39; refine (K1.out _ _ _ O1.out.rd).mono ?_; rintro e w4 ⟨rfl, hb⟩; have X4 := Lib.hid hb; have B4 := Lib.hid (bl_trans B3.out hb); clear q7 q8 q9 q10 q11 q12; obtain ⟨q13, _⟩ := ((((NA.out.below X2.out).below X3.out).below X4.out)).cell 0 _ rfl; obtain ⟨q14, _⟩ := ((((NA.out.below X2.out).below X3.out).below X4.out)).cell 1 _ rfl; obtain ⟨q15, _⟩ := ((((NA.out.below X2.out).below X3.out).below X4.out)).cell 2 _ rfl; obtain ⟨q16, _⟩ := ((((NA.out.below X2.out).below X3.out).below X4.out)).cell 3 _ rfl; obtain ⟨q17, _⟩ := ((((NA.out.below X2.out).below X3.out).below X4.out)).cell 4 _ rfl; obtain ⟨q18, _⟩ := ((((NA.out.below X2.out).below X3.out).below X4.out)).cell 5 _ rfl)
  go_wp2_with (go_at_call 40; refine (KT.out _ B4.out).mono ?_; rintro e w5 ⟨A3, c3, rfl, ho, hb⟩; have X5 := Lib.hid hb; have B5 := Lib.hid (bl_trans B4.out hb); have O3 := Lib.hid (Row.of_own ho); clear q13 q14 q15 q16 q17 q18)
  have NX := Lib.hid (blk_new w5 52 [.slice A3 xs.length c3, .int .i64 b, .int .i64 s, .int .i64 g, .int .i64 a, .int .i64 l])
  have B6 := Lib.hid (bl_trans B5.out (bl_alloc (bl_refl w5) (.cells ([.slice A3 xs.length c3, .int .i64 b, .int .i64 s, .int .i64 g, .int .i64 a, .int .i64 l] : List Value).toArray 52)))
  go_wp2_with (go_at_call 41; refine (K2.out _ _ _ (O3.out.below (bl_alloc (bl_refl w5) (.cells ([.slice A3 xs.length c3, .int .i64 b, .int .i64 s, .int .i64 g, .int .i64 a, .int .i64 l] : List Value).toArray 52))).rd).mono ?_; rintro e w7 ⟨rfl, hb⟩; have X7 := Lib.hid hb; have B7 := Lib.hid (bl_trans B6.out hb))
  refine wp_region_R (R := fun a b => Below a.heap.size a b) (I := fun W' => Below w7.heap.size w7 W') (last := 4) (k := 4) (fun _ => bl_refl _) hmx rfl (fun HC0 => ?_)
  refine wpAnyR_take (i := 0) (kw := 4) (v := .agg #[.slice A3 xs.length c3, .int .i64 b, .int .i64 s, .int .i64 g, .int .i64 a, .int .i64 l]) (fun _ => bl_refl _) (fun p q => bl_trans p q) rfl (by kernel_rfl) (by kernel_rfl) (by kernel_rfl) (by kernel_rfl) (fun _ _ _ h => h) HC0 (Or.inl ⟨by kernel_rfl, fun W' hI => ?_⟩) (fun HC1 => ?_)
  · have hv := ((NX.out.below X7.out)).below hI
    obtain ⟨z0, _⟩ := hv.cell 0 _ rfl; obtain ⟨z1, _⟩ := hv.cell 1 _ rfl; obtain ⟨z2, _⟩ := hv.cell 2 _ rfl; obtain ⟨z3, _⟩ := hv.cell 3 _ rfl; obtain ⟨z4, _⟩ := hv.cell 4 _ rfl; obtain ⟨z5, _⟩ := hv.cell 5 _ rfl
    exact .inl (by go_simp)
  refine wpAnyR_take (i := 1) (kw := 4) (v := .agg #[.slice A xs.length c, .int .i64 b, .int .i64 s, .int .i64 g, .int .i64 a, .int .i64 l]) (fun _ => bl_refl _) (fun p q => bl_trans p q) rfl (by kernel_rfl) (by kernel_rfl) (by kernel_rfl) (by kernel_rfl) (fun _ _ _ h => h) HC1 (Or.inl ⟨by kernel_rfl, fun W' hI => ?_⟩) (fun HC2 => ?_)
  · have hv := (((((((NA.out.below X2.out).below X3.out).below X4.out).below X5.out).below (bl_alloc (bl_refl w5) (.cells ([.slice A3 xs.length c3, .int .i64 b, .int .i64 s, .int .i64 g, .int .i64 a, .int .i64 l] : List Value).toArray 52))).below X7.out)).below hI
    obtain ⟨z0, _⟩ := hv.cell 0 _ rfl; obtain ⟨z1, _⟩ := hv.cell 1 _ rfl; obtain ⟨z2, _⟩ := hv.cell 2 _ rfl; obtain ⟨z3, _⟩ := hv.cell 3 _ rfl; obtain ⟨z4, _⟩ := hv.cell 4 _ rfl; obtain ⟨z5, _⟩ := hv.cell 5 _ rfl
    exact .inl (by go_simp)
  refine wpAnyR_one HC2 (i := 2) (by kernel_rfl) rfl (by rfl) (fun v8 hr8 => ⟨bl_drewT hr8, fun K hK => ?_⟩)
  have X8 := Lib.hid (bl_drewT hr8)
  have B8 := Lib.hid (bl_trans B7.out X8.out)
  go_simp
  go_wp2_with (go_at_call 40; refine (KT.out _ B8.out).mono ?_; rintro e w9 ⟨AE, cE, rfl, ho, hb⟩; have X9 := Lib.hid hb; have B9 := Lib.hid (bl_trans B8.out hb); have OE := Lib.hid (Row.of_own ho))
  have I9 := Lib.hid (bl_trans X8.out X9.out)
  intro HC3
  refine wpAnyR_one HC3 (i := 3) (by kernel_rfl) rfl (by rfl) (fun v10 hr10 => ⟨bl_trans I9.out hr10, fun K hK => ?_⟩)
  have X10 := Lib.hid hr10
  have B10 := Lib.hid (bl_trans B9.out X10.out)
  go_simp
  go_wp2_with (go_at_call 42; refine (eqTable_same _ _ _ _ xs b s g a l _ (((((O3.out.below (bl_alloc (bl_refl w5) (.cells ([.slice A3 xs.length c3, .int .i64 b, .int .i64 s, .int .i64 g, .int .i64 a, .int .i64 l] : List Value).toArray 52))).below X7.out).below X8.out).below X9.out).below X10.out).rd (OE.out.below X10.out).rd hn4).mono ?_; rintro e w11 ⟨rfl, hb⟩; have X11 := Lib.hid hb; have B11 := Lib.hid (bl_trans B10.out hb))
  have I11 := Lib.hid (bl_trans I9.out (bl_trans X10.out X11.out))
  intro HC4
  refine wpAnyR_last (by kernel_rfl) (by kernel_rfl) rfl (by rfl) (fun v12 hr12 => ⟨bl_trans I11.out hr12, fun K hK => ?_⟩)
  have X12 := Lib.hid hr12
  have B12 := Lib.hid (bl_trans B11.out X12.out)
  go_simp
  refine hK _ _ ?_
  clear hK
  go_wp2_with fail
  go_ret
  exact ⟨rfl, B12.out⟩

theorem walkChipsAt (A : Option Addr) (c : Nat) (xs : List Int) (b s g a l : Int) (w : World) (hm : xs.length ≤ maxLen) (hr : Rd w A xs) :
    Calls Try.prog 6 #[tV A xs.length c b s g a l] w (Fresh (.bool true) w) := by
  by_cases h : xs.length ≤ 1048576
  · exact walkChipsAt_in A c xs b s g a l w hr h
  · exact walkChipsAt_big A c xs b s g a l w hm (by omega)

set_option maxRecDepth 100000 in
theorem fnExactChipsAt_lifted (os : Os) (started : os.Started) (H : Type) (enc : TypeId × Value → H) :
    ReturnsInHanded {} Try.checked os 6 .any (Rows.fnExactChipsAtSpec.pre6 enc Try.prog Try.f6 Rows.fnExactChipsAtRow.domain false) (Rows.fnExactChipsAtSpec.post enc Try.prog Try.f6 false true false false) := by
  refine law_lifted started (by kernel_rfl) Try.func6 (by kernel_rfl) rfl (fun ds h => ?_) ?_
    (ChangeSpec.witness6 (enc := enc) (C := Try.checked) false ⟨#[], #[.agg #[.slice none 0 0, .int .i64 0, .int .i64 0, .int .i64 0, .int .i64 0, .int .i64 0]], []⟩ 8 (by kernel_rfl) (by kernel_rfl) (by kernel_rfl) (by kernel_rfl)) ?_
  · match ds, h with
    | [d0], _ => rfl
  · rw [Try.params6]
    intro t ht
    obtain rfl : t = 49 := by simpa using ht
    exact ⟨by kernel_rfl, of_decide_eq_true (by kernel_rfl)⟩
  · intro W base args ds ps hval hA
    rw [Try.params6] at hA hval
    obtain ⟨v0, d0, rfl, rfl, h0⟩ := trodAll_one hA
    obtain ⟨A0, c0, xs0, tb0, ts0, tg0, ta0, tl0, rfl, m0, r0, i0a, i0b, i0c, i0d, i0e⟩ := open_table (hval 0 49 v0 rfl rfl) h0
    exact walkChipsAt A0 c0 xs0 tb0 ts0 tg0 ta0 tl0 W m0 r0

/-- ChipsAt answers as its model, for every table. -/
theorem fnExactChipsAt_holds : Rows.FnExactChipsAtSaid :=
  OpenClaim.holds_of_wide 6 Try.f6 rfl rfl rfl rfl rfl rfl rfl ⟨rfl, rfl, rfl, rfl, rfl⟩ rfl rfl rfl rfl rfl (by kernel_rfl) Try.func6 (by kernel_rfl)
    (of_decide_eq_true (by kernel_rfl)) (by unfold Func.isWrapper; first | (rw [if_pos (by decide +kernel)]; kernel_rfl) | (rw [if_neg (by decide +kernel)]; exact ⟨rfl, rfl⟩))
    (fun os started H enc _ => fnExactChipsAt_lifted os started H enc)

end Go.Proofs.Ytljakfbdacimlaa
