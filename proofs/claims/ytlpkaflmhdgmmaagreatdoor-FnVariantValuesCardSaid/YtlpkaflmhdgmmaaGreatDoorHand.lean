/-
  Put together: VarsFrame, CatSpec, HandImpl, Eq5, LowImpl, MethImpl
-/
import Derived.Test.YtlpkaflmhdgmmaaGreatDoorLaidFrame
import Derived.OpenVars
import Derived.Test.YtlpkaflmhdgmmaaGreatDoorSpecH
import Derived.Test.YtlpkaflmhdgmmaaGreatDoorBase
import Derived.Deep.RegionHeld3
import Derived.Deep.RegionWith
import Derived.Deep.DeepCutAuto
import Derived.Test.YtlpkaflmhdgmmaaGreatDoorCmpS
import Derived.DeepKeys
import Derived.Test.YtlpkaflmhdgmmaaGreatDoorShp

/-! The frame of a law's proof over listed variables of the project's own: each reads as it did; what they hold when the call begins is handed to the walk. -/
namespace Go.Proofs.YtlpkaflmhdgmmaaGreatDoor
open Go.ChangeShapes Go.WideShapes Go.ChangeAt Go.RowKit
set_option linter.unusedVariables false

theorem trodVars_len {H : Type} {enc : TypeId × Value → H} {P : Program} {W : World} {sp : Nat → Bool} : ∀ {ns : List String} {ds : List (DataW H)} {ps : List MemPlace}, DataW.TrodVars enc P W sp ns ds ps → ds.length = ns.length
  | [], [], _, _ => rfl
  | [], _ :: _, _, h => h.elim
  | _ :: _, [], _, h => h.elim
  | n :: ns, d :: ds, ps, h => by
    obtain ⟨g, t, cs, fuel, p, q, _, _, _, _, h2, _⟩ := h
    simp [trodVars_len h2]

set_option maxRecDepth 100000 in
theorem law_lifted_vars {os : Os} (started : os.Started) {H : Type} {enc : TypeId × Value → H} {F : FuncId} {fn : Func} {s : ChangeSpec} {laid : List (String × DataW Unit)}
    (noInit : Tryz.checked.prog.inits.idxOf? F = none) (hfn : Tryz.checked.prog.funcs[F]? = some fn) (hres : fn.resultTypes = #[4]) (hvars : varsRowed Tryz.prog s.vars = true)
    (hspec : ∀ ds gs : List (DataW H), ds.length = fn.params.toList.length → gs.length = s.vars.length → s.fn H (ds ++ gs) = { results := [.lit (.bool true)], args := ds, vars := gs })
    (hrec : ∀ t ∈ fn.params.toList, Tryz.prog.readableRec t = true ∧ t < Tryz.prog.types.size)
    (witness : ∃ (w : World) (tape : Tape) (i : Input), w.os = os ∧ (w.forCall tape i).Shaped Tryz.checked.prog ∧ i.vars = [] ∧ Input.okWide Tryz.checked.prog (w.forCall tape i) .any w.heap.size F i ∧
      ((s.pre enc Tryz.checked.prog fn [] false (w.forCall tape i).memory i.args ∧ laidMetH Tryz.prog laid (w.forCall tape i).memory) ∧ sizedMet enc Tryz.checked.prog fn (OpenSpec.ofChange s) false (w.forCall tape i).memory i.args) ∧ ({} : Assume).holds Tryz.checked.prog (lone (Frame.enter Tryz.checked.prog F i.args .normal) [] (w.forCall tape i)))
    (walk : ∀ (W : World) (base : Nat) (args : Array Value) (ds : List (DataW H)) (ps : List MemPlace),
      (∀ (j : Nat) t v, fn.params[j]? = some t → args[j]? = some v → Value.okWide Tryz.prog W .any base t v) →
      DataW.TrodAll enc Tryz.prog W 0 (fun _ => true) true fn.params.toList args.toList ds ps → laidMetH Tryz.prog laid W → W.ShapedOpen Tryz.prog →
      Calls Tryz.prog F args W fun e W' => e = .returned (.bool true) ∧ Below W.heap.size W W') :
    ReturnsInHanded {} Tryz.checked os F .any (fun w args => (s.pre enc Tryz.prog fn [] false w args ∧ laidMetH Tryz.prog laid w) ∧ sizedMet enc Tryz.prog fn (OpenSpec.ofChange s) false w args) (s.post enc Tryz.prog fn false true false false) := by
  refine returnsInHanded_of_row (C := Tryz.checked) (s := OpenSpec.ofChange s) (F := fun _ _ _ => 0) own started noInit hfn witness ?_
  intro W base args ds gs before hval hW _ _ _ hL hSh _
  have hW : DataW.Whole enc Tryz.prog fn.params.toList s.vars false W args.toList ds gs before := hW
  have hW' := hW
  obtain ⟨p, q, hA, hV, rfl, hfz, hnd⟩ := hW
  have hlt : ∀ x ∈ p, x.block < W.heap.size := fun x hx => hW'.lt x (by simp [hx])
  have hl := trodAll_len _ _ _ _ hA
  have hlv := trodVars_len hV
  refine (walk W base args ds p hval hA hL hSh).mono fun e W' ⟨he, hb⟩ => ⟨.bool true, he, ?_⟩
  have e1 : s.fn H (ds ++ gs) = { results := [.lit (.bool true)], args := ds, vars := gs } := hspec ds gs hl hlv
  show s.post enc Tryz.prog fn false true false false W args (.bool true) W'
  refine ⟨ds, gs, p ++ q, [], p, q, hW', ?_, ?_, ?_, hb.frame _, fun h => by cases h⟩
  · rw [e1, hres]; exact trodAll_cons_mk (shut_bool Tryz.underlying4 _) trodAll_mk0
  · rw [e1]; exact trodAll_below laidOut hb _ _ _ _ hrec hA hlt
  · rw [e1]; exact Below.trodVars laidOut hb hvars hV

/-! What the program's own variable holds. -/
def lowTab : List Int := [3, 2, 1, 0, 12]
def Low (B : Nat) (w : World) : Prop := Lib.TabBelow Tryz.prog B w "loop.example/g00910/impl.lowestStraight" .i64 lowTab
theorem gLow : Tryz.prog.globalNamed "loop.example/g00910/impl.lowestStraight" = some 0 := by kernel_rfl
theorem low_data : (Rows.laid_loop_example_g00910_impl_lowestStraight : DataW Unit) = Lib.tabData .i64 lowTab := rfl
theorem low_of {W : World} {r : List (String × DataW Unit)} (h : laidMet Tryz.prog (("loop.example/g00910/impl.lowestStraight", Rows.laid_loop_example_g00910_impl_lowestStraight) :: r) W) : Low W.heap.size W := by
  rw [low_data] at h
  exact Lib.tabBelow_of_tabIs (Lib.tabIs_of_head gLow (by kernel_rfl) Tryz.underlying93 Tryz.underlying2 (by kernel_rfl) (by kernel_rfl) h)
theorem low_cell {B : Nat} {w W : World} (h : Low B w) (hb : Below B w W) (i : Nat) (hi : i < 5) : W.cell? ⟨0, i, none⟩ = some (.int .i64 (lowTab.getD i 0)) :=
  (h.on hb).here.cell gLow i hi
end Go.Proofs.YtlpkaflmhdgmmaaGreatDoor

/-! The model's category and value of five cards. -/
namespace Go.Proofs.YtlpkaflmhdgmmaaGreatDoor
open Go.RowKit
set_option linter.unusedVariables false

/-- All cards have the suit of the first one. -/
def flushB (xs : List Int) : Bool := decide (cnt (fun x => x % 4 == nth xs 0 % 4) xs = 5)
/-- The category, out of the numbers. -/
def cat9 (s one : Bool) (m4 m3 m2 : Nat) : Int :=
  if (s && one) = true then 8 else if m4 = 1 then 7 else if m3 = 1 ∧ m2 = 1 then 6 else if one = true then 5 else if s = true then 4
  else if m3 = 1 then 3 else if m2 = 2 then 2 else if m2 = 1 then 1 else 0
/-- What the counting of suits leaves: the count of the first card's suit lies in a new row. -/
def CntS (n y : Nat) (w : World) (e : Ending) (w' : World) : Prop := ∃ b c, e = .returned (.slice (some ⟨b, 0, none⟩) 4 c) ∧ w'.cell? ⟨b, y, none⟩ = some (.int .i64 (n : Int)) ∧ b < w'.heap.size ∧ Below w.heap.size w w'
theorem cntS_any (A : Option Addr) (c : Nat) (xs : List Int) (y : Nat) (w : World) (hr : Rd w A xs) (hn : xs.length ≤ 4000000) (hb : cardsB xs = true) (hy : y < 4) :
    Calls Tryz.prog 87 #[.slice A xs.length c] w (CntS (cnt (fun x => x % 4 == (y : Int)) xs) y w) := by
  refine (l02SuitCounts_any A c xs w hr hn hb).mono ?_
  rintro e w' ⟨A', c', he, ho, hb'⟩
  have hrd := ho.rd
  have hl := cntL_length 4 (fun x => x % 4) xs
  rw [hl] at he
  obtain ⟨b, off, rfl, hc⟩ := hrd (by rw [hl]; omega)
  have h0 : off = 0 := by
    rcases ho.2 with ⟨hv, _⟩ | ⟨g, cap, cur, hv, _⟩
    · cases hv
    · injection hv with hv; injection hv with hv; injection hv
  subst h0
  have := hc y (by rw [hl]; omega)
  rw [Nat.zero_add, cntL_nth 4 _ xs y hy] at this
  exact ⟨b, c', he, this, World.block_lt_of_cell? _ _ this, hb'⟩

set_option maxRecDepth 100000 in
set_option maxHeartbeats 4000000 in
theorem l04Category_any (A : Option Addr) (c : Nat) (xs : List Int) (w : World) (hr : Rd w A xs) (hn : xs.length = 5) (hb : cardsB xs = true) (h4 : ∀ r, occ (rk xs) r ≤ 4) :
    Calls Tryz.prog 79 #[.slice A 5 c] w (Fresh (.int .i64 (catS (rk xs) (flushB xs))) w) := by
  obtain ⟨i0, hi, hz0, hz1, hz2⟩ := info_parts infoInt
  have K1 := Lib.hid (cnt13_any A c xs w hr (by omega) hb)
  have x0 := ((cards_iff xs).1 hb).1 (nth xs 0) (nth_mem xs 0 (by omega))
  obtain ⟨y, ey⟩ : ∃ y : Nat, nth xs 0 = (y : Int) := ⟨(nth xs 0).toNat, by omega⟩
  have hy : y < 52 := by omega
  have KS := Lib.hid (fun (W : World) (h : Below w.heap.size w W) => cntS_any A c xs (y % 4) W (hr.below h) (by omega) hb (by omega))
  have EF : Hid (flushB xs = decide (cnt (fun x => x % 4 == ((y % 4 : Nat) : Int)) xs = 5)) := Lib.hid (by unfold flushB; rw [ey]; rfl)
  obtain ⟨b0, off0, rfl, hc0⟩ := hr (by omega)
  have hc0 := hc0 0 (by omega)
  rw [ey, Nat.add_zero] at hc0
  have HO := Lib.hid (occL_bd (rk xs) h4)
  rw [hn] at K1 KS
  generalize flushB xs = fl at *
  generalize cnt (fun x => x % 4 == ((y % 4 : Nat) : Int)) xs = nf at *
  generalize rk xs = rs at *
  clear hr hb h4 x0 ey
  have KT := Lib.hid (fun (A1 : Option Addr) (c1 : Nat) (W : World) (h : Rd W A1 (occL rs)) => l04Straight_any A1 c1 rs W h)
  have ES : Hid (catS rs fl = catS rs fl) := Lib.hid rfl
  have HC0 := Lib.hid hc0
  clear hc0
  go_enter Tryz.func79, Tryz.ntmps79
  go_wp2_with (first
    | (go_at_call 85; refine K1.out.mono ?_; rintro e w1 ⟨A1, c1, rfl, hr1, hb1⟩; have R1 := Lib.hid hr1; have B1 := Lib.hid hb1; clear hr1 hb1)
    | (at_make; refine wpList_make_full _ rfl _ _ 26 rfl w1.heap.size 2 i0 (.int .i64 0) 1 Tryz.underlying26 hi hz0 hz1 .i64 .i64 _ _ 5 rfl rfl rfl rfl ?c1 ?c2 (Nat.le_refl _) ?_))
  case c1 => rw [hz2]; omega
  case c2 => unfold maxLen; omega
  intro w2 hown hgrow
  have HS : Hid (Counted w1 5 (fun y => y) ((occL rs).take 0) w2) := Lib.hid ⟨by
    have e : (madeCells #[Value.int .i64 0] 5).toList = ints (cntL 5 (fun y => y) ((occL rs).take 0)) := by
      rw [List.take_zero, cntL_nil, ← ints_zeros]; exact toList_madeCells_one _ _
    rwa [e] at hown, (bl_refl _).grown hgrow (Nat.le_refl _) (fun j hj => by cases hj)⟩
  clear hown hgrow
  go_wp2_with fail
  go_loopw [5] (fun i wr => ∃ k : Nat, k ≤ 13 ∧ i = .int .i64 k ∧ Hid (Counted w1 5 (fun y => y) ((occL rs).take k) wr)) (fun i _ => 13 - (intOf i).toNat)
  case atStart => exact ⟨0, Nat.zero_le _, rfl, HS⟩
  case round =>
    obtain ⟨k, hk, rfl, hs⟩ := hrel
    by_cases hlt : k < 13
    · obtain ⟨b, off, rfl, hc⟩ := R1.out.at_ hs.out.2 k (by rw [occL_length]; exact hlt)
      have hlt' : (k : Int) < 13 := by omega
      have HC := Lib.hid (take_nth (occL rs) k (by rw [occL_length]; exact hlt))
      obtain ⟨q, eq, hq⟩ := HO.out k hlt
      rw [eq] at hc HC
      clear eq
      obtain ⟨hg, hf⟩ := counted_cell hs.out q hq
      have hle : cnt (fun z => (fun y : Int => y) z == (q : Int)) ((occL rs).take k) ≤ 13 := Nat.le_trans (cnt_le _ _) (by rw [List.length_take]; omega)
      obtain ⟨p, ep⟩ : ∃ p, p = cnt (fun z => (fun y : Int => y) z == (q : Int)) ((occL rs).take k) := ⟨_, rfl⟩
      rw [← ep] at hg hle
      have EP := Lib.hid ep
      clear ep
      go_wp2_with fail
      go_roundw
      case rel => exact ⟨k + 1, by omega, by go_num, Lib.hid (by rw [HC.out]; have := counted_step hs.out q hq rfl; rw [← EP.out] at this; exact this)⟩
      case measure => simp [intOf]; omega
    · obtain rfl : k = 13 := by omega
      have hs := hs.out
      rw [List.take_of_length_le (by rw [occL_length]; omega)] at hs
      have HM := Lib.hid (manyAt_of hs)
      have B2 := Lib.hid (bl_trans B1.out hs.2)
      have R2 := Lib.hid (R1.out.below hs.2)
      clear hs
      have hc1 := (B2.out.cell (p := ⟨b0, off0, none⟩) (World.block_lt_of_cell? _ _ HC0.out)).trans HC0.out
      have e1 : (y : Int).tmod 4 = ((y % 4 : Nat) : Int) := by rw [Int.tmod_eq_emod_of_nonneg (by omega)]; rfl
      have e2 : (((y % 4 : Nat) : Int)).toNat = y % 4 := rfl
      have e3 : ((y % 4 : Nat) : Int) < 4 := by omega
      have hb0 : b0 < wr.heap.size := World.block_lt_of_cell? _ _ hc1
      clear i0 hi hz0 hz1 hz2
      have e13 : ((13 : Nat) : Int) = 13 := rfl
      rw [e13]
      clear e13
      go_wp2_with fail
      go_cut [6] from 24 to 32 (fun v W => v = .bool fl ∧ Hid (Below wr.heap.size wr W))
      case first =>
        go_region_with ((go_at_call 87; (first | (with_reducible refine (KS.out _ B2.out).mono ?_) | (with_reducible refine (KS.out _ (bl_drew B2.out)).mono ?_) | (with_reducible refine (KS.out _ (bl_drewN B2.out _)).mono ?_)); rintro e w3 ⟨b3, c3, rfl, hc3, hz3, hb3⟩; have hc4 := (hb3.cell (p := ⟨b0, off0, none⟩) hb0).trans hc1))
        all_goals
          go_wp2_with fail
          go_meet
          exact ⟨congrArg Value.bool (by rw [EF.out, Bool.eq_iff_iff]; simp; omega), Lib.hid (bl_trans (bl_drew (bl_refl _)) hb3)⟩
      case rest =>
        obtain ⟨rfl, hb3⟩ := hcut
        obtain ⟨g2, g3, g4⟩ := HM.out.keep hb3.out
        have HB := Lib.hid (bl_trans B2.out hb3.out)
        have R3 := Lib.hid (R2.out.below hb3.out)
        have CS : Hid (catS rs fl = cat9 (decide (0 ≤ strT rs)) fl (many rs 4) (many rs 3) (many rs 2)) := Lib.hid rfl
        generalize many rs 2 = m2 at *
        generalize many rs 3 = m3 at *
        generalize many rs 4 = m4 at *
        generalize catS rs fl = z at *
        clear hb3 EF HC0 hc1 KS hb0 e1 e2 e3
        obtain ⟨st, est⟩ : ∃ st, st = strT rs := ⟨_, rfl⟩
        rw [← est] at KT CS
        clear est
        by_cases hst : 0 ≤ st
        all_goals
          cases fl
          all_goals
            go_wp2_with (go_at_call 86; refine (KT.out A1 c1 _ R3.out).mono ?_; rintro e w4 ⟨rfl, rfl⟩)
            all_goals
              go_ret
              refine ⟨ret_int ?_, HB.out⟩
              rw [CS.out]
              clear CS HB K1 HO HS HM B2 R2 R3 KT R1 B1 ES
              unfold cat9
              try simp only [beq_eq_false_iff_ne, ne_eq, beq_iff_eq] at *
              simp only [Bool.and_true, Bool.and_false, decide_eq_true_eq, Bool.false_eq_true, ↓reduceIte]
              repeat' split
              all_goals first | rfl | omega
end Go.Proofs.YtlpkaflmhdgmmaaGreatDoor

/-! The shape of five cards: their ranks, and whether they have one suit. -/
namespace Go.Proofs.YtlpkaflmhdgmmaaGreatDoor
open Go.RowKit
set_option linter.unusedVariables false

/-- The first k cards have the suit of the first one. -/
def oneB (xs : List Int) (k : Nat) : Bool := (xs.take k).all (fun x => x % 4 == nth xs 0 % 4)
theorem oneB_zero (xs : List Int) : oneB xs 0 = true := by unfold oneB; rw [List.take_zero]; rfl
theorem oneB_step (xs : List Int) (k : Nat) (hk : k < xs.length) : oneB xs (k + 1) = (oneB xs k && (nth xs k % 4 == nth xs 0 % 4)) := by
  unfold oneB
  rw [take_nth xs k hk, List.all_append, List.all_cons, List.all_nil, Bool.and_true]
theorem oneB_flush (xs : List Int) (h5 : xs.length = 5) : oneB xs 5 = flushB xs := by
  unfold oneB flushB cnt
  rw [List.take_of_length_le (by omega), Bool.eq_iff_iff, decide_eq_true_eq, ← h5, List.length_filter_eq_length_iff, List.all_eq_true]
/-- The ranks of the first k cards, and zeros. -/
def rk0 (xs : List Int) (k : Nat) : List Int := rk (xs.take k) ++ List.replicate (5 - k) 0
theorem rk0_step (xs : List Int) (k : Nat) (h5 : xs.length = 5) (hk : k < 5) : (rk0 xs k).set k (nth xs k / 4) = rk0 xs (k + 1) := by
  unfold rk0
  have hl : (rk (xs.take k)).length = k := by unfold rk; rw [List.length_map, List.length_take]; omega
  rw [List.set_append_right _ _ (by omega), hl, Nat.sub_self, take_nth xs k (by omega)]
  have e : List.replicate (5 - k) (0 : Int) = 0 :: List.replicate (5 - (k + 1)) 0 := by
    rw [← List.replicate_succ]; congr 1; omega
  rw [e, List.set_cons_zero]
  unfold rk
  rw [List.map_append, List.append_assoc]
  rfl
theorem rk0_all (xs : List Int) (h5 : xs.length = 5) : rk0 xs 5 = rk xs := by
  unfold rk0; rw [List.take_of_length_le (by omega)]; simp
theorem rk0_length (xs : List Int) (k : Nat) (h5 : xs.length = 5) (hk : k ≤ 5) : (rk0 xs k).length = 5 := by
  unfold rk0 rk; rw [List.length_append, List.length_map, List.length_take, List.length_replicate]; omega
/-- The loop's state. -/
def HandSt (w : World) (xs : List Int) (k : Nat) (wr : World) : Prop :=
  Blk wr w.heap.size 58 (ints xs) ∧ Blk wr (w.heap.size + 1) 95 (shapeL [0, 0, 0, 0, 0] 0 0 false) ∧ Blk wr (w.heap.size + 1 + 1) 93 (ints (rk0 xs k)) ∧ Below w.heap.size w wr
theorem handSt_start (w : World) (xs : List Int) : HandSt w xs 0 (((w.alloc (.cells (ints xs).toArray 58)).alloc (.cells (shapeL [0, 0, 0, 0, 0] 0 0 false).toArray 95)).alloc (.cells (ints [0, 0, 0, 0, 0]).toArray 93)) := by
  refine ⟨((blk_new w _ _).below (bl_alloc (bl_refl _) _)).below (bl_alloc (bl_refl _) _), ?_, ?_, bl_alloc (bl_alloc (bl_alloc (bl_refl _) _) _) _⟩
  · have := (blk_new (w.alloc (.cells (ints xs).toArray 58)) 95 (shapeL [0, 0, 0, 0, 0] 0 0 false)).below (bl_alloc (bl_refl _) (.cells (ints [0, 0, 0, 0, 0]).toArray 93))
    rwa [World.size_alloc] at this
  · have := blk_new ((w.alloc (.cells (ints xs).toArray 58)).alloc (.cells (shapeL [0, 0, 0, 0, 0] 0 0 false).toArray 95)) 93 (ints [0, 0, 0, 0, 0])
    rwa [World.size_alloc, World.size_alloc] at this
theorem handSt_step {w wr : World} {xs : List Int} {k : Nat} (h : HandSt w xs k wr) (h5 : xs.length = 5) (hk : k < 5) (n : Nat) :
    HandSt w xs (k + 1) ((wr.setCell ⟨w.heap.size + 1 + 1, k, none⟩ (.int .i64 (nth xs k / 4))).drewN n) := by
  obtain ⟨h1, h2, h3, h4⟩ := h
  have hs := blk_setI h3 k (nth xs k / 4)
  rw [rk0_step xs k h5 hk] at hs
  have hh : HandSt w xs (k + 1) (wr.setCell ⟨w.heap.size + 1 + 1, k, none⟩ (.int .i64 (nth xs k / 4))) := ⟨h1.grown hs.2 (by simp; omega), h2.grown hs.2 (by simp), hs.1, bl_blk h4 hs.2 (by omega)⟩
  exact ⟨hh.1, hh.2.1, hh.2.2.1, bl_drewN hh.2.2.2 n⟩

set_option maxRecDepth 100000 in
set_option maxHeartbeats 4000000 in
theorem cardsShape_any (xs : List Int) (w : World) (hb : cardsB xs = true) (h5 : xs.length = 5) (h4 : ∀ r, occ (rk xs) r ≤ 4) (hrk : ranksOk (rk xs)) :
    Calls Tryz.prog 88 #[aggI xs] w (ShapeOf (kk (rk xs)) (mostK (kk (rk xs))) (nextK (kk (rk xs))) (flushB xs) w) := by
  have HC := Lib.hid ((cards_iff xs).1 hb).1
  have H5 := Lib.hid h5
  have KS := Lib.hid (fun W => ranksShape_any (rk xs) W hrk h4 (by unfold rk; rw [List.length_map]; exact h5))
  have KL := (kk_perm (rk xs) hrk h4).length_eq
  have EF := Lib.hid (oneB_flush xs h5)
  have EK := Lib.hid (rk0_all xs h5)
  obtain ⟨k0, k1, k2, k3, k4, eK⟩ := list_five (kk (rk xs)) (by rw [KL]; unfold rk; rw [List.length_map]; exact h5)
  rw [eK] at KS ⊢
  generalize (mostK [k0, k1, k2, k3, k4] : Int) = m at *
  generalize (nextK [k0, k1, k2, k3, k4] : Int) = n at *
  generalize flushB xs = fl at *
  clear hb h5 h4 hrk KL eK
  obtain ⟨w0, rfl⟩ : ∃ w0 : World, w0 = w := ⟨w, rfl⟩
  unfold aggI
  go_enter Tryz.func88, Tryz.ntmps88
  go_wp2_with (with_reducible refine wpList_load_blk 58 _ 5 rfl (.tmp 1) rfl u51 rfl i51 w0.heap.size 0 rfl (ints xs) (by rw [ints_length, H5.out]) ?hc ?_)
  case hc => exact (handSt_start w0 xs).1.range
  have HS := Lib.hid (handSt_start w0 xs)
  go_wp2_with fail
  go_loopw [4, 9] (fun o i wr => ∃ k : Nat, k ≤ 5 ∧ i = .int .i64 k ∧ o = .bool (oneB xs k) ∧ Hid (HandSt w0 xs k wr)) (fun _ i _ => 5 - (intOf i).toNat)
  case atStart => exact ⟨0, by omega, rfl, by rw [oneB_zero], HS⟩
  case round =>
    obtain ⟨k, hk, rfl, rfl, hs⟩ := hrel
    by_cases hlt : k < 5
    · have hlt' : (k : Int) < 5 := by omega
      have hx := HC.out _ (nth_mem xs k (by rw [H5.out]; exact hlt))
      have h0 := HC.out _ (nth_mem xs 0 (by rw [H5.out]; omega))
      have hidx := fun W => run_indexI 58 5 k xs W u51 H5.out hlt
      have c0 := (hs.out.1.int 0 (by rw [H5.out]; omega)).1
      obtain ⟨cr, fr⟩ := hs.out.2.2.1.int k (by rw [rk0_length xs k H5.out hk]; exact hlt)
      have HO := Lib.hid (oneB_step xs k (by rw [H5.out]; exact hlt))
      have HP := Lib.hid (handSt_step hs.out H5.out hlt)
      have K1 := Lib.hid (fun W => rank_any (nth xs k) W hx.1 hx.2)
      have K2 := Lib.hid (fun W => suit_any (nth xs k) W hx.1 hx.2)
      have K3 := Lib.hid (fun W => suit_any (nth xs 0) W h0.1 h0.2)
      generalize nth xs k = x at *
      generalize nth xs 0 = y at *
      generalize nth (rk0 xs k) k = z at *
      rcases ho : oneB xs k with _ | _
      · rw [ho] at HO
        have HO2 : Hid (oneB xs (k + 1) = false) := Lib.hid (by rw [HO.out]; rfl)
        clear ho HO hx h0
        go_wp2_with (go_at_call 95; refine (K1.out _).mono ?_; rintro e w1 ⟨rfl, rfl⟩)
        go_quiet (fail)
        go_wp2_with fail
        go_roundw
        case rel => exact ⟨k + 1, by omega, by go_num, by rw [HO2.out], Lib.hid (HP.out _)⟩
        case measure => simp [intOf]; omega
      · rw [ho] at HO
        have HO2 : Hid (oneB xs (k + 1) = (x % 4 == y % 4)) := Lib.hid (by rw [HO.out]; rfl)
        have c0' : (wr.setCell ⟨w0.heap.size + 1 + 1, k, none⟩ (.int .i64 (x / 4))).cell? ⟨w0.heap.size, 0, none⟩ = some (.int .i64 y) := by
          rw [World.cell?_setCell_other wr _ _ _ (by intro q; injection q with q _; omega)]; exact c0
        clear ho HO hx h0
        go_wp2_with (go_at_call 95; refine (K1.out _).mono ?_; rintro e w1 ⟨rfl, rfl⟩)
        go_quiet ((go_at_call 96; first | exact quiet_left (K2.out _) | exact quiet_left (K3.out _)))
        go_wp2_with fail
        go_roundw
        case rel => exact ⟨k + 1, by omega, by go_num, by rw [HO2.out], Lib.hid (HP.out _)⟩
        case measure => simp [intOf]; omega
    · obtain rfl : k = 5 := by omega
      have hs := hs.out
      unfold HandSt at hs
      rw [EK.out] at hs
      obtain ⟨s1, s2, s3, s4⟩ := hs
      have S2 := Lib.hid s2
      have S3 := Lib.hid s3
      have S4 := Lib.hid s4
      have LK : Hid ((ints (rk xs)).length = 5) := Lib.hid (by rw [ints_length]; unfold rk; rw [List.length_map]; exact H5.out)
      clear s1 s2 s3 s4
      have e5 : ((5 : Nat) : Int) = 5 := rfl
      rw [e5, EF.out]
      clear e5
      go_wp2_with (first
        | (with_reducible refine wpList_load_blk 93 _ 5 rfl (.tmp 3) rfl u53 rfl i53 (w0.heap.size + 1 + 1) 0 rfl (ints (rk xs)) LK.out S3.out.range ?_)
        | (go_at_call 97; refine (KS.out _).mono ?_; rintro e w5 ⟨rfl, hb5⟩; have B5 := Lib.hid hb5; clear hb5)
        | (refine wpList_store_blk 95 8 rfl (.tmp 7) (.tmp 28) rfl i55 w5.heap.size rfl (shapeL [k0, k1, k2, k3, k4] m n false) rfl rfl (shapeL_one _ _ _ _) _ (heap_alloc_new w5 _) rfl ?_))
      intro w6 hb6 hg6
      have B6 := Lib.hid hb6
      have X5 := Lib.hid (bl_trans S4.out B5.out)
      have D6 := Lib.hid (bl_blk (bl_alloc X5.out _) hg6 X5.out.size)
      have hs5 := B5.out.size
      have T6 := Lib.hid (((S2.out.below B5.out).below (bl_alloc (bl_refl _) _)).grown hg6 (by have := S2.out.lt; simp; omega))
      clear hb6 hg6
      have c7 := (B6.out.cell 7 _ rfl)
      have hb7 := (blk_set B6.out 7 (.bool fl))
      have B7 : Hid (Blk (w6.setCell ⟨w5.heap.size, 7, none⟩ (.bool fl)) w5.heap.size 95 (shapeL [k0, k1, k2, k3, k4] m n fl)) := Lib.hid hb7.1
      have T7 := Lib.hid (T6.out.grown hb7.2 (by have := S2.out.lt; simp; omega))
      have D7 := Lib.hid (bl_blk D6.out hb7.2 X5.out.size)
      obtain ⟨c7, f7⟩ := c7
      clear hb7 hs5
      go_wp2_with (first
        | (with_reducible refine wpList_load_blk 95 _ 8 rfl (.tmp 7) rfl Tryz.underlying95 rfl i55 w5.heap.size 0 rfl (shapeL [k0, k1, k2, k3, k4] m n fl) rfl B7.out.range ?_)
        | (refine wpList_store_blk 95 8 rfl (.tmp 2) (.tmp 31) rfl i55 (w0.heap.size + 1) rfl (shapeL [k0, k1, k2, k3, k4] m n fl) rfl rfl (shapeL_one _ _ _ _) _ T7.out rfl ?_))
      intro w8 hb8 hg8
      have B8 := Lib.hid hb8
      have D8 := Lib.hid (bl_blk D7.out hg8 (by omega))
      clear hb8 hg8
      go_wp2_with fail
      exact bodyPost_ret (results_cell_row Tryz.results88 _ _ (w0.heap.size + 1) _ _ _ _ rfl B8.out Tryz.underlying95 rfl i55) rfl ⟨rfl, D8.out⟩
end Go.Proofs.YtlpkaflmhdgmmaaGreatDoor

/-! Five numbers by value, compared. -/
namespace Go.Proofs.YtlpkaflmhdgmmaaGreatDoor
open Go.RowKit
set_option linter.unusedVariables false

theorem part_int (xs : List Int) (i : Nat) (hi : i < xs.length) (W : World) : (part 2 (ints xs).toArray i).run Tryz.prog W = .ok (.int .i64 (nth xs i)) W := by
  have hg : (ints xs)[i]? = some (.int .i64 (nth xs i)) := ints_get xs i hi
  simp [part, isAgg, run_underlying Tryz.underlying2, hg]
theorem items_int (d : Nat) (xs ys : List Int) (W : World) : ∀ is : List Nat, (∀ i ∈ is, i < xs.length ∧ i < ys.length) →
    (Op.eqItems (d + 1) 2 1 (ints xs).toArray (ints ys).toArray is).run Tryz.prog W = .ok (is.all (fun i => nth xs i == nth ys i)) W
  | [], _ => by simp [Op.eqItems]
  | i :: is, h => by
    have h1 := h i (List.mem_cons_self ..)
    have ih := items_int d xs ys W is (fun j hj => h j (List.mem_cons_of_mem _ hj))
    have e := run_equalIn_int (P := Tryz.prog) W d 2 .i64 .i64 (nth xs i) (nth ys i) Tryz.underlying2
    simp only [Op.eqItems, Sem.run_bind, Nat.mul_one, part_int xs i h1.1, part_int ys i h1.2, Result.andThen_ok, e, List.all_cons]
    by_cases hq : nth xs i = nth ys i
    · simp [hq, ih]
    · have hq' : (nth xs i == nth ys i) = false := by simpa using hq
      rw [hq']
      simp
set_option maxRecDepth 100000 in
theorem run_eq53 (a0 a1 a2 a3 a4 b0 b1 b2 b3 b4 : Int) (W : World) :
    (Op.equalIn 10000 93 (.agg #[.int .i64 a0, .int .i64 a1, .int .i64 a2, .int .i64 a3, .int .i64 a4]) (.agg #[.int .i64 b0, .int .i64 b1, .int .i64 b2, .int .i64 b3, .int .i64 b4])).run Tryz.prog W =
      .ok (decide ([a0, a1, a2, a3, a4] = [b0, b1, b2, b3, b4])) W := by
  obtain ⟨i0, hi, hz0, hz1, hz2⟩ := info_parts infoInt
  have h := run_equalIn_array (P := Tryz.prog) W 9999 (ints [a0, a1, a2, a3, a4]).toArray (ints [b0, b1, b2, b3, b4]).toArray u53 hi
  have hc : Tryz.prog.cellsOf 2 = 1 := by kernel_rfl
  rw [hc, items_int 9998 [a0, a1, a2, a3, a4] [b0, b1, b2, b3, b4] W (List.range 5) (by intro i hi; have := List.mem_range.1 hi; simp; omega)] at h
  refine Eq.trans h ?_
  congr 1
  rw [Bool.eq_iff_iff, decide_eq_true_eq]
  have hr : List.range 5 = [0, 1, 2, 3, 4] := by decide
  rw [hr]
  simp [nth]
end Go.Proofs.YtlpkaflmhdgmmaaGreatDoor

/-! The ace below the two, and the tests of the categories. -/
namespace Go.Proofs.YtlpkaflmhdgmmaaGreatDoor
open Go.RowKit
set_option linter.unusedVariables false

theorem bl_alloc' {B : Nat} {a w : World} (h : Below B a w) (hl : B ≤ w.heap.size) (o : Obj) : Below B a (w.alloc o) := h.alloc hl o
theorem low_lit {B : Nat} {w W : World} (h : Low B w) (hb : Below B w W) : W.cell? ⟨0, 0, none⟩ = some (.int .i64 3) ∧ W.cell? ⟨0, 1, none⟩ = some (.int .i64 2) ∧
    W.cell? ⟨0, 2, none⟩ = some (.int .i64 1) ∧ W.cell? ⟨0, 3, none⟩ = some (.int .i64 0) ∧ W.cell? ⟨0, 4, none⟩ = some (.int .i64 12) :=
  ⟨low_cell h hb 0 (by omega), low_cell h hb 1 (by omega), low_cell h hb 2 (by omega), low_cell h hb 3 (by omega), low_cell h hb 4 (by omega)⟩

theorem lowK_wheel : lowK [12, 3, 2, 1, 0] = [3, 2, 1, 0, 12] := by unfold lowK; rw [if_pos rfl]
set_option maxRecDepth 100000 in
set_option maxHeartbeats 4000000 in
theorem below_any (k0 k1 k2 k3 k4 m n : Int) (o : Bool) (B : Nat) (wt w : World) (ht : Hid (Low B wt)) (hB : Hid (Below B wt w)) (hBw : Hid (B ≤ w.heap.size)) :
    Calls Tryz.prog 89 #[shp k0 k1 k2 k3 k4 m n o] w (ShapeOf (lowK [k0, k1, k2, k3, k4]) m n o w) := by
  have HQ := fun W => run_eq53 k0 k1 k2 k3 k4 12 3 2 1 0 W
  by_cases hw : [k0, k1, k2, k3, k4] = [12, 3, 2, 1, 0]
  · injection hw with q0 hw; injection hw with q1 hw; injection hw with q2 hw; injection hw with q3 hw; injection hw with q4 hw
    subst q0 q1 q2 q3 q4
    have E := Lib.hid lowK_wheel
    generalize lowK [12, 3, 2, 1, 0] = K at *
    have hd : decide (([12, 3, 2, 1, 0] : List Int) = [12, 3, 2, 1, 0]) = true := by decide
    rw [hd] at HQ
    obtain ⟨g0, g1, g2, g3, g4⟩ := low_lit ht.out (bl_alloc' (bl_alloc' hB.out hBw.out (.cells #[.int .i64 12, .int .i64 3, .int .i64 2, .int .i64 1, .int .i64 0, .int .i64 m, .int .i64 n, .bool o] 95)) (by have := hBw.out; simp; omega) (.cells #[.int .i64 0, .int .i64 0, .int .i64 0, .int .i64 0, .int .i64 0, .int .i64 0, .int .i64 0, .bool false] 95))
    clear hw hd
    go_enter Tryz.func89, Tryz.ntmps89
    go_wp2_with fail
    rw [E.out]
    exact bodyPost_ret (v := shp 3 2 1 0 12 m n o) (by simp [results, Tryz.results89, go_sem]) rfl ⟨rfl, bl_alloc (bl_alloc (bl_refl w) _) _⟩
  · have E : Hid (lowK [k0, k1, k2, k3, k4] = [k0, k1, k2, k3, k4]) := Lib.hid (by unfold lowK; rw [if_neg hw])
    have hd : decide ([k0, k1, k2, k3, k4] = [12, 3, 2, 1, 0]) = false := decide_eq_false hw
    rw [hd] at HQ
    rw [E.out]
    clear E hw hd
    go_enter Tryz.func89, Tryz.ntmps89
    go_wp2_with fail
    exact bodyPost_ret (v := shp k0 k1 k2 k3 k4 m n o) (by simp [results, Tryz.results89, go_sem]) rfl ⟨rfl, bl_alloc (bl_alloc (bl_refl w) _) _⟩

/-! The tests of the categories. -/
theorem strI_lit (k0 k1 k2 k3 k4 : Int) (m : Nat) : strI [k0, k1, k2, k3, k4] m = (((m : Int) == 1 && k0 - k4 == 4) || decide ([k0, k1, k2, k3, k4] = [3, 2, 1, 0, 12])) := by
  unfold strI
  rw [Bool.eq_iff_iff]
  simp
  omega
set_option maxRecDepth 100000 in
set_option maxHeartbeats 4000000 in
theorem isStraight_any (k0 k1 k2 k3 k4 : Int) (m n : Nat) (o : Bool) (B : Nat) (wt w : World) (ht : Hid (Low B wt)) (hB : Hid (Below B wt w)) (hBw : Hid (B ≤ w.heap.size)) (h0 : 0 ≤ k0) (h1 : k0 < 13) (h2 : 0 ≤ k4) (h3 : k4 < 13) :
    Calls Tryz.prog 107 #[shp k0 k1 k2 k3 k4 m n o] w (Fresh (.bool (strI [k0, k1, k2, k3, k4] m)) w) := by
  have HQ := fun W => run_eq53 k0 k1 k2 k3 k4 3 2 1 0 12 W
  have E := Lib.hid (strI_lit k0 k1 k2 k3 k4 m)
  obtain ⟨g0, g1, g2, g3, g4⟩ := low_lit ht.out (bl_alloc' hB.out hBw.out (.cells #[.int .i64 k0, .int .i64 k1, .int .i64 k2, .int .i64 k3, .int .i64 k4, .int .i64 m, .int .i64 n, .bool o] 95))
  generalize decide ([k0, k1, k2, k3, k4] = [3, 2, 1, 0, 12]) = lw at *
  generalize strI [k0, k1, k2, k3, k4] m = r at *
  have hm : ((m : Int) == 1) = true ∨ ((m : Int) == 1) = false := by cases ((m : Int) == 1) <;> simp
  have hd : (k0 - k4 == 4) = true ∨ (k0 - k4 == 4) = false := by cases (k0 - k4 == 4) <;> simp
  rcases hm with hm | hm
  · rcases hd with hd | hd
    · have E2 : Hid (r = true) := Lib.hid (by rw [E.out, hm, hd]; rfl)
      go_enter Tryz.func107, Tryz.ntmps107
      go_wp2_with fail
      go_ret
      exact ⟨ret_bool E2.out.symm, bl_alloc (bl_refl w) _⟩
    · have E2 : Hid (r = lw) := Lib.hid (by rw [E.out, hm, hd]; simp)
      go_enter Tryz.func107, Tryz.ntmps107
      go_wp2_with fail
      go_ret
      exact ⟨ret_bool E2.out.symm, bl_alloc (bl_refl w) _⟩
  · have E2 : Hid (r = lw) := Lib.hid (by rw [E.out, hm]; simp)
    go_enter Tryz.func107, Tryz.ntmps107
    go_wp2_with fail
    go_ret
    exact ⟨ret_bool E2.out.symm, bl_alloc (bl_refl w) _⟩
end Go.Proofs.YtlpkaflmhdgmmaaGreatDoor

/-! The tests of the categories but for the straights, and the table of all categories. -/
namespace Go.Proofs.YtlpkaflmhdgmmaaGreatDoor
open Go.RowKit
set_option linter.unusedVariables false

set_option maxRecDepth 100000 in
set_option maxHeartbeats 1000000 in
theorem isAny_any (k0 k1 k2 k3 k4 : Int) (m n : Nat) (o : Bool) (w : World) :
    Calls Tryz.prog 103 #[shp k0 k1 k2 k3 k4 m n o] w (Fresh (.bool true) w) := by
  go_enter Tryz.func103, Tryz.ntmps103
  go_wp2_with fail
  go_ret
  exact ⟨ret_bool (by simp), bl_alloc (bl_refl w) _⟩
set_option maxRecDepth 100000 in
set_option maxHeartbeats 1000000 in
theorem isFlush_any (k0 k1 k2 k3 k4 : Int) (m n : Nat) (o : Bool) (w : World) :
    Calls Tryz.prog 108 #[shp k0 k1 k2 k3 k4 m n o] w (Fresh (.bool o) w) := by
  go_enter Tryz.func108, Tryz.ntmps108
  go_wp2_with fail
  go_ret
  exact ⟨ret_bool (by simp), bl_alloc (bl_refl w) _⟩
set_option maxRecDepth 100000 in
set_option maxHeartbeats 4000000 in
theorem isStraightFlush_any (k0 k1 k2 k3 k4 : Int) (m n : Nat) (o : Bool) (B : Nat) (wt w : World) (ht : Hid (Low B wt)) (hB : Hid (Below B wt w)) (hBw : Hid (B ≤ w.heap.size)) (h0 : 0 ≤ k0) (h1 : k0 < 13) (h2 : 0 ≤ k4) (h3 : k4 < 13) :
    Calls Tryz.prog 111 #[shp k0 k1 k2 k3 k4 m n o] w (Fresh (.bool (strI [k0, k1, k2, k3, k4] m && o)) w) := by
  have K1 := Lib.hid (fun (W : World) (hb : Below w.heap.size w W) => isStraight_any k0 k1 k2 k3 k4 m n o B wt W ht (Lib.hid (hB.out.trans (hb.mono hBw.out))) (Lib.hid (Nat.le_trans hBw.out hb.size)) h0 h1 h2 h3)
  have K2 := Lib.hid (fun (W : World) => isFlush_any k0 k1 k2 k3 k4 m n o W)
  have b0 := Lib.hid (bl_alloc (bl_refl w) (.cells #[.int .i64 k0, .int .i64 k1, .int .i64 k2, .int .i64 k3, .int .i64 k4, .int .i64 m, .int .i64 n, .bool o] 95))
  rcases hs : strI [k0, k1, k2, k3, k4] m with _ | _
  · rw [hs] at K1
    clear hs
    go_enter Tryz.func111, Tryz.ntmps111
    go_wp2_with (go_at_call 107; refine (K1.out _ b0.out).mono ?_; rintro e w1 ⟨rfl, hb1⟩; have HB1 := Lib.hid (bl_trans b0.out hb1); clear hb1)
    go_ret
    exact ⟨ret_bool (by simp), HB1.out⟩
  · rw [hs] at K1
    clear hs
    have hc0 := blk_new w 95 (shapeL [k0, k1, k2, k3, k4] m n o)
    have HC := Lib.hid hc0
    clear hc0
    go_enter Tryz.func111, Tryz.ntmps111
    go_wp2_with (first
      | (go_at_call 107; refine (K1.out _ b0.out).mono ?_; rintro e w1 ⟨rfl, hb1⟩; have HB1 := Lib.hid (bl_trans b0.out hb1); have HC1 := Lib.hid (Blk.below HC.out hb1); obtain ⟨g0, _⟩ := HC1.out.cell 0 _ rfl; obtain ⟨g1, _⟩ := HC1.out.cell 1 _ rfl; obtain ⟨g2, _⟩ := HC1.out.cell 2 _ rfl; obtain ⟨g3, _⟩ := HC1.out.cell 3 _ rfl; obtain ⟨g4, _⟩ := HC1.out.cell 4 _ rfl; obtain ⟨g5, _⟩ := HC1.out.cell 5 _ rfl; obtain ⟨g6, _⟩ := HC1.out.cell 6 _ rfl; obtain ⟨g7, _⟩ := HC1.out.cell 7 _ rfl; clear hb1)
      | (go_at_call 108; refine (K2.out _).mono ?_; rintro e w2 ⟨rfl, hb2⟩; have HB2 := Lib.hid (bl_trans HB1.out hb2); clear hb2))
    go_ret
    exact ⟨ret_bool (by simp), HB2.out⟩

/-- The table: names, sizes, tests. -/
abbrev catsL : List Value := [.string ⟨#[104, 105, 103, 104, 32, 99, 97, 114, 100]⟩, .int .i64 1302540, .func (.func 103) #[] #[], .string ⟨#[112, 97, 105, 114]⟩, .int .i64 1098240, .func (.func 104) #[] #[], .string ⟨#[116, 119, 111, 32, 112, 97, 105, 114, 115]⟩, .int .i64 123552, .func (.func 105) #[] #[], .string ⟨#[116, 104, 114, 101, 101, 32, 111, 102, 32, 97, 32, 107, 105, 110, 100]⟩, .int .i64 54912, .func (.func 106) #[] #[], .string ⟨#[115, 116, 114, 97, 105, 103, 104, 116]⟩, .int .i64 10200, .func (.func 107) #[] #[], .string ⟨#[102, 108, 117, 115, 104]⟩, .int .i64 5108, .func (.func 108) #[] #[], .string ⟨#[102, 117, 108, 108, 32, 104, 111, 117, 115, 101]⟩, .int .i64 3744, .func (.func 109) #[] #[], .string ⟨#[102, 111, 117, 114, 32, 111, 102, 32, 97, 32, 107, 105, 110, 100]⟩, .int .i64 624, .func (.func 110) #[] #[], .string ⟨#[115, 116, 114, 97, 105, 103, 104, 116, 32, 102, 108, 117, 115, 104]⟩, .int .i64 40, .func (.func 111) #[] #[]]
theorem i66 : (Tryz.prog.info? 117).map (·.size) = some 27 := by kernel_rfl
set_option maxRecDepth 100000 in
set_option maxHeartbeats 4000000 in
theorem cats_any (w : World) : Calls Tryz.prog 98 #[] w (Fresh (.agg catsL.toArray) w) := by
  go_enter Tryz.func98, Tryz.ntmps98
  go_wp2_with (refine wpList_store_blk 117 27 rfl (.tmp 0) (.tmp 10) rfl i66 w.heap.size rfl catsL rfl rfl (by intro v hv; simp at hv; rcases hv with rfl | rfl | rfl | rfl | rfl | rfl | rfl | rfl | rfl | rfl | rfl | rfl | rfl | rfl | rfl | rfl | rfl | rfl | rfl | rfl | rfl | rfl | rfl | rfl | rfl | rfl | rfl <;> rfl) _ (heap_alloc_new w _) rfl ?_)
  intro w8 hb8 hg8
  have B8 := Lib.hid hb8
  have D8 := Lib.hid (bl_blk (bl_alloc (bl_refl w) _) hg8 (Nat.le_refl _))
  clear hb8 hg8
  go_wp2_with fail
  exact bodyPost_ret (results_cell_row Tryz.results98 _ _ w.heap.size _ _ _ _ rfl B8.out Tryz.underlying117 rfl i66) rfl ⟨rfl, D8.out⟩
end Go.Proofs.YtlpkaflmhdgmmaaGreatDoor
