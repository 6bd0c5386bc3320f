/-
  HandsIn: the program's walk.
-/
import Derived.Test.YtlpkaflmhdgmmaaGreatDoorHangT
import Derived.Test.YtlpkaflmhdgmmaaGreatDoorCodeFor
import Derived.Test.YtlpkaflmhdgmmaaGreatDoorSpecHands6
namespace Go.Proofs.YtlpkaflmhdgmmaaGreatDoor
open Go.RowKit
set_option linter.unusedVariables false
attribute [local go_sem] Oper.semAt_some

/-- What the rounds keep. -/
def HSI (w2 : World) (rb b1 : Nat) (hs bs : List Int) (l m M : Nat) (hi : Bool) (lo : Int) (A : Option Addr) (c : Nat) (A2 : Option Addr) (c2 : Nat) (i : Nat) (W : World) : Prop :=
  Blk W b1 25 [.int .i64 (hs.length : Int), .int .i64 (l : Int), .int .i64 (m : Int), .int .i64 (bs.length : Int), .bool hi, .int .i64 lo] ∧ Blk W (b1 + 1) 26 [.slice A hs.length c] ∧ Blk W (b1 + 1 + 1) 26 [.slice A2 bs.length c2] ∧
  ∃ v AA CC, Blk W rb 35 [v] ∧ HangT w2 i (fun h => (hRows hs bs l M).getD h []) AA CC v W ∧ (∀ g, v.ownBlock = some g → g = w2.heap.size ∨ b1 + 1 + 1 < g) ∧ ∀ j, j < i → ∀ a : Addr, AA j = some a → a.block ≠ rb ∧ a.block ≠ b1 ∧ a.block ≠ b1 + 1 ∧ a.block ≠ b1 + 1 + 1
def cellsV : Value → Array Value := fun v => match v with | .agg cs => cs | _ => #[]
set_option maxRecDepth 100000 in
set_option maxHeartbeats 2000000 in
theorem implHandsIn_yes (l m : Nat) (hi : Bool) (lo : Int) (A : Option Addr) (c : Nat) (hs : List Int) (A2 : Option Addr) (c2 : Nat) (bs : List Int) (w : World) (hv : isVarB (hs.length : Int) l m (bs.length : Int) hi lo = true) (hcz : codeH (hs.length : Int) l m (bs.length : Int) hi lo hs bs = 0) (hr : Rd w A hs) (hr2 : Rd w A2 bs) :
    Calls Tryz.prog 15 #[vV (hs.length : Int) l m (bs.length : Int) hi lo, .slice A hs.length c, .slice A2 bs.length c2] w (NewFam (hRows hs bs l (m + 1 - l)).length (fun h => (hRows hs bs l (m + 1 - l)).getD h []) 0 w) := by
  obtain ⟨⟨f1, f2⟩, ⟨f3, f4⟩, ⟨f5, f6⟩, ⟨f7, f8⟩, f9⟩ := hasCards_iff.1 (isVar_cards hv)
  have hh : hs.length ≤ 7 := by omega
  have hb7 : bs.length ≤ 7 := by omega
  have hlm : l ≤ m := by omega
  have hm5 : m ≤ 5 := by omega
  have hm64 : i64B (m : Int) := by unfold i64B; omega
  have HV := Lib.hid (isVar_cards hv)
  have HR := Lib.hid hr
  have HR2 := Lib.hid hr2
  obtain ⟨M, eM⟩ : ∃ M, M = m + 1 - l := ⟨_, rfl⟩
  have HT := Lib.hid (hRows_le hs bs l hh hb7 M (by omega))
  have KC := Lib.hid (fun (W : World) (hb : Below w.heap.size w W) => codeFor_any (hs.length : Int) l m (bs.length : Int) hi lo A c hs A2 c2 bs W hm64 (HR.out.below hb) (HR2.out.below hb) (by omega) (by omega))
  rw [hcz] at KC
  have KN := Lib.hid (fun (W : World) => handCount_any (hs.length : Int) l m (bs.length : Int) hi lo W HV.out)
  have KO := Lib.hid (fun (W : World) => handsOf_any (hs.length : Int) l m (bs.length : Int) hi lo A c hs.length A2 c2 bs.length W)
  obtain ⟨cap, ecap, hcap⟩ : ∃ cap : Nat, cntH (hs.length : Int) l m (bs.length : Int) = (cap : Int) ∧ cap ≤ 7350 := by
    have h1 := sumH_bd hs.length bs.length l hh hb7 (m + 1 - l) (by omega)
    have e : cntH (hs.length : Int) l m (bs.length : Int) = sumH hs.length bs.length l (m + 1 - l) := by
      unfold cntH
      rw [show (((m : Int) + 1 - (l : Int)).toNat) = m + 1 - l by omega]
      rfl
    refine ⟨(cntH (hs.length : Int) l m (bs.length : Int)).toNat, ?_, ?_⟩ <;> rw [e] <;> omega
  rw [ecap] at KN
  obtain ⟨iS, hiS, hzS0, hzS1, hzS2⟩ := info_parts infoSlice
  obtain ⟨cur, hcs, hmk⟩ : ∃ cur : Array Value, cur.size = cap * 1 ∧ ∀ W : World, (Instr.makeSlice 35 (.int .i64 0) (.int .i64 (cap : Int))).run Tryz.prog W = .ok (.slice (some ⟨W.heap.size, 0, none⟩) 0 cap) (W.alloc (.cells cur 26)) :=
    ⟨madeCells (Value.slice none 0 0).cells (cap * 1), size_madeCells _ _, fun W => by
      have h := run_makeSlice (P := Tryz.prog) W 35 26 iS (.slice none 0 0) Tryz.underlying35 hiS hzS0 .i64 .i64 0 (cap : Int) (by omega) (by omega) (by rw [hzS1]; omega) (by rw [hzS2]; omega) (by omega)
      rw [hzS1] at h
      simpa using h⟩
  have HCS := Lib.hid hcs
  have N0 := Lib.hid (blk_new w 25 [.int .i64 (hs.length : Int), .int .i64 (l : Int), .int .i64 (m : Int), .int .i64 (bs.length : Int), .bool hi, .int .i64 lo])
  have B0 := Lib.hid (bl_alloc (bl_refl w) (.cells ([.int .i64 (hs.length : Int), .int .i64 (l : Int), .int .i64 (m : Int), .int .i64 (bs.length : Int), .bool hi, .int .i64 lo] : List Value).toArray 25))
  rw [← eM]
  have EM := Lib.hid eM
  clear hr hr2 hv hcz hiS hzS0 hzS1 hzS2 hcs ecap eM f1 f2 f3 f4 f5 f6 f7 f8 f9 hm64
  unfold vV at *
  refine (callsIn_wide (n := 10)).1 ?_
  refine callsIn_of_wp_marks Tryz.func15 rfl trivial ?_ rfl
  simp only [Tryz.ntmps15, List.size_toArray, List.length_cons, List.length_nil, Nat.reduceAdd, Nat.reduceSub, Array.replicate_succ, Array.replicate_zero, List.push_toArray, List.append_toArray, List.nil_append, List.cons_append]
  obtain ⟨w0, rfl⟩ : ∃ w0 : World, w0 = w := ⟨w, rfl⟩
  gi_wp2_with (first
    | (refine ⟨trivial, ?_⟩; gi_at_call 24; refine (callsIn_wide.2 (KC.out _ B0.out)).mono ?_; rintro e w1 ⟨rfl, hb1⟩; have HN1 := Lib.hid (N0.out.below hb1); have B1 := Lib.hid (bl_trans B0.out hb1); clear hb1; obtain ⟨q0, _⟩ := HN1.out.cell 0 _ rfl; obtain ⟨q1, _⟩ := HN1.out.cell 1 _ rfl; obtain ⟨q2, _⟩ := HN1.out.cell 2 _ rfl; obtain ⟨q3, _⟩ := HN1.out.cell 3 _ rfl; obtain ⟨q4, _⟩ := HN1.out.cell 4 _ rfl; obtain ⟨q5, _⟩ := HN1.out.cell 5 _ rfl)
    | (refine ⟨trivial, ?_⟩; gi_at_call 40; refine (callsIn_wide.2 (KN.out _)).mono ?_; rintro e w2 ⟨rfl, hb2⟩; clear q0 q1 q2 q3 q4 q5; have HN2 := Lib.hid (HN1.out.below hb2); have B2 := Lib.hid (bl_trans B1.out hb2); clear hb2; have BX := bl_alloc (bl_alloc (bl_refl w2) (.cells cur 26)) (.cells #[.slice (some ⟨w2.heap.size, 0, none⟩) 0 cap] 35); have HN3 := HN2.out.below BX; have BX3 := Lib.hid BX; clear BX; obtain ⟨q0, _⟩ := HN3.cell 0 _ rfl; obtain ⟨q1, _⟩ := HN3.cell 1 _ rfl; obtain ⟨q2, _⟩ := HN3.cell 2 _ rfl; obtain ⟨q3, _⟩ := HN3.cell 3 _ rfl; obtain ⟨q4, _⟩ := HN3.cell 4 _ rfl; obtain ⟨q5, _⟩ := HN3.cell 5 _ rfl; clear HN3)
    | (refine ⟨trivial, ?_⟩; gi_at_call 26; refine (callsIn_wide.2 (KO.out _)).mono ?_; rintro e w4 ⟨rfl, v1, v2, v3, hb4⟩; clear q0 q1 q2 q3 q4 q5; have V1 := Lib.hid v1; have V2 := Lib.hid v2; have V3 := Lib.hid v3; have B4 := Lib.hid hb4; clear v1 v2 v3 hb4))
  have hz3 : ((w2.alloc (.cells cur 26)).alloc (.cells #[.slice (some ⟨w2.heap.size, 0, none⟩) 0 cap] 35)).heap.size = w2.heap.size + 1 + 1 := by simp
  have b3 := blk_new (w2.alloc (.cells cur 26)) 35 [.slice (some ⟨w2.heap.size, 0, none⟩) 0 cap]
  rw [World.size_alloc] at b3
  have hg3 : HangT w2 0 (fun h => (hRows hs bs l M).getD h []) (fun _ => none) (fun _ => 0) (.slice (some ⟨w2.heap.size, 0, none⟩) 0 cap) (w2.alloc (.cells cur 26)) :=
    ⟨⟨World.ownsRow_made w2 cur cap (Nat.le_refl _) (by unfold maxLen; omega) HCS.out, (fun _ h => by omega), (fun _ h => by omega), (fun _ h => by omega), (fun _ h => by omega), bl_alloc (bl_refl _) _⟩, fun _ h => by omega⟩
  have hg4 := (hg3.next (bl_alloc (bl_refl _) (.cells #[.slice (some ⟨w2.heap.size, 0, none⟩) 0 cap] 35)))
  simp only [List.toArray] at b3
  obtain ⟨W3, eW3⟩ : ∃ W3, W3 = (w2.alloc (.cells cur 26)).alloc (.cells #[.slice (some ⟨w2.heap.size, 0, none⟩) 0 cap] 35) := ⟨_, rfl⟩
  rw [← eW3] at hz3 V1 V2 V3 B4 BX3 b3 hg4
  rw [hz3] at V1 V2 V3
  have hw4 : w2.heap.size + 1 + 1 + 1 ≤ w4.heap.size := Nat.le_of_lt V2.out.lt
  have I0 : Hid (HSI w2 (w2.heap.size + 1) (w2.heap.size + 1 + 1) hs bs l m M hi lo A c A2 c2 0 w4) := Lib.hid ⟨V1.out, V2.out, V3.out, _, _, _, b3.below B4.out, hg4.next B4.out, fun g e => .inl (Option.some.inj e).symm, fun _ h => by omega⟩
  have RB := Lib.hid (And.intro (HR.out.below B2.out) (HR2.out.below B2.out))
  have KIT := handsIter_any 9 A c hs A2 c2 bs l m (w2.heap.size + 1 + 1) (w2.heap.size + 1 + 1 + 1) (w2.heap.size + 1 + 1 + 1 + 1) hh hb7 hlm hm5 (HSI w2 (w2.heap.size + 1) (w2.heap.size + 1 + 1) hs bs l m M hi lo A c A2 c2) w4 (by omega)
    (fun i W h => by
      obtain ⟨h1, h2, h3, v, AA, CC, h4, h5, _⟩ := h
      exact ⟨(h1.cell 1 _ rfl).1, (h1.cell 2 _ rfl).1, (h2.cell 0 _ rfl).1, (h3.cell 0 _ rfl).1, RB.out.1.below h5.1.below, RB.out.2.below h5.1.below⟩)
  rw [← EM.out] at KIT
  clear eW3 b3 hg3 hg4 hmk KC KN KO HN1 HN2 N0 BX3 V1 V2 V3 hz3
  refine wpIn_rangeC rfl (by omega) (gf := 50) (lb := #[.pointer (some ⟨w2.heap.size + 1 + 1, 0, none⟩), .pointer (some ⟨w2.heap.size + 1 + 1 + 1, 0, none⟩), .pointer (some ⟨w2.heap.size + 1 + 1 + 1 + 1, 0, none⟩)]) rfl trivial (enters_of Tryz.func50 (by kernel_rfl) rfl)
    KIT (fun i W' ar h => by obtain ⟨rfl, _⟩ := h; rfl) (fun i A' B' ar h _ => h)
    (fun i A' B' h hb' => by
      obtain ⟨h1, h2, h3, v, AA, CC, h4, h5, h6, h7⟩ := h
      exact ⟨itw_blk hb' h1 (by kernel_rfl), itw_blk hb' h2 (by kernel_rfl), itw_blk hb' h3 (by kernel_rfl), v, AA, CC, itw_blk hb' h4 (by kernel_rfl), h5.itw hb' (by omega), h6, h7⟩) I0.out
    (fun ar W' => { tmps := #[.agg #[.int .i64 hs.length, .int .i64 l, .int .i64 m, .int .i64 bs.length, .bool hi, .int .i64 lo], .slice A hs.length c, .slice A2 bs.length c2, .pointer (some ⟨w0.heap.size, 0, none⟩), undef, undef, .slice none 0 0, .int .i64 0, .int .i64 0, .pointer (some ⟨w2.heap.size + 1, 0, none⟩), .pointer (some ⟨W'.heap.size, 0, none⟩),
      .agg #[.int .i64 hs.length, .int .i64 l, .int .i64 m, .int .i64 bs.length, .bool hi, .int .i64 lo], .slice A hs.length c, .slice A2 bs.length c2, .int .i64 0, .int .i64 0, .bool false, undef, .agg #[.int .i64 hs.length, .int .i64 l, .int .i64 m, .int .i64 bs.length, .bool hi, .int .i64 lo], .int .i64 cap, .slice (some ⟨w2.heap.size, 0, none⟩) 0 cap, .agg #[.int .i64 hs.length, .int .i64 l, .int .i64 m, .int .i64 bs.length, .bool hi, .int .i64 lo], .slice A hs.length c, .slice A2 bs.length c2,
      .func (.func 50) #[] #[.pointer (some ⟨w2.heap.size + 1 + 1, 0, none⟩), .pointer (some ⟨w2.heap.size + 1 + 1 + 1, 0, none⟩), .pointer (some ⟨w2.heap.size + 1 + 1 + 1 + 1, 0, none⟩)], ar.getD 0 undef, undef, undef, undef, undef, undef, undef], defers := [] })
    (fun ar W' => W'.alloc (.cells (cellsV (ar.getD 0 undef)) 58)) (fun ar W' => bl_alloc (bl_refl W') _) ?assign ?body ?done
  case assign =>
    rintro lr i ar W' Kc ⟨rfl, h5⟩ hKc
    obtain ⟨x0, x1, x2, x3, x4, ex⟩ := list_five _ h5
    rw [ex] at hKc ⊢
    clear ex h5
    simp only [aggI, ints, List.map_cons, List.map_nil] at hKc ⊢
    gi_wp2
    exact hKc
  case body =>
    rintro lr i ar W0 W hi1 ⟨h1, h2, h3, v, AA, CC, h4, h5, hvb, h6⟩ ⟨rfl, hl5⟩ hgl hrl hW0 hca hsz
    obtain ⟨x0, x1, x2, x3, x4, ex⟩ := list_five _ hl5
    rw [ex] at hca ⊢
    have hbx : Blk W W0.heap.size 58 (ints [x0, x1, x2, x3, x4]) := hca _ _ _ _ (blk_new W0 58 (ints [x0, x1, x2, x3, x4]))
    have EX := Lib.hid ex
    have crb := (h4.cell 0 _ rfl).1
    have y0 := (hbx.cell 0 _ rfl).1
    have y1 := (hbx.cell 1 _ rfl).1
    have y2 := (hbx.cell 2 _ rfl).1
    have y3 := (hbx.cell 3 _ rfl).1
    have y4 := (hbx.cell 4 _ rfl).1
    have grb := h4.lt
    have gbx := hbx.lt
    have gb3 := h3.lt
    have vlt : ∀ g, v.ownBlock = some g → g < W.heap.size := fun g e => (World.ownsRow.lt h5.1.out g e).2
    have wle := h5.1.below.size
    have hi7 : i ≤ 4000000 := by have := HT.out; have : M * 1225 ≤ 6 * 1225 := Nat.mul_le_mul_right _ (by have := EM.out; omega); omega
    have P1 := Lib.hid h1
    have P2 := Lib.hid h2
    have P3 := Lib.hid h3
    have P4 := Lib.hid h4
    have P5 := Lib.hid h5
    have P6 := Lib.hid h6
    have VB := Lib.hid hvb
    have VL := Lib.hid vlt
    have B3' := Lib.hid (And.intro grb gb3)
    have hmx : Tryz.prog.follows .mixedOrders = true := by kernel_rfl
    clear h1 h2 h3 h4 h5 h6 hca hsz hrl hl5 ex I0 KIT hbx hvb vlt
    simp only [Array.getD_eq_getD_getElem?]
    gi_wp2
    change Code.wpIn (Fence.wide.inRound lr) _ _ _ _ _ _
    refine wpIn_region_anyR lr rfl hmx (noDefer_spec (by kernel_rfl)) ?_
    refine wpAnyIn_S (S := fun W' => Below W.heap.size W W') (last := 4) (m := 1) (k := 4) rfl (fun HC0 => ?_)
    have hS0 : Below W.heap.size W { W with drawn := W.drawn + 1 } := bl_drew (bl_refl W)
    obtain ⟨W6, eW6⟩ : ∃ W6 : World, W6 = { W with drawn := W.drawn + 1 } := ⟨_, rfl⟩
    have hz6 : W6.heap.size = W.heap.size := by rw [eW6]
    rw [← eW6] at hS0 ⊢
    clear eW6
    refine wpAnyS_take (i := 0) (kw := 4) (v := v) rfl rfl (by kernel_rfl) (by kernel_rfl) (by kernel_rfl) (by kernel_rfl) (fun _ _ _ h => h) HC0 hS0 ⟨Or.inl ⟨by rfl, fun W' hs' => ?_⟩, fun _ => rfl⟩ (fun HC1 => ?_)
    · have c := ((bcell hs').1 (w2.heap.size + 1) 0 (by omega)).trans crb
      go_simp
    refine wpAnyS_take (i := 1) (kw := 4) (v := .agg #[.int .i64 x0, .int .i64 x1, .int .i64 x2, .int .i64 x3, .int .i64 x4]) rfl rfl (by kernel_rfl) (by kernel_rfl) (by kernel_rfl) (by kernel_rfl) (fun _ _ _ h => h) HC1 hS0 ⟨Or.inl ⟨by rfl, fun W' hs' => ?_⟩, fun _ => rfl⟩ (fun HC2 => ?_)
    · have c0 := ((bcell hs').1 W0.heap.size 0 (by omega)).trans y0
      have c1 := ((bcell hs').1 W0.heap.size 1 (by omega)).trans y1
      have c2 := ((bcell hs').1 W0.heap.size 2 (by omega)).trans y2
      have c3 := ((bcell hs').1 W0.heap.size 3 (by omega)).trans y3
      have c4 := ((bcell hs').1 W0.heap.size 4 (by omega)).trans y4
      go_simp
    refine wpAnyS_one HC2 (i := 2) (by kernel_rfl) rfl hS0 (fun Kx hKx => ?_)
    go_simp
    gi_wp2_with (refine ⟨trivial, ?_⟩; gi_at_call 30; refine (callsIn_wide.2 (fiveList_any x0 x1 x2 x3 x4 W6)).mono ?_; rintro e w7 ⟨rfl, rfl⟩)
    intro HC3
    have n7 : Blk (W6.alloc (.cells #[.int .i64 x0, .int .i64 x1, .int .i64 x2, .int .i64 x3, .int .i64 x4] 58)) W6.heap.size 58 (ints [x0, x1, x2, x3, x4]) := blk_new W6 _ _
    have hS7 := bl_alloc hS0 (.cells #[.int .i64 x0, .int .i64 x1, .int .i64 x2, .int .i64 x3, .int .i64 x4] 58)
    have hz7 : (W6.alloc (.cells #[.int .i64 x0, .int .i64 x1, .int .i64 x2, .int .i64 x3, .int .i64 x4] 58)).heap.size = W6.heap.size + 1 := World.size_alloc _ _
    obtain ⟨W7, eW7⟩ : ∃ W7, W7 = W6.alloc (.cells #[.int .i64 x0, .int .i64 x1, .int .i64 x2, .int .i64 x3, .int .i64 x4] 58) := ⟨_, rfl⟩
    rw [← eW7] at n7 hS7 hz7 ⊢
    rw [hz6] at n7 hz7
    have N7 := Lib.hid n7
    have Z7 := Lib.hid hz7
    clear eW7 n7 hz7 y0 y1 y2 y3 y4
    refine wpAnyS_one HC3 (i := 3) (by kernel_rfl) rfl hS7 (fun Kx hKx => ?_)
    go_simp
    refine hKx _ _ ?_
    clear hKx Kx
    intro HC4
    have hS8 := bl_alloc hS7 (.cells #[.slice (some ⟨W.heap.size, 0, none⟩) 5 5] 26)
    have HX := (P5.out.next hS7).next (bl_alloc (bl_refl W7) (.cells #[.slice (some ⟨W.heap.size, 0, none⟩) 5 5] 26))
    have HCU : Hid ((W7.alloc (.cells #[.slice (some ⟨W.heap.size, 0, none⟩) 5 5] 26)).cell? ⟨W7.heap.size, 0, none⟩ = some (.slice (some ⟨W.heap.size, 0, none⟩) 5 5)) := Lib.hid (by simp [go_sem])
    refine wpAnyS_pivot (by kernel_rfl) rfl hS8 (fun Kx hKx => ?_)
    refine step_hangIn (fun _ => trivial) rfl rfl (.tmp 26) (.tmp 29) rfl w2.heap.size v i (cellsS i AA CC 5) (by simp [Act.eval]) HX.1.out ⟨W7.heap.size, 0, none⟩ 1 (.slice (some ⟨W.heap.size, 0, none⟩) 5 5) (by simp [Act.eval]) HCU.out rfl hi7 (by have := hS8.size; omega) ?_
    intro v' w9 hown hg hv'
    rw [World.size_alloc] at hv'
    refine hKx _ _ ?_
    clear hKx Kx
    have vne : ∀ g, (g = w2.heap.size + 1 ∨ g = w2.heap.size + 1 + 1 ∨ g = w2.heap.size + 1 + 1 + 1 ∨ g = w2.heap.size + 1 + 1 + 1 + 1) → some g ≠ v.ownBlock := fun g hgv e => by
      have := VB.out g e.symm
      omega
    have B9 := (P4.out.below hS8).grown hg (vne _ (.inl rfl))
    have s := blk_set B9 0 v'
    obtain ⟨c9, f9⟩ := B9.cell 0 _ rfl
    have hN : Hang w2 (i + 1) 5 (fun h => (hRows hs bs l M).getD h []) (updA AA i (some ⟨W.heap.size, 0, none⟩)) (updC CC i 5) v' w9 :=
      hang_addR P5.out.1 hS7 (by show Row W7 _ _ ((hRows hs bs l M).getD i []); rw [EX.out]; exact row_blk N7.out (by omega)) (by show ((hRows hs bs l M).getD i []).length = 5; rw [EX.out]; rfl) hown hg hv'
    obtain ⟨A9, c9v, rfl⟩ := own_form2 hN.out
    have hT : ∀ j, j < i + 1 → ∀ a, updA AA i (some ⟨W.heap.size, 0, none⟩) j = some a → TyOk w9 a.block ∧ (a.block ≠ w2.heap.size + 1 ∧ a.block ≠ w2.heap.size + 1 + 1 ∧ a.block ≠ w2.heap.size + 1 + 1 + 1 ∧ a.block ≠ w2.heap.size + 1 + 1 + 1 + 1) := by
      intro j hj a e
      by_cases q : j = i
      · subst q
        simp [updA] at e
        subst e
        refine ⟨(TyOk.below (A := W7) ⟨_, _, _, N7.out, by kernel_rfl⟩ (bl_alloc (bl_refl W7) _)).grown hg (fun e => by have := VL.out _ e.symm; omega), ?_⟩
        have := B3'.out
        show W.heap.size ≠ _ ∧ W.heap.size ≠ _ ∧ W.heap.size ≠ _ ∧ W.heap.size ≠ _
        omega
      · simp [updA, q] at e
        exact ⟨((P5.out.2 j (by omega) a e).below hS8).grown hg (P5.out.1.off j (by omega) a e), P6.out j (by omega) a e⟩
    have vbn : ∀ g, (Value.slice A9 (i + 1) c9v).ownBlock = some g → g = w2.heap.size ∨ w2.heap.size + 1 + 1 + 1 + 1 < g := fun g e => by
      rcases hv' with h | h
      · exact VB.out g (h ▸ e)
      · rw [h] at e
        have e := Option.some.inj e
        have := B3'.out
        have := Z7.out
        omega
    have H10 := HangT.other ⟨hN, fun j hj a e => (hT j hj a e).1⟩ s.2 (fun e => by have := vbn _ e; omega) (fun j hj a e => (hT j hj a e).2.1) (by omega) hN.below.size
    have hC : Con kHands W (w9.setCell ⟨w2.heap.size + 1, 0, none⟩ (.slice A9 (i + 1) c9v)) := ((con_below hS8).trans (con_row hg (fun g e => (TyOk.row HX.1.out g e)))).trans (con_grown s.2 B9 (by kernel_rfl))
    have BB : ∀ {g : Nat} {t : TypeId} {vs : List Value}, Blk W g t vs → (g = w2.heap.size + 1 + 1 ∨ g = w2.heap.size + 1 + 1 + 1 ∨ g = w2.heap.size + 1 + 1 + 1 + 1) → Blk (w9.setCell ⟨w2.heap.size + 1, 0, none⟩ (.slice A9 (i + 1) c9v)) g t vs := fun hq hgq => ((hq.below hS8).grown hg (vne _ (by omega))).grown s.2 (fun e => by have := Option.some.inj e; omega)
    have HH := Lib.hid (And.intro (⟨BB P1.out (by omega), BB P2.out (by omega), BB P3.out (by omega), _, _, _, s.1, H10, vbn, fun j hj a e => (hT j hj a e).2⟩ : HSI w2 (w2.heap.size + 1) (w2.heap.size + 1 + 1) hs bs l m M hi lo A c A2 c2 (i + 1) (w9.setCell ⟨w2.heap.size + 1, 0, none⟩ (.slice A9 (i + 1) c9v))) hC)
    clear hN hT vbn H10 hC BB s hown hg hv' B9 vne
    refine wpAnyIn_lastOne (i := 5) (by kernel_rfl) (by kernel_rfl) rfl (fun Kx hKx => ?_)
    go_simp
    refine hKx _ _ ?_
    clear hKx Kx
    gi_wp2
    exact HH.out
  case done =>
    rintro D W hD ⟨_, _, _, v, AA, CC, h4, h5, _⟩ hD3
    obtain ⟨A5, c5, rfl⟩ := own_form2 h5.1.out
    have cr := (h4.cell 0 _ rfl).1
    have H5 := Lib.hid h5
    clear h4 h5
    gi_wp2
    refine ⟨by simp, .inl ⟨_, _, rfl, run_takeDeferred hD3, ?_⟩⟩
    have hj := H5.out.itw (itw_put (o' := .deferred none) hD3 rfl (by omega : w2.heap.size ≤ D)) (Nat.le_refl _)
    exact ⟨_, by simp [results, Tryz.f15, go_sem], A5, c5, AA, CC, rfl, hj.1.fam0.less B2.out.size, bl_trans B2.out hj.1.below⟩
end Go.Proofs.YtlpkaflmhdgmmaaGreatDoor
